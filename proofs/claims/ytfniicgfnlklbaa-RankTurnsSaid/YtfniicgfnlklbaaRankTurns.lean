import Derived.Test.YtfniicgfnlklbaaRankQ
import Derived.Test.YtfniicgfnlklbaaSame
import Derived.Deep.RegionHeld3
namespace Go.Proofs.Ytfniicgfnlklbaa
open Go.ChangeShapes Go.WideShapes Go.ChangeAt Go.RowKit
set_option linter.unusedVariables false
set_option linter.unusedSimpArgs false
/-- The rank that turns, its copy, and the list that was told at first. -/
structure Tb (W w : World) (cb : Nat) (s s0 : RkT) (la : Option Addr) (m : Nat) (G : Nat → Int) : Prop where
  rk : RkS w W.heap.size s
  cp : RkS w cb s0
  was : Row w la m G
  far : ∀ g off, la = some ⟨g, off, none⟩ → g ≠ W.heap.size
  ne : cb ≠ W.heap.size
  keep : Keeps (fun k => k = W.heap.size) W w
section
variable {W w w' : World} {cb : Nat} {s s0 : RkT} {la : Option Addr} {m : Nat} {G : Nat → Int}
theorem Tb.none (h : Tb W w cb s s0 la m G) (k : Keeps (fun _ => False) w w') : Tb W w' cb s s0 la m G :=
  ⟨h.rk.keeps k fun h => h, h.cp.keeps k fun h => h, h.was.none k, h.far, h.ne, h.keep.trans (k.mono fun z _ h => h.elim)⟩
theorem Tb.drewN (h : Tb W w cb s s0 la m G) (n : Nat) : Tb W (w.drewN n) cb s s0 la m G := h.none ((Keeps.refl _ _).drewN n)
theorem Tb.step {s' : RkT} (h : Tb W w cb s s0 la m G) (k : Keeps (fun k => k = W.heap.size) w w') (hs : RkS w' W.heap.size s') : Tb W w' cb s' s0 la m G :=
  ⟨hs, h.cp.keeps k h.ne, h.was.keeps k h.far, h.far, h.ne, h.keep.trans k⟩
end
set_option maxRecDepth 20000 in
theorem rankTurns_large (a : Option Addr) (n cap : Nat) (W : World) (hn : n ≤ maxLen) (h : 16 < n) :
    Calls Try.prog 4 #[.slice a n cap] W fun e w' => e = .returned (.bool true) ∧ Below W.heap.size W w' := by
  have d0 : decide ((16 : Int) < (n : Int)) = true := decide_eq_true (by omega)
  have d1 : decide (16 < n) = true := decide_eq_true h
  have HA := Lib.hid (alive23_any W)
  clear h
  go_enter Try.func4, Try.ntmps4
  go_wp2_with fail
  refine HA.out.mono ?_
  rintro e w' ⟨rfl, hk⟩
  go_wp2
  go_ret
  exact ⟨rfl, hk.none⟩
set_option maxRecDepth 20000 in
set_option maxHeartbeats 2000000 in
theorem rankTurns_plain (a : Option Addr) (n cap : Nat) (F : Nat → Int) (W : World) (hn : n ≤ 16) (hrow : Row W a n F) :
    Calls Try.prog 4 #[.slice a n cap] W fun e w' => e = .returned (.bool true) ∧ Below W.heap.size W w' := by
  obtain ⟨zs, hzb, hz⟩ := rk_fresh
  have H0 := Lib.hid (hz (W.alloc (.cells zs 32 (0, 0))) W.heap.size (heap_new _ _))
  have K0 := Lib.hid ((Keeps.refl (fun k => k = W.heap.size) W).alloc (.cells zs 32 (0, 0)))
  have HR := Lib.hid hrow
  have d0 : decide ((16 : Int) < (n : Int)) = false := decide_eq_false (by omega)
  have d1 : decide (16 < n) = false := decide_eq_false (by omega)
  clear hz hrow
  go_enter Try.func4, Try.ntmps4
  go_wp2_with fail
  go_loopw [4] (fun i wr => ∃ k : Nat, k ≤ n ∧ i = .int .i64 (k : Int) ∧ RkS wr W.heap.size (rowsOf F k) ∧ Keeps (fun k => k = W.heap.size) W wr) (fun i _ => n - (intOf i).toNat)
  case atStart => exact ⟨0, by omega, rfl, by rw [rowsOf_zero]; exact H0.out, K0.out⟩
  case round =>
  obtain ⟨k, hk, rfl, hS, hK⟩ := hrel
  by_cases hlt : k < n
  · obtain ⟨ab, off, rfl, hb, hc⟩ := HR.out (by omega)
    have HC := Lib.hid (show ∀ w', Keeps (fun k => k = W.heap.size) W w' → w'.cell? ⟨ab, off + k, none⟩ = some (.int .i64 (F k)) from fun w' hk => (World.cell?_of_block (hk.block ab hb (by omega))).trans (hc k hlt))
    have ck0 : wr.cell? ⟨ab, off + k, none⟩ = some (.int .i64 (F k)) := HC.out _ hK
    have hA : ∀ w', RkS w' W.heap.size (rowsOf F k) → Calls Try.prog 7 #[.pointer (some ⟨W.heap.size, 0, none⟩), .int .i64 (k : Int), .int .i64 (F k)] w' fun e w2 => e = .returned (.bool (decide (0 ≤ F k ∧ F k < 32))) ∧ RkS w2 W.heap.size (rowsOf F (k + 1)) ∧ Keeps (fun k => k = W.heap.size) w' w2 := fun w' hs => by
      have := rks_add w' W.heap.size _ hs (k : Int) (F k)
      rw [rowsOf_can F k (by omega), rowsOf_add F k (by omega)] at this
      exact this
    have HS := Lib.hid hS
    have HK := Lib.hid hK
    by_cases h0 : F k < 0
    · rw [decide_eq_false (fun h => by omega)] at hA
      have HA := Lib.hid hA
      have e1 : decide (0 ≤ F k) = false := decide_eq_false (by omega)
      clear hA h0 hS hK hc
      go_wp2_with fail
      refine wp_region_noPanic ?_
      refine wp_region_held_drew (S := (fun w' => w'.cell? ⟨ab, off + k, none⟩ = some (.int .i64 (F k)))) (by kernel_rfl) ?_ (fun hHeld => ?_)
      · exact ck0
      refine wpAnyH_take (i := 0) (v := ?_) rfl (by kernel_rfl) (by kernel_rfl) (by kernel_rfl) (fun _ _ _ h => h) (Or.inl ⟨by kernel_rfl, ?_⟩) (by assumption) ?_
      rotate_left
      · (intro w hSw; (try dsimp only at hSw); go_simp; try with_reducible rfl)
      simp only [Act.put, List.getElem_toArray, List.getElem_cons_zero, List.getElem_cons_succ, List.setIfInBounds_toArray, List.set_cons_zero, List.set_cons_succ]
      refine wpAnyH_take (i := 1) (v := ?_) rfl (by kernel_rfl) (by kernel_rfl) (by kernel_rfl) (fun _ _ _ h => h) (Or.inl ⟨by kernel_rfl, ?_⟩) (by assumption) ?_
      rotate_left
      · (intro w hSw; (try dsimp only at hSw); go_simp; try with_reducible rfl)
      simp only [Act.put, List.getElem_toArray, List.getElem_cons_zero, List.getElem_cons_succ, List.setIfInBounds_toArray, List.set_cons_zero, List.set_cons_succ]
      refine wpAnyH_take (i := 2) (v := ?_) rfl (by kernel_rfl) (by kernel_rfl) (by kernel_rfl) (fun _ _ _ h => h) (Or.inl ⟨by kernel_rfl, ?_⟩) (by assumption) ?_
      rotate_left
      · (intro w hSw; (try dsimp only at hSw); go_simp; try with_reducible rfl)
      simp only [Act.put, List.getElem_toArray, List.getElem_cons_zero, List.getElem_cons_succ, List.setIfInBounds_toArray, List.set_cons_zero, List.set_cons_succ]
      refine wpAnyH_take (i := 3) (v := ?_) rfl (by kernel_rfl) (by kernel_rfl) (by kernel_rfl) (fun _ _ _ h => h) (Or.inl ⟨by kernel_rfl, ?_⟩) (by assumption) ?_
      rotate_left
      · (intro w hSw; (try dsimp only at hSw); go_simp; try with_reducible rfl)
      simp only [Act.put, List.getElem_toArray, List.getElem_cons_zero, List.getElem_cons_succ, List.setIfInBounds_toArray, List.set_cons_zero, List.set_cons_succ]
      refine wpAnyH_take (i := 4) (v := ?_) rfl (by kernel_rfl) (by kernel_rfl) (by kernel_rfl) (fun _ _ _ h => h) (Or.inl ⟨by kernel_rfl, ?_⟩) (by assumption) ?_
      rotate_left
      · (intro w hSw; (try dsimp only at hSw); go_simp; try with_reducible rfl)
      simp only [Act.put, List.getElem_toArray, List.getElem_cons_zero, List.getElem_cons_succ, List.setIfInBounds_toArray, List.set_cons_zero, List.set_cons_succ]
      refine wpAnyH_take (i := 5) (v := ?_) rfl (by kernel_rfl) (by kernel_rfl) (by kernel_rfl) (fun _ _ _ h => h) (Or.inl ⟨by kernel_rfl, ?_⟩) (by assumption) ?_
      rotate_left
      · (intro w hSw; (try dsimp only at hSw); go_simp; try with_reducible rfl)
      simp only [Act.put, List.getElem_toArray, List.getElem_cons_zero, List.getElem_cons_succ, List.setIfInBounds_toArray, List.set_cons_zero, List.set_cons_succ]
      refine wpAnyH_take (i := 7) (v := ?_) rfl (by kernel_rfl) (by kernel_rfl) (by kernel_rfl) (fun _ _ _ h => h) (Or.inl ⟨by kernel_rfl, ?_⟩) (by assumption) ?_
      rotate_left
      · (intro w hSw; (try dsimp only at hSw); go_simp; try with_reducible rfl)
      simp only [Act.put, List.getElem_toArray, List.getElem_cons_zero, List.getElem_cons_succ, List.setIfInBounds_toArray, List.set_cons_zero, List.set_cons_succ]
      refine wpAnyH_take (i := 8) (v := ?_) rfl (by kernel_rfl) (by kernel_rfl) (by kernel_rfl) (fun _ _ _ h => h) (Or.inl ⟨by kernel_rfl, ?_⟩) (by assumption) ?_
      rotate_left
      · (intro w hSw; (try dsimp only at hSw); go_simp; try with_reducible rfl)
      simp only [Act.put, List.getElem_toArray, List.getElem_cons_zero, List.getElem_cons_succ, List.setIfInBounds_toArray, List.set_cons_zero, List.set_cons_succ]
      refine wpAnyH_take (i := 9) (v := ?_) rfl (by kernel_rfl) (by kernel_rfl) (by kernel_rfl) (fun _ _ _ h => h) (Or.inl ⟨by kernel_rfl, ?_⟩) (by assumption) ?_
      rotate_left
      · (intro w hSw; (try dsimp only at hSw); go_simp; try with_reducible rfl)
      simp only [Act.put, List.getElem_toArray, List.getElem_cons_zero, List.getElem_cons_succ, List.setIfInBounds_toArray, List.set_cons_zero, List.set_cons_succ]
      refine wpAnyH_take (i := 10) (v := ?_) rfl (by kernel_rfl) (by kernel_rfl) (by kernel_rfl) (fun _ _ _ h => h) (Or.inl ⟨by kernel_rfl, ?_⟩) (by assumption) ?_
      rotate_left
      · (intro w hSw; (try dsimp only at hSw); go_simp; try with_reducible rfl)
      simp only [Act.put, List.getElem_toArray, List.getElem_cons_zero, List.getElem_cons_succ, List.setIfInBounds_toArray, List.set_cons_zero, List.set_cons_succ]
      refine wpAnyH_take (i := 11) (v := ?_) rfl (by kernel_rfl) (by kernel_rfl) (by kernel_rfl) (fun _ _ _ h => h) (Or.inl ⟨by kernel_rfl, ?_⟩) (by assumption) ?_
      rotate_left
      · (intro w hSw; (try dsimp only at hSw); go_simp; try with_reducible rfl)
      simp only [Act.put, List.getElem_toArray, List.getElem_cons_zero, List.getElem_cons_succ, List.setIfInBounds_toArray, List.set_cons_zero, List.set_cons_succ]
      refine wpAnyH_ready (rs := [6]) (by kernel_rfl) (by simp) ?_
      refine AllReadyH.cons rfl (fun K hK => ?_) AllReadyH.nil
      go_simp
      (refine (HA.out _ (HS.out.keeps (Keeps.refl (fun _ => False) _).drew fun h => h)).mono ?_; rintro e w9 ⟨rfl, hS2, hK2⟩; have H2 := Lib.hid (And.intro hS2 (HK.out.drew.trans hK2)); have ck9 := HC.out w9 H2.out.2; clear hS2 hK2)
      refine hK.out _ _ ?_ (fun hHeld => ?_)
      · ((try dsimp only); first | exact ck0 | exact ck9 | go_keep)
      clear hK K
      try simp only [Act.put, List.getElem_toArray, List.getElem_cons_zero, List.getElem_cons_succ, List.setIfInBounds_toArray, List.set_cons_zero, List.set_cons_succ]
      refine wpAnyH_take (i := 12) (v := ?_) rfl (by kernel_rfl) (by kernel_rfl) (by kernel_rfl) (fun _ _ _ h => h) (Or.inl ⟨by kernel_rfl, ?_⟩) (by assumption) ?_
      rotate_left
      · (intro w hSw; (try dsimp only at hSw); go_simp; try with_reducible rfl)
      simp only [Act.put, List.getElem_toArray, List.getElem_cons_zero, List.getElem_cons_succ, List.setIfInBounds_toArray, List.set_cons_zero, List.set_cons_succ]
      refine wpAnyH_take (i := 13) (v := undef) rfl (by kernel_rfl) (by kernel_rfl) (by kernel_rfl) (fun _ _ _ h => h) (Or.inr ⟨by kernel_rfl, rfl⟩) (by assumption) ?_
      simp only [Act.put, List.getElem_toArray, List.getElem_cons_zero, List.getElem_cons_succ, List.setIfInBounds_toArray, List.set_cons_zero, List.set_cons_succ]
      refine wpAnyH_take (i := 14) (v := undef) rfl (by kernel_rfl) (by kernel_rfl) (by kernel_rfl) (fun _ _ _ h => h) (Or.inr ⟨by kernel_rfl, rfl⟩) (by assumption) ?_
      simp only [Act.put, List.getElem_toArray, List.getElem_cons_zero, List.getElem_cons_succ, List.setIfInBounds_toArray, List.set_cons_zero, List.set_cons_succ]
      refine wpAnyH_take (i := 15) (v := undef) rfl (by kernel_rfl) (by kernel_rfl) (by kernel_rfl) (fun _ _ _ h => h) (Or.inr ⟨by kernel_rfl, rfl⟩) (by assumption) ?_
      simp only [Act.put, List.getElem_toArray, List.getElem_cons_zero, List.getElem_cons_succ, List.setIfInBounds_toArray, List.set_cons_zero, List.set_cons_succ]
      refine wpAnyH_take (i := 16) (v := undef) rfl (by kernel_rfl) (by kernel_rfl) (by kernel_rfl) (fun _ _ _ h => h) (Or.inr ⟨by kernel_rfl, rfl⟩) (by assumption) ?_
      simp only [Act.put, List.getElem_toArray, List.getElem_cons_zero, List.getElem_cons_succ, List.setIfInBounds_toArray, List.set_cons_zero, List.set_cons_succ]
      refine wpAnyH_take (i := 17) (v := undef) rfl (by kernel_rfl) (by kernel_rfl) (by kernel_rfl) (fun _ _ _ h => h) (Or.inr ⟨by kernel_rfl, rfl⟩) (by assumption) ?_
      simp only [Act.put, List.getElem_toArray, List.getElem_cons_zero, List.getElem_cons_succ, List.setIfInBounds_toArray, List.set_cons_zero, List.set_cons_succ]
      refine wpAnyH_take (i := 18) (v := ?_) rfl (by kernel_rfl) (by kernel_rfl) (by kernel_rfl) (fun _ _ _ h => h) (Or.inl ⟨by kernel_rfl, ?_⟩) (by assumption) ?_
      rotate_left
      · (intro w hSw; (try dsimp only at hSw); go_simp; try with_reducible rfl)
      simp only [Act.put, List.getElem_toArray, List.getElem_cons_zero, List.getElem_cons_succ, List.setIfInBounds_toArray, List.set_cons_zero, List.set_cons_succ]
      refine wpAnyH_take (i := 19) (v := ?_) rfl (by kernel_rfl) (by kernel_rfl) (by kernel_rfl) (fun _ _ _ h => h) (Or.inl ⟨by kernel_rfl, ?_⟩) (by assumption) ?_
      rotate_left
      · (intro w hSw; (try dsimp only at hSw); go_simp; try with_reducible rfl)
      simp only [Act.put, List.getElem_toArray, List.getElem_cons_zero, List.getElem_cons_succ, List.setIfInBounds_toArray, List.set_cons_zero, List.set_cons_succ]
      refine wpAnyH_done (by kernel_rfl) ?_ _
      refine NoPanic.normal ?_
      go_wp2_with fail
      go_roundw
      case rel => exact ⟨k + 1, by omega, by go_num, H2.out⟩
      case measure => simp [intOf]; omega
    · have e1 : decide (0 ≤ F k) = true := decide_eq_true (by omega)
      by_cases h1 : F k < 32
      · rw [decide_eq_true ⟨by omega, h1⟩] at hA
        have e2 : decide (F k ≤ 31) = true := decide_eq_true (by omega)
        have HA := Lib.hid hA
        clear hA h0 h1 hS hK hc
        go_wp2_with fail
        go_region_held3 (fun w' => w'.cell? ⟨ab, off + k, none⟩ = some (.int .i64 (F k)))
          (first | exact ck0 | exact ck9 | go_keep)
          ((go_at_call 7; refine (HA.out _ (HS.out.keeps (Keeps.refl (fun _ => False) _).drew fun h => h)).mono ?_; rintro e w9 ⟨rfl, hS2, hK2⟩; have H2 := Lib.hid (And.intro hS2 (HK.out.drew.trans hK2)); have ck9 := HC.out w9 H2.out.2; clear hS2 hK2))
        go_wp2_with fail
        go_roundw
        case rel => exact ⟨k + 1, by omega, by go_num, H2.out⟩
        case measure => simp [intOf]; omega
      · rw [decide_eq_false (fun h => h1 h.2)] at hA
        have e2 : decide (F k ≤ 31) = false := decide_eq_false (by omega)
        have HA := Lib.hid hA
        clear hA h0 h1 hS hK hc
        go_wp2_with fail
        go_region_held3 (fun w' => w'.cell? ⟨ab, off + k, none⟩ = some (.int .i64 (F k)))
          (first | exact ck0 | exact ck9 | go_keep)
          ((go_at_call 7; refine (HA.out _ (HS.out.keeps (Keeps.refl (fun _ => False) _).drew fun h => h)).mono ?_; rintro e w9 ⟨rfl, hS2, hK2⟩; have H2 := Lib.hid (And.intro hS2 (HK.out.drew.trans hK2)); have ck9 := HC.out w9 H2.out.2; clear hS2 hK2))
        go_wp2_with fail
        go_roundw
        case rel => exact ⟨k + 1, by omega, by go_num, H2.out⟩
        case measure => simp [intOf]; omega
  · obtain rfl : k = n := by omega
    have HS := Lib.hid hS
    have HK := Lib.hid hK
    have hmem := hS.mem
    have hnd := hS.nd
    have hm := list_len _ hS.le
    have hcb : wr.heap.size ≠ W.heap.size := by have := hS.lt; omega
    obtain ⟨m, hme⟩ : ∃ m, (listT (rowsOf F k)).length = m := ⟨_, rfl⟩
    rw [hme] at hm
    have HME := Lib.hid hme
    clear hS hK hme H0 K0 hzb hk hlt
    go_wp2_with fail
    refine (rks_copy _ _ _ HS.out).mono ?_
    rintro e w1 ⟨rfl, hC, hk1⟩
    have HS1 := Lib.hid (HS.out.keeps hk1 fun h => h)
    have HK1 := Lib.hid (HK.out.trans (hk1.mono (T := fun k => k = W.heap.size) fun z _ h => h.elim))
    clear hk1
    generalize wr.heap.size = cb at hC hcb ⊢
    have HC := Lib.hid hC
    have HCB := Lib.hid hcb
    clear hC hcb
    go_wp2_with fail
    refine (rks_list _ _ _ HS1.out).mono ?_
    rintro e w2 ⟨v, rfl, hown, hk2⟩
    have hfar := hown.lt
    rw [ints_nums, HME.out] at hown
    obtain ⟨la, lc, rfl, hrl⟩ := Row.ofOwn hown
    have HT := Lib.hid (show Tb W w2 cb (rowsOf F k) (rowsOf F k) la m (fun i => (((listT (rowsOf F k)).getD i 0 : Nat) : Int)) from ⟨HS1.out.keeps hk2 fun h => h, HC.out.keeps hk2 fun h => h, hrl, fun g off e => by
      have h1 := (hfar g (by rw [e]; rfl)).1
      have h2 := HK1.out.size
      have h3 := HS.out.lt
      have h4 := HS1.out.lt
      omega, HCB.out, HK1.out.trans (hk2.mono fun z _ h => h.elim)⟩)
    have hfi := rks_first _ _ _ HT.out.rk
    have hle := rks_len _ _ _ HT.out.cp
    rw [HME.out] at hle
    have HLe := Lib.hid hle
    clear hfar hown hrl hk2 HS HK HS1 HK1 HC HCB hle
    rcases hl : listT (rowsOf F k) with _ | ⟨t0, ts⟩
    · rw [hl] at hfi
      have HFi := Lib.hid hfi
      obtain rfl : m = 0 := by rw [← HME.out, hl]; rfl
      clear hfi hl hmem hnd
      go_wp2_with fail
      refine HFi.out.mono ?_
      rintro e w' ⟨rfl, rfl⟩
      go_wp2_with fail
      refine HLe.out.mono ?_
      rintro e w3 ⟨rfl, hk3⟩
      replace HT := Lib.hid (HT.out.none hk3)
      clear hk3 HFi HLe
      go_wp2_with fail
      go_loopw [9] (fun i wr => i = .int .i64 0 ∧ Tb W wr cb (rowsOf F k) (rowsOf F k) la 0 (fun i => (((listT (rowsOf F k)).getD i 0 : Nat) : Int))) (fun _ _ => 0)
      case atStart => exact ⟨rfl, HT.out⟩
      case round =>
      obtain ⟨rfl, hT⟩ := hrel
      replace HT := Lib.hid hT
      clear hT
      go_wp2_with fail
      refine (rkn_first _).mono ?_
      rintro e w' ⟨rfl, rfl⟩
      go_wp2_with fail
      refine (rkn_prio _ _).mono ?_
      rintro e w' ⟨rfl, rfl⟩
      go_wp2_with fail
      refine (rks_list _ _ _ HT.out.cp).mono ?_
      rintro e w5 ⟨v, rfl, hown, hk5⟩
      rw [ints_nums, HME.out] at hown
      obtain ⟨la2, lc2, rfl, hrl2⟩ := Row.ofOwn hown
      have HT5 := Lib.hid (HT.out.none hk5)
      clear hown hk5
      clear hrl2
      go_wp2_with fail
      refine (rsame_zero _ _ _ _ _).mono ?_
      rintro e w6 ⟨rfl, hk6⟩
      have HT6 := Lib.hid (HT5.out.none hk6)
      clear hk6
      go_wp2_with fail
      refine (rkn_add _ _ _).mono ?_
      rintro e w' ⟨rfl, rfl⟩
      go_wp2_with fail
      refine (rkn_rem _ _).mono ?_
      rintro e w' ⟨rfl, rfl⟩
      go_wp2_with fail
      refine (rkn_turn _ _).mono ?_
      rintro e w' ⟨rfl, rfl⟩
      go_wp2_with fail
      refine (rkn_len _).mono ?_
      rintro e w' ⟨rfl, rfl⟩
      go_wp2_with fail
      refine (rkn_list _).mono ?_
      rintro e w' ⟨rfl, rfl⟩
      go_wp2_with fail
      refine (rkn_bits _).mono ?_
      rintro e w' ⟨rfl, rfl⟩
      go_wp2_with fail
      refine (rkn_copy _).mono ?_
      rintro e w' ⟨rfl, rfl⟩
      go_wp2_with fail
      refine (alive23_any _).mono ?_
      rintro e w7 ⟨rfl, hk7⟩
      have HT7 := Lib.hid (HT6.out.none hk7)
      clear hk7
      go_wp2
      go_ret
      exact ⟨rfl, HT7.out.keep.below (Nat.le_refl _) fun k _ h => by omega⟩
    · obtain ⟨p, tl, rest, hp, h1, h2, h3, h4, hc⟩ := turn_list (rowsOf F k) hmem hnd t0 ts hl
      have hlik := likes_all F k p t0 tl rest hp h1 h4
      rw [← h2] at hlik
      have hmt : m = tl.length + 1 + rest.length := by rw [← HME.out, h2]; simp; omega
      have hm0 : 0 < m := by omega
      have ht0 := (mem_list F k t0).1 (by rw [hl]; simp)
      have ht0k := ht0.1
      have hturn := fun i (hi : i < m) => turn_at t0 tl rest i (by omega)
      rw [← h2, ← h3] at hturn
      have hlen : (listT (turnT (rowsOf F k) (t0 : Int))).length = m := by rw [h3, hmt]; simp; omega
      have HTA := Lib.hid (And.intro hturn (And.intro hlen (And.intro hlik hmt)))
      rw [hl] at hfi
      have HFi := Lib.hid hfi
      have g1 : decide ((0 : Int) < (m : Int)) = true := decide_eq_true (by omega)
      have g2 : decide (0 < m) = true := decide_eq_true hm0
      have g3 : (0 < m) = True := eq_true hm0
      have g4 : decide ((t0 : Int) < 0) = false := decide_eq_false (by omega)
      have g5 : decide ((k : Int) ≤ (t0 : Int)) = false := decide_eq_false (by omega)
      have g6 : decide (k ≤ t0) = false := decide_eq_false (by omega)
      clear hfi hl hmem hnd h1 h2 h3 h4 hc hlik hturn hlen ht0 hmt
      go_wp2_with fail
      refine HFi.out.mono ?_
      rintro e w' ⟨rfl, rfl⟩
      go_wp2_with fail
      refine HLe.out.mono ?_
      rintro e w3 ⟨rfl, hk3⟩
      replace HT := Lib.hid (HT.out.none hk3)
      clear hk3 HFi HLe
      go_wp2_with fail
      go_loopw [9] (fun i wr => ∃ j : Nat, j ≤ m ∧ i = .int .i64 (j : Int) ∧ Tb W wr cb (rowsOf F k) (rowsOf F k) la m (fun i => (((listT (rowsOf F k)).getD i 0 : Nat) : Int))) (fun i _ => m - (intOf i).toNat)
      case atStart => exact ⟨0, by omega, rfl, HT.out⟩
      case round =>
      obtain ⟨j, hj, rfl, hT⟩ := hrel
      replace HT := Lib.hid hT
      clear hT
      by_cases hlt : j < m
      · obtain ⟨t, ht⟩ : ∃ t, (listT (rowsOf F k))[j]? = some t := ⟨_, List.getElem?_eq_getElem (by rw [HME.out]; exact hlt)⟩
        have hmem := (mem_list F k t).1 (List.mem_of_getElem? ht)
        obtain ⟨lb, loff, rfl, hlb, hlc⟩ := HT.out.was (by omega)
        have c2 := hlc j hlt
        simp only [List.getD_eq_getElem?_getD, ht, Option.getD_some] at c2
        have e1 : decide ((t : Int) < 0) = false := decide_eq_false (by omega)
        have e2 : decide ((k : Int) ≤ (t : Int)) = false := decide_eq_false (by omega)
        have e2n : decide (k ≤ t) = false := decide_eq_false (by omega)
        clear hmem hlc ht
        go_wp2_with fail
        go_roundw
        case rel => exact ⟨j + 1, by omega, by go_num, HT.out⟩
        case measure => simp [intOf]; omega
      obtain rfl : j = m := by omega
      clear hj hlt
      go_wp2_with fail
      go_loopw [10, 11] (fun c i wr => ∃ q : Nat, q ≤ j ∧ i = .int .i64 (q : Int) ∧ c = .int .i64 (likes F t0 ((listT (rowsOf F k)).take q) : Int) ∧ Tb W wr cb (rowsOf F k) (rowsOf F k) la j (fun i => (((listT (rowsOf F k)).getD i 0 : Nat) : Int))) (fun _ i _ => j - (intOf i).toNat)
      case atStart => exact ⟨0, by omega, rfl, by simp [likes], HT.out⟩
      case round =>
      obtain ⟨q, hq, rfl, rfl, hT⟩ := hrel
      replace HT := Lib.hid hT
      clear hT
      by_cases hlt : q < j
      · obtain ⟨t, ht⟩ : ∃ t, (listT (rowsOf F k))[q]? = some t := ⟨_, List.getElem?_eq_getElem (by rw [HME.out]; exact hlt)⟩
        have hmem := (mem_list F k t).1 (List.mem_of_getElem? ht)
        have htk := hmem.1
        obtain ⟨lb, loff, rfl, hlb, hlc⟩ := HT.out.was (by omega)
        have c2 := hlc q hlt
        simp only [List.getD_eq_getElem?_getD, ht, Option.getD_some] at c2
        obtain ⟨ab, off, rfl, hab, hac⟩ := (HR.out.below (HT.out.keep.below (Nat.le_refl _) fun k _ h => by omega)) (by omega)
        have c3 := hac t htk
        have c4 := hac t0 ht0k
        have hst := likes_step F t0 _ q t ht
        have hll := likes_le F t0 ((listT (rowsOf F k)).take q)
        have hll2 : ((listT (rowsOf F k)).take q).length ≤ q := by simp; omega
        clear hlc hac ht hmem
        obtain ⟨lk, hlk⟩ : ∃ lk, likes F t0 ((listT (rowsOf F k)).take q) = lk := ⟨_, rfl⟩
        rw [hlk] at hst hll ⊢
        by_cases he : F t = F t0
        · rw [if_pos he] at hst
          rw [he] at c3
          have HST := Lib.hid hst
          have HLK := Lib.hid hlk
          have W5 : IntKind.i64.wrap ((lk : Int) + 1) = (lk : Int) + 1 := IntWalk.i64_in _ ⟨by omega, by omega⟩
          clear hst hlk hll hll2 he
          go_wp2_with fail
          go_quiet (fail)
          go_wp2_with fail
          exact ⟨⟨q + 1, by omega, by go_num, by rw [HST.out]; go_num, HT.out.drewN nq⟩, by simp [intOf]; omega⟩
        · rw [if_neg he, Nat.add_zero] at hst
          have he2 : (F t == F t0) = false := beq_eq_false_iff_ne.mpr he
          have HST := Lib.hid hst
          have HLK := Lib.hid hlk
          clear hst hlk hll hll2 he
          go_wp2_with fail
          go_quiet (fail)
          go_wp2_with fail
          exact ⟨⟨q + 1, by omega, by go_num, by rw [HST.out]; rfl, HT.out.drewN nq⟩, by simp [intOf]; omega⟩
      obtain rfl : q = j := by omega
      rw [List.take_of_length_le (by rw [HME.out]; exact Nat.le_refl _), HTA.out.2.2.1]
      clear hq hlt
      go_wp2_with fail
      refine (rks_turn _ _ _ HT.out.rk (t0 : Int)).mono ?_
      rintro e w4 ⟨rfl, hS4, hk4⟩
      replace HT := Lib.hid (HT.out.step hk4 hS4)
      clear hS4 hk4
      go_wp2_with fail
      refine (rks_list _ _ _ HT.out.rk).mono ?_
      rintro e w5 ⟨v, rfl, hown, hk5⟩
      have hfar := hown.lt
      rw [ints_nums, HTA.out.2.1] at hown
      obtain ⟨la3, lc3, rfl, hrl3⟩ := Row.ofOwn hown
      replace HT := Lib.hid (HT.out.none hk5)
      have HN := Lib.hid hrl3
      clear hfar hown hk5 hrl3
      have hq16 : tl.length ≤ 600 := by have := HTA.out.2.2.2; omega
      have W6 : IntKind.i64.wrap ((tl.length : Int) + 1 - 1) = (tl.length : Int) := (IntWalk.i64_in _ ⟨by omega, by omega⟩).trans (by omega)
      obtain ⟨tn, htn⟩ : ∃ tn, tl.length = tn := ⟨_, rfl⟩
      rw [htn] at hq16 W6 HTA ⊢
      have HTN := Lib.hid htn
      clear htn
      go_wp2_with fail
      go_loopw [13] (fun i wr => ∃ j : Nat, j ≤ q ∧ i = .int .i64 (j : Int) ∧ Tb W wr cb (turnT (rowsOf F k) (t0 : Int)) (rowsOf F k) la q (fun i => (((listT (rowsOf F k)).getD i 0 : Nat) : Int)) ∧ Row wr la3 q (fun i => (((listT (turnT (rowsOf F k) (t0 : Int))).getD i 0 : Nat) : Int))) (fun i _ => q - (intOf i).toNat)
      case atStart => exact ⟨0, by omega, rfl, HT.out, HN.out⟩
      case round =>
      obtain ⟨j, hj, rfl, hT, hN⟩ := hrel
      replace HT := Lib.hid hT
      replace HN := Lib.hid hN
      clear hT hN
      by_cases hlt : j < q
      · have htu := HTA.out.1 j hlt
        obtain ⟨lb, loff, rfl, hlb, hlc⟩ := HT.out.was (by omega)
        obtain ⟨nb, noff, rfl, hnb, hnc⟩ := HN.out (by omega)
        have c2 : wr.cell? ⟨lb, loff + j, none⟩ = some (.int .i64 (((listT (rowsOf F k)).getD j 0 : Nat) : Int)) := hlc j hlt
        have c4 : wr.cell? ⟨nb, noff + j, none⟩ = some (.int .i64 (((listT (turnT (rowsOf F k) (t0 : Int))).getD j 0 : Nat) : Int)) := hnc j hlt
        rw [htu] at c4
        clear htu
        generalize (listT (rowsOf F k)).getD j 0 = gj at c2 c4
        have hmt := HTA.out.2.2.2
        by_cases hj1 : j < tn
        · rw [if_pos hj1] at c4
          have c3 : wr.cell? ⟨lb, loff + (j + 1), none⟩ = some (.int .i64 (((listT (rowsOf F k)).getD (j + 1) 0 : Nat) : Int)) := hlc (j + 1) (by omega)
          generalize (listT (rowsOf F k)).getD (j + 1) 0 = gj1 at c3 c4
          have e1 : decide ((j : Int) < (tn : Int)) = true := decide_eq_true (by omega)
          have e2 : decide (j < tn) = true := decide_eq_true hj1
          have W8 : IntKind.i64.wrap ((j : Int) + 1) = (j : Int) + 1 := IntWalk.i64_in _ ⟨by omega, by omega⟩
          have hj2 : j + 1 < q := by omega
          clear hlc hnc hmt
          go_wp2_with fail
          exact ⟨⟨j + 1, by omega, by go_num, HT.out, HN.out⟩, by simp [intOf]; omega⟩
        · rw [if_neg hj1] at c4
          have e1 : decide ((j : Int) < (tn : Int)) = false := decide_eq_false (by omega)
          have e2 : decide (j < tn) = false := decide_eq_false hj1
          by_cases hj2 : j = tn
          · rw [if_pos hj2] at c4
            subst hj2
            clear hlc hnc hmt
            go_wp2_with fail
            go_roundw
            case rel => exact ⟨j + 1, by omega, by go_num, HT.out, HN.out⟩
            case measure => simp [intOf]; omega
          · rw [if_neg hj2] at c4
            have e3 : ((j : Int) == (tn : Int)) = false := beq_eq_false_iff_ne.mpr (by omega)
            clear hlc hnc hmt
            go_wp2_with fail
            exact ⟨⟨j + 1, by omega, by go_num, HT.out, HN.out⟩, by simp [intOf]; omega⟩
      obtain rfl : j = q := by omega
      clear hj hlt HN
      go_wp2_with fail
      refine (rks_rem _ _ _ HT.out.rk (t0 : Int)).mono ?_
      rintro e w8 ⟨rfl, hS4, hk4⟩
      replace HT := Lib.hid (HT.out.step hk4 hS4)
      clear hS4 hk4
      go_wp2_with fail
      refine (rkn_first _).mono ?_
      rintro e w' ⟨rfl, rfl⟩
      go_wp2_with fail
      refine (rkn_prio _ _).mono ?_
      rintro e w' ⟨rfl, rfl⟩
      go_wp2_with fail
      refine (rks_list _ _ _ HT.out.cp).mono ?_
      rintro e w5 ⟨v, rfl, hown, hk5⟩
      rw [ints_nums, HME.out] at hown
      obtain ⟨la2, lc2, rfl, hrl2⟩ := Row.ofOwn hown
      have HT5 := Lib.hid (HT.out.none hk5)
      clear hown hk5
      obtain ⟨g1, o1, rfl, _, hg1⟩ := HT5.out.was hm0
      obtain ⟨g2, o2, rfl, _, hg2⟩ := hrl2 hm0
      have HSm := Lib.hid (rsame_some g2 o2 g1 o1 _ lc2 lc _ w5 (by unfold maxLen; omega) hg2 hg1)
      clear hg1 hg2 hrl2
      go_wp2_with fail
      refine HSm.out.mono ?_
      rintro e w6 ⟨rfl, hk6⟩
      have HT6 := Lib.hid (HT5.out.none hk6)
      clear hk6
      go_wp2_with fail
      refine (rkn_add _ _ _).mono ?_
      rintro e w' ⟨rfl, rfl⟩
      go_wp2_with fail
      refine (rkn_rem _ _).mono ?_
      rintro e w' ⟨rfl, rfl⟩
      go_wp2_with fail
      refine (rkn_turn _ _).mono ?_
      rintro e w' ⟨rfl, rfl⟩
      go_wp2_with fail
      refine (rkn_len _).mono ?_
      rintro e w' ⟨rfl, rfl⟩
      go_wp2_with fail
      refine (rkn_list _).mono ?_
      rintro e w' ⟨rfl, rfl⟩
      go_wp2_with fail
      refine (rkn_bits _).mono ?_
      rintro e w' ⟨rfl, rfl⟩
      go_wp2_with fail
      refine (rkn_copy _).mono ?_
      rintro e w' ⟨rfl, rfl⟩
      go_wp2_with fail
      refine (alive23_any _).mono ?_
      rintro e w7 ⟨rfl, hk7⟩
      have HT7 := Lib.hid (HT6.out.none hk7)
      clear hk7
      go_wp2
      go_ret
      exact ⟨rfl, HT7.out.keep.below (Nat.le_refl _) fun k _ h => by omega⟩

theorem rankTurns_walk {H : Type} {enc : TypeId × Value → H} (W : World) (base : Nat) {v0 : Value} {d0 : DataW H} {p0 : List MemPlace}
    (k0 : Value.okWide Try.prog W .any base 49 v0) (h0 : DataW.Trod enc Try.prog W 0 (fun _ => true) true 49 v0 d0 p0) :
    Calls Try.prog 4 #[v0] W fun e w' => e = .returned (.bool true) ∧ Below W.heap.size W w' := by
  obtain ⟨a, n, cap, F, rfl, hn, hrow, hF⟩ := row_of k0 h0
  by_cases hbig : 16 < n
  · exact rankTurns_large a n cap W hn hbig
  · exact rankTurns_plain a n cap F W (by omega) hrow
end Go.Proofs.Ytfniicgfnlklbaa
