import Derived.Test.YtfniicgfnlklbaaRankD
namespace Go.Proofs.Ytfniicgfnlklbaa
open Go.ChangeShapes Go.WideShapes Go.ChangeAt Go.RowKit
set_option linter.unusedVariables false
set_option linter.unusedSimpArgs false
theorem rkremove_out (w : World) (b : Nat) (t : Int) (ht : ¬ (0 ≤ t ∧ t < 16)) :
    Calls Try.prog 9 #[.pointer (some ⟨b, 0, none⟩), .int .i64 t] w fun e w' => e = .returned (.bool false) ∧ w = w' := by
  have HB := Lib.hid (rkprio_out w b t ht)
  clear ht
  go_enter Try.func9, Try.ntmps9
  go_wp2_with fail
  refine HB.out.mono ?_
  rintro e w' ⟨rfl, rfl⟩
  go_wp2
  go_ret
  exact ⟨rfl, rfl⟩
theorem rkremove_none (w : World) (b : Nat) (X : Nat → Nat → Int) (m pr : Nat → Nat) (bs : Nat) (h : RkM w b X m pr bs) (t : Nat) (ht : t < 16) (h0 : pr t = 0) :
    Calls Try.prog 9 #[.pointer (some ⟨b, 0, none⟩), .int .i64 (t : Int)] w fun e w' => e = .returned (.bool false) ∧ w = w' := by
  have hc := rkprio_any w b X m pr bs h t ht (by omega)
  rw [h0] at hc
  have HB := Lib.hid hc
  clear ht h0 h hc
  go_enter Try.func9, Try.ntmps9
  go_wp2_with fail
  refine HB.out.mono ?_
  rintro e w' ⟨rfl, rfl⟩
  go_wp2
  go_ret
  exact ⟨rfl, rfl⟩
theorem rk_cells {w : World} {b : Nat} {cs : Array Value} (h : w.heap[b]? = some (.cells cs 32 (0, 0))) : w.drew.heap[b]? = some (.cells cs.toList.toArray 32 (0, 0)) := by
  rw [Array.toArray_toList]
  exact h
theorem rk_min (X : Nat → Nat → Int) (p k n : Nat) (hk : k + 1 ≤ n) : (movedUp X p k (n - (k + 1))).length = Nat.min (n - (k + 1)) (n - k) := by
  rw [movedUp_len]
  exact (Nat.min_eq_left (by omega)).symm
theorem RkM.movesFrom {w : World} {b : Nat} {X : Nat → Nat → Int} {m pr : Nat → Nat} {bs : Nat} (h : RkM w b X m pr bs) (p k n : Nat) (hp : p < 32) (hn16 : n ≤ 16) :
    0 < (movedUp X p k (n - (k + 1))).length → some (⟨b, p * 16 + k, none⟩ : Addr) = some ⟨b, p * 16 + k, none⟩ ∧ ∃ ad, (if 16 = k + 1 then some (⟨b, p * 16, none⟩ : Addr) else some ⟨b, p * 16 + (k + 1), none⟩) = some ad ∧ ∀ j v, (movedUp X p k (n - (k + 1)))[j]? = some v → w.drew.cell? (ad.add j) = some v := by
  intro hpos
  rw [movedUp_len] at hpos
  refine ⟨rfl, ⟨b, p * 16 + (k + 1), none⟩, by rw [if_neg (by omega)], fun j v hv => ?_⟩
  rcases Nat.lt_or_ge j (n - (k + 1)) with h1 | h1
  · rw [movedUp_get _ _ _ _ _ h1] at hv
    rw [← hv]
    have h2 := h.row p (k + 1 + j) hp (by omega)
    have e : (⟨b, p * 16 + (k + 1), none⟩ : Addr).add j = ⟨b, p * 16 + (k + 1 + j), none⟩ := by
      unfold Addr.add
      by_cases hj : j = 0
      · subst hj; rfl
      · rw [if_neg hj, ← Nat.add_assoc]
        simp
        omega
    rw [e]
    exact h2
  · rw [List.getElem?_eq_none (by rw [movedUp_len]; exact h1)] at hv
    cases hv
theorem rk_fit (X : Nat → Nat → Int) (p k n : Nat) (hp : p < 32) (hn16 : n ≤ 16) (hk : k + 1 ≤ n) (cs : Array Value) (h : cs.size = 561) : p * 16 + k + (movedUp X p k (n - (k + 1))).length ≤ cs.toList.length := by
  rw [movedUp_len, Array.length_toList, h]
  omega
theorem rk_ones (X : Nat → Nat → Int) (p k n : Nat) : ∀ v ∈ movedUp X p k n, v.oneCell' = true := by
  intro v hv
  obtain ⟨j, _, rfl⟩ := List.mem_map.1 hv
  rfl
set_option maxRecDepth 20000 in
set_option maxHeartbeats 1000000 in
theorem rkremove_yes (w : World) (b : Nat) (X : Nat → Nat → Int) (m pr : Nat → Nat) (bs : Nat) (h : RkM w b X m pr bs) (p t k n : Nat) (hp : p < 32) (ht : t < 16) (hpr : pr t = p + 1) (hn : m p = n) (hn16 : n ≤ 16) (hk : k < n) (hX : ∀ j, j < n → ∃ u : Nat, u < 16 ∧ X p j = (u : Int) ∧ (u = t ↔ j = k)) (hbs : bs < 4294967296) :
    Calls Try.prog 9 #[.pointer (some ⟨b, 0, none⟩), .int .i64 (t : Int)] w fun e w' => e = .returned (.bool true) ∧ RkM w' b (fun q j => if q = p ∧ k ≤ j ∧ j < k + (n - (k + 1)) then X p (j + 1) else X q j) (fun q => if q = p then n - 1 else m q) (fun q => if q = t then 0 else pr q) (if n - 1 = 0 then clrB bs (p : Int) else bs) ∧ Keeps (fun k => k = b) w w' := by
  have H := Lib.hid h
  have hc := rkprio_any w b X m pr bs h t ht (by omega)
  rw [hpr, Nat.add_sub_cancel, show (!(p + 1 == 0)) = true by simp] at hc
  have HB := Lib.hid hc
  have c1 := h.many p hp
  rw [hn] at c1
  have lb := h.lt
  have hsl := fun w => rk_slice b p n hn16 w
  have HX := Lib.hid hX
  have hmn := Lib.hid hn
  clear h hc hX hpr hn
  go_enter Try.func9, Try.ntmps9
  go_wp2_with fail
  refine HB.out.mono ?_
  rintro e w' ⟨rfl, rfl⟩
  go_wp2_with fail
  go_quiet (fail)
  go_wp2_with fail
  go_loopw [32] (fun i wr => ∃ j : Nat, j ≤ k ∧ i = .int .i64 (j : Int) ∧ Keeps (fun _ => False) w wr) (fun i _ => n - (intOf i).toNat)
  case atStart => exact ⟨0, by omega, rfl, (Keeps.refl _ _).drewN _⟩
  case round =>
    obtain ⟨j, hj, rfl, hK⟩ := hrel
    have hlt : j < n := by omega
    obtain ⟨u, hu, hx, hiff⟩ := HX.out j hlt
    have hMr := H.out.keeps hK (fun h => h)
    have c2 := hMr.row p j hp (by omega)
    rw [hx] at c2
    have lbr := hMr.lt
    have W8 : IntKind.i64.wrap (u : Int) = (u : Int) := IntWalk.i64_in _ ⟨by omega, by omega⟩
    by_cases hjk : j < k
    · have e1 : ((u : Int) == (t : Int)) = false := by
        rw [beq_eq_false_iff_ne]
        intro e
        have := hiff.1 (by omega)
        omega
      clear hx hiff hMr
      have HK := Lib.hid hK
      clear hK
      go_wp2_with fail
      go_roundw
      case rel => exact ⟨j + 1, by omega, by go_num, HK.out⟩
      case measure => simp [intOf]; omega
    · obtain rfl : k = j := by omega
      obtain rfl : t = u := (hiff.2 rfl).symm
      have hmv : k + 1 + (n - (k + 1)) ≤ 16 := by omega
      have hkn : k ≤ n := by omega
      have hkn1 : k + 1 ≤ n := by omega
      have h16 : (16 = k) = False := eq_false (by omega)
      have W9 : IntKind.i64.wrap ((k : Int) + 1) = (k : Int) + 1 := IntWalk.i64_in _ ⟨by omega, by omega⟩
      have W10 : ((k : Int) + 1).toNat = k + 1 := by omega
      have W11 : 0 ≤ (k : Int) + 1 := by omega
      have W12 : (k : Int) + 1 ≤ (n : Int) := by omega
      obtain ⟨cs, hcs, hcsz, hcr, _⟩ := hMr.one
      have HCS := Lib.hid hcs
      have HG := Lib.hid (rk_cells hcs)
      have HMIN := Lib.hid (rk_min X p k n hkn1)
      have HPOS := Lib.hid (hMr.movesFrom p k n hp hn16)
      have HFIT := Lib.hid (rk_fit X p k n hp hn16 hkn1 cs hcsz)
      have HONE := Lib.hid (rk_ones X p k (n - (k + 1)))
      have HR := Lib.hid hMr
      have HK := Lib.hid hK
      clear hx hiff hMr hK hcs hcr hcsz
      go_wp2_with fail
      go_region_law (refine step_copy_put rfl (.tmp 43) (.tmp 47) 58 58 rfl (Try.prog.elem 58) (by kernel_rfl) (by kernel_rfl) (some ⟨b, p * 16 + k, none⟩) (if 16 = k + 1 then some ⟨b, p * 16, none⟩ else some ⟨b, p * 16 + (k + 1), none⟩) (n - k) (16 - k) (n - (k + 1)) (16 - (k + 1)) (by simp [Act.eval, Act.put]) (by simp [Act.eval, Act.put]) b (p * 16 + k) cs.toList 32 HG.out (movedUp X p k (n - (k + 1))) (HMIN.out) (fun h => ⟨rfl, (HPOS.out h).2⟩) HFIT.out HONE.out ?_; intro w4 hg4 hk4)
      generalize hA : (if k = 15 then some (⟨b, p * 16, none⟩ : Addr) else some ⟨b, p * 16 + (k + 1), none⟩) = A2
      clear hA
      have HM4 := Lib.hid (RkM.moved HCS.out HR.out p k (n - (k + 1)) hp hmv hg4.out)
      have K4 := Lib.hid ((HK.out.drew.mono fun z _ hz => hz.elim).trans hk4.out)
      clear HG HMIN HPOS HFIT HONE hg4 hk4 c2 lbr c1 HX
      have c1 := HM4.out.many p hp
      rw [hmn.out] at c1
      have f1 := HM4.out.free (512 + p)
      have lx := HM4.out.lt
      have W4 : wrap64 ((n : Int) - 1) = ((n - 1 : Nat) : Int) := by rw [IntWalk.wrap64_in _ ⟨by omega, by omega⟩]; omega
      clear W8 W9 W10 W11 W12 hsl
      go_wp2_with fail
      go_region
      have H1 := Lib.hid (((HM4.out.setMany p hp (n - 1) ((n : Int) - 1) (by omega)).keeps (Keeps.refl (fun _ => False) _).drew (fun h => h)))
      have K1 := Lib.hid ((K4.out.setCell (p := ⟨b, 512 + p, none⟩) (.inl rfl) (.int .i64 ((n : Int) - 1))).drew)
      clear c1 f1 lx W4
      generalize hW : World.drew (World.setCell w4 _ _) = W1 at H1 K1 ⊢
      clear hW HM4 K4
      have c1 := H1.out.prio t ht
      have f1 := H1.out.free (544 + t)
      have lx := H1.out.lt
      have H2 := Lib.hid (H1.out.setPrio t ht 0 0 rfl)
      have K2 := Lib.hid (K1.out.setCell (p := ⟨b, 544 + t, none⟩) (.inl rfl) (.int .i64 0))
      have c3 := H2.out.many p hp
      rw [if_pos rfl] at c3
      have lx3 := H2.out.lt
      rcases Nat.eq_zero_or_pos (n - 1) with hz | hz
      · have c4 := H2.out.bits
        have f4 := H2.out.free 560
        rw [hz] at c3
        have HZ := Lib.hid hz
        clear hz
        go_wp2_with fail
        refine (without_any bs (p : Int) _ hbs).mono ?_
        rintro e w' ⟨rfl, rfl⟩
        have H3 := Lib.hid (H2.out.setBits (clrB bs (p : Int)) _ rfl)
        have K3 := Lib.hid (K2.out.setCell (p := ⟨b, 560, none⟩) (.inl rfl) (.int .u32 (clrB bs (p : Int) : Int)))
        go_wp2
        go_ret
        refine ⟨rfl, ?_, K3.out⟩
        have h := H3.out
        rw [HZ.out] at h
        exact h
      · have e1 : (((n - 1 : Nat) : Int) == 0) = false := beq_eq_false_iff_ne.mpr (by omega)
        have HZ := Lib.hid hz
        clear hz
        go_wp2_with fail
        all_goals first | (exfalso; have h := HZ.out; omega) | (go_ret; exact ⟨rfl, H2.out, K2.out⟩)
end Go.Proofs.Ytfniicgfnlklbaa
