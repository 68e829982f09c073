import Derived.Test.YtnogdeihiiejkaaPlL
import Derived.Test.YtnogdeihiiejkaaAgain
namespace Go.Proofs.Ytnogdeihiiejkaa
open Go.ChangeShapes Go.WideShapes Go.ChangeAt Go.RowKit
set_option linter.unusedVariables false
set_option linter.unusedSimpArgs false
/-- Is a cell in a stretch? -/
def inSt (at_ : Int) (x : StX) : Bool := decide (x.1 ≤ at_) && decide (at_ - x.1 < x.2.1)
def whoseP (L : List StX) (at_ : Int) : Int × Int := match L.find? (inSt at_) with
  | some x => (x.2.2.1, x.2.2.2)
  | none => (0, 0)
theorem whose_hit {L : List StX} {at_ : Int} {k : Nat} {x : StX} (h : L[k]? = some x) (hb : ∀ j y, j < k → L[j]? = some y → inSt at_ y = false) (hx : inSt at_ x = true) : whoseP L at_ = (x.2.2.1, x.2.2.2) := by
  unfold whoseP
  have : L.find? (inSt at_) = some x := by
    have hk := (List.getElem?_eq_some_iff.1 h).1
    rw [← List.take_append_drop k L, List.find?_append]
    have h1 : (L.take k).find? (inSt at_) = none := List.find?_eq_none.2 fun y hy => by
      obtain ⟨j, hj, e⟩ := List.getElem_of_mem hy
      rw [List.length_take] at hj
      have := hb j y (by omega) (by rw [← e, List.getElem_take]; exact List.getElem?_eq_getElem (by omega))
      rw [this]; simp
    rw [h1, List.drop_eq_getElem_cons hk]
    have e : L[k] = x := (List.getElem?_eq_some_iff.1 h).2
    rw [e]
    simp [hx]
  rw [this]
theorem whose_none {L : List StX} {at_ : Int} (hb : ∀ j y, j < L.length → L[j]? = some y → inSt at_ y = false) : whoseP L at_ = (0, 0) := by
  unfold whoseP
  have : L.find? (inSt at_) = none := List.find?_eq_none.2 fun y hy => by
    obtain ⟨j, hj, e⟩ := List.getElem_of_mem hy
    have := hb j y hj (by rw [← e]; exact List.getElem?_eq_getElem hj)
    rw [this]; simp
  rw [this]
theorem allSt_bound {c : CfD} (h : GoodC c) : ∀ x, x ∈ allSt c → 0 ≤ x.1 ∧ x.1 ≤ 10000 := by
  have hn := plan_nums h
  have hT := h.t
  intro x hx
  unfold allSt at hx
  rcases List.mem_append.1 hx with hx | hx
  · unfold objSt at hx
    obtain ⟨i, hi, rfl⟩ := List.mem_map.1 hx
    have hi2 := List.mem_range.1 hi
    have := pre_bound h.right i (by omega)
    have := h.o
    show 0 ≤ preP c.ob i ∧ preP c.ob i ≤ 10000
    omega
  · rcases List.mem_append.1 hx with hx | hx
    · unfold lvSt at hx
      obtain ⟨i, hi, hx⟩ := List.mem_flatMap.1 hx
      have hi2 := List.mem_range.1 hi
      have h1 := ln_bound (base := baseP c) (fun i hi => (h.room i hi).2) i (by omega)
      have := h.room i (by omega)
      have := h.l
      simp only [List.mem_cons, List.not_mem_nil, or_false] at hx
      rcases hx with rfl | rfl
      · show 0 ≤ lnP (baseP c) c.lr i ∧ lnP (baseP c) c.lr i ≤ 10000
        omega
      · show 0 ≤ lnP (baseP c) c.lr i + (2 + c.lr i) ∧ lnP (baseP c) c.lr i + (2 + c.lr i) ≤ 10000
        omega
    · rcases List.mem_cons.1 hx with rfl | hx
      · show 0 ≤ tickP c ∧ tickP c ≤ 10000
        omega
      · unfold askSt at hx
        obtain ⟨i, hi, rfl⟩ := List.mem_map.1 hx
        have hi2 := List.mem_range.1 hi
        show 0 ≤ tickP c + 1 + (i : Int) ∧ tickP c + 1 + (i : Int) ≤ 10000
        omega
theorem st_at {w : World} {B n : Nat} {a : Option Addr} {cc : Nat} {L : List StX} (h : w.ownsRow B 76 4 (.slice a n cc) n (flatT L)) (hn : n = L.length) {k : Nat} {x : StX} (hx : L[k]? = some x) : ∃ b, a = some ⟨b, 0, Option.none⟩ ∧ b < w.heap.size ∧ w.rangeAt b (k * 4) (stC x) := by
  have hk := (List.getElem?_eq_some_iff.1 hx).1
  rcases h.2 with ⟨_, h0⟩ | ⟨b, cap, cur, e, _, hb, _⟩
  · omega
  · injection e with e1 _ _
    refine ⟨b, e1, lt_of hb, fun j v hv => ?_⟩
    have hj : j < 4 := (List.getElem?_eq_some_iff.1 hv).1
    have hg : ∀ (L : List StX) (k : Nat), L[k]? = some x → (flatT L)[k * 4 + j]? = (stC x)[j]? := by
      intro L
      induction L with
      | nil => intro k h; simp at h
      | cons y t ih =>
        intro k h
        unfold flatT
        rw [List.flatMap_cons]
        cases k with
        | zero =>
          have e : y = x := by simpa using h
          rw [e, List.getElem?_append_left (by show 0 * 4 + j < 4; omega)]
          congr 1
          omega
        | succ k =>
          rw [List.getElem?_append_right (by show 4 ≤ _; omega)]
          have := ih k (by simpa using h)
          rw [show (k + 1) * 4 + j - (stC y).length = k * 4 + j by show _ - 4 = _; omega]
          exact this
    have := h.cells (g := b) (by rw [e1]; rfl) (k * 4 + j) v (by rw [hg L k hx]; exact hv)
    rwa [Addr.add_mid, Nat.zero_add] at this
theorem st_info : (Try.prog.info? 76).map (·.size) = some 4 := by kernel_rfl
set_option maxRecDepth 20000 in
set_option maxHeartbeats 8000000 in
theorem whose_any (c : CfD) (w : World) (g : Nat) (la : Option Addr) (lc : Nat) (aa : Option Addr) (ac : Nat) (B : Nat) (hgo : GoodC c) (hpl : PlacesAt w g c.nO (placeP c.ob)) (hln : w.ownsRow B 56 6 (.slice la c.nL lc) c.nL (linesF (baseP c) c.lr c.nL)) (hak : w.ownsRow B 3 1 (.slice aa c.nT ac) c.nT (asksF (tickP c + 1) c.nT))
    (hb1 : ∀ i, i < c.nO → -9223372036854775808 ≤ c.ob i 1 ∧ c.ob i 1 ≤ 9223372036854775807) (i : Nat) (hi : i < cellsN c) :
    Calls Try.prog 10 #[.agg ([.slice (some ⟨g, 0, none⟩) c.nO c.nO, .slice la c.nL lc, .int .i64 (tickP c), .slice aa c.nT ac, .int .i64 (tickP c + 1 + (c.nT : Int))] : List Value).toArray, .int .i64 (i : Int)] w fun e w' => e = .returned (.tuple #[.int .i64 (whoseP (allSt c) (i : Int)).1, .int .i64 (whoseP (allSt c) (i : Int)).2]) ∧ Keeps (fun _ => False) w w' := by
  have HST := Lib.hid (fun W (k : Keeps (fun _ => False) w W) => stretches_any c W g la lc aa ac B hgo (hpl.keep k (fun h => h)) (own_keepK hln k (fun _ _ h => h)) (own_keepK hak k (fun _ _ h => h)) hb1)
  have HBD := Lib.hid (allSt_bound hgo)
  have hn := plan_nums hgo
  have hT := hgo.t
  have hcn : (i : Int) < tickP c + 1 + (c.nT : Int) := by unfold cellsN at hi; omega
  have hi2 : i ≤ 10000 := by unfold cellsN at hi; omega
  have HI := Lib.hid hi2
  have HSL := Lib.hid (show (allSt c).length ≤ 1000 by
    unfold allSt
    rw [List.length_append, List.length_append, List.length_cons, objSt_len, lvSt_len, askSt_len]
    have := hgo.o
    have := hgo.l
    omega)
  have d0 : decide (tickP c + 1 + (c.nT : Int) ≤ (i : Int)) = false := decide_eq_false (by omega)
  have d1 : decide ((i : Int) < 0) = false := decide_eq_false (by omega)
  have HB := Lib.hid ((Has.start w).alloc (.cells ([.slice (some ⟨g, 0, none⟩) c.nO c.nO, .slice la c.nL lc, .int .i64 (tickP c), .slice aa c.nT ac, .int .i64 (tickP c + 1 + (c.nT : Int))] : List Value).toArray 33))
  clear hgo hpl hln hak hb1 hi hn hT hcn hi2
  go_enter Try.func10, Try.ntmps10
  go_wp2_with fail
  try (refine wp_scope_again 0 (fun _ _ => False) (fun _ _ => 0) rfl (fun _ _ h => h.elim) ?_; intro _; go_wp2_with fail)
  go_step3
  go_wp2_with fail
  refine (HST.out _ HB.out.keeps).mono ?_
  rintro e1 w1 ⟨ra, n, rc, rfl, how, hnl, k1⟩
  have HO := Lib.hid (And.intro how hnl)
  have HK1 := Lib.hid (HB.out.keeps.trans k1)
  have hnb : n ≤ 1000 := by rw [hnl]; exact HSL.out
  clear how hnl k1 HST d0 d1
  go_wp2_with fail
  go_loopw [4, 5, 19] (fun v4 v5 x W => ∃ k : Nat, k ≤ n ∧ v4 = .int .i64 0 ∧ v5 = .int .i64 0 ∧ x = .int .i64 (k : Int) ∧ (∀ j y, j < k → (allSt c)[j]? = some y → inSt (i : Int) y = false) ∧ Keeps (fun _ => False) w1 W) (fun _ _ x _ => n - (intOf x).toNat)
  case atStart => exact ⟨0, Nat.zero_le _, rfl, rfl, rfl, fun j y h => absurd h (Nat.not_lt_zero _), Keeps.refl _ _⟩
  case round =>
    obtain ⟨k, hk, rfl, rfl, rfl, hnone, hkw⟩ := hrel
    have HK := Lib.hid (And.intro hnone hkw)
    clear hnone
    by_cases hlt : k < n
    · obtain ⟨x, hx⟩ : ∃ x, (allSt c)[k]? = some x := ⟨_, List.getElem?_eq_getElem (by rw [← HO.out.2]; exact hlt)⟩
      obtain ⟨b, rfl, hbl, hra⟩ := st_at HO.out.1 HO.out.2 hx
      have HRA := Lib.hid (range_keeps hra hkw hbl)
      have hbd := HBD.out x (List.mem_of_getElem? hx)
      have hi := HI.out
      have HX := Lib.hid hx
      have e0 : decide (k < n) = true := decide_eq_true hlt
      have e0' : decide ((k : Int) < (n : Int)) = true := decide_eq_true (by omega)
      have e3 : (0 : Int) ≤ (k : Int) := by omega
      have e4 : (k : Int) < (n : Int) := by omega
      have HLT := Lib.hid hlt
      have e5 : wrap64 ((i : Int) - x.1) = (i : Int) - x.1 := IntWalk.wrap64_in _ ⟨by omega, by omega⟩
      have HNX := Lib.hid (fun (hf : inSt (i : Int) x = false) => show ∀ j y, j < k + 1 → (allSt c)[j]? = some y → inSt (i : Int) y = false from fun j y hj hy => by
        by_cases e : j = k
        · subst e
          rw [HX.out] at hy
          obtain rfl := Option.some.inj hy
          exact hf
        · exact HK.out.1 j y (by omega) hy)
      have HHIT := Lib.hid (fun (ht : inSt (i : Int) x = true) => whose_hit HX.out HK.out.1 ht)
      have HIN := Lib.hid (show inSt (i : Int) x = (decide (x.1 ≤ (i : Int)) && decide ((i : Int) - x.1 < x.2.1)) from rfl)
      clear hra hbl hx hbd hi hkw
      cases h1 : decide (x.1 ≤ (i : Int)) with
      | false =>
        have HF := Lib.hid (HNX.out (by rw [HIN.out, h1]; rfl))
        go_wp2_with (refine wpList_load_mid rfl 76 (.tmp 21) rfl b (k * 4) rfl (stC x) _ HRA.out Try.underlying76 rfl st_info ?_)
        go_roundw
        case rel => exact ⟨k + 1, by have := HLT.out; omega, rfl, rfl, by go_num, HF.out, HK.out.2.alloc _⟩
        case measure => simp [intOf]; have := HLT.out; omega
      | true =>
        cases h2 : decide ((i : Int) - x.1 < x.2.1) with
        | false =>
          have HF := Lib.hid (HNX.out (by rw [HIN.out, h1, h2]; rfl))
          go_wp2_with (refine wpList_load_mid rfl 76 (.tmp 21) rfl b (k * 4) rfl (stC x) _ HRA.out Try.underlying76 rfl st_info ?_)
          go_roundw
          case rel => exact ⟨k + 1, by have := HLT.out; omega, rfl, rfl, by go_num, HF.out, HK.out.2.alloc _⟩
          case measure => simp [intOf]; have := HLT.out; omega
        | true =>
          have HF := Lib.hid (HHIT.out (by rw [HIN.out, h1, h2]; rfl))
          go_wp2_with (refine wpList_load_mid rfl 76 (.tmp 21) rfl b (k * 4) rfl (stC x) _ HRA.out Try.underlying76 rfl st_info ?_)
          go_quiet (fail)
          go_wp2_with fail
          simp only [Exit.jump]
          refine bodyPost_ret (v := .tuple #[.int .i64 x.2.2.1, .int .i64 x.2.2.2]) (by simp [results, Try.results10, go_sem]) rfl ⟨by rw [HF.out], HK1.out.trans ((HK.out.2.alloc _).drewN _)⟩
    · obtain rfl : k = n := by omega
      have e0 : decide (k < k) = false := decide_eq_false (by omega)
      have HF := Lib.hid (show whoseP (allSt c) (i : Int) = (0, 0) from whose_none (fun j y hj hy => HK.out.1 j y (by rw [HO.out.2]; exact hj) hy))
      clear hlt
      go_wp2_with fail
      simp only [Exit.jump]
      refine bodyPost_ret (v := .tuple #[.int .i64 0, .int .i64 0]) (by simp [results, Try.results10, go_sem]) rfl ⟨by rw [HF.out], HK1.out.trans HK.out.2⟩
end Go.Proofs.Ytnogdeihiiejkaa
