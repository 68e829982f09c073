import Derived.Test.YtdbplamhpkahaaaRows
import Derived.Test.YtdbplamhpkahaaaKeep
import Derived.WalkKit
import Derived.ProofKit
import Derived.OpenShut
import Derived.WalkLawsBesides
import Derived.WalkSpells
import Derived.Lib.Hide
import Derived.Deep.QuietTactic
import Derived.BigQuiet
import Derived.Test.YtdbplamhpkahaaaSchMz
import Derived.Test.YtdbplamhpkahaaaSchT
import Derived.Test.YtdbplamhpkahaaaSchVz
namespace Go.Proofs.Ytdbplamhpkahaaa
open Go.ChangeShapes Go.WideShapes Go.ChangeAt Go.RowKit
set_option linter.unusedVariables false
theorem rsame_zero (a b : Option Addr) (c0 c1 : Nat) (w : World) : Calls Try.prog 20 #[.slice a 0 c0, .slice b 0 c1] w fun e w' => e = .returned (.bool true) ∧ Keeps (fun _ => False) w w' := by
  go_enter Try.func20, Try.ntmps20
  go_wp2_with fail
  obtain ⟨wo, rfl⟩ : ∃ wo : World, wo = w := ⟨_, rfl⟩
  go_loopw [5] (fun i wr => i = .int .i64 0 ∧ wr = wo) (fun _ _ => 0)
  case atStart => exact ⟨rfl, rfl⟩
  case round =>
    obtain ⟨rfl, rfl⟩ := hrel
    go_wp2
    go_ret
    exact ⟨rfl, Keeps.refl _ _⟩
theorem rsame_some (g0 o0 g1 o1 n c0 c1 : Nat) (F : Nat → Int) (w : World) (hn : n ≤ maxLen) (h0 : ∀ i, i < n → w.cell? ⟨g0, o0 + i, none⟩ = some (.int .i64 (F i))) (h1 : ∀ i, i < n → w.cell? ⟨g1, o1 + i, none⟩ = some (.int .i64 (F i))) :
    Calls Try.prog 20 #[.slice (some ⟨g0, o0, none⟩) n c0, .slice (some ⟨g1, o1, none⟩) n c1] w fun e w' => e = .returned (.bool true) ∧ Keeps (fun _ => False) w w' := by
  unfold maxLen at hn
  have H0 := Lib.hid h0
  have H1 := Lib.hid h1
  clear h0 h1
  go_enter Try.func20, Try.ntmps20
  go_wp2_with fail
  obtain ⟨wo, rfl⟩ : ∃ wo : World, wo = w := ⟨_, rfl⟩
  go_loopw [5] (fun i wr => ∃ k m : Nat, k ≤ n ∧ i = .int .i64 k ∧ wr = wo.drewN m) (fun i _ => n - (intOf i).toNat)
  case atStart => exact ⟨0, 0, by omega, rfl, rfl⟩
  case round =>
    obtain ⟨k, m, hk, rfl, rfl⟩ := hrel
    by_cases hlt : k < n
    · have c0 : wo.cell? ⟨g0, o0 + k, none⟩ = some (.int .i64 (F k)) := H0.out k hlt
      have c1 : wo.cell? ⟨g1, o1 + k, none⟩ = some (.int .i64 (F k)) := H1.out k hlt
      go_wp2_with fail
      go_quiet (fail)
      go_wp2
      go_roundw
      case rel => exact ⟨k + 1, m + nq, by omega, by go_num, rfl⟩
      case measure => simp [intOf]; omega
    · obtain rfl : k = n := by omega
      go_wp2
      go_ret
      exact ⟨rfl, (Keeps.refl _ _).drewN m⟩
end Go.Proofs.Ytdbplamhpkahaaa
namespace Go.Proofs.Ytdbplamhpkahaaa
open Go.ChangeShapes Go.WideShapes Go.ChangeAt Go.RowKit
set_option linter.unusedVariables false
set_option linter.unusedSimpArgs false
theorem prios_two {W : World} {b : Nat} {x y : Int} (h : W.heap[b]? = some (.cells #[.int .i64 x, .bool false, .slice none 0 0, .int .i64 y, .bool false, .slice none 0 0] 105 (0, 0))) : PriosAt W (some ⟨b, 0, none⟩) 2 [x, y] :=
  ⟨rfl, fun _ => ⟨b, 0, rfl, lt_of h, fun k p hk => by
    have hk0 : k = 0 ∨ k = 1 := by have := (List.getElem?_eq_some_iff.1 hk).1; simp at this; omega
    rcases hk0 with rfl | rfl
    · rw [← Option.some.inj (show some x = some p from hk)]; exact cell_of h 0
    · rw [← Option.some.inj (show some y = some p from hk)]; exact cell_of h 3⟩⟩
theorem told_nil {T : Int → Nat} {l : List Int} (h : ToldN T l) (h0 : ∀ t, T t ≠ 1) : l = [] := List.eq_nil_iff_forall_not_mem.2 fun t ht => h0 t ((h.one t).1 ht)
theorem told_one {T : Int → Nat} {l : List Int} (h : ToldN T l) (a : Int) (h0 : ∀ t, T t = 1 ↔ t = a) : l = [a] := by
  have hm : a ∈ l := (h.one a).2 ((h0 a).2 rfl)
  have hall : ∀ t, t ∈ l → t = a := fun t ht => (h0 t).1 ((h.one t).1 ht)
  have hnd := h.nd
  match l, hm, hall, hnd with
  | [], hm, _, _ => cases hm
  | [x], _, hall, _ => rw [hall x (.head _)]
  | x :: y :: r, _, hall, hnd =>
    have h1 := hall x (.head _)
    have h2 := hall y (.tail _ (.head _))
    exact absurd (List.nodup_cons.1 hnd).1 (by rw [h1, h2]; simp)
def xM1 : ScM := dispM (newM [1, 2])
def xM2 : ScM := dispM (sleepM xM1 1 2)
def xM3 : ScM := tickM xM2 []
def xM4 : ScM := tickM xM3 [1]
theorem xM1_cur : xM1.cur = 1 := by kernel_rfl
theorem xM1_serve : serveM xM1 13 0 0 2 0 = (sleepM xM1 1 2, 0) := by kernel_rfl
theorem xM1_first : firstM (sleepM xM1 1 2) = 0 := by kernel_rfl
theorem xM1_first2 : (firstM (sleepM xM1 1 2) != (sleepM xM1 1 2).cur) = true := by kernel_rfl
theorem xM2_T : xM2.T = fun z => if z = 1 then 2 else 0 := by kernel_rfl
theorem xM4_first : firstM xM4 = 1 := by kernel_rfl
theorem xM4_first2 : (firstM xM4 != xM4.cur) = true := by kernel_rfl
theorem xM2_told {l : List Int} (h : ToldN xM2.T l) : l = [] := told_nil h fun t => by rw [xM2_T]; show (if t = 1 then 2 else 0) ≠ 1; split <;> omega
theorem xM3_told {l : List Int} (h : ToldN xM3.T l) : l = [1] := told_one h 1 fun t => by
  show xM2.T t - 1 = 1 ↔ t = 1
  rw [xM2_T]
  show (if t = 1 then 2 else 0) - 1 = 1 ↔ t = 1
  split <;> omega
end Go.Proofs.Ytdbplamhpkahaaa
namespace Go.Proofs.Ytdbplamhpkahaaa
open Go.ChangeShapes Go.WideShapes Go.ChangeAt Go.RowKit
set_option linter.unusedVariables false
set_option linter.unusedSimpArgs false
set_option maxRecDepth 100000 in
set_option maxHeartbeats 8000000 in
theorem alive27_any (w : World) : Calls Try.prog 50 #[] w fun e w' => e = .returned (.bool true) ∧ Keeps (fun _ => False) w w' := by
  obtain ⟨W0, hW0⟩ : ∃ W0, W0 = w.alloc (.cells #[.int .i64 1, .bool false, .slice none 0 0, .int .i64 2, .bool false, .slice none 0 0] 105) := ⟨_, rfl⟩
  have hk0 : Keeps (fun _ => False) w W0 := by rw [hW0]; exact (Keeps.refl _ w).alloc _
  have hp : PriosAt W0 (some ⟨w.heap.size, 0, none⟩) 2 [1, 2] := prios_two (by rw [hW0]; exact heap_new w _)
  have HN := Lib.hid (snew_any W0 _ 2 2 _ hp (by omega))
  have HK0 := Lib.hid hk0
  rw [hW0] at HN
  clear hk0 hp
  go_enter Try.func50, Try.ntmps50
  go_wp2_with fail
  refine HN.out.mono ?_
  rw [← hW0]
  clear HN hW0
  rintro e w1 ⟨a, rfl, hn, h1, k1⟩
  have H1 := Lib.hid (show ScW w1 (fun k => W0.heap.size ≤ k) a xM1 from h1)
  have HK1 := Lib.hid k1
  have HN := Lib.hid hn
  clear hn h1 k1
  go_wp2_with fail
  refine (current_any w1 _ a _ H1.out).mono ?_
  rw [xM1_cur]
  rintro e w1 ⟨rfl, rfl⟩
  go_wp2_with fail
  refine (serve_any w1 _ a _ H1.out HN.out 13 0 0 2 0 (by omega) (by omega)).mono ?_
  rw [xM1_serve]
  rintro e w2 ⟨rfl, h2, k2⟩
  have H2 := Lib.hid (show ScW w2 (fun k => W0.heap.size ≤ k) a (sleepM xM1 1 2) from h2)
  have HK2 := Lib.hid (keepsF HK1.out k2)
  clear h2 k2 H1 HK1
  go_wp2_with fail
  refine (disp_any w2 _ a _ H2.out).mono ?_
  rw [xM1_first2, xM1_first]
  rintro e w3 ⟨rfl, h3, k3⟩
  have H3 := Lib.hid (show ScW w3 (fun k => W0.heap.size ≤ k) a xM2 from h3)
  have HK3 := Lib.hid (keepsF HK2.out k3)
  clear h3 k3 H2 HK2
  go_wp2_with fail
  refine (stick_any w3 _ a _ H3.out HN.out).mono ?_
  rintro e w4 ⟨v4, l4, rfl, ht4, ho4, h4, k4⟩
  obtain rfl := xM2_told ht4
  obtain ⟨a4, c4, rfl⟩ := owns_slice ho4
  have H4 := Lib.hid (show ScW w4 (fun k => W0.heap.size ≤ k) a xM3 from h4)
  have HK4 := Lib.hid (keepsF HK3.out k4)
  clear h4 k4 H3 HK3 ho4 ht4
  go_wp2_with fail
  refine (stick_any w4 _ a _ H4.out HN.out).mono ?_
  rintro e w5 ⟨v5, l5, rfl, ht5, ho5, h5, k5⟩
  obtain rfl := xM3_told ht5
  obtain ⟨a5, c5, rfl, hcs⟩ := over_cells ho5
  obtain ⟨b5, rfl, hb5, hty5, hc5⟩ := hcs 0 1 rfl
  have H5 := Lib.hid (show ScW w5 (fun k => W0.heap.size ≤ k) a xM4 from h5)
  have HK5 := Lib.hid (keepsF HK4.out k5)
  clear h5 k5 H4 HK4 ho5 ht5 hcs
  go_wp2_with fail
  refine (disp_any w5 _ a _ H5.out).mono ?_
  rw [xM4_first2, xM4_first]
  rintro e w6 ⟨rfl, h6, k6⟩
  have hc6 : w6.cell? ⟨b5, 0, none⟩ = some (.int .i64 1) := (World.cell?_of_block (a := ⟨b5, 0, none⟩) (k6.block b5 hb5 fun e => KeepsTy.apart hty5 (by decide) e.2)).trans hc5
  have hb6 : b5 < w6.heap.size := Nat.lt_of_lt_of_le hb5 k6.size
  have HK6 := Lib.hid (HK0.out.trans (keepsF HK5.out k6))
  clear h6 k6 H5 HK5 hc5 hty5
  go_wp2_with fail
  refine (rsame_some b5 0 w6.heap.size 0 1 c5 1 (fun _ => 1) _ (by unfold maxLen; omega) (fun i hi => ?_) (fun i hi => ?_)).mono ?_
  · obtain rfl : i = 0 := by omega
    exact (World.cell?_of_block (a := ⟨b5, 0, none⟩) (Below.heap_alloc _ _ _ hb6)).trans hc6
  · obtain rfl : i = 0 := by omega
    exact cell_of (heap_new w6 _) 0
  rintro e w7 ⟨rfl, k7⟩
  have HK7 := Lib.hid ((HK6.out.alloc _).trans k7)
  clear k7 HK6
  go_wp2_with fail
  go_ret
  exact ⟨rfl, HK7.out⟩
end Go.Proofs.Ytdbplamhpkahaaa
