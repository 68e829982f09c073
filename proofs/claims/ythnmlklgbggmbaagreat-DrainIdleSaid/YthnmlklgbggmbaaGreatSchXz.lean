import Derived.Test.YthnmlklgbggmbaaGreatSchMz
import Derived.Test.YthnmlklgbggmbaaGreatSchTz
import Derived.Test.YthnmlklgbggmbaaGreatSchVz
import Derived.Test.YthnmlklgbggmbaaGreatBaseZ
namespace Go.Proofs.YthnmlklgbggmbaaGreat
open Go.ChangeShapes Go.WideShapes Go.ChangeAt Go.RowKit
set_option linter.unusedVariables false
set_option linter.unusedSimpArgs false
theorem prios_two {W : World} {b : Nat} {x y : Int} (h : W.heap[b]? = some (.cells #[.int .i64 x, .bool false, .slice none 0 0, .int .i64 y, .bool false, .slice none 0 0] 66 (0, 0))) : PriosAt W (some ⟨b, 0, none⟩) 2 [x, y] :=
  ⟨rfl, fun _ => ⟨b, 0, rfl, lt_of h, fun k p hk => by
    have hk0 : k = 0 ∨ k = 1 := by have := (List.getElem?_eq_some_iff.1 hk).1; simp at this; omega
    rcases hk0 with rfl | rfl
    · rw [← Option.some.inj (show some x = some p from hk)]; exact cell_of h 0
    · rw [← Option.some.inj (show some y = some p from hk)]; exact cell_of h 3⟩⟩
theorem told_nil {T : Int → Nat} {l : List Int} (h : ToldN T l) (h0 : ∀ t, T t ≠ 1) : l = [] := List.eq_nil_iff_forall_not_mem.2 fun t ht => h0 t ((h.one t).1 ht)
theorem told_one {T : Int → Nat} {l : List Int} (h : ToldN T l) (a : Int) (h0 : ∀ t, T t = 1 ↔ t = a) : l = [a] := by
  have hm : a ∈ l := (h.one a).2 ((h0 a).2 rfl)
  have hall : ∀ t, t ∈ l → t = a := fun t ht => (h0 t).1 ((h.one t).1 ht)
  have hnd := h.nd
  match l, hm, hall, hnd with
  | [], hm, _, _ => cases hm
  | [x], _, hall, _ => rw [hall x (.head _)]
  | x :: y :: r, _, hall, hnd =>
    have h1 := hall x (.head _)
    have h2 := hall y (.tail _ (.head _))
    exact absurd (List.nodup_cons.1 hnd).1 (by rw [h1, h2]; simp)
def xM1 : ScM := dispM (newM [1, 2])
def xM2 : ScM := dispM (sleepM xM1 1 2)
def xM3 : ScM := tickM xM2 []
def xM4 : ScM := tickM xM3 [1]
theorem xM1_cur : xM1.cur = 1 := by kernel_rfl
theorem xM1_serve : serveM xM1 13 0 0 2 0 = (sleepM xM1 1 2, 0) := by kernel_rfl
theorem xM1_first : firstM (sleepM xM1 1 2) = 0 := by kernel_rfl
theorem xM1_first2 : (firstM (sleepM xM1 1 2) != (sleepM xM1 1 2).cur) = true := by kernel_rfl
theorem xM2_T : xM2.T = fun z => if z = 1 then 2 else 0 := by kernel_rfl
theorem xM4_first : firstM xM4 = 1 := by kernel_rfl
theorem xM4_first2 : (firstM xM4 != xM4.cur) = true := by kernel_rfl
theorem xM2_told {l : List Int} (h : ToldN xM2.T l) : l = [] := told_nil h fun t => by rw [xM2_T]; show (if t = 1 then 2 else 0) ≠ 1; split <;> omega
theorem xM3_told {l : List Int} (h : ToldN xM3.T l) : l = [1] := told_one h 1 fun t => by
  show xM2.T t - 1 = 1 ↔ t = 1
  rw [xM2_T]
  show (if t = 1 then 2 else 0) - 1 = 1 ↔ t = 1
  split <;> omega
end Go.Proofs.YthnmlklgbggmbaaGreat
namespace Go.Proofs.YthnmlklgbggmbaaGreat
open Go.ChangeShapes Go.WideShapes Go.ChangeAt Go.RowKit
set_option linter.unusedVariables false
set_option linter.unusedSimpArgs false
end Go.Proofs.YthnmlklgbggmbaaGreat
namespace Go.Proofs.YthnmlklgbggmbaaGreat
open Go.ChangeShapes Go.WideShapes Go.ChangeAt Go.RowKit
set_option linter.unusedVariables false
set_option linter.unusedSimpArgs false
set_option maxRecDepth 20000 in
set_option maxHeartbeats 2000000 in
theorem nhas (w : World) : Calls Tryz.prog 141 #[.pointer none, .int .i64 0] w fun e w' => e = .returned (.bool false) ∧ w = w' := by
  go_enter Tryz.func141, Tryz.ntmps141
  go_wp2_with fail
  go_ret
  exact ⟨rfl, rfl⟩
set_option maxRecDepth 20000 in
set_option maxHeartbeats 2000000 in
theorem ncur (w : World) : Calls Tryz.prog 15 #[.pointer none] w fun e w' => e = .returned (.int .i64 (-1)) ∧ w = w' := by
  go_enter Tryz.func15, Tryz.ntmps15
  go_wp2_with fail
  go_ret
  exact ⟨rfl, rfl⟩
set_option maxRecDepth 20000 in
set_option maxHeartbeats 2000000 in
theorem ntick (w : World) : Calls Tryz.prog 83 #[.pointer none] w fun e w' => e = .returned (.slice none 0 0) ∧ w = w' := by
  go_enter Tryz.func83, Tryz.ntmps83
  go_wp2_with fail
  try (go_step3; go_wp2_with fail)
  try rw [Exit.noGoto_ret]
  go_ret
  exact ⟨rfl, rfl⟩
set_option maxRecDepth 20000 in
set_option maxHeartbeats 2000000 in
theorem nready (w : World) : Calls Tryz.prog 18 #[.pointer none] w fun e w' => e = .returned (.slice none 0 0) ∧ w = w' := by
  go_enter Tryz.func18, Tryz.ntmps18
  go_wp2_with fail
  go_ret
  exact ⟨rfl, rfl⟩
set_option maxRecDepth 20000 in
set_option maxHeartbeats 2000000 in
theorem nwaits (w : World) : Calls Tryz.prog 19 #[.pointer none] w fun e w' => e = .returned (.slice none 0 0) ∧ w = w' := by
  go_enter Tryz.func19, Tryz.ntmps19
  go_wp2_with fail
  go_ret
  exact ⟨rfl, rfl⟩
set_option maxRecDepth 20000 in
set_option maxHeartbeats 2000000 in
theorem ncopy27 (w : World) : Calls Tryz.prog 10 #[.pointer none] w fun e w' => e = .returned (.pointer none) ∧ w = w' := by
  go_enter Tryz.func10, Tryz.ntmps10
  go_wp2_with fail
  go_ret
  exact ⟨rfl, rfl⟩
set_option maxRecDepth 20000 in
set_option maxHeartbeats 2000000 in
theorem nnote (w : World) : Calls Tryz.prog 86 #[.pointer none, .int .i64 0, .int .u32 1] w fun e w' => e = .returned (.bool false) ∧ w = w' := by
  go_enter Tryz.func86, Tryz.ntmps86
  go_wp2_with fail
  refine (nhas _).mono ?_
  rintro e w' ⟨rfl, rfl⟩
  go_wp2_with fail
  go_ret
  exact ⟨rfl, rfl⟩
set_option maxRecDepth 20000 in
set_option maxHeartbeats 2000000 in
theorem nwake (w : World) : Calls Tryz.prog 89 #[.pointer none, .int .i64 0] w fun e w' => e = .returned (.bool false) ∧ w = w' := by
  go_enter Tryz.func89, Tryz.ntmps89
  go_wp2_with fail
  refine (nhas _).mono ?_
  rintro e w' ⟨rfl, rfl⟩
  go_wp2_with fail
  go_ret
  exact ⟨rfl, rfl⟩
set_option maxRecDepth 20000 in
set_option maxHeartbeats 2000000 in
theorem ndue (w : World) : Calls Tryz.prog 119 #[.pointer none, .int .i64 0] w fun e w' => e = .returned (.bool false) ∧ w = w' := by
  go_enter Tryz.func119, Tryz.ntmps119
  go_wp2_with fail
  refine (nhas _).mono ?_
  rintro e w' ⟨rfl, rfl⟩
  go_wp2_with fail
  go_ret
  exact ⟨rfl, rfl⟩
set_option maxRecDepth 20000 in
set_option maxHeartbeats 2000000 in
theorem ndisp (w : World) : Calls Tryz.prog 76 #[.pointer none] w fun e w' => e = .returned (.tuple #[.int .i64 (-1), .bool false]) ∧ w = w' := by
  go_enter Tryz.func76, Tryz.ntmps76
  go_wp2_with fail
  refine bodyPost_ret (v := .tuple #[.int .i64 (-1), .bool false]) (by simp [results, Tryz.results76, go_sem]) rfl ?_
  exact ⟨rfl, rfl⟩
set_option maxRecDepth 20000 in
set_option maxHeartbeats 2000000 in
theorem nnext (w : World) : Calls Tryz.prog 51 #[.pointer none, .int .i64 0] w fun e w' => e = .returned (.tuple #[.agg #[.int .i64 0, .int .i64 0, .int .i64 0, .int .u32 0], .bool false]) ∧ Keeps (fun _ => False) w w' := by
  go_enter Tryz.func51, Tryz.ntmps51
  go_wp2_with fail
  refine bodyPost_ret (v := .tuple #[.agg #[.int .i64 0, .int .i64 0, .int .i64 0, .int .u32 0], .bool false]) (by simp [results, Tryz.results51, go_sem]) rfl ?_
  exact ⟨rfl, (Keeps.refl _ w).alloc _⟩
set_option maxRecDepth 20000 in
set_option maxHeartbeats 2000000 in
theorem nserve (w : World) : Calls Tryz.prog 81 #[.pointer none, .agg #[.int .i64 12, .int .i64 0, .int .u32 0, .int .u32 0, .int .u32 0]] w fun e w' => e = .returned (.int .i64 4) ∧ Keeps (fun _ => False) w w' := by
  go_enter Tryz.func81, Tryz.ntmps81
  go_wp2_with fail
  go_ret
  exact ⟨rfl, (Keeps.refl _ w).alloc _⟩
theorem copy_none (b : Nat) (st bits : Int) (w : World) (hst : (st == 0) = false) (h : IsTask w b st bits none) :
    Calls Tryz.prog 34 #[.pointer (some ⟨b, 0, none⟩)] w fun e w' => e = .returned (.pointer (some ⟨w.heap.size, 0, none⟩)) ∧ IsTask w' w.heap.size st bits none ∧ Keeps (fun _ => False) w w' := by
  have HT := Lib.hid h
  obtain ⟨v, hb, rfl⟩ := h
  have hlt := lt_of hb
  have c0 : w.cell? ⟨b, 0, none⟩ = some (.int .i64 st) := cell_of hb 0
  have c1 : w.cell? ⟨b, 1, none⟩ = some (.int .u32 bits) := cell_of hb 1
  have c2 : w.cell? ⟨b, 2, none⟩ = some (.pointer none) := cell_of hb 2
  clear hb
  go_enter Tryz.func34, Tryz.ntmps34
  go_wp2_with (go_at_call 77; refine (state_any _ _ _ _ _ HT.out).mono ?_; rintro e w' ⟨rfl, rfl⟩)
  go_ret
  exact ⟨rfl, ⟨_, heap_new _ _, rfl⟩, (Keeps.refl _ _).alloc _⟩
theorem copy_task (b : Nat) (st bits : Int) (ans : Option (Bool × Int × Int)) (w : World) (hst : (st == 0) = false) (h : IsTask w b st bits ans) :
    Calls Tryz.prog 34 #[.pointer (some ⟨b, 0, none⟩)] w fun e w' => e = .returned (.pointer (some ⟨w.heap.size, 0, none⟩)) ∧ IsTask w' w.heap.size st bits ans ∧ Keeps (fun _ => False) w w' := by
  cases ans with
  | none => exact copy_none b st bits w hst h
  | some v =>
    obtain ⟨x, y, z⟩ := v
    exact copy_some b st bits x y z w hst h
/-- What of a copy is asked for: its cells, its tasks, its rows. -/
structure ScV (w : World) (a : ScA) (M : ScM) : Prop where
  blk : ∃ cs, w.heap[a.s]? = some (.cells cs 100 (0, 0)) ∧ ScCells cs a M
  le : M.many ≤ 16
  task : ∀ t, t < M.many → ∃ v, w.heap[a.tb t]? = some (.cells #[.int .i64 (M.st t), .int .u32 (M.bits t : Int), v] 167 (0, 0))
  rank : RkS w a.rk M.R
end Go.Proofs.YthnmlklgbggmbaaGreat
