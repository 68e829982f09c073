import Derived.Test.YtdnppkihpddlhaaPlAa
namespace Go.Proofs.Ytdnppkihpddlhaa
open Go.ChangeShapes Go.WideShapes Go.ChangeAt Go.RowKit
set_option linter.unusedVariables false
set_option linter.unusedSimpArgs false
theorem entry_zero (p : Nat → Int) (w : World) : Calls Try.prog 46 #[.agg (plC p), .int .i64 0] w fun e w' => e = .returned (.int .i64 0) ∧ Keeps (fun _ => False) w w' := by
  have HB := Lib.hid ((Has.start w).alloc (.cells (plC p) 41))
  cases e : (p 0 == 3)
  all_goals
    go_enter Try.func46, Try.ntmps46
    go_wp2
    go_ret
    exact ⟨rfl, HB.out.keeps⟩
theorem five_cells {w : World} {g : Nat} {p : Nat → Int} {E : TypeId} (h : w.heap[g]? = some (.cells (plC p) E (0, 0))) :
    w.cell? ⟨g, 0, none⟩ = some (.int .i64 (p 0)) ∧ w.cell? ⟨g, 1, none⟩ = some (.int .i64 (p 1)) ∧ w.cell? ⟨g, 2, none⟩ = some (.int .i64 (p 2)) ∧ w.cell? ⟨g, 3, none⟩ = some (.int .i64 (p 3)) ∧ w.cell? ⟨g, 4, none⟩ = some (.int .i64 (p 4)) := ⟨cell_of h 0, cell_of h 1, cell_of h 2, cell_of h 3, cell_of h 4⟩
/-- The cell of word j of the first entry; -1: there is none. -/
def dataP (p : Nat → Int) (j : Int) : Int := if p 3 ≤ j then -1 else p 1 + aheadP (p 0) + j
theorem ent_pos {p : Nat → Int} (h : rightS (oOf p) = true) : 1 ≤ entP (oOf p) := by
  obtain ⟨h1, h2, h3, h4, h5, h6⟩ := right_nums h
  unfold entP
  split
  · rename_i e; exact (h3 e).1
  · split <;> omega
theorem place_w {p : Nat → Int} (h : rightS (oOf p) = true) : 0 ≤ p 3 ∧ p 3 ≤ 4 := by
  obtain ⟨h1, h2, h3, h4, h5, h6⟩ := right_nums h
  have e5 : p 0 = 4 → p 3 = 0 := h5
  have e6 : p 0 ≠ 4 → 1 ≤ p 3 ∧ p 3 ≤ 4 := h6
  by_cases e : p 0 = 4
  · have := e5 e; omega
  · have := e6 e; omega
set_option maxHeartbeats 4000000 in
theorem data_any (p : Nat → Int) (j : Nat) (w : World) (hj : j < 4) (hp : 0 ≤ p 1 ∧ p 1 ≤ 1000000) (h : rightS (oOf p) = true) : Calls Try.prog 45 #[.agg (plC p), .int .i64 0, .int .i64 (j : Int)] w fun e w' => e = .returned (.int .i64 (dataP p (j : Int))) ∧ Keeps (fun _ => False) w w' := by
  have HB := Lib.hid ((Has.start w).alloc (.cells (plC p) 41))
  have HO := Lib.hid (fun W => object_any p W)
  have HE := Lib.hid (fun W => entries_any (oOf p) (fun _ => 0) W)
  have HA := Lib.hid (fun W => ahead_any (p 0) W)
  have he := ent_pos h
  have hw := place_w h
  have HF := Lib.hid (show dataP p (j : Int) = if p 3 ≤ (j : Int) then -1 else p 1 + aheadP (p 0) + (j : Int) from rfl)
  have ha : 0 ≤ aheadP (p 0) ∧ aheadP (p 0) ≤ 4 := by unfold aheadP; repeat' split <;> omega
  have d1 : decide (entP (oOf p) ≤ 0) = false := decide_eq_false (by omega)
  have e1 : wrap64 (p 1 + aheadP (p 0)) = p 1 + aheadP (p 0) := IntWalk.wrap64_in _ ⟨by omega, by omega⟩
  have e2 : wrap64 (p 1 + aheadP (p 0) + (j : Int)) = p 1 + aheadP (p 0) + (j : Int) := IntWalk.wrap64_in _ ⟨by omega, by omega⟩
  have e3 : IntKind.i64.wrap (p 1 + aheadP (p 0)) = p 1 + aheadP (p 0) := IntWalk.i64_in _ ⟨by omega, by omega⟩
  have e4 : IntKind.i64.wrap (p 1 + aheadP (p 0) + (j : Int)) = p 1 + aheadP (p 0) + (j : Int) := IntWalk.i64_in _ ⟨by omega, by omega⟩
  have d2 : decide ((j : Int) < 0) = false := decide_eq_false (by omega)
  generalize aheadP (p 0) = q1 at *
  generalize entP (oOf p) = q2 at *
  clear h he ha hj
  by_cases hl : p 3 ≤ (j : Int)
  · have d3 : decide (p 3 ≤ (j : Int)) = true := decide_eq_true hl
    have HF2 := Lib.hid (HF.out.trans (if_pos hl))
    clear hl hw hp
    go_enter Try.func45, Try.ntmps45
    go_wp2_with fail
    refine (HO.out _).mono ?_
    rintro e w1 ⟨rfl, k1⟩
    replace HB := Lib.hid (HB.out.none k1)
    clear k1
    go_wp2_with fail
    refine (HE.out _).mono ?_
    rintro e w2 ⟨rfl, k2⟩
    replace HB := Lib.hid (HB.out.none k2)
    clear k2
    have HC := Lib.hid (five_cells (HB.out.at 0 rfl))
    obtain ⟨c0, c1, c2, c3, c4⟩ := HC.out
    go_wp2_with fail
    go_ret
    exact ⟨by rw [HF2.out]; rfl, HB.out.keeps⟩
  · have d3 : decide (p 3 ≤ (j : Int)) = false := decide_eq_false hl
    have HF2 := Lib.hid (HF.out.trans (if_neg hl))
    clear hl hw hp
    go_enter Try.func45, Try.ntmps45
    go_wp2_with fail
    refine (HO.out _).mono ?_
    rintro e w1 ⟨rfl, k1⟩
    replace HB := Lib.hid (HB.out.none k1)
    clear k1
    go_wp2_with fail
    refine (HE.out _).mono ?_
    rintro e w2 ⟨rfl, k2⟩
    replace HB := Lib.hid (HB.out.none k2)
    clear k2
    have HC := Lib.hid (five_cells (HB.out.at 0 rfl))
    obtain ⟨c0, c1, c2, c3, c4⟩ := HC.out
    go_wp2_with fail
    clear c0 c1 c2 c3 c4
    replace HB := Lib.hid HB.out.drew
    replace HC := Lib.hid (five_cells (HB.out.at 0 rfl))
    go_region_held3 (fun w' => w'.cell? ⟨w.heap.size, 0, none⟩ = some (.int .i64 (p 0)) ∧ w'.cell? ⟨w.heap.size, 1, none⟩ = some (.int .i64 (p 1)) ∧ w'.cell? ⟨w.heap.size, 2, none⟩ = some (.int .i64 (p 2)) ∧ w'.cell? ⟨w.heap.size, 3, none⟩ = some (.int .i64 (p 3)) ∧ w'.cell? ⟨w.heap.size, 4, none⟩ = some (.int .i64 (p 4)))
      (first
        | exact HC.out
        | go_keep)
      (first
        | (go_at_call 23; refine (HA.out _).mono ?_; rintro e9 w9 ⟨rfl, k9⟩; replace HB := Lib.hid (HB.out.none k9); replace HC := Lib.hid (five_cells (HB.out.at 0 rfl)); clear k9)
        | fail)
    all_goals
      go_wp2_with fail
      go_ret
      exact ⟨by rw [HF2.out]; exact congrArg (fun x => Ending.returned (.int .i64 x)) (by rw [show IntKind.i64.wrap 0 = 0 from rfl, Int.add_zero, e3, e4]), HB.out.keeps⟩
end Go.Proofs.Ytdnppkihpddlhaa
