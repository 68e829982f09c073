import Derived.Test.YthnmlklgbggmbaaGreatConfDFz
import Derived.Test.YthnmlklgbggmbaaGreatBaseZ
import Derived.Laws.Rows
import Derived.Deep.MidRow
import Derived.WalkKit
import Derived.ProofKit
import Derived.OpenShut
import Derived.Below
import Derived.Laws.MakeOwn
import Derived.Test.YthnmlklgbggmbaaGreatRows
import Derived.WalkLawsBesides
import Derived.WalkSpells
import Derived.Lib.Hide
import Derived.Deep.QuietTactic
import Derived.BigQuiet
import Derived.BigRegion
import Derived.Laws.AppendOwn
namespace Go.Proofs.YthnmlklgbggmbaaGreat
open Go.ChangeShapes Go.WideShapes Go.ChangeAt Go.RowKit
set_option linter.unusedVariables false
set_option linter.unusedSimpArgs false
/-- The number of cells ahead of the data, the entries, the size. -/
def aheadP (k : Int) : Int := if k = 2 then 4 else if k = 1 then 2 else if k = 3 ∨ k = 4 then 1 else 0
def entP (o : Nat → Int) : Int := if o 0 = 1 then o 1 else if o 0 = 2 then 4 else 1
def sizeP (o : Nat → Int) : Int := if rightS o = true then aheadP (o 0) + entP o * o 2 else 0
theorem ahead_any (k : Int) (w : World) : Calls Tryz.prog 167 #[.int .i64 k] w fun e w' => e = .returned (.int .i64 (aheadP k)) ∧ Keeps (fun _ => False) w w' := by
  by_cases h2 : k = 2
  · subst h2
    go_enter Tryz.func167, Tryz.ntmps167
    go_wp2
    go_ret
    exact ⟨rfl, Keeps.refl _ _⟩
  by_cases h1 : k = 1
  · subst h1
    go_enter Tryz.func167, Tryz.ntmps167
    go_wp2
    go_ret
    exact ⟨rfl, Keeps.refl _ _⟩
  by_cases h3 : k = 3
  · subst h3
    go_enter Tryz.func167, Tryz.ntmps167
    go_wp2
    go_ret
    exact ⟨rfl, Keeps.refl _ _⟩
  by_cases h4 : k = 4
  · subst h4
    go_enter Tryz.func167, Tryz.ntmps167
    go_wp2
    go_ret
    exact ⟨rfl, Keeps.refl _ _⟩
  have HF := Lib.hid (show aheadP k = 0 by unfold aheadP; rw [if_neg h2, if_neg h1, if_neg (by omega)])
  have e1 : (k == 1) = false := beq_eq_false_iff_ne.2 h1
  have e2 : (k == 2) = false := beq_eq_false_iff_ne.2 h2
  have e3 : (k == 3) = false := beq_eq_false_iff_ne.2 h3
  have e4 : (k == 4) = false := beq_eq_false_iff_ne.2 h4
  go_enter Tryz.func167, Tryz.ntmps167
  go_wp2
  go_ret
  exact ⟨by rw [HF.out]; rfl, Keeps.refl _ _⟩
theorem entries_any (o oi : Nat → Int) (w : World) : Calls Tryz.prog 168 #[.agg (objC o oi)] w fun e w' => e = .returned (.int .i64 (entP o)) ∧ Keeps (fun _ => False) w w' := by
  have HB := Lib.hid ((Has.start w).alloc (.cells (objC o oi) 74))
  by_cases h1 : o 0 = 1
  · have HF := Lib.hid (show entP o = o 1 by unfold entP; rw [if_pos h1])
    have e1 : (o 0 == 1) = true := beq_iff_eq.2 h1
    go_enter Tryz.func168, Tryz.ntmps168
    go_wp2
    go_ret
    exact ⟨by rw [HF.out]; rfl, HB.out.keeps⟩
  by_cases h2 : o 0 = 2
  · have HF := Lib.hid (show entP o = 4 by unfold entP; rw [if_neg h1, if_pos h2])
    have e1 : (o 0 == 1) = false := beq_eq_false_iff_ne.2 h1
    have e2 : (o 0 == 2) = true := beq_iff_eq.2 h2
    clear h1 h2
    go_enter Tryz.func168, Tryz.ntmps168
    go_wp2
    go_ret
    exact ⟨by rw [HF.out]; rfl, HB.out.keeps⟩
  have HF := Lib.hid (show entP o = 1 by unfold entP; rw [if_neg h1, if_neg h2])
  have e1 : (o 0 == 1) = false := beq_eq_false_iff_ne.2 h1
  have e2 : (o 0 == 2) = false := beq_eq_false_iff_ne.2 h2
  clear h1 h2
  go_enter Tryz.func168, Tryz.ntmps168
  go_wp2
  go_ret
  exact ⟨by rw [HF.out]; rfl, HB.out.keeps⟩
/-- What the numbers of a valid object are. -/
theorem right_nums {o : Nat → Int} (h : rightS o = true) : 1 ≤ o 0 ∧ o 0 ≤ 4 ∧ (o 0 = 1 → 1 ≤ o 1 ∧ o 1 ≤ 64) ∧ (o 0 ≠ 1 → o 1 = 0) ∧ (o 0 = 4 → o 2 = 0) ∧ (o 0 ≠ 4 → 1 ≤ o 2 ∧ o 2 ≤ 4) := by
  unfold rightS at h
  simp only [Bool.and_eq_true, decide_eq_true_eq] at h
  obtain ⟨⟨h1, h2⟩, h3, h4, h5⟩ := h
  refine ⟨h1, h2, fun e => ?_, fun e => ?_, fun e => ?_, fun e => ?_⟩
  · rw [if_pos e] at h3
    simp only [Bool.and_eq_true, decide_eq_true_eq] at h3
    exact ⟨pow2_pos h3.1, h3.2⟩
  · rw [if_neg e] at h3
    simpa using h3
  · rw [if_pos e] at h4
    simpa using h4
  · rw [if_neg e] at h4
    simp only [Bool.and_eq_true, decide_eq_true_eq] at h4
    exact h4
theorem size_bound {o : Nat → Int} (h : rightS o = true) : 1 ≤ sizeP o ∧ sizeP o ≤ 258 := by
  obtain ⟨h1, h2, h3, h4, h5, h6⟩ := right_nums h
  unfold sizeP
  rw [if_pos h]
  unfold aheadP entP
  rcases (by omega : o 0 = 1 ∨ o 0 = 2 ∨ o 0 = 3 ∨ o 0 = 4) with e | e | e | e
  · have a := h3 e
    have b := h6 (by omega)
    rw [if_neg (by omega), if_pos e, if_pos e]
    have m1 : 1 * 1 ≤ o 1 * o 2 := Int.mul_le_mul a.1 b.1 (by omega) (by omega)
    have m2 : o 1 * o 2 ≤ 64 * 4 := Int.mul_le_mul a.2 b.2 (by omega) (by omega)
    omega
  · have b := h6 (by omega)
    rw [if_pos e, if_neg (by omega), if_pos e]
    omega
  · have b := h6 (by omega)
    rw [if_neg (by omega), if_neg (by omega), if_pos (by omega), if_neg (by omega), if_neg (by omega)]
    omega
  · have b := h5 e
    rw [if_neg (by omega), if_neg (by omega), if_pos (by omega), if_neg (by omega), if_neg (by omega)]
    omega
set_option maxHeartbeats 4000000 in
theorem size_any4 (o oi : Nat → Int) (w : World) (hb : -9223372036854775808 ≤ o 1 ∧ o 1 ≤ 9223372036854775807) (h : rightS o = true) : Calls Tryz.prog 124 #[.agg (objC o oi)] w fun e w' => e = .returned (.int .i64 (sizeP o)) ∧ Keeps (fun _ => False) w w' := by
  have HB := Lib.hid ((Has.start w).alloc (.cells (objC o oi) 74))
  have HR := Lib.hid (fun W => right_any o oi W hb)
  have HA := Lib.hid (fun W => ahead_any (o 0) W)
  have HE := Lib.hid (fun W => entries_any o oi W)
  have hsz := size_bound h
  have HF := Lib.hid (show sizeP o = aheadP (o 0) + entP o * o 2 by unfold sizeP; rw [if_pos h])
  rw [HF.out] at hsz
  have ha : 0 ≤ aheadP (o 0) ∧ aheadP (o 0) ≤ 4 := by unfold aheadP; repeat' split <;> omega
  have e1 : wrap64 (entP o * o 2) = entP o * o 2 := IntWalk.wrap64_in _ ⟨by omega, by omega⟩
  have e2 : wrap64 (aheadP (o 0) + entP o * o 2) = aheadP (o 0) + entP o * o 2 := IntWalk.wrap64_in _ ⟨by omega, by omega⟩
  have e3 : IntKind.i64.wrap (entP o * o 2) = entP o * o 2 := IntWalk.i64_in _ ⟨by omega, by omega⟩
  have e4 : IntKind.i64.wrap (aheadP (o 0) + entP o * o 2) = aheadP (o 0) + entP o * o 2 := IntWalk.i64_in _ ⟨by omega, by omega⟩
  rw [h] at HR
  clear hsz ha
  generalize aheadP (o 0) = q1 at *
  generalize entP o = q2 at *
  go_enter Tryz.func124, Tryz.ntmps124
  go_wp2_with fail
  refine (HR.out _).mono ?_
  rintro e w1 ⟨rfl, k1⟩
  replace HB := Lib.hid (HB.out.none k1)
  clear k1
  replace HB := Lib.hid HB.out.drew
  have HC := Lib.hid (ten_cells (HB.out.at 0 rfl))
  go_wp2_with fail
  go_region_held3 (fun w' => w'.cell? ⟨w.heap.size, 0, none⟩ = some (.int .i64 (o 0)) ∧ w'.cell? ⟨w.heap.size, 1, none⟩ = some (.int .i64 (o 1)) ∧ w'.cell? ⟨w.heap.size, 2, none⟩ = some (.int .i64 (o 2)) ∧ w'.cell? ⟨w.heap.size, 3, none⟩ = some (.int .i64 (o 3)) ∧ w'.cell? ⟨w.heap.size, 4, none⟩ = some (.int .i64 (o 4)) ∧ w'.cell? ⟨w.heap.size, 5, none⟩ = some (.int .i64 (o 5)) ∧ w'.cell? ⟨w.heap.size, 6, none⟩ = some (.int .u32 (oi 0)) ∧ w'.cell? ⟨w.heap.size, 7, none⟩ = some (.int .u32 (oi 1)) ∧ w'.cell? ⟨w.heap.size, 8, none⟩ = some (.int .u32 (oi 2)) ∧ w'.cell? ⟨w.heap.size, 9, none⟩ = some (.int .u32 (oi 3)))
    (first
      | exact HC.out
      | go_keep)
    (first
      | (go_at_call 167; refine (HA.out _).mono ?_; rintro e9 w9 ⟨rfl, k9⟩; replace HB := Lib.hid (HB.out.none k9); replace HC := Lib.hid (ten_cells (HB.out.at 0 rfl)); clear k9)
      | (go_at_call 168; refine (HE.out _).mono ?_; rintro e9 w9 ⟨rfl, k9⟩; replace HB := Lib.hid (HB.out.none k9); replace HC := Lib.hid (ten_cells (HB.out.at 0 rfl)); clear k9)
      | fail)
  all_goals
    go_wp2_with fail
    go_ret
    exact ⟨by rw [HF.out]; rfl, HB.out.keeps⟩
/-- A place's five numbers: kind, first cell, entries, words, tries; its object. -/
@[reducible] def plC (p : Nat → Int) : Array Value := #[.int .i64 (p 0), .int .i64 (p 1), .int .i64 (p 2), .int .i64 (p 3), .int .i64 (p 4)]
def oOf (p : Nat → Int) : Nat → Int := fun j => match j with | 0 => p 0 | 1 => p 2 | 2 => p 3 | 3 => p 4 | _ => 0
theorem object_any (p : Nat → Int) (w : World) : Calls Tryz.prog 175 #[.agg (plC p)] w fun e w' => e = .returned (.agg (objC (oOf p) fun _ => 0)) ∧ Keeps (fun _ => False) w w' := by
  have HB := Lib.hid (((Has.start w).alloc (.cells (plC p) 145)))
  go_enter Tryz.func175, Tryz.ntmps175
  go_wp2_with fail
  have hg := heap_new (w.alloc (.cells (plC p) 145)) (.cells (objC (oOf p) fun _ => 0) 74)
  rw [World.size_alloc] at hg
  refine bodyPost_ret (v := .agg (objC (oOf p) fun _ => 0)) (results_cell_row Tryz.results175 _ _ (w.heap.size + 1) 74 (objC (oOf p) fun _ => 0) (0, 0) _ rfl hg Tryz.underlying74 rfl (by kernel_rfl)) rfl ⟨rfl, HB.out.keeps.alloc _⟩
end Go.Proofs.YthnmlklgbggmbaaGreat
namespace Go.Proofs.YthnmlklgbggmbaaGreat
open Go.ChangeShapes Go.WideShapes Go.ChangeAt Go.RowKit
set_option linter.unusedVariables false
set_option linter.unusedSimpArgs false
theorem entry_zero (p : Nat → Int) (w : World) : Calls Tryz.prog 177 #[.agg (plC p), .int .i64 0] w fun e w' => e = .returned (.int .i64 0) ∧ Keeps (fun _ => False) w w' := by
  have HB := Lib.hid ((Has.start w).alloc (.cells (plC p) 145))
  cases e : (p 0 == 3)
  all_goals
    go_enter Tryz.func177, Tryz.ntmps177
    go_wp2
    go_ret
    exact ⟨rfl, HB.out.keeps⟩
theorem five_cells {w : World} {g : Nat} {p : Nat → Int} {E : TypeId} (h : w.heap[g]? = some (.cells (plC p) E (0, 0))) :
    w.cell? ⟨g, 0, none⟩ = some (.int .i64 (p 0)) ∧ w.cell? ⟨g, 1, none⟩ = some (.int .i64 (p 1)) ∧ w.cell? ⟨g, 2, none⟩ = some (.int .i64 (p 2)) ∧ w.cell? ⟨g, 3, none⟩ = some (.int .i64 (p 3)) ∧ w.cell? ⟨g, 4, none⟩ = some (.int .i64 (p 4)) := ⟨cell_of h 0, cell_of h 1, cell_of h 2, cell_of h 3, cell_of h 4⟩
/-- The cell of word j of the first entry; -1: there is none. -/
def dataP (p : Nat → Int) (j : Int) : Int := if p 3 ≤ j then -1 else p 1 + aheadP (p 0) + j
theorem ent_pos {p : Nat → Int} (h : rightS (oOf p) = true) : 1 ≤ entP (oOf p) := by
  obtain ⟨h1, h2, h3, h4, h5, h6⟩ := right_nums h
  unfold entP
  split
  · rename_i e; exact (h3 e).1
  · split <;> omega
theorem place_w {p : Nat → Int} (h : rightS (oOf p) = true) : 0 ≤ p 3 ∧ p 3 ≤ 4 := by
  obtain ⟨h1, h2, h3, h4, h5, h6⟩ := right_nums h
  have e5 : p 0 = 4 → p 3 = 0 := h5
  have e6 : p 0 ≠ 4 → 1 ≤ p 3 ∧ p 3 ≤ 4 := h6
  by_cases e : p 0 = 4
  · have := e5 e; omega
  · have := e6 e; omega
set_option maxHeartbeats 4000000 in
theorem data_any (p : Nat → Int) (j : Nat) (w : World) (hj : j < 4) (hp : 0 ≤ p 1 ∧ p 1 ≤ 1000000) (h : rightS (oOf p) = true) : Calls Tryz.prog 176 #[.agg (plC p), .int .i64 0, .int .i64 (j : Int)] w fun e w' => e = .returned (.int .i64 (dataP p (j : Int))) ∧ Keeps (fun _ => False) w w' := by
  have HB := Lib.hid ((Has.start w).alloc (.cells (plC p) 145))
  have HO := Lib.hid (fun W => object_any p W)
  have HE := Lib.hid (fun W => entries_any (oOf p) (fun _ => 0) W)
  have HA := Lib.hid (fun W => ahead_any (p 0) W)
  have he := ent_pos h
  have hw := place_w h
  have HF := Lib.hid (show dataP p (j : Int) = if p 3 ≤ (j : Int) then -1 else p 1 + aheadP (p 0) + (j : Int) from rfl)
  have ha : 0 ≤ aheadP (p 0) ∧ aheadP (p 0) ≤ 4 := by unfold aheadP; repeat' split <;> omega
  have d1 : decide (entP (oOf p) ≤ 0) = false := decide_eq_false (by omega)
  have e1 : wrap64 (p 1 + aheadP (p 0)) = p 1 + aheadP (p 0) := IntWalk.wrap64_in _ ⟨by omega, by omega⟩
  have e2 : wrap64 (p 1 + aheadP (p 0) + (j : Int)) = p 1 + aheadP (p 0) + (j : Int) := IntWalk.wrap64_in _ ⟨by omega, by omega⟩
  have e3 : IntKind.i64.wrap (p 1 + aheadP (p 0)) = p 1 + aheadP (p 0) := IntWalk.i64_in _ ⟨by omega, by omega⟩
  have e4 : IntKind.i64.wrap (p 1 + aheadP (p 0) + (j : Int)) = p 1 + aheadP (p 0) + (j : Int) := IntWalk.i64_in _ ⟨by omega, by omega⟩
  have d2 : decide ((j : Int) < 0) = false := decide_eq_false (by omega)
  generalize aheadP (p 0) = q1 at *
  generalize entP (oOf p) = q2 at *
  clear h he ha hj
  by_cases hl : p 3 ≤ (j : Int)
  · have d3 : decide (p 3 ≤ (j : Int)) = true := decide_eq_true hl
    have HF2 := Lib.hid (HF.out.trans (if_pos hl))
    clear hl hw hp
    go_enter Tryz.func176, Tryz.ntmps176
    go_wp2_with fail
    refine (HO.out _).mono ?_
    rintro e w1 ⟨rfl, k1⟩
    replace HB := Lib.hid (HB.out.none k1)
    clear k1
    go_wp2_with fail
    refine (HE.out _).mono ?_
    rintro e w2 ⟨rfl, k2⟩
    replace HB := Lib.hid (HB.out.none k2)
    clear k2
    have HC := Lib.hid (five_cells (HB.out.at 0 rfl))
    obtain ⟨c0, c1, c2, c3, c4⟩ := HC.out
    go_wp2_with fail
    go_ret
    exact ⟨by rw [HF2.out]; rfl, HB.out.keeps⟩
  · have d3 : decide (p 3 ≤ (j : Int)) = false := decide_eq_false hl
    have HF2 := Lib.hid (HF.out.trans (if_neg hl))
    clear hl hw hp
    go_enter Tryz.func176, Tryz.ntmps176
    go_wp2_with fail
    refine (HO.out _).mono ?_
    rintro e w1 ⟨rfl, k1⟩
    replace HB := Lib.hid (HB.out.none k1)
    clear k1
    go_wp2_with fail
    refine (HE.out _).mono ?_
    rintro e w2 ⟨rfl, k2⟩
    replace HB := Lib.hid (HB.out.none k2)
    clear k2
    have HC := Lib.hid (five_cells (HB.out.at 0 rfl))
    obtain ⟨c0, c1, c2, c3, c4⟩ := HC.out
    go_wp2_with fail
    clear c0 c1 c2 c3 c4
    replace HB := Lib.hid HB.out.drew
    replace HC := Lib.hid (five_cells (HB.out.at 0 rfl))
    go_region_held3 (fun w' => w'.cell? ⟨w.heap.size, 0, none⟩ = some (.int .i64 (p 0)) ∧ w'.cell? ⟨w.heap.size, 1, none⟩ = some (.int .i64 (p 1)) ∧ w'.cell? ⟨w.heap.size, 2, none⟩ = some (.int .i64 (p 2)) ∧ w'.cell? ⟨w.heap.size, 3, none⟩ = some (.int .i64 (p 3)) ∧ w'.cell? ⟨w.heap.size, 4, none⟩ = some (.int .i64 (p 4)))
      (first
        | exact HC.out
        | go_keep)
      (first
        | (go_at_call 167; refine (HA.out _).mono ?_; rintro e9 w9 ⟨rfl, k9⟩; replace HB := Lib.hid (HB.out.none k9); replace HC := Lib.hid (five_cells (HB.out.at 0 rfl)); clear k9)
        | fail)
    all_goals
      go_wp2_with fail
      go_ret
      exact ⟨by rw [HF2.out]; exact congrArg (fun x => Ending.returned (.int .i64 x)) (by rw [show IntKind.i64.wrap 0 = 0 from rfl, Int.add_zero, e3, e4]), HB.out.keeps⟩
end Go.Proofs.YthnmlklgbggmbaaGreat
namespace Go.Proofs.YthnmlklgbggmbaaGreat
open Go.ChangeShapes Go.WideShapes Go.ChangeAt Go.RowKit
set_option linter.unusedVariables false
set_option linter.unusedSimpArgs false
theorem single_word (w : World) : Calls Tryz.prog 178 #[.int .i64 4, .int .i64 8] w fun e w' => e = .returned (.int .i64 0) ∧ Keeps (fun _ => False) w w' := by
  go_enter Tryz.func178, Tryz.ntmps178
  go_wp2
  go_ret
  exact ⟨rfl, Keeps.refl _ _⟩
set_option maxHeartbeats 4000000 in
theorem cell_word (p : Nat → Int) (w : World) (hp : 0 ≤ p 1 ∧ p 1 ≤ 1000000) (h : rightS (oOf p) = true) (h4 : p 0 = 4) : Calls Tryz.prog 140 #[.agg (plC p), .int .i64 8, .int .i64 0, .int .i64 0] w fun e w' => e = .returned (.int .i64 (p 1)) ∧ Keeps (fun _ => False) w w' := by
  have HB := Lib.hid ((Has.start w).alloc (.cells (plC p) 145))
  have HO := Lib.hid (fun W => object_any p W)
  have hb : -9223372036854775808 ≤ oOf p 1 ∧ oOf p 1 ≤ 9223372036854775807 := by
    have := (right_nums h).2.2.2.1 (show oOf p 0 ≠ 1 by show p 0 ≠ 1; omega)
    rw [this]; omega
  have hr := fun W => right_any (oOf p) (fun _ => 0) W hb
  rw [h] at hr
  have HR := Lib.hid hr
  have HS := Lib.hid (fun W => single_word W)
  have HP := Lib.hid hp
  have HE0 := Lib.hid h4
  have HW1 := Lib.hid (show wrap64 (p 1) = p 1 ∧ wrap64 (p 1 + 0) = p 1 from ⟨IntWalk.wrap64_in _ ⟨by omega, by omega⟩, by rw [Int.add_zero]; exact IntWalk.wrap64_in _ ⟨by omega, by omega⟩⟩)
  clear hr hb h h4 hp
  go_enter Tryz.func140, Tryz.ntmps140
  go_wp2_with fail
  refine (HO.out _).mono ?_
  rintro e w1 ⟨rfl, k1⟩
  replace HB := Lib.hid ((HB.out.none k1).alloc (.cells (objC (oOf p) fun _ => 0) 74))
  clear k1
  go_wp2_with fail
  refine (HR.out _).mono ?_
  rintro e w2 ⟨rfl, k2⟩
  replace HB := Lib.hid (HB.out.none k2)
  clear k2
  obtain ⟨c0, c1, c2, c3, c4⟩ := five_cells (HB.out.at 1 rfl)
  rw [HE0.out] at c0
  go_wp2_with fail
  refine (HS.out _).mono ?_
  rintro e w3 ⟨rfl, k3⟩
  replace HB := Lib.hid (HB.out.none k3)
  clear k3 c0 c1 c2 c3 c4
  obtain ⟨c0, c1, c2, c3, c4⟩ := five_cells (HB.out.at 1 rfl)
  go_wp2_with fail
  go_ret
  exact ⟨congrArg (fun x => Ending.returned (.int .i64 x)) (by first | exact HW1.out.1 | exact HW1.out.2), HB.out.keeps⟩
set_option maxHeartbeats 4000000 in
theorem cell_data (p : Nat → Int) (j : Nat) (w : World) (hj : j < 4) (hp : 0 ≤ p 1 ∧ p 1 ≤ 1000000) (h : rightS (oOf p) = true) : Calls Tryz.prog 140 #[.agg (plC p), .int .i64 3, .int .i64 0, .int .i64 (j : Int)] w fun e w' => e = .returned (.int .i64 (dataP p (j : Int))) ∧ Keeps (fun _ => False) w w' := by
  have HB := Lib.hid ((Has.start w).alloc (.cells (plC p) 145))
  have HO := Lib.hid (fun W => object_any p W)
  have hb : -9223372036854775808 ≤ oOf p 1 ∧ oOf p 1 ≤ 9223372036854775807 := by
    by_cases e : oOf p 0 = 1
    · have := (right_nums h).2.2.1 e; omega
    · have := (right_nums h).2.2.2.1 e; omega
  have hr := fun W => right_any (oOf p) (fun _ => 0) W hb
  rw [h] at hr
  have HR := Lib.hid hr
  have HE := Lib.hid (fun W => entry_zero p W)
  have HD := Lib.hid (fun W => data_any p j W hj hp h)
  clear hr hb h hp hj
  go_enter Tryz.func140, Tryz.ntmps140
  go_wp2_with fail
  refine (HO.out _).mono ?_
  rintro e w1 ⟨rfl, k1⟩
  replace HB := Lib.hid ((HB.out.none k1).alloc (.cells (objC (oOf p) fun _ => 0) 74))
  clear k1
  go_wp2_with fail
  refine (HR.out _).mono ?_
  rintro e w2 ⟨rfl, k2⟩
  replace HB := Lib.hid ((HB.out.none k2).drew)
  clear k2
  have HC := Lib.hid (five_cells (HB.out.at 1 rfl))
  go_wp2_with fail
  go_region_held3 (fun w' => w'.cell? ⟨w.heap.size, 0, none⟩ = some (.int .i64 (p 0)) ∧ w'.cell? ⟨w.heap.size, 1, none⟩ = some (.int .i64 (p 1)) ∧ w'.cell? ⟨w.heap.size, 2, none⟩ = some (.int .i64 (p 2)) ∧ w'.cell? ⟨w.heap.size, 3, none⟩ = some (.int .i64 (p 3)) ∧ w'.cell? ⟨w.heap.size, 4, none⟩ = some (.int .i64 (p 4)))
    (first
      | exact HC.out
      | go_keep)
    (first
      | (go_at_call 177; refine (HE.out _).mono ?_; rintro e9 w9 ⟨rfl, k9⟩; replace HB := Lib.hid (HB.out.none k9); replace HC := Lib.hid (five_cells (HB.out.at 1 rfl)); clear k9)
      | (go_at_call 176; refine (HD.out _).mono ?_; rintro e9 w9 ⟨rfl, k9⟩; replace HB := Lib.hid (HB.out.none k9); replace HC := Lib.hid (five_cells (HB.out.at 1 rfl)); clear k9)
      | fail)
  all_goals
    go_wp2_with fail
    go_ret
    exact ⟨rfl, HB.out.keeps⟩
end Go.Proofs.YthnmlklgbggmbaaGreat
namespace Go.Proofs.YthnmlklgbggmbaaGreat
open Go.ChangeShapes Go.WideShapes Go.ChangeAt Go.RowKit
set_option linter.unusedVariables false
set_option linter.unusedSimpArgs false
/-- Cells written one behind the other. -/
def setsA (cur : Array Value) (o : Nat) : List Value → Array Value
  | [] => cur
  | v :: t => setsA (cur.setIfInBounds o v) (o + 1) t
theorem setsA_size : ∀ (vs : List Value) (cur : Array Value) (o : Nat), (setsA cur o vs).size = cur.size
  | [], _, _ => rfl
  | v :: t, cur, o => by
    show (setsA (cur.setIfInBounds o v) (o + 1) t).size = _
    rw [setsA_size t, Array.size_setIfInBounds]
theorem setsA_out : ∀ (vs : List Value) (cur : Array Value) (o j : Nat), j < o ∨ o + vs.length ≤ j → (setsA cur o vs)[j]? = cur[j]?
  | [], _, _, _, _ => rfl
  | v :: t, cur, o, j, h => by
    show (setsA (cur.setIfInBounds o v) (o + 1) t)[j]? = _
    simp at h
    rw [setsA_out t _ _ _ (by omega), Array.getElem?_setIfInBounds_ne (by omega)]
theorem setsA_in : ∀ (vs : List Value) (cur : Array Value) (o j : Nat) (v : Value), o + vs.length ≤ cur.size → vs[j]? = some v → (setsA cur o vs)[o + j]? = some v
  | [], _, _, j, _, _, h => by cases j <;> cases h
  | x :: t, cur, o, 0, v, hs, h => by
    cases h
    show (setsA (cur.setIfInBounds o x) (o + 1) t)[o + 0]? = _
    simp at hs
    rw [setsA_out t _ _ _ (by omega)]
    exact Array.getElem?_setIfInBounds_self_of_lt (by omega)
  | x :: t, cur, o, j + 1, v, hs, h => by
    show (setsA (cur.setIfInBounds o x) (o + 1) t)[o + (j + 1)]? = _
    simp at hs
    rw [show o + (j + 1) = o + 1 + j by omega]
    exact setsA_in t _ _ j v (by rw [Array.size_setIfInBounds]; omega) h
theorem heap_sets : ∀ (vs : List Value) (o : Nat) (w : World) (b : Nat) (cur : Array Value) (T : TypeId) (fr : Nat × Nat), w.heap[b]? = some (.cells cur T fr) → (w.setCells b o vs).heap[b]? = some (.cells (setsA cur o vs) T fr)
  | [], _, _, _, _, _, _, h => h
  | v :: t, o, w, b, cur, T, fr, h => by
    rw [World.setCells]
    exact heap_sets t (o + 1) _ b _ T fr (heap_set h o v)
theorem Keeps.sets {S : Nat → Prop} {w0 : World} {b : Nat} (hs : S b ∨ w0.heap.size ≤ b) : ∀ (vs : List Value) (o : Nat) (w : World), Keeps S w0 w → Keeps S w0 (w.setCells b o vs)
  | [], _, _, h => h
  | v :: t, o, w, h => by
    rw [World.setCells]
    exact Keeps.sets hs t (o + 1) _ (h.setCell (p := ⟨b, o, Option.none⟩) hs v)
theorem there_of {w : World} {b : Nat} {cur : Array Value} {T : TypeId} (h : w.heap[b]? = some (.cells cur T (0, 0))) (o n : Nat) (hn : o + n ≤ cur.size) : w.there b o n := fun j hj =>
  ⟨by rw [cell_of h (o + j), Array.getElem?_eq_getElem (by omega)]; rfl, free_of h (o + j)⟩
theorem range_below {w w' : World} {B b o : Nat} {cs : List Value} (h : w.rangeAt b o cs) (hb : Below B w w') (hB : b < B) : w'.rangeAt b o cs := fun j v hv => (hb.cell (p := ⟨b, o + j, none⟩) hB).trans (h j v hv)
theorem range_keeps {w w' : World} {b o : Nat} {cs : List Value} (h : w.rangeAt b o cs) (hk : Keeps (fun _ => False) w w') (hl : b < w.heap.size) : w'.rangeAt b o cs := range_below h hk.none hl
end Go.Proofs.YthnmlklgbggmbaaGreat
namespace Go.Proofs.YthnmlklgbggmbaaGreat
open Go.ChangeShapes Go.WideShapes Go.ChangeAt Go.RowKit
set_option linter.unusedVariables false
set_option linter.unusedSimpArgs false
theorem Keeps.far {w w1 w2 : World} {S : Nat → Prop} (h : Keeps (fun _ => False) w w1) (k : Keeps S w1 w2) (hs : ∀ j, S j → w.heap.size ≤ j) : Keeps (fun _ => False) w w2 :=
  ⟨k.os.trans h.os, k.tape.trans h.tape, k.output.trans h.output, Nat.le_trans h.size k.size, fun i hi e => (k.block i (Nat.lt_of_lt_of_le hi h.size) (fun e2 => by have := hs i e2; omega)).trans (h.block i hi e)⟩
/-- The first cell of object i, the places. -/
def preP (ob : Nat → Nat → Int) : Nat → Int
  | 0 => 0
  | i + 1 => preP ob i + sizeP (ob i)
def placeP (ob : Nat → Nat → Int) (i : Nat) : Nat → Int := fun j => match j with | 0 => ob i 0 | 1 => preP ob i | 2 => ob i 1 | 3 => ob i 2 | _ => ob i 3
def zeroPl : Nat → Int := fun _ => 0
/-- A row of places in a block. -/
def PlacesAt (w : World) (g n : Nat) (F : Nat → Nat → Int) : Prop := ∃ cs : Array Value, w.heap[g]? = some (.cells cs 145 (0, 0)) ∧ cs.size = n * 5 ∧ ∀ i, i < n → ∀ (j : Nat) (v : Value), (plC (F i)).toList[j]? = some v → cs[i * 5 + j]? = some v
theorem PlacesAt.keep {S : Nat → Prop} {w w' : World} {g n : Nat} {F : Nat → Nat → Int} (h : PlacesAt w g n F) (k : Keeps S w w') (hs : ¬ S g) : PlacesAt w' g n F := by
  obtain ⟨cs, h1, h2, h3⟩ := h
  exact ⟨cs, k.at h1 hs, h2, h3⟩
theorem PlacesAt.same {w : World} {g n : Nat} {F G : Nat → Nat → Int} (h : PlacesAt w g n F) (e : ∀ i, i < n → F i = G i) : PlacesAt w g n G := by
  obtain ⟨cs, h1, h2, h3⟩ := h
  exact ⟨cs, h1, h2, fun i hi j v hv => h3 i hi j v (by rw [e i hi]; exact hv)⟩
theorem PlacesAt.cell {w : World} {g n : Nat} {F : Nat → Nat → Int} (h : PlacesAt w g n F) {i : Nat} (hi : i < n) {j : Nat} {v : Value} (hv : (plC (F i)).toList[j]? = some v) : w.cell? ⟨g, i * 5 + j, none⟩ = some v := by
  obtain ⟨cs, h1, h2, h3⟩ := h
  rw [cell_of h1]
  exact h3 i hi j v hv
theorem PlacesAt.range {w : World} {g n : Nat} {F : Nat → Nat → Int} (h : PlacesAt w g n F) {i : Nat} (hi : i < n) : w.rangeAt g (i * 5) (plC (F i)).toList := fun j v hv => h.cell hi hv
theorem PlacesAt.lt {w : World} {g n : Nat} {F : Nat → Nat → Int} (h : PlacesAt w g n F) : g < w.heap.size := by obtain ⟨cs, h1, _⟩ := h; exact lt_of h1
theorem PlacesAt.there {w : World} {g n : Nat} {F : Nat → Nat → Int} (h : PlacesAt w g n F) {i : Nat} (hi : i < n) : w.there g (i * 5) 5 := by
  obtain ⟨cs, h1, h2, h3⟩ := h
  exact there_of h1 _ _ (by omega)
/-- A place is put into the row, its first cell behind it. -/
theorem PlacesAt.put {w : World} {g n : Nat} {F : Nat → Nat → Int} (h : PlacesAt w g n F) {i : Nat} (hi : i < n) (p : Nat → Int) (z : Int) (q : Nat → Int) (hq : q 0 = p 0 ∧ q 1 = z ∧ q 2 = p 2 ∧ q 3 = p 3 ∧ q 4 = p 4) :
    PlacesAt ((w.setCells g (i * 5) (plC p).toList).setCell ⟨g, i * 5 + 1, none⟩ (.int .i64 z)) g n (fun k => if k = i then q else F k) := by
  obtain ⟨cs, h1, h2, h3⟩ := h
  have h4 := heap_sets (plC p).toList (i * 5) w g cs _ _ h1
  refine ⟨_, heap_set h4 (i * 5 + 1) _, by rw [Array.size_setIfInBounds, setsA_size]; exact h2, fun k hk j v hv => ?_⟩
  have hj : j < 5 := (List.getElem?_eq_some_iff.1 hv).1
  show ((setsA cs (i * 5) (plC p).toList).setIfInBounds (i * 5 + 1) (.int .i64 z))[k * 5 + j]? = some v
  by_cases e : k = i
  · subst e
    replace hv : (plC (if k = k then q else F k)).toList[j]? = some v := hv
    rw [if_pos rfl] at hv
    by_cases e1 : j = 1
    · subst e1
      rw [Array.getElem?_setIfInBounds_self_of_lt (by rw [setsA_size]; omega)]
      have : Value.int .i64 (q 1) = v := by simpa using hv
      rw [← this, hq.2.1]
    · rw [Array.getElem?_setIfInBounds_ne (by omega)]
      refine setsA_in _ _ _ _ _ (by show k * 5 + 5 ≤ cs.size; omega) ?_
      obtain ⟨q0, _, q2, q3, q4⟩ := hq
      rcases (by omega : j = 0 ∨ j = 2 ∨ j = 3 ∨ j = 4) with rfl | rfl | rfl | rfl
      · simpa [q0] using hv
      · simpa [q2] using hv
      · simpa [q3] using hv
      · simpa [q4] using hv
  · replace hv : (plC (if k = i then q else F k)).toList[j]? = some v := hv
    rw [if_neg e] at hv
    rw [Array.getElem?_setIfInBounds_ne (by omega), setsA_out _ _ _ _ (by show _ ∨ i * 5 + 5 ≤ _; omega)]
    exact h3 k hk j v hv
/-- Objects as a row of an argument. -/
structure ObIn (w : World) (a : Option Addr) (n : Nat) (ob oi : Nat → Nat → Int) : Prop where
  lies : 0 < n → ∃ b off, a = some ⟨b, off, none⟩ ∧ b < w.heap.size ∧ ∀ i, i < n → ∀ j, j < 10 → w.cell? ⟨b, off + i * 10 + j, none⟩ = (objC (ob i) (oi i))[j]?
theorem ObIn.keep {w w' : World} {a : Option Addr} {n : Nat} {ob oi : Nat → Nat → Int} (h : ObIn w a n ob oi) (k : Keeps (fun _ => False) w w') : ObIn w' a n ob oi :=
  ⟨fun hn => by
    obtain ⟨b, off, e, hb, hc⟩ := h.lies hn
    exact ⟨b, off, e, Nat.lt_of_lt_of_le hb k.size, fun i hi j hj => (k.none.cell (p := ⟨b, off + i * 10 + j, none⟩) hb).trans (hc i hi j hj)⟩⟩
theorem begin_any (t n : Int) (T : Nat) (w : World) (h : w.heap[T]? = some (.cells #[.int .i64 t] 3 (0, 0))) (hb : 0 ≤ t ∧ t ≤ 1000000 ∧ 0 ≤ n ∧ n ≤ 1000000) :
    Calls Tryz.prog 123 #[.int .i64 n, .pointer (some ⟨T, 0, none⟩)] w fun e w' => e = .returned (.int .i64 t) ∧ w'.heap[T]? = some (.cells #[.int .i64 (t + n)] 3 (0, 0)) ∧ Keeps (fun j => j = T) w w' := by
  have H := Lib.hid h
  have c0 : w.cell? ⟨T, 0, none⟩ = some (.int .i64 t) := cell_of h 0
  have f0 := free_of h 0
  have e1 : wrap64 (t + n) = t + n := IntWalk.wrap64_in _ ⟨by omega, by omega⟩
  clear h hb
  go_enter Tryz.func123, Tryz.ntmps123
  go_wp2_with fail
  go_ret
  refine ⟨rfl, ?_, ?_⟩
  · have := heap_set H.out 0 (.int .i64 (t + n))
    simpa [e1] using this
  · exact (Keeps.refl (fun j => j = T) w).setCell (p := ⟨T, 0, none⟩) (.inl rfl) _
theorem pre_bound {ob : Nat → Nat → Int} {n : Nat} (hr : ∀ i, i < n → rightS (ob i) = true) : ∀ k, k ≤ n → (k : Int) ≤ preP ob k ∧ preP ob k ≤ 258 * (k : Int)
  | 0, _ => by simp [preP]
  | k + 1, h => by
    have h1 := pre_bound hr k (by omega)
    have h2 := size_bound (hr k (by omega))
    have e : preP ob (k + 1) = preP ob k + sizeP (ob k) := rfl
    rw [e]
    omega
theorem place_info : (Tryz.prog.info? 145).map (·.size) = some 5 := by kernel_rfl
theorem pl_one (a b c d e : Int) : (#[.int .i64 a, .int .i64 b, .int .i64 c, .int .i64 d, .int .i64 e] : Array Value).all (·.oneCell') = true := by simp [Value.oneCell']
theorem obj_info10 : (Tryz.prog.info? 74).map (·.size) = some 10 := by kernel_rfl
theorem pl_zero : (Tryz.prog.info? 145).map (fun i => (i.zero, i.size, i.bytes)) = some (some (.agg #[.int .i64 0, .int .i64 0, .int .i64 0, .int .i64 0, .int .i64 0]), 5, 40) := by kernel_rfl
theorem make_places (w : World) (n : Nat) (hn : n ≤ 1000) : (Instr.makeSlice 80 (.int .i64 (n : Int)) (.int .i64 (n : Int))).run Tryz.prog w = .ok (.slice (some ⟨w.heap.size, 0, none⟩) n n) (w.alloc (.cells (madeCells #[.int .i64 0, .int .i64 0, .int .i64 0, .int .i64 0, .int .i64 0] (n * 5)) 145)) := by
  obtain ⟨i, hi, hz0, hz1, hz2⟩ := info_parts pl_zero
  have h := run_make w 80 145 i (.agg #[.int .i64 0, .int .i64 0, .int .i64 0, .int .i64 0, .int .i64 0]) Tryz.underlying80 hi hz0 .i64 .i64 (n : Int) (n : Int) (by omega) (by omega) (by rw [hz2]; omega) (by omega)
  rw [hz1] at h
  exact h
theorem places_new (w : World) (n : Nat) : PlacesAt (w.alloc (.cells (madeCells #[.int .i64 0, .int .i64 0, .int .i64 0, .int .i64 0, .int .i64 0] (n * 5)) 145)) w.heap.size n (fun _ => zeroPl) :=
  ⟨_, heap_new w _, size_madeCells _ _, fun i hi j v hv => by
    have hj : j < 5 := (List.getElem?_eq_some_iff.1 hv).1
    unfold madeCells
    rw [Array.getElem?_map, Array.getElem?_range, if_pos (by omega)]
    have e : (i * 5 + j) % 5 = j := by omega
    rcases (by omega : j = 0 ∨ j = 1 ∨ j = 2 ∨ j = 3 ∨ j = 4) with rfl | rfl | rfl | rfl | rfl <;> simp [zeroPl] at hv <;> simp [e, ← hv]⟩
end Go.Proofs.YthnmlklgbggmbaaGreat
namespace Go.Proofs.YthnmlklgbggmbaaGreat
open Go.ChangeShapes Go.WideShapes Go.ChangeAt Go.RowKit
set_option linter.unusedVariables false
set_option linter.unusedSimpArgs false
set_option maxRecDepth 20000 in
set_option maxHeartbeats 8000000 in
theorem sof_any (w : World) (a : Option Addr) (n c : Nat) (ob oi : Nat → Nat → Int) (h : ObIn w a n ob oi) (hn : n ≤ 1000) (hr : ∀ i, i < n → rightS (ob i) = true) (hb : ∀ i, i < n → -9223372036854775808 ≤ ob i 1 ∧ ob i 1 ≤ 9223372036854775807) :
    Calls Tryz.prog 71 #[.slice a n c] w fun e w' => e = .returned (.tuple #[.slice (some ⟨w.heap.size, 0, none⟩) n n, .int .i64 (preP ob n)]) ∧ PlacesAt w' w.heap.size n (placeP ob) ∧ Keeps (fun _ => False) w w' := by
  have HH := Lib.hid h
  have hmk := fun w => make_places w n hn
  have HR := Lib.hid hr
  have HBD := Lib.hid hb
  have HPB := Lib.hid (fun k (hk : k ≤ n) => pre_bound hr k hk)
  have hP0 := (places_new w n).keep ((Keeps.refl (fun _ => False) _).alloc (.cells #[.int .i64 0] 3)) (fun h => h)
  have hT0 := heap_new (w.alloc (.cells (madeCells #[.int .i64 0, .int .i64 0, .int .i64 0, .int .i64 0, .int .i64 0] (n * 5)) 145)) (.cells #[.int .i64 0] 3)
  rw [World.size_alloc] at hT0
  have HS0 := Lib.hid (And.intro hP0 (And.intro hT0 (show Keeps (fun _ => False) w ((w.alloc (.cells (madeCells #[.int .i64 0, .int .i64 0, .int .i64 0, .int .i64 0, .int .i64 0] (n * 5)) 145)).alloc (.cells #[.int .i64 0] 3)) from ((Keeps.refl _ w).alloc _).alloc _)))
  clear h hr hb hP0 hT0
  go_enter Tryz.func71, Tryz.ntmps71
  go_wp2_with fail
  go_loopw [16] (fun i wr => ∃ k : Nat, k ≤ n ∧ i = .int .i64 (k : Int) ∧ PlacesAt wr w.heap.size n (fun i => if i < k then placeP ob i else zeroPl) ∧ wr.heap[w.heap.size + 1]? = some (.cells #[.int .i64 (preP ob k)] 3 (0, 0)) ∧ Keeps (fun _ => False) w wr) (fun i _ => n - (intOf i).toNat)
  case atStart => exact ⟨0, by omega, rfl, by simpa using HS0.out.1, HS0.out.2.1, HS0.out.2.2⟩
  case round =>
    clear HS0
    obtain ⟨k, hk, rfl, hpl, htot, hkeep⟩ := hrel
    have HPL := Lib.hid hpl
    have HTO := Lib.hid htot
    have HKE := Lib.hid hkeep
    by_cases hlt : k < n
    · obtain ⟨b, off, rfl, hbl, hc⟩ := HH.out.lies (by omega)
      have HRA := Lib.hid (show wr.rangeAt b (off + k * 10) (objC (ob k) (oi k)).toList from fun j v hv => by
        have hj : j < 10 := (List.getElem?_eq_some_iff.1 hv).1
        rw [hkeep.none.cell (p := ⟨b, off + k * 10 + j, none⟩) hbl, hc k hlt j hj]
        simpa using hv)
      have HNB := Lib.hid (And.intro hpl.lt (lt_of htot))
      have hB1 := heap_new wr (.cells (objC (ob k) (oi k)) 74)
      have k1 : Keeps (fun _ => False) wr (wr.alloc (.cells (objC (ob k) (oi k)) 74)) := (Keeps.refl _ wr).alloc _
      have HS1 := Lib.hid (And.intro hB1 (And.intro (hpl.keep k1 (fun h => h)) (And.intro (k1.at htot (fun h => h)) (hkeep.trans k1))))
      have HSZ := Lib.hid (fun W => size_any4 (ob k) (oi k) W (HBD.out k hlt) (HR.out k hlt))
      have hra := fun W => right_any (ob k) (oi k) W (HBD.out k hlt)
      rw [HR.out k hlt] at hra
      have HRI := Lib.hid hra
      have HSB := Lib.hid (And.intro (size_bound (HR.out k hlt)) (HPB.out k hk))
      have HLT := Lib.hid hlt
      have e0 : decide (k < n) = true := decide_eq_true hlt
      have e0' : decide ((k : Int) < (n : Int)) = true := decide_eq_true (by omega)
      have e3 : (0 : Int) ≤ (k : Int) := by omega
      have e4 : (k : Int) < (n : Int) := by omega
      clear hc hB1 k1 hra hpl htot hkeep
      obtain ⟨B, hBe⟩ : ∃ B, B = wr.heap.size := ⟨_, rfl⟩
      rw [← hBe] at HS1
      have HBE := Lib.hid hBe
      clear hBe
      go_wp2_with (refine wpList_load_mid rfl 74 (.tmp 19) rfl b (off + k * 10) rfl (objC (ob k) (oi k)).toList _ HRA.out Tryz.underlying74 rfl obj_info10 ?_)
      rw [← HBE.out]
      refine (HSZ.out _).mono ?_
      rintro e1 w2 ⟨rfl, k2⟩
      have hB2 := k2.at HS1.out.1 (fun h => h)
      have ht2 := k2.at HS1.out.2.2.1 (fun h => h)
      have hp2 := HS1.out.2.1.keep k2 (fun h => h)
      have hk2 := HS1.out.2.2.2.trans k2
      have hx := HSB.out
      go_wp2_with fail
      refine (begin_any (preP ob k) (sizeP (ob k)) (w.heap.size + 1) w2 ht2 ⟨by omega, by omega, by omega, by omega⟩).mono ?_
      rintro e3' w3 ⟨rfl, ht3, k3⟩
      have hBne : B ≠ w.heap.size + 1 := by rw [HBE.out]; have := HNB.out.2; omega
      have hBne0 : B ≠ w.heap.size := by rw [HBE.out]; have := HNB.out.1; omega
      have hB3 := k3.at hB2 hBne
      have hp3 := hp2.keep k3 (by omega)
      have hk3 := hk2.far k3 (fun j e => by omega)
      have HS3 := Lib.hid (And.intro hB3 (And.intro hp3 (And.intro ht3 hk3)))
      have HNE := Lib.hid (And.intro hBne hBne0)
      clear hB2 ht2 hp2 hk2 k2 k3 hB3 hp3 ht3 hk3 hx hBne hBne0 HS1
      obtain ⟨c0, c1, c2, c3, c4, c5, c6, c7, c8, c9⟩ := ten_cells HS3.out.1
      go_wp2_with fail
      refine (HRI.out _).mono ?_
      rintro e4' w4 ⟨rfl, k4⟩
      have HS4 := Lib.hid (And.intro (k4.at HS3.out.1 (fun h => h)) (And.intro (HS3.out.2.1.keep k4 (fun h => h)) (And.intro (k4.at HS3.out.2.2.1 (fun h => h)) (HS3.out.2.2.2.trans k4))))
      clear c0 c1 c2 c3 c4 c5 c6 c7 c8 c9 k4 HS3
      obtain ⟨c0, c1, c2, c3, c4, c5, c6, c7, c8, c9⟩ := ten_cells HS4.out.1
      have HTH := Lib.hid (HS4.out.2.1.there HLT.out)
      obtain ⟨W5, hW5⟩ : ∃ W5, W5 = w4.setCells w.heap.size (k * 5) (#[.int .i64 (ob k 0), .int .i64 0, .int .i64 (ob k 1), .int .i64 (ob k 2), .int .i64 (ob k 3)] : Array Value).toList := ⟨_, rfl⟩
      have HW5 := Lib.hid hW5
      have HPU := Lib.hid (show PlacesAt (W5.setCell ⟨w.heap.size, k * 5 + 1, none⟩ (.int .i64 (preP ob k))) w.heap.size n (fun i => if i < k + 1 then placeP ob i else zeroPl) by
        rw [hW5]
        refine (HS4.out.2.1.put HLT.out (fun j => match j with | 0 => ob k 0 | 1 => 0 | 2 => ob k 1 | 3 => ob k 2 | _ => ob k 3) (preP ob k) (placeP ob k) ⟨rfl, rfl, rfl, rfl, rfl⟩).same fun i hi => ?_
        by_cases e : i = k
        · subst e
          rw [if_pos rfl, if_pos (by omega)]
        · rw [if_neg e]
          by_cases e2 : i < k
          · rw [if_pos e2, if_pos (by omega)]
          · rw [if_neg e2, if_neg (by omega)])
      have hk5 : Keeps (fun j => j = w.heap.size) w4 W5 := by rw [hW5]; exact Keeps.sets (S := fun j => j = w.heap.size) (.inl rfl) _ _ _ (Keeps.refl _ _)
      have HT5 := Lib.hid (show (W5.setCell ⟨w.heap.size, k * 5 + 1, none⟩ (.int .i64 (preP ob k))).heap[w.heap.size + 1]? = some (.cells #[.int .i64 (preP ob k + sizeP (ob k))] 3 (0, 0)) from (hk5.setCell (p := ⟨w.heap.size, k * 5 + 1, none⟩) (.inl rfl) _).at HS4.out.2.2.1 (by show ¬ (w.heap.size + 1 = w.heap.size); omega))
      have HK5 := Lib.hid (show Keeps (fun _ => False) w (W5.setCell ⟨w.heap.size, k * 5 + 1, none⟩ (.int .i64 (preP ob k))) from HS4.out.2.2.2.far (hk5.setCell (p := ⟨w.heap.size, k * 5 + 1, none⟩) (.inl rfl) _) (fun j e => by omega))
      have HC5 := Lib.hid (show ∃ cs : Array Value, W5.heap[w.heap.size]? = some (.cells cs 145 (0, 0)) from by
        obtain ⟨cs, h1, _⟩ := HS4.out.2.1
        rw [hW5]
        exact ⟨_, heap_sets _ _ _ _ _ _ _ h1⟩)
      obtain ⟨cs5, hcs5⟩ := HC5.out
      have f5 : W5.frozen? ⟨w.heap.size, k * 5 + 1, none⟩ = false := free_of hcs5 _
      have g5 : ∃ v, W5.cell? ⟨w.heap.size, k * 5 + 1, none⟩ = some v := by
        obtain ⟨cs, h1, h2, _⟩ := HS4.out.2.1
        have h3 := heap_sets (#[.int .i64 (ob k 0), .int .i64 0, .int .i64 (ob k 1), .int .i64 (ob k 2), .int .i64 (ob k 3)] : Array Value).toList (k * 5) w4 w.heap.size cs _ _ h1
        rw [← hW5] at h3
        rw [cell_of h3]
        exact ⟨_, Array.getElem?_eq_getElem (by rw [setsA_size]; have := HLT.out; omega)⟩
      obtain ⟨v5, c15⟩ := g5
      clear hW5 hk5 hcs5 HC5 HS4
      go_wp2_with (refine wpList_store_mid rfl 145 (.tmp 38) (.tmp 37) rfl w.heap.size (k * 5) #[.int .i64 (ob k 0), .int .i64 0, .int .i64 (ob k 1), .int .i64 (ob k 2), .int .i64 (ob k 3)] rfl rfl HTH.out place_info (pl_one _ _ _ _ _) ?_; rw [← HW5.out])
      go_roundw
      case rel => exact ⟨k + 1, by have := HLT.out; omega, by go_num, HPU.out, HT5.out, HK5.out⟩
      case measure => simp [intOf]; have := HLT.out; omega
    · obtain rfl : k = n := by omega
      have e0 : decide (k < k) = false := decide_eq_false (by omega)
      have ct := cell_of HTO.out 0
      clear hlt
      go_wp2_with fail
      go_quiet (fail)
      go_wp2_with fail
      refine bodyPost_ret (v := .tuple #[.slice (some ⟨w.heap.size, 0, none⟩) k k, .int .i64 (preP ob k)]) (by simp [results, Tryz.results71, go_sem]) rfl ⟨rfl, (HPL.out.keep ((Keeps.refl (fun _ => False) wr).drewN _) (fun h => h)).same fun i hi => if_pos hi, HKE.out.trans ((Keeps.refl (fun _ => False) wr).drewN _)⟩
end Go.Proofs.YthnmlklgbggmbaaGreat
namespace Go.Proofs.YthnmlklgbggmbaaGreat
open Go.ChangeShapes Go.WideShapes Go.ChangeAt Go.RowKit
set_option linter.unusedVariables false
set_option linter.unusedSimpArgs false
/-- The cell of an initial word; -1: there is none. -/
def firstP (p : Nat → Int) (j : Nat) : Int := if p 0 = 1 then -1 else if p 0 = 4 ∧ j = 0 then p 1 else dataP p (j : Int)
theorem first_any (p : Nat → Int) (j : Nat) (w : World) (hj : j < 4) (hp : 0 ≤ p 1 ∧ p 1 ≤ 1000000) (h : rightS (oOf p) = true) : Calls Tryz.prog 153 #[.agg (plC p), .int .i64 (j : Int)] w fun e w' => e = .returned (.int .i64 (firstP p j)) ∧ Keeps (fun _ => False) w w' := by
  have HB := Lib.hid ((Has.start w).alloc (.cells (plC p) 145))
  by_cases h1 : p 0 = 1
  · have HF := Lib.hid (show firstP p j = -1 by unfold firstP; rw [if_pos h1])
    have e1 : (p 0 == 1) = true := beq_iff_eq.2 h1
    clear h1
    go_enter Tryz.func153, Tryz.ntmps153
    go_wp2_with fail
    go_ret
    exact ⟨by rw [HF.out]; rfl, HB.out.keeps⟩
  have e1 : (p 0 == 1) = false := beq_eq_false_iff_ne.2 h1
  have HD := Lib.hid (fun W => cell_data p j W hj hp h)
  by_cases h4 : p 0 = 4
  · have e4 : (p 0 == 4) = true := beq_iff_eq.2 h4
    by_cases hj0 : j = 0
    · have HF := Lib.hid (show firstP p j = p 1 by unfold firstP; rw [if_neg h1, if_pos ⟨h4, hj0⟩])
      have e5 : ((j : Int) == 0) = true := beq_iff_eq.2 (by omega)
      have HW := Lib.hid (fun W => cell_word p W hp h h4)
      clear h1 h4 hj0 h hp hj
      go_enter Tryz.func153, Tryz.ntmps153
      go_wp2_with fail
      refine (HW.out _).mono ?_
      rintro e w1 ⟨rfl, k1⟩
      replace HB := Lib.hid (HB.out.none k1)
      clear k1
      go_wp2_with fail
      go_ret
      exact ⟨by rw [HF.out]; rfl, HB.out.keeps⟩
    · have HF := Lib.hid (show firstP p j = dataP p (j : Int) by unfold firstP; rw [if_neg h1, if_neg (fun e => hj0 e.2)])
      have e5 : ((j : Int) == 0) = false := beq_eq_false_iff_ne.2 (by omega)
      have e6 : (j = 0) = False := eq_false hj0
      clear h1 h4 hj0 h hp hj
      go_enter Tryz.func153, Tryz.ntmps153
      go_wp2_with fail
      refine (HD.out _).mono ?_
      rintro e w1 ⟨rfl, k1⟩
      replace HB := Lib.hid (HB.out.none k1)
      clear k1
      go_wp2_with fail
      go_ret
      exact ⟨by rw [HF.out]; rfl, HB.out.keeps⟩
  · have e4 : (p 0 == 4) = false := beq_eq_false_iff_ne.2 h4
    have HF := Lib.hid (show firstP p j = dataP p (j : Int) by unfold firstP; rw [if_neg h1, if_neg (fun e => h4 e.1)])
    clear h1 h4 h hp hj
    go_enter Tryz.func153, Tryz.ntmps153
    go_wp2_with fail
    refine (HD.out _).mono ?_
    rintro e w1 ⟨rfl, k1⟩
    replace HB := Lib.hid (HB.out.none k1)
    clear k1
    go_wp2_with fail
    go_ret
    exact ⟨by rw [HF.out]; rfl, HB.out.keeps⟩
end Go.Proofs.YthnmlklgbggmbaaGreat
namespace Go.Proofs.YthnmlklgbggmbaaGreat
open Go.ChangeShapes Go.WideShapes Go.ChangeAt Go.RowKit
set_option linter.unusedVariables false
set_option linter.unusedSimpArgs false
/-- n words in a row. -/
def words (N : Nat → Nat) (n : Nat) : List Value := (List.range n).map fun i => Value.int .u32 (N i)
theorem words_get (N : Nat → Nat) (n i : Nat) (h : i < n) : (words N n).toArray[i]? = some (.int .u32 (N i)) := by simp [words, h]
theorem words_set (N : Nat → Nat) (n i v : Nat) : (words N n).toArray.setIfInBounds i (.int .u32 v) = (words (fun k => if k = i then v else N k) n).toArray := by
  apply Array.ext_getElem?
  intro j
  rw [Array.getElem?_setIfInBounds]
  by_cases hj : j < n
  · rw [words_get N n j hj, words_get _ n j hj]
    by_cases hij : i = j
    · subst hij; simp [words, hj]
    · rw [if_neg hij, if_neg (fun e => hij e.symm)]
  · rw [Array.getElem?_eq_none (by simp [words]; omega), Array.getElem?_eq_none (by simp [words]; omega)]
    split
    · rw [if_neg (by simp [words]; omega)]
    · rfl
/-- Block b is a memory whose n words lie in block q. -/
def IsMem (w : World) (b q n : Nat) (N : Nat → Nat) : Prop :=
  (∃ l s : Int, w.heap[b]? = some (.cells #[.int .i64 l, .int .i64 s, .slice (some ⟨q, 0, none⟩) n n] 234 (0, 0))) ∧ w.heap[q]? = some (.cells (words N n).toArray 38 (0, 0)) ∧ q ≠ b ∧ n ≤ 65536
theorem IsMem.keeps {S : Nat → Prop} {w w' : World} {b q n : Nat} {N : Nat → Nat} (h : IsMem w b q n N) (hk : Keeps S w w') (hb : ¬ S b) (hq : ¬ S q) : IsMem w' b q n N := by
  obtain ⟨⟨l, s, h1⟩, h2, h3⟩ := h
  exact ⟨⟨l, s, hk.at h1 hb⟩, hk.at h2 hq, h3⟩
theorem len_any (b q n : Nat) (N : Nat → Nat) (w : World) (h : IsMem w b q n N) :
    Calls Tryz.prog 154 #[.pointer (some ⟨b, 0, none⟩)] w fun e w' => e = .returned (.int .i64 n) ∧ w = w' := by
  obtain ⟨⟨l, s, h1⟩, h2, h3⟩ := h
  have c2 : w.cell? ⟨b, 2, none⟩ = some (.slice (some ⟨q, 0, none⟩) n n) := cell_of h1 2
  clear h1 h2
  go_enter Tryz.func154, Tryz.ntmps154
  go_wp2
  go_ret
  exact ⟨rfl, rfl⟩
theorem IsMem.none {w w' : World} {b q n : Nat} {N : Nat → Nat} (h : IsMem w b q n N) (hk : Keeps (fun _ => False) w w') : IsMem w' b q n N := h.keeps hk (fun h => h) (fun h => h)
theorem made_words (n : Nat) : madeCells #[Value.int .u32 0] n = (words (fun _ => 0) n).toArray := by
  apply Array.ext <;> simp [madeCells, Nat.mod_one, words]
theorem cnew_any (n : Nat) (hn : n ≤ 65536) (w : World) :
    Calls Tryz.prog 155 #[.int .i64 n] w fun e w' => e = .returned (.pointer (some ⟨w.heap.size + 1, 0, none⟩)) ∧ IsMem w' (w.heap.size + 1) w.heap.size n (fun _ => 0) ∧ Keeps (fun _ => False) w w' := by
  have hmk := run_make_row' (P := Tryz.prog) 41 38 (.int .u32 0) 4 Tryz.underlying41 (by kernel_rfl) rfl .i64 .i64 n (by omega) (by omega)
  have e1 : max (n : Int) 0 = n := by omega
  have e2 : min (n : Int) 65536 = n := by omega
  go_enter Tryz.func155, Tryz.ntmps155
  go_wp2_with fail
  go_ret
  have e : ∀ o o2, ((w.alloc o).alloc o2).heap[w.heap.size + 1]? = some o2 := fun o o2 => by
    have := heap_new (w.alloc o) o2
    rwa [show (w.alloc o).heap.size = w.heap.size + 1 by simp] at this
  have hg : (w.alloc (.cells (madeCells #[.int .u32 0] n) 38)).heap[w.heap.size]? = some (.cells (words (fun _ => 0) n).toArray 38 (0, 0)) := by
    rw [made_words]; exact heap_new _ _
  exact ⟨rfl, ⟨⟨0, 0, e _ _⟩, heap_old hg _, by omega, hn⟩, ((Keeps.refl _ _).alloc _).alloc _⟩
/-- All the words, in a new row. -/
theorem all_any (b q n : Nat) (N : Nat → Nat) (w : World) (h : IsMem w b q n N) :
    Calls Tryz.prog 110 #[.pointer (some ⟨b, 0, none⟩)] w fun e w' => e = .returned (.slice (some ⟨w.heap.size, 0, none⟩) n n) ∧ w'.heap[w.heap.size]? = some (.cells (words N n).toArray 38 (0, 0)) ∧ Keeps (fun _ => False) w w' := by
  have H := Lib.hid h
  obtain ⟨⟨l, s, h1⟩, h2, h3, hn⟩ := h
  have lb := lt_of h1
  have lq := lt_of h2
  have hmk := run_make_row' (P := Tryz.prog) 41 38 (.int .u32 0) 4 Tryz.underlying41 (by kernel_rfl) rfl .i64 .i64 n (by omega) (by omega)
  have hsz : (Tryz.prog.info? 38).map (·.size) = some 1 := by kernel_rfl
  have c2 : w.cell? ⟨b, 2, none⟩ = some (.slice (some ⟨q, 0, none⟩) n n) := cell_of h1 2
  have hg : (w.alloc (.cells (madeCells #[.int .u32 0] n) 38)).heap[w.heap.size]? = some (.cells (words (fun _ => 0) n).toArray 38 (0, 0)) := by
    rw [made_words]; exact heap_new _ _
  have ka : Keeps (fun _ => False) w (w.alloc (.cells (madeCells #[.int .u32 0] n) 38)) := (Keeps.refl _ _).alloc _
  have hp : ∀ (j : Nat) (v : Value), (words N n)[j]? = some v → (w.alloc (.cells (madeCells #[.int .u32 0] n) 38)).cell? ((⟨q, 0, none⟩ : Addr).add j) = some v := by
    intro j v hj
    have e : ((⟨q, 0, none⟩ : Addr).add j) = ⟨q, j, none⟩ := by simp [Addr.add]; omega
    rw [e, cell_of (heap_old h2 _)]
    simpa using hj
  have HG := Lib.hid hg
  have HP := Lib.hid hp
  have HBel := Lib.hid ka.none
  clear hg hp ka h1 h2
  go_enter Tryz.func110, Tryz.ntmps110
  go_wp2_with (first
    | (go_at_call 154; refine (len_any _ _ _ _ _ H.out).mono ?_; rintro e w' ⟨rfl, rfl⟩)
    | (refine wpList_copy_splice rfl (.tmp 9) (.tmp 13) 41 41 rfl 38 Tryz.underlying41 hsz _ _ n n n n rfl rfl w.heap.size 0 (words (fun _ => 0) n) 38 HG.out (words N n) (by simp [words]) (fun _ => ⟨rfl, ⟨q, 0, none⟩, rfl, HP.out⟩) (by simp [words]) (by simp [words, Value.oneCell']) w.heap.size w HBel.out (Nat.le_refl _) ?_; intro w4 hg4 hb4))
  go_ret
  have e : splice (words (fun _ => 0) n) 0 (words N n) = words N n := by simp [splice, words]
  have hg5 := hg4.out
  rw [e] at hg5
  exact ⟨rfl, hg5, ⟨hb4.os, hb4.tape, hb4.output, hb4.size, fun k hk _ => hb4.block k hk⟩⟩
theorem of_zero (a0 : Option Addr) (cap0 : Nat) (N : Nat → Nat) (w : World) :
    Calls Tryz.prog 111 #[.slice a0 0 cap0] w fun e w' => e = .returned (.pointer (some ⟨w.heap.size + 1, 0, none⟩)) ∧ IsMem w' (w.heap.size + 1) w.heap.size 0 N ∧ Keeps (fun _ => False) w w' := by
  have hsz : (Tryz.prog.info? 38).map (·.size) = some 1 := by kernel_rfl
  have HN := Lib.hid (cnew_any 0 (by omega) w)
  go_enter Tryz.func111, Tryz.ntmps111
  go_wp2_with fail
  refine HN.out.mono ?_
  rintro e w1 ⟨rfl, h1, k1⟩
  have c2 : w1.cell? ⟨w.heap.size + 1, 2, none⟩ = some (.slice (some ⟨w.heap.size, 0, none⟩) 0 0) := by
    obtain ⟨l, s, hb⟩ := h1.1
    exact cell_of hb 2
  have H1 := Lib.hid h1
  clear h1 HN
  go_wp2_with (refine wpList_copy_nothing rfl (.tmp 10) (.tmp 11) 41 41 rfl 38 Tryz.underlying41 hsz _ _ 0 0 0 cap0 rfl rfl rfl ?_)
  go_ret
  obtain ⟨m1, m2, m3⟩ := H1.out
  exact ⟨rfl, ⟨m1, m2, m3⟩, k1⟩
theorem of_some (b0 off n cap0 : Nat) (N : Nat → Nat) (w : World) (hn : n ≤ 65536) (hpos : 0 < n) (hb : b0 < w.heap.size) (hc : ∀ i, i < n → w.cell? ⟨b0, off + i, none⟩ = some (.int .u32 (N i))) :
    Calls Tryz.prog 111 #[.slice (some ⟨b0, off, none⟩) n cap0] w fun e w' => e = .returned (.pointer (some ⟨w.heap.size + 1, 0, none⟩)) ∧ IsMem w' (w.heap.size + 1) w.heap.size n N ∧ Keeps (fun _ => False) w w' := by
  have hsz : (Tryz.prog.info? 38).map (·.size) = some 1 := by kernel_rfl
  have HN := Lib.hid (cnew_any n hn w)
  have HC := Lib.hid hc
  clear hc
  go_enter Tryz.func111, Tryz.ntmps111
  go_wp2_with fail
  refine HN.out.mono ?_
  rintro e w1 ⟨rfl, h1, k1⟩
  have c2 : w1.cell? ⟨w.heap.size + 1, 2, none⟩ = some (.slice (some ⟨w.heap.size, 0, none⟩) n n) := by
    obtain ⟨l, s, hb⟩ := h1.1
    exact cell_of hb 2
  have hp : ∀ (j : Nat) (v : Value), (words N n)[j]? = some v → w1.cell? ((⟨b0, off, none⟩ : Addr).add j) = some v := by
    intro j v hj
    have hjn : j < n := by
      rcases Nat.lt_or_ge j n with h1 | h1
      · exact h1
      · rw [List.getElem?_eq_none (by simpa [words] using h1)] at hj; cases hj
    have hv : v = .int .u32 (N j) := by simpa [words, hjn] using hj.symm
    have e : ((⟨b0, off, none⟩ : Addr).add j) = ⟨b0, off + j, none⟩ := by
      simp only [Addr.add]
      by_cases h : j = 0 <;> simp [h]
    rw [e, hv, ← HC.out j hjn]
    exact World.cell?_of_block (w := w) (k1.block b0 hb fun h => h)
  have H1 := Lib.hid h1
  have HP := Lib.hid hp
  clear h1 HN hp
  go_wp2_with (refine wpList_copy_own rfl (.tmp 10) (.tmp 11) 41 41 rfl 38 Tryz.underlying41 hsz w.heap.size 0 n n ⟨b0, off, none⟩ n cap0 rfl rfl _ 38 H1.out.2.1 (words N n) (by simp [words]) HP.out (by simp [words]) (by simp [words, Value.oneCell']) ?_)
  go_ret
  obtain ⟨⟨l, s, m1⟩, m2, m3, m4⟩ := H1.out
  exact ⟨rfl, ⟨⟨l, s, (setRow_other _ _ _ _ (by omega)).trans m1⟩, (setRow_heap _ _ _ _ _ _ m2).trans (by simp [words]), m3, m4⟩, k1.setRow (.inr (Nat.le_refl _)) _⟩
end Go.Proofs.YthnmlklgbggmbaaGreat
namespace Go.Proofs.YthnmlklgbggmbaaGreat
open Go.ChangeShapes Go.WideShapes Go.ChangeAt Go.RowKit
set_option linter.unusedVariables false
set_option linter.unusedSimpArgs false
/-- A word is put at a cell, if it is there. -/
def putW (N : Nat → Nat) (len : Nat) (a : Int) (v : Nat) : Nat → Nat := if 0 ≤ a ∧ a < (len : Int) then fun k => if k = a.toNat then v else N k else N
/-- The first words of object i. -/
def inW (ob oi : Nat → Nat → Int) (len i : Nat) : Nat → (Nat → Nat) → Nat → Nat
  | 0, N => N
  | j + 1, N => putW (inW ob oi len i j N) len (firstP (placeP ob i) j) (oi i j).toNat
def stW (ob oi : Nat → Nat → Int) (len : Nat) : Nat → Nat → Nat
  | 0 => fun _ => 0
  | i + 1 => inW ob oi len i 4 (stW ob oi len i)
/-- The initial words of objects. -/
def startW (ob oi : Nat → Nat → Int) (n : Nat) : Nat → Nat := stW ob oi (preP ob n).toNat n
theorem oOf_place (ob : Nat → Nat → Int) (i : Nat) : rightS (oOf (placeP ob i)) = rightS (ob i) := rfl
theorem make_words (w : World) (n : Nat) (hn : n ≤ 65536) : (Instr.makeSlice 41 (.int .i64 (n : Int)) (.int .i64 (n : Int))).run Tryz.prog w = .ok (.slice (some ⟨w.heap.size, 0, none⟩) n n) (w.alloc (.cells (words (fun _ => 0) n).toArray 38)) := by
  have h := run_make_row' (P := Tryz.prog) (w := w) 41 38 (.int .u32 0) 4 Tryz.underlying41 (by kernel_rfl) rfl .i64 .i64 n (by omega) (by omega)
  rw [← made_words]
  exact h
/-- What Start stands on: the places, the words. -/
structure StB (w W : World) (g q n tn : Nat) (ob : Nat → Nat → Int) (N : Nat → Nat) : Prop where
  keeps : Keeps (fun _ => False) w W
  pl : PlacesAt W g n (placeP ob)
  ws : W.heap[q]? = some (.cells (words N tn).toArray 38 (0, 0))
theorem StB.none {w W W' : World} {g q n tn : Nat} {ob : Nat → Nat → Int} {N : Nat → Nat} (h : StB w W g q n tn ob N) (k : Keeps (fun _ => False) W W') : StB w W' g q n tn ob N :=
  ⟨h.keeps.trans k, h.pl.keep k (fun h => h), k.at h.ws (fun h => h)⟩
theorem StB.put {w W : World} {g q n tn : Nat} {ob : Nat → Nat → Int} {N : Nat → Nat} (h : StB w W g q n tn ob N) (hg : g ≠ q) (hq : w.heap.size ≤ q) (i v : Nat) : StB w (W.setCell ⟨q, i, Option.none⟩ (.int .u32 (v : Int))) g q n tn ob (fun k => if k = i then v else N k) :=
  have hk : Keeps (fun j => j = q) W (W.setCell ⟨q, i, Option.none⟩ (.int .u32 (v : Int))) := (Keeps.refl (fun j => j = q) W).setCell (p := ⟨q, i, Option.none⟩) (.inl rfl) _
  ⟨h.keeps.far hk (fun j e => by omega), h.pl.keep hk hg, by rw [← words_set]; exact heap_set h.ws i _⟩
theorem of_words (w : World) (q n : Nat) (N : Nat → Nat) (h : w.heap[q]? = some (.cells (words N n).toArray 38 (0, 0))) (hn : n ≤ 65536) :
    Calls Tryz.prog 111 #[.slice (some ⟨q, 0, none⟩) n n] w fun e w' => ∃ b q', e = .returned (.pointer (some ⟨b, 0, none⟩)) ∧ IsMem w' b q' n N ∧ Keeps (fun _ => False) w w' := by
  by_cases hp : 0 < n
  · refine (of_some q 0 n n N w hn hp (lt_of h) (fun i hi => by rw [cell_of h]; simpa using words_get N n i hi)).mono ?_
    rintro e w' ⟨h1, h2, h3⟩
    exact ⟨_, _, h1, h2, h3⟩
  · obtain rfl : n = 0 := by omega
    refine (of_zero _ 0 N w).mono ?_
    rintro e w' ⟨h1, h2, h3⟩
    exact ⟨_, _, h1, h2, h3⟩
theorem value_ix (w : World) (a b c d : Int) (j : Nat) (hj : j < 4) (v : Int) (hv : v = (match j with | 0 => a | 1 => b | 2 => c | _ => d)) : (Instr.index 72 (.agg #[.int .u32 a, .int .u32 b, .int .u32 c, .int .u32 d]) (.int .i64 (j : Int))).run Tryz.prog w = .ok (.int .u32 v) w := by
  subst hv
  rcases (by omega : j = 0 ∨ j = 1 ∨ j = 2 ∨ j = 3) with rfl | rfl | rfl | rfl <;> kernel_rfl
theorem value_info : (Tryz.prog.info? 72).map (·.size) = some 4 := by kernel_rfl
set_option maxRecDepth 20000 in
set_option maxHeartbeats 8000000 in
theorem start_any (w : World) (a : Option Addr) (n c : Nat) (ob oi : Nat → Nat → Int) (h : ObIn w a n ob oi) (hn : n ≤ 16) (hr : ∀ i, i < n → rightS (ob i) = true) (hb : ∀ i, i < n → -9223372036854775808 ≤ ob i 1 ∧ ob i 1 ≤ 9223372036854775807) (ho : ∀ i, i < n → ∀ j, j < 4 → 0 ≤ oi i j) :
    Calls Tryz.prog 109 #[.slice a n c] w fun e w' => ∃ b q, e = .returned (.pointer (some ⟨b, 0, none⟩)) ∧ IsMem w' b q (preP ob n).toNat (startW ob oi n) ∧ Keeps (fun _ => False) w w' := by
  have HH := Lib.hid h
  have HR := Lib.hid hr
  have HO := Lib.hid ho
  have HSO := Lib.hid (sof_any w a n c ob oi h (by omega) hr hb)
  have HPB := Lib.hid (fun k (hk : k ≤ n) => pre_bound hr k hk)
  have hpb := HPB.out n (Nat.le_refl _)
  obtain ⟨tn, htn⟩ : ∃ tn : Nat, preP ob n = (tn : Int) := ⟨(preP ob n).toNat, by omega⟩
  have HTN := Lib.hid htn
  have hm1 : min (tn : Int) 65536 = (tn : Int) := by omega
  have hmk := fun W => make_words W tn (by omega)
  have HSM := Lib.hid (show startW ob oi n = stW ob oi tn n by unfold startW; rw [htn]; rfl)
  have HTL := Lib.hid (show tn ≤ 65536 by omega)
  rw [HSM.out]
  rw [htn] at HSO ⊢
  rw [Int.toNat_natCast]
  clear h hr hb ho hpb htn HSM
  go_enter Tryz.func109, Tryz.ntmps109
  go_wp2_with fail
  refine HSO.out.mono ?_
  rintro e1 w1 ⟨rfl, hpl, hk⟩
  obtain ⟨g, hg⟩ : ∃ g, g = w.heap.size := ⟨_, rfl⟩
  rw [← hg] at hpl ⊢
  have hwq : w.heap.size ≤ w1.heap.size := hk.size
  have hgq : g ≠ w1.heap.size := by have := hpl.lt; omega
  have HS0 := Lib.hid (show StB w (w1.alloc (.cells (words (fun _ => 0) tn).toArray 38)) g w1.heap.size n tn ob (stW ob oi tn 0) from ⟨hk.alloc _, hpl.keep ((Keeps.refl (fun _ => False) w1).alloc _) (fun h => h), heap_new w1 _⟩)
  have HGQ := Lib.hid (And.intro hgq hwq)
  clear hpl hk hgq hg hwq HSO
  go_wp2_with fail
  obtain ⟨q, hq⟩ : ∃ q, q = w1.heap.size := ⟨_, rfl⟩
  rw [← hq] at HS0 HGQ
  try rw [← hq]
  have HQ := Lib.hid hq
  clear hq
  go_loopw [21] (fun i W => ∃ k : Nat, k ≤ n ∧ i = .int .i64 (k : Int) ∧ StB w W g q n tn ob (stW ob oi tn k)) (fun i _ => n - (intOf i).toNat)
  case atStart => exact ⟨0, Nat.zero_le _, rfl, HS0.out⟩
  case round =>
    clear HS0
    obtain ⟨k, hk, rfl, hs⟩ := hrel
    have HS := Lib.hid hs
    clear hs
    by_cases hlt : k < n
    · obtain ⟨b, off, rfl, hbl, hc⟩ := HH.out.lies (by omega)
      have HRA := Lib.hid (HS.out.pl.range hlt)
      have HRV := Lib.hid (show wr.rangeAt b (off + k * 10 + 6) [.int .u32 (oi k 0), .int .u32 (oi k 1), .int .u32 (oi k 2), .int .u32 (oi k 3)] from fun j v hv => by
        have hj : j < 4 := (List.getElem?_eq_some_iff.1 hv).1
        rw [HS.out.keeps.none.cell (p := ⟨b, off + k * 10 + 6 + j, none⟩) hbl]
        have := hc k hlt (6 + j) (by omega)
        rw [show off + k * 10 + (6 + j) = off + k * 10 + 6 + j by omega] at this
        rw [this]
        rcases (by omega : j = 0 ∨ j = 1 ∨ j = 2 ∨ j = 3) with rfl | rfl | rfl | rfl <;> simpa using hv)
      have k1 : Keeps (fun _ => False) wr (wr.alloc (.cells (plC (placeP ob k)) 145)) := (Keeps.refl _ wr).alloc _
      have HS1 := Lib.hid (And.intro (HS.out.none k1) (heap_new wr (.cells (plC (placeP ob k)) 145)))
      have hBq : wr.heap.size ≠ q := by have := lt_of HS.out.ws; omega
      have HPB1 := Lib.hid (HPB.out k hk)
      have e0 : decide (k < n) = true := decide_eq_true hlt
      have e0' : decide ((k : Int) < (n : Int)) = true := decide_eq_true (by omega)
      have e3 : (0 : Int) ≤ (k : Int) := by omega
      have e4 : (k : Int) < (n : Int) := by omega
      have HLT := Lib.hid (And.intro hlt hBq)
      clear hc k1 hBq
      obtain ⟨B, hBe⟩ : ∃ B, B = wr.heap.size := ⟨_, rfl⟩
      rw [← hBe] at HS1 HLT
      have HBE := Lib.hid hBe
      obtain ⟨W1, hW1⟩ : ∃ W1, W1 = wr.alloc (.cells (plC (placeP ob k)) 145) := ⟨_, rfl⟩
      rw [← hW1] at HS1
      have HW1 := Lib.hid hW1
      have HRV1 := Lib.hid (show (wr.alloc (.cells (plC (placeP ob k)) 145)).rangeAt b (off + k * 10 + 6) [.int .u32 (oi k 0), .int .u32 (oi k 1), .int .u32 (oi k 2), .int .u32 (oi k 3)] from range_keeps HRV.out ((Keeps.refl _ wr).alloc _) (Nat.lt_of_lt_of_le hbl HS.out.keeps.size))
      clear hBe hW1 HRV
      go_wp2_with (first
        | (refine wpList_load_mid rfl 145 (.tmp 24) rfl g (k * 5) rfl (plC (placeP ob k)).toList _ HRA.out Tryz.underlying145 rfl place_info ?_)
        | (refine wpList_load_mid rfl 72 (.tmp 29) rfl b (off + k * 10 + 6) rfl [.int .u32 (oi k 0), .int .u32 (oi k 1), .int .u32 (oi k 2), .int .u32 (oi k 3)] _ HRV1.out Tryz.underlying72 rfl value_info ?_))
      rw [← HBE.out]
      rw [← HW1.out]
      clear HRA HRV1 HW1
      go_loopw [31] (fun x W => ∃ j : Nat, j ≤ 4 ∧ x = .int .i64 (j : Int) ∧ StB w W g q n tn ob (inW ob oi tn k j (stW ob oi tn k)) ∧ W.heap[B]? = some (.cells (plC (placeP ob k)) 145 (0, 0))) (fun x _ => 4 - (intOf x).toNat)
      case atStart => exact ⟨0, by omega, rfl, HS1.out.1, HS1.out.2⟩
      case round =>
        clear HS1
        rename World => W
        obtain ⟨j, hj, rfl, hs, hbx⟩ := hrel
        have HS := Lib.hid (And.intro hs hbx)
        clear hs
        by_cases hj4 : j < 4
        · have HF := Lib.hid (fun X => first_any (placeP ob k) j X hj4 (by show 0 ≤ preP ob k ∧ preP ob k ≤ 1000000; have := HPB1.out; omega) ((oOf_place ob k).trans (HR.out k HLT.out.1)))
          obtain ⟨vn, hvn⟩ : ∃ vn : Nat, oi k j = (vn : Int) := ⟨(oi k j).toNat, by have := HO.out k HLT.out.1 j hj4; omega⟩
          have HX := Lib.hid (fun X => value_ix X (oi k 0) (oi k 1) (oi k 2) (oi k 3) j hj4 (vn : Int) (by rw [← hvn]; rcases (by omega : j = 0 ∨ j = 1 ∨ j = 2 ∨ j = 3) with rfl | rfl | rfl | rfl <;> rfl))
          have hix := fun X => HX.out X
          have HN := Lib.hid (show inW ob oi tn k (j + 1) (stW ob oi tn k) = putW (inW ob oi tn k j (stW ob oi tn k)) tn (firstP (placeP ob k) j) vn by
            have : (oi k j).toNat = vn := by omega
            show putW _ _ _ _ = _
            rw [this])
          have f0 : decide (j < 4) = true := decide_eq_true hj4
          have f0' : decide ((j : Int) < 4) = true := decide_eq_true (by omega)
          have HJ := Lib.hid hj4
          obtain ⟨c0, c1, c2, c3, c4⟩ := five_cells hbx
          clear hbx hvn
          go_wp2_with fail
          refine (HF.out _).mono ?_
          rintro e5 w5 ⟨rfl, k5⟩
          have HS5 := Lib.hid (And.intro (HS.out.1.none k5) (k5.at HS.out.2 (fun h => h)))
          clear c0 c1 c2 c3 c4 k5 hix
          generalize firstP (placeP ob k) j = fp at *
          generalize inW ob oi tn k j (stW ob oi tn k) = N at *
          by_cases h0 : 0 ≤ fp
          · obtain ⟨m, rfl⟩ : ∃ m : Nat, fp = (m : Int) := ⟨fp.toNat, by omega⟩
            have d0 : decide ((0 : Int) ≤ (m : Int)) = true := decide_eq_true h0
            by_cases h1 : m < tn
            · have d1 : decide (m < tn) = true := decide_eq_true h1
              have d1' : decide ((m : Int) < (tn : Int)) = true := decide_eq_true (by omega)
              have d2 : (m : Int) < (tn : Int) := by omega
              have HP := Lib.hid (show putW N tn (m : Int) vn = fun k => if k = m then vn else N k by unfold putW; rw [if_pos ⟨h0, d2⟩, Int.toNat_natCast])
              have cc : w5.cell? ⟨q, m, none⟩ = some (.int .u32 (N m : Int)) := by rw [cell_of HS5.out.1.ws]; exact words_get N tn m h1
              have ff : w5.frozen? ⟨q, m, none⟩ = false := free_of HS5.out.1.ws m
              have HS6 := Lib.hid (HS5.out.1.put HGQ.out.1 HGQ.out.2 m vn)
              have HB6 := Lib.hid (show (w5.setCell ⟨q, m, none⟩ (.int .u32 (vn : Int))).heap[B]? = some (.cells (plC (placeP ob k)) 145 (0, 0)) from ((Keeps.refl (fun j => j = q) w5).setCell (p := ⟨q, m, none⟩) (.inl rfl) _).at HS5.out.2 HLT.out.2)
              go_wp2_with fail
              go_roundw
              case rel => exact ⟨j + 1, by have := HJ.out; omega, by go_num, by rw [HN.out, HP.out]; exact HS6.out, HB6.out⟩
              case measure => simp [intOf]; have := HJ.out; omega
            · have d1 : decide (m < tn) = false := decide_eq_false h1
              have d1' : decide ((m : Int) < (tn : Int)) = false := decide_eq_false (by omega)
              have HP := Lib.hid (show putW N tn (m : Int) vn = N by unfold putW; rw [if_neg (by omega)])
              go_wp2_with fail
              go_roundw
              case rel => exact ⟨j + 1, by have := HJ.out; omega, by go_num, by rw [HN.out, HP.out]; exact HS5.out.1, HS5.out.2⟩
              case measure => simp [intOf]; have := HJ.out; omega
          · have d0 : decide (0 ≤ fp) = false := decide_eq_false h0
            have HP := Lib.hid (show putW N tn fp vn = N by unfold putW; rw [if_neg (by omega)])
            go_wp2_with fail
            go_roundw
            case rel => exact ⟨j + 1, by have := HJ.out; omega, by go_num, by rw [HN.out, HP.out]; exact HS5.out.1, HS5.out.2⟩
            case measure => simp [intOf]; have := HJ.out; omega
        · obtain rfl : j = 4 := by omega
          have f0 : decide ((4 : Nat) < 4) = false := rfl
          have HE := Lib.hid (show stW ob oi tn (k + 1) = inW ob oi tn k 4 (stW ob oi tn k) from rfl)
          clear hj4 hbx
          go_wp2_with fail
          go_roundw
          case rel => exact ⟨k + 1, by have := HLT.out.1; omega, by go_num, by rw [HE.out]; exact HS.out.1⟩
          case measure => simp [intOf]; have := HLT.out.1; omega
    · obtain rfl : k = n := by omega
      have e0 : decide (k < k) = false := decide_eq_false (by omega)
      have HOF := Lib.hid (of_words wr q tn _ HS.out.ws HTL.out)
      clear hlt
      go_wp2_with fail
      refine HOF.out.mono ?_
      rintro e7 w7 ⟨b7, q7, rfl, hm7, k7⟩
      have HM := Lib.hid (And.intro hm7 (HS.out.keeps.trans k7))
      clear hm7 k7
      go_wp2_with fail
      go_ret
      exact ⟨b7, q7, rfl, HM.out.1, HM.out.2⟩
end Go.Proofs.YthnmlklgbggmbaaGreat
