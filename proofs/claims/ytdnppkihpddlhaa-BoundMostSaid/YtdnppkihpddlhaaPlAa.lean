import Derived.Test.YtdnppkihpddlhaaConfDF
import Derived.Laws.Rows
namespace Go.Proofs.Ytdnppkihpddlhaa
open Go.ChangeShapes Go.WideShapes Go.ChangeAt Go.RowKit
set_option linter.unusedVariables false
set_option linter.unusedSimpArgs false
/-- The number of cells ahead of the data, the entries, the size. -/
def aheadP (k : Int) : Int := if k = 2 then 4 else if k = 1 then 2 else if k = 3 ∨ k = 4 then 1 else 0
def entP (o : Nat → Int) : Int := if o 0 = 1 then o 1 else if o 0 = 2 then 4 else 1
def sizeP (o : Nat → Int) : Int := if rightS o = true then aheadP (o 0) + entP o * o 2 else 0
theorem ahead_any (k : Int) (w : World) : Calls Try.prog 23 #[.int .i64 k] w fun e w' => e = .returned (.int .i64 (aheadP k)) ∧ Keeps (fun _ => False) w w' := by
  by_cases h2 : k = 2
  · subst h2
    go_enter Try.func23, Try.ntmps23
    go_wp2
    go_ret
    exact ⟨rfl, Keeps.refl _ _⟩
  by_cases h1 : k = 1
  · subst h1
    go_enter Try.func23, Try.ntmps23
    go_wp2
    go_ret
    exact ⟨rfl, Keeps.refl _ _⟩
  by_cases h3 : k = 3
  · subst h3
    go_enter Try.func23, Try.ntmps23
    go_wp2
    go_ret
    exact ⟨rfl, Keeps.refl _ _⟩
  by_cases h4 : k = 4
  · subst h4
    go_enter Try.func23, Try.ntmps23
    go_wp2
    go_ret
    exact ⟨rfl, Keeps.refl _ _⟩
  have HF := Lib.hid (show aheadP k = 0 by unfold aheadP; rw [if_neg h2, if_neg h1, if_neg (by omega)])
  have e1 : (k == 1) = false := beq_eq_false_iff_ne.2 h1
  have e2 : (k == 2) = false := beq_eq_false_iff_ne.2 h2
  have e3 : (k == 3) = false := beq_eq_false_iff_ne.2 h3
  have e4 : (k == 4) = false := beq_eq_false_iff_ne.2 h4
  go_enter Try.func23, Try.ntmps23
  go_wp2
  go_ret
  exact ⟨by rw [HF.out]; rfl, Keeps.refl _ _⟩
theorem entries_any (o oi : Nat → Int) (w : World) : Calls Try.prog 24 #[.agg (objC o oi)] w fun e w' => e = .returned (.int .i64 (entP o)) ∧ Keeps (fun _ => False) w w' := by
  have HB := Lib.hid ((Has.start w).alloc (.cells (objC o oi) 26))
  by_cases h1 : o 0 = 1
  · have HF := Lib.hid (show entP o = o 1 by unfold entP; rw [if_pos h1])
    have e1 : (o 0 == 1) = true := beq_iff_eq.2 h1
    go_enter Try.func24, Try.ntmps24
    go_wp2
    go_ret
    exact ⟨by rw [HF.out]; rfl, HB.out.keeps⟩
  by_cases h2 : o 0 = 2
  · have HF := Lib.hid (show entP o = 4 by unfold entP; rw [if_neg h1, if_pos h2])
    have e1 : (o 0 == 1) = false := beq_eq_false_iff_ne.2 h1
    have e2 : (o 0 == 2) = true := beq_iff_eq.2 h2
    clear h1 h2
    go_enter Try.func24, Try.ntmps24
    go_wp2
    go_ret
    exact ⟨by rw [HF.out]; rfl, HB.out.keeps⟩
  have HF := Lib.hid (show entP o = 1 by unfold entP; rw [if_neg h1, if_neg h2])
  have e1 : (o 0 == 1) = false := beq_eq_false_iff_ne.2 h1
  have e2 : (o 0 == 2) = false := beq_eq_false_iff_ne.2 h2
  clear h1 h2
  go_enter Try.func24, Try.ntmps24
  go_wp2
  go_ret
  exact ⟨by rw [HF.out]; rfl, HB.out.keeps⟩
theorem pow2_pos {n : Int} (h : pow2 n = true) : 1 ≤ n := Int.not_lt.1 fun hl => by rw [pow2_low n hl] at h; cases h
/-- What the numbers of a valid object are. -/
theorem right_nums {o : Nat → Int} (h : rightS o = true) : 1 ≤ o 0 ∧ o 0 ≤ 4 ∧ (o 0 = 1 → 1 ≤ o 1 ∧ o 1 ≤ 64) ∧ (o 0 ≠ 1 → o 1 = 0) ∧ (o 0 = 4 → o 2 = 0) ∧ (o 0 ≠ 4 → 1 ≤ o 2 ∧ o 2 ≤ 4) := by
  unfold rightS at h
  simp only [Bool.and_eq_true, decide_eq_true_eq] at h
  obtain ⟨⟨h1, h2⟩, h3, h4, h5⟩ := h
  refine ⟨h1, h2, fun e => ?_, fun e => ?_, fun e => ?_, fun e => ?_⟩
  · rw [if_pos e] at h3
    simp only [Bool.and_eq_true, decide_eq_true_eq] at h3
    exact ⟨pow2_pos h3.1, h3.2⟩
  · rw [if_neg e] at h3
    simpa using h3
  · rw [if_pos e] at h4
    simpa using h4
  · rw [if_neg e] at h4
    simp only [Bool.and_eq_true, decide_eq_true_eq] at h4
    exact h4
theorem size_bound {o : Nat → Int} (h : rightS o = true) : 1 ≤ sizeP o ∧ sizeP o ≤ 258 := by
  obtain ⟨h1, h2, h3, h4, h5, h6⟩ := right_nums h
  unfold sizeP
  rw [if_pos h]
  unfold aheadP entP
  rcases (by omega : o 0 = 1 ∨ o 0 = 2 ∨ o 0 = 3 ∨ o 0 = 4) with e | e | e | e
  · have a := h3 e
    have b := h6 (by omega)
    rw [if_neg (by omega), if_pos e, if_pos e]
    have m1 : 1 * 1 ≤ o 1 * o 2 := Int.mul_le_mul a.1 b.1 (by omega) (by omega)
    have m2 : o 1 * o 2 ≤ 64 * 4 := Int.mul_le_mul a.2 b.2 (by omega) (by omega)
    omega
  · have b := h6 (by omega)
    rw [if_pos e, if_neg (by omega), if_pos e]
    omega
  · have b := h6 (by omega)
    rw [if_neg (by omega), if_neg (by omega), if_pos (by omega), if_neg (by omega), if_neg (by omega)]
    omega
  · have b := h5 e
    rw [if_neg (by omega), if_neg (by omega), if_pos (by omega), if_neg (by omega), if_neg (by omega)]
    omega
set_option maxHeartbeats 4000000 in
theorem size_any4 (o oi : Nat → Int) (w : World) (hb : -9223372036854775808 ≤ o 1 ∧ o 1 ≤ 9223372036854775807) (h : rightS o = true) : Calls Try.prog 14 #[.agg (objC o oi)] w fun e w' => e = .returned (.int .i64 (sizeP o)) ∧ Keeps (fun _ => False) w w' := by
  have HB := Lib.hid ((Has.start w).alloc (.cells (objC o oi) 26))
  have HR := Lib.hid (fun W => right_any o oi W hb)
  have HA := Lib.hid (fun W => ahead_any (o 0) W)
  have HE := Lib.hid (fun W => entries_any o oi W)
  have hsz := size_bound h
  have HF := Lib.hid (show sizeP o = aheadP (o 0) + entP o * o 2 by unfold sizeP; rw [if_pos h])
  rw [HF.out] at hsz
  have ha : 0 ≤ aheadP (o 0) ∧ aheadP (o 0) ≤ 4 := by unfold aheadP; repeat' split <;> omega
  have e1 : wrap64 (entP o * o 2) = entP o * o 2 := IntWalk.wrap64_in _ ⟨by omega, by omega⟩
  have e2 : wrap64 (aheadP (o 0) + entP o * o 2) = aheadP (o 0) + entP o * o 2 := IntWalk.wrap64_in _ ⟨by omega, by omega⟩
  have e3 : IntKind.i64.wrap (entP o * o 2) = entP o * o 2 := IntWalk.i64_in _ ⟨by omega, by omega⟩
  have e4 : IntKind.i64.wrap (aheadP (o 0) + entP o * o 2) = aheadP (o 0) + entP o * o 2 := IntWalk.i64_in _ ⟨by omega, by omega⟩
  rw [h] at HR
  clear hsz ha
  generalize aheadP (o 0) = q1 at *
  generalize entP o = q2 at *
  go_enter Try.func14, Try.ntmps14
  go_wp2_with fail
  refine (HR.out _).mono ?_
  rintro e w1 ⟨rfl, k1⟩
  replace HB := Lib.hid (HB.out.none k1)
  clear k1
  replace HB := Lib.hid HB.out.drew
  have HC := Lib.hid (ten_cells (HB.out.at 0 rfl))
  go_wp2_with fail
  go_region_held3 (fun w' => w'.cell? ⟨w.heap.size, 0, none⟩ = some (.int .i64 (o 0)) ∧ w'.cell? ⟨w.heap.size, 1, none⟩ = some (.int .i64 (o 1)) ∧ w'.cell? ⟨w.heap.size, 2, none⟩ = some (.int .i64 (o 2)) ∧ w'.cell? ⟨w.heap.size, 3, none⟩ = some (.int .i64 (o 3)) ∧ w'.cell? ⟨w.heap.size, 4, none⟩ = some (.int .i64 (o 4)) ∧ w'.cell? ⟨w.heap.size, 5, none⟩ = some (.int .i64 (o 5)) ∧ w'.cell? ⟨w.heap.size, 6, none⟩ = some (.int .u32 (oi 0)) ∧ w'.cell? ⟨w.heap.size, 7, none⟩ = some (.int .u32 (oi 1)) ∧ w'.cell? ⟨w.heap.size, 8, none⟩ = some (.int .u32 (oi 2)) ∧ w'.cell? ⟨w.heap.size, 9, none⟩ = some (.int .u32 (oi 3)))
    (first
      | exact HC.out
      | go_keep)
    (first
      | (go_at_call 23; refine (HA.out _).mono ?_; rintro e9 w9 ⟨rfl, k9⟩; replace HB := Lib.hid (HB.out.none k9); replace HC := Lib.hid (ten_cells (HB.out.at 0 rfl)); clear k9)
      | (go_at_call 24; refine (HE.out _).mono ?_; rintro e9 w9 ⟨rfl, k9⟩; replace HB := Lib.hid (HB.out.none k9); replace HC := Lib.hid (ten_cells (HB.out.at 0 rfl)); clear k9)
      | fail)
  all_goals
    go_wp2_with fail
    go_ret
    exact ⟨by rw [HF.out]; rfl, HB.out.keeps⟩
/-- A place's five numbers: kind, first cell, entries, words, tries; its object. -/
@[reducible] def plC (p : Nat → Int) : Array Value := #[.int .i64 (p 0), .int .i64 (p 1), .int .i64 (p 2), .int .i64 (p 3), .int .i64 (p 4)]
def oOf (p : Nat → Int) : Nat → Int := fun j => match j with | 0 => p 0 | 1 => p 2 | 2 => p 3 | 3 => p 4 | _ => 0
theorem object_any (p : Nat → Int) (w : World) : Calls Try.prog 44 #[.agg (plC p)] w fun e w' => e = .returned (.agg (objC (oOf p) fun _ => 0)) ∧ Keeps (fun _ => False) w w' := by
  have HB := Lib.hid (((Has.start w).alloc (.cells (plC p) 41)))
  go_enter Try.func44, Try.ntmps44
  go_wp2_with fail
  have hg := heap_new (w.alloc (.cells (plC p) 41)) (.cells (objC (oOf p) fun _ => 0) 26)
  rw [World.size_alloc] at hg
  refine bodyPost_ret (v := .agg (objC (oOf p) fun _ => 0)) (results_cell_row Try.results44 _ _ (w.heap.size + 1) 26 (objC (oOf p) fun _ => 0) (0, 0) _ rfl hg Try.underlying26 rfl (by kernel_rfl)) rfl ⟨rfl, HB.out.keeps.alloc _⟩
end Go.Proofs.Ytdnppkihpddlhaa
