import Derived.Test.YthnmlklgbggmbaaGreatConfDAq
import Derived.Test.YthnmlklgbggmbaaGreatConfDBq
import Derived.Test.YthnmlklgbggmbaaGreatConfDCq
import Derived.Test.YthnmlklgbggmbaaGreatConfDEq
import Derived.Test.YthnmlklgbggmbaaGreatConfDJq
import Derived.Test.YthnmlklgbggmbaaGreatConfDKq
import Derived.Test.YthnmlklgbggmbaaGreatObjq
import Derived.Laws.Rows
import Derived.Deep.MidRow
import Derived.WalkKit
import Derived.ProofKit
import Derived.OpenShut
import Derived.Below
import Derived.Laws.MakeOwn
namespace Go.Proofs.YthnmlklgbggmbaaGreat
open Go.ChangeShapes Go.WideShapes Go.ChangeAt Go.RowKit
theorem right_any (o oi : Nat → Int) (w : World) (hb : -9223372036854775808 ≤ o 1 ∧ o 1 ≤ 9223372036854775807) :
    Calls Tryz.prog 103 #[.agg (objC o oi)] w fun e w' => e = .returned (.bool (rightS o)) ∧ Keeps (fun _ => False) w w' := by
  rcases (by omega : o 0 < 1 ∨ o 0 = 1 ∨ o 0 = 2 ∨ o 0 = 3 ∨ o 0 = 4 ∨ 4 < o 0) with h | h | h | h | h | h
  · exact right_l o oi w hb h
  · exact right_1 o oi w hb h
  · exact right_2 o oi w hb h
  · exact right_3 o oi w hb h
  · exact right_4 o oi w hb h
  · exact right_h o oi w hb h
end Go.Proofs.YthnmlklgbggmbaaGreat
namespace Go.Proofs.YthnmlklgbggmbaaGreat
open Go.ChangeShapes Go.WideShapes Go.ChangeAt Go.RowKit
set_option linter.unusedVariables false
set_option linter.unusedSimpArgs false
theorem pow2_pos {n : Int} (h : pow2 n = true) : 1 ≤ n := Int.not_lt.1 fun hl => by rw [pow2_low n hl] at h; cases h
end Go.Proofs.YthnmlklgbggmbaaGreat
namespace Go.Proofs.YthnmlklgbggmbaaGreat
open Go.ChangeShapes Go.WideShapes Go.ChangeAt Go.RowKit
set_option linter.unusedVariables false
set_option linter.unusedSimpArgs false
def aheadP (k : Int) : Int := if k = 2 then 4 else if k = 1 then 2 else if k = 3 ∨ k = 4 then 1 else 0
def entP (o : Nat → Int) : Int := if o 0 = 1 then o 1 else if o 0 = 2 then 4 else 1
def sizeP (o : Nat → Int) : Int := if rightS o = true then aheadP (o 0) + entP o * o 2 else 0
theorem ahead_any (k : Int) (w : World) : Calls Tryz.prog 167 #[.int .i64 k] w fun e w' => e = .returned (.int .i64 (aheadP k)) ∧ Keeps (fun _ => False) w w' := by
  by_cases h2 : k = 2
  · subst h2
    go_enter Tryz.func167, Tryz.ntmps167
    go_wp2
    go_ret
    exact ⟨rfl, Keeps.refl _ _⟩
  by_cases h1 : k = 1
  · subst h1
    go_enter Tryz.func167, Tryz.ntmps167
    go_wp2
    go_ret
    exact ⟨rfl, Keeps.refl _ _⟩
  by_cases h3 : k = 3
  · subst h3
    go_enter Tryz.func167, Tryz.ntmps167
    go_wp2
    go_ret
    exact ⟨rfl, Keeps.refl _ _⟩
  by_cases h4 : k = 4
  · subst h4
    go_enter Tryz.func167, Tryz.ntmps167
    go_wp2
    go_ret
    exact ⟨rfl, Keeps.refl _ _⟩
  have HF := Lib.hid (show aheadP k = 0 by unfold aheadP; rw [if_neg h2, if_neg h1, if_neg (by omega)])
  have e1 : (k == 1) = false := beq_eq_false_iff_ne.2 h1
  have e2 : (k == 2) = false := beq_eq_false_iff_ne.2 h2
  have e3 : (k == 3) = false := beq_eq_false_iff_ne.2 h3
  have e4 : (k == 4) = false := beq_eq_false_iff_ne.2 h4
  go_enter Tryz.func167, Tryz.ntmps167
  go_wp2
  go_ret
  exact ⟨by rw [HF.out]; rfl, Keeps.refl _ _⟩
theorem entries_any (o oi : Nat → Int) (w : World) : Calls Tryz.prog 168 #[.agg (objC o oi)] w fun e w' => e = .returned (.int .i64 (entP o)) ∧ Keeps (fun _ => False) w w' := by
  have HB := Lib.hid ((Has.start w).alloc (.cells (objC o oi) 74))
  by_cases h1 : o 0 = 1
  · have HF := Lib.hid (show entP o = o 1 by unfold entP; rw [if_pos h1])
    have e1 : (o 0 == 1) = true := beq_iff_eq.2 h1
    go_enter Tryz.func168, Tryz.ntmps168
    go_wp2
    go_ret
    exact ⟨by rw [HF.out]; rfl, HB.out.keeps⟩
  by_cases h2 : o 0 = 2
  · have HF := Lib.hid (show entP o = 4 by unfold entP; rw [if_neg h1, if_pos h2])
    have e1 : (o 0 == 1) = false := beq_eq_false_iff_ne.2 h1
    have e2 : (o 0 == 2) = true := beq_iff_eq.2 h2
    clear h1 h2
    go_enter Tryz.func168, Tryz.ntmps168
    go_wp2
    go_ret
    exact ⟨by rw [HF.out]; rfl, HB.out.keeps⟩
  have HF := Lib.hid (show entP o = 1 by unfold entP; rw [if_neg h1, if_neg h2])
  have e1 : (o 0 == 1) = false := beq_eq_false_iff_ne.2 h1
  have e2 : (o 0 == 2) = false := beq_eq_false_iff_ne.2 h2
  clear h1 h2
  go_enter Tryz.func168, Tryz.ntmps168
  go_wp2
  go_ret
  exact ⟨by rw [HF.out]; rfl, HB.out.keeps⟩
theorem right_nums {o : Nat → Int} (h : rightS o = true) : 1 ≤ o 0 ∧ o 0 ≤ 4 ∧ (o 0 = 1 → 1 ≤ o 1 ∧ o 1 ≤ 64) ∧ (o 0 ≠ 1 → o 1 = 0) ∧ (o 0 = 4 → o 2 = 0) ∧ (o 0 ≠ 4 → 1 ≤ o 2 ∧ o 2 ≤ 4) := by
  unfold rightS at h
  simp only [Bool.and_eq_true, decide_eq_true_eq] at h
  obtain ⟨⟨h1, h2⟩, h3, h4, h5⟩ := h
  refine ⟨h1, h2, fun e => ?_, fun e => ?_, fun e => ?_, fun e => ?_⟩
  · rw [if_pos e] at h3
    simp only [Bool.and_eq_true, decide_eq_true_eq] at h3
    exact ⟨pow2_pos h3.1, h3.2⟩
  · rw [if_neg e] at h3
    simpa using h3
  · rw [if_pos e] at h4
    simpa using h4
  · rw [if_neg e] at h4
    simp only [Bool.and_eq_true, decide_eq_true_eq] at h4
    exact h4
theorem size_bound {o : Nat → Int} (h : rightS o = true) : 1 ≤ sizeP o ∧ sizeP o ≤ 258 := by
  obtain ⟨h1, h2, h3, h4, h5, h6⟩ := right_nums h
  unfold sizeP
  rw [if_pos h]
  unfold aheadP entP
  rcases (by omega : o 0 = 1 ∨ o 0 = 2 ∨ o 0 = 3 ∨ o 0 = 4) with e | e | e | e
  · have a := h3 e
    have b := h6 (by omega)
    rw [if_neg (by omega), if_pos e, if_pos e]
    have m1 : 1 * 1 ≤ o 1 * o 2 := Int.mul_le_mul a.1 b.1 (by omega) (by omega)
    have m2 : o 1 * o 2 ≤ 64 * 4 := Int.mul_le_mul a.2 b.2 (by omega) (by omega)
    omega
  · have b := h6 (by omega)
    rw [if_pos e, if_neg (by omega), if_pos e]
    omega
  · have b := h6 (by omega)
    rw [if_neg (by omega), if_neg (by omega), if_pos (by omega), if_neg (by omega), if_neg (by omega)]
    omega
  · have b := h5 e
    rw [if_neg (by omega), if_neg (by omega), if_pos (by omega), if_neg (by omega), if_neg (by omega)]
    omega
set_option maxHeartbeats 4000000 in
theorem size_any4 (o oi : Nat → Int) (w : World) (hb : -9223372036854775808 ≤ o 1 ∧ o 1 ≤ 9223372036854775807) (h : rightS o = true) : Calls Tryz.prog 124 #[.agg (objC o oi)] w fun e w' => e = .returned (.int .i64 (sizeP o)) ∧ Keeps (fun _ => False) w w' := by
  have HB := Lib.hid ((Has.start w).alloc (.cells (objC o oi) 74))
  have HR := Lib.hid (fun W => right_any o oi W hb)
  have HA := Lib.hid (fun W => ahead_any (o 0) W)
  have HE := Lib.hid (fun W => entries_any o oi W)
  have hsz := size_bound h
  have HF := Lib.hid (show sizeP o = aheadP (o 0) + entP o * o 2 by unfold sizeP; rw [if_pos h])
  rw [HF.out] at hsz
  have ha : 0 ≤ aheadP (o 0) ∧ aheadP (o 0) ≤ 4 := by unfold aheadP; repeat' split <;> omega
  have e1 : wrap64 (entP o * o 2) = entP o * o 2 := IntWalk.wrap64_in _ ⟨by omega, by omega⟩
  have e2 : wrap64 (aheadP (o 0) + entP o * o 2) = aheadP (o 0) + entP o * o 2 := IntWalk.wrap64_in _ ⟨by omega, by omega⟩
  have e3 : IntKind.i64.wrap (entP o * o 2) = entP o * o 2 := IntWalk.i64_in _ ⟨by omega, by omega⟩
  have e4 : IntKind.i64.wrap (aheadP (o 0) + entP o * o 2) = aheadP (o 0) + entP o * o 2 := IntWalk.i64_in _ ⟨by omega, by omega⟩
  rw [h] at HR
  clear hsz ha
  generalize aheadP (o 0) = q1 at *
  generalize entP o = q2 at *
  go_enter Tryz.func124, Tryz.ntmps124
  go_wp2_with fail
  refine (HR.out _).mono ?_
  rintro e w1 ⟨rfl, k1⟩
  replace HB := Lib.hid (HB.out.none k1)
  clear k1
  replace HB := Lib.hid HB.out.drew
  have HC := Lib.hid (ten_cells (HB.out.at 0 rfl))
  go_wp2_with fail
  go_region_held3 (fun w' => w'.cell? ⟨w.heap.size, 0, none⟩ = some (.int .i64 (o 0)) ∧ w'.cell? ⟨w.heap.size, 1, none⟩ = some (.int .i64 (o 1)) ∧ w'.cell? ⟨w.heap.size, 2, none⟩ = some (.int .i64 (o 2)) ∧ w'.cell? ⟨w.heap.size, 3, none⟩ = some (.int .i64 (o 3)) ∧ w'.cell? ⟨w.heap.size, 4, none⟩ = some (.int .i64 (o 4)) ∧ w'.cell? ⟨w.heap.size, 5, none⟩ = some (.int .i64 (o 5)) ∧ w'.cell? ⟨w.heap.size, 6, none⟩ = some (.int .u32 (oi 0)) ∧ w'.cell? ⟨w.heap.size, 7, none⟩ = some (.int .u32 (oi 1)) ∧ w'.cell? ⟨w.heap.size, 8, none⟩ = some (.int .u32 (oi 2)) ∧ w'.cell? ⟨w.heap.size, 9, none⟩ = some (.int .u32 (oi 3)))
    (first
      | exact HC.out
      | go_keep)
    (first
      | (go_at_call 167; refine (HA.out _).mono ?_; rintro e9 w9 ⟨rfl, k9⟩; replace HB := Lib.hid (HB.out.none k9); replace HC := Lib.hid (ten_cells (HB.out.at 0 rfl)); clear k9)
      | (go_at_call 168; refine (HE.out _).mono ?_; rintro e9 w9 ⟨rfl, k9⟩; replace HB := Lib.hid (HB.out.none k9); replace HC := Lib.hid (ten_cells (HB.out.at 0 rfl)); clear k9)
      | fail)
  all_goals
    go_wp2_with fail
    go_ret
    exact ⟨by rw [HF.out]; rfl, HB.out.keeps⟩
@[reducible] def plC (p : Nat → Int) : Array Value := #[.int .i64 (p 0), .int .i64 (p 1), .int .i64 (p 2), .int .i64 (p 3), .int .i64 (p 4)]
def oOf (p : Nat → Int) : Nat → Int := fun j => match j with | 0 => p 0 | 1 => p 2 | 2 => p 3 | 3 => p 4 | _ => 0
theorem object_any (p : Nat → Int) (w : World) : Calls Tryz.prog 175 #[.agg (plC p)] w fun e w' => e = .returned (.agg (objC (oOf p) fun _ => 0)) ∧ Keeps (fun _ => False) w w' := by
  have HB := Lib.hid (((Has.start w).alloc (.cells (plC p) 145)))
  go_enter Tryz.func175, Tryz.ntmps175
  go_wp2_with fail
  have hg := heap_new (w.alloc (.cells (plC p) 145)) (.cells (objC (oOf p) fun _ => 0) 74)
  rw [World.size_alloc] at hg
  refine bodyPost_ret (v := .agg (objC (oOf p) fun _ => 0)) (results_cell_row Tryz.results175 _ _ (w.heap.size + 1) 74 (objC (oOf p) fun _ => 0) (0, 0) _ rfl hg Tryz.underlying74 rfl (by kernel_rfl)) rfl ⟨rfl, HB.out.keeps.alloc _⟩
end Go.Proofs.YthnmlklgbggmbaaGreat
namespace Go.Proofs.YthnmlklgbggmbaaGreat
open Go.ChangeShapes Go.WideShapes Go.ChangeAt Go.RowKit
set_option linter.unusedVariables false
set_option linter.unusedSimpArgs false
theorem entry_zero (p : Nat → Int) (w : World) : Calls Tryz.prog 177 #[.agg (plC p), .int .i64 0] w fun e w' => e = .returned (.int .i64 0) ∧ Keeps (fun _ => False) w w' := by
  have HB := Lib.hid ((Has.start w).alloc (.cells (plC p) 145))
  cases e : (p 0 == 3)
  all_goals
    go_enter Tryz.func177, Tryz.ntmps177
    go_wp2
    go_ret
    exact ⟨rfl, HB.out.keeps⟩
theorem five_cells {w : World} {g : Nat} {p : Nat → Int} {E : TypeId} (h : w.heap[g]? = some (.cells (plC p) E (0, 0))) :
    w.cell? ⟨g, 0, none⟩ = some (.int .i64 (p 0)) ∧ w.cell? ⟨g, 1, none⟩ = some (.int .i64 (p 1)) ∧ w.cell? ⟨g, 2, none⟩ = some (.int .i64 (p 2)) ∧ w.cell? ⟨g, 3, none⟩ = some (.int .i64 (p 3)) ∧ w.cell? ⟨g, 4, none⟩ = some (.int .i64 (p 4)) := ⟨cell_of h 0, cell_of h 1, cell_of h 2, cell_of h 3, cell_of h 4⟩
def dataP (p : Nat → Int) (j : Int) : Int := if p 3 ≤ j then -1 else p 1 + aheadP (p 0) + j
theorem ent_pos {p : Nat → Int} (h : rightS (oOf p) = true) : 1 ≤ entP (oOf p) := by
  obtain ⟨h1, h2, h3, h4, h5, h6⟩ := right_nums h
  unfold entP
  split
  · rename_i e; exact (h3 e).1
  · split <;> omega
theorem place_w {p : Nat → Int} (h : rightS (oOf p) = true) : 0 ≤ p 3 ∧ p 3 ≤ 4 := by
  obtain ⟨h1, h2, h3, h4, h5, h6⟩ := right_nums h
  have e5 : p 0 = 4 → p 3 = 0 := h5
  have e6 : p 0 ≠ 4 → 1 ≤ p 3 ∧ p 3 ≤ 4 := h6
  by_cases e : p 0 = 4
  · have := e5 e; omega
  · have := e6 e; omega
set_option maxHeartbeats 4000000 in
theorem data_any (p : Nat → Int) (j : Nat) (w : World) (hj : j < 4) (hp : 0 ≤ p 1 ∧ p 1 ≤ 1000000) (h : rightS (oOf p) = true) : Calls Tryz.prog 176 #[.agg (plC p), .int .i64 0, .int .i64 (j : Int)] w fun e w' => e = .returned (.int .i64 (dataP p (j : Int))) ∧ Keeps (fun _ => False) w w' := by
  have HB := Lib.hid ((Has.start w).alloc (.cells (plC p) 145))
  have HO := Lib.hid (fun W => object_any p W)
  have HE := Lib.hid (fun W => entries_any (oOf p) (fun _ => 0) W)
  have HA := Lib.hid (fun W => ahead_any (p 0) W)
  have he := ent_pos h
  have hw := place_w h
  have HF := Lib.hid (show dataP p (j : Int) = if p 3 ≤ (j : Int) then -1 else p 1 + aheadP (p 0) + (j : Int) from rfl)
  have ha : 0 ≤ aheadP (p 0) ∧ aheadP (p 0) ≤ 4 := by unfold aheadP; repeat' split <;> omega
  have d1 : decide (entP (oOf p) ≤ 0) = false := decide_eq_false (by omega)
  have e1 : wrap64 (p 1 + aheadP (p 0)) = p 1 + aheadP (p 0) := IntWalk.wrap64_in _ ⟨by omega, by omega⟩
  have e2 : wrap64 (p 1 + aheadP (p 0) + (j : Int)) = p 1 + aheadP (p 0) + (j : Int) := IntWalk.wrap64_in _ ⟨by omega, by omega⟩
  have e3 : IntKind.i64.wrap (p 1 + aheadP (p 0)) = p 1 + aheadP (p 0) := IntWalk.i64_in _ ⟨by omega, by omega⟩
  have e4 : IntKind.i64.wrap (p 1 + aheadP (p 0) + (j : Int)) = p 1 + aheadP (p 0) + (j : Int) := IntWalk.i64_in _ ⟨by omega, by omega⟩
  have d2 : decide ((j : Int) < 0) = false := decide_eq_false (by omega)
  generalize aheadP (p 0) = q1 at *
  generalize entP (oOf p) = q2 at *
  clear h he ha hj
  by_cases hl : p 3 ≤ (j : Int)
  · have d3 : decide (p 3 ≤ (j : Int)) = true := decide_eq_true hl
    have HF2 := Lib.hid (HF.out.trans (if_pos hl))
    clear hl hw hp
    go_enter Tryz.func176, Tryz.ntmps176
    go_wp2_with fail
    refine (HO.out _).mono ?_
    rintro e w1 ⟨rfl, k1⟩
    replace HB := Lib.hid (HB.out.none k1)
    clear k1
    go_wp2_with fail
    refine (HE.out _).mono ?_
    rintro e w2 ⟨rfl, k2⟩
    replace HB := Lib.hid (HB.out.none k2)
    clear k2
    have HC := Lib.hid (five_cells (HB.out.at 0 rfl))
    obtain ⟨c0, c1, c2, c3, c4⟩ := HC.out
    go_wp2_with fail
    go_ret
    exact ⟨by rw [HF2.out]; rfl, HB.out.keeps⟩
  · have d3 : decide (p 3 ≤ (j : Int)) = false := decide_eq_false hl
    have HF2 := Lib.hid (HF.out.trans (if_neg hl))
    clear hl hw hp
    go_enter Tryz.func176, Tryz.ntmps176
    go_wp2_with fail
    refine (HO.out _).mono ?_
    rintro e w1 ⟨rfl, k1⟩
    replace HB := Lib.hid (HB.out.none k1)
    clear k1
    go_wp2_with fail
    refine (HE.out _).mono ?_
    rintro e w2 ⟨rfl, k2⟩
    replace HB := Lib.hid (HB.out.none k2)
    clear k2
    have HC := Lib.hid (five_cells (HB.out.at 0 rfl))
    obtain ⟨c0, c1, c2, c3, c4⟩ := HC.out
    go_wp2_with fail
    clear c0 c1 c2 c3 c4
    replace HB := Lib.hid HB.out.drew
    replace HC := Lib.hid (five_cells (HB.out.at 0 rfl))
    go_region_held3 (fun w' => w'.cell? ⟨w.heap.size, 0, none⟩ = some (.int .i64 (p 0)) ∧ w'.cell? ⟨w.heap.size, 1, none⟩ = some (.int .i64 (p 1)) ∧ w'.cell? ⟨w.heap.size, 2, none⟩ = some (.int .i64 (p 2)) ∧ w'.cell? ⟨w.heap.size, 3, none⟩ = some (.int .i64 (p 3)) ∧ w'.cell? ⟨w.heap.size, 4, none⟩ = some (.int .i64 (p 4)))
      (first
        | exact HC.out
        | go_keep)
      (first
        | (go_at_call 167; refine (HA.out _).mono ?_; rintro e9 w9 ⟨rfl, k9⟩; replace HB := Lib.hid (HB.out.none k9); replace HC := Lib.hid (five_cells (HB.out.at 0 rfl)); clear k9)
        | fail)
    all_goals
      go_wp2_with fail
      go_ret
      exact ⟨by rw [HF2.out]; exact congrArg (fun x => Ending.returned (.int .i64 x)) (by rw [show IntKind.i64.wrap 0 = 0 from rfl, Int.add_zero, e3, e4]), HB.out.keeps⟩
end Go.Proofs.YthnmlklgbggmbaaGreat
namespace Go.Proofs.YthnmlklgbggmbaaGreat
open Go.ChangeShapes Go.WideShapes Go.ChangeAt Go.RowKit
set_option linter.unusedVariables false
set_option linter.unusedSimpArgs false
theorem single_word (w : World) : Calls Tryz.prog 178 #[.int .i64 4, .int .i64 8] w fun e w' => e = .returned (.int .i64 0) ∧ Keeps (fun _ => False) w w' := by
  go_enter Tryz.func178, Tryz.ntmps178
  go_wp2
  go_ret
  exact ⟨rfl, Keeps.refl _ _⟩
set_option maxHeartbeats 4000000 in
theorem cell_word (p : Nat → Int) (w : World) (hp : 0 ≤ p 1 ∧ p 1 ≤ 1000000) (h : rightS (oOf p) = true) (h4 : p 0 = 4) : Calls Tryz.prog 140 #[.agg (plC p), .int .i64 8, .int .i64 0, .int .i64 0] w fun e w' => e = .returned (.int .i64 (p 1)) ∧ Keeps (fun _ => False) w w' := by
  have HB := Lib.hid ((Has.start w).alloc (.cells (plC p) 145))
  have HO := Lib.hid (fun W => object_any p W)
  have hb : -9223372036854775808 ≤ oOf p 1 ∧ oOf p 1 ≤ 9223372036854775807 := by
    have := (right_nums h).2.2.2.1 (show oOf p 0 ≠ 1 by show p 0 ≠ 1; omega)
    rw [this]; omega
  have hr := fun W => right_any (oOf p) (fun _ => 0) W hb
  rw [h] at hr
  have HR := Lib.hid hr
  have HS := Lib.hid (fun W => single_word W)
  have HP := Lib.hid hp
  have HE0 := Lib.hid h4
  have HW1 := Lib.hid (show wrap64 (p 1) = p 1 ∧ wrap64 (p 1 + 0) = p 1 from ⟨IntWalk.wrap64_in _ ⟨by omega, by omega⟩, by rw [Int.add_zero]; exact IntWalk.wrap64_in _ ⟨by omega, by omega⟩⟩)
  clear hr hb h h4 hp
  go_enter Tryz.func140, Tryz.ntmps140
  go_wp2_with fail
  refine (HO.out _).mono ?_
  rintro e w1 ⟨rfl, k1⟩
  replace HB := Lib.hid ((HB.out.none k1).alloc (.cells (objC (oOf p) fun _ => 0) 74))
  clear k1
  go_wp2_with fail
  refine (HR.out _).mono ?_
  rintro e w2 ⟨rfl, k2⟩
  replace HB := Lib.hid (HB.out.none k2)
  clear k2
  obtain ⟨c0, c1, c2, c3, c4⟩ := five_cells (HB.out.at 1 rfl)
  rw [HE0.out] at c0
  go_wp2_with fail
  refine (HS.out _).mono ?_
  rintro e w3 ⟨rfl, k3⟩
  replace HB := Lib.hid (HB.out.none k3)
  clear k3 c0 c1 c2 c3 c4
  obtain ⟨c0, c1, c2, c3, c4⟩ := five_cells (HB.out.at 1 rfl)
  go_wp2_with fail
  go_ret
  exact ⟨congrArg (fun x => Ending.returned (.int .i64 x)) (by first | exact HW1.out.1 | exact HW1.out.2), HB.out.keeps⟩
set_option maxHeartbeats 4000000 in
theorem cell_data (p : Nat → Int) (j : Nat) (w : World) (hj : j < 4) (hp : 0 ≤ p 1 ∧ p 1 ≤ 1000000) (h : rightS (oOf p) = true) : Calls Tryz.prog 140 #[.agg (plC p), .int .i64 3, .int .i64 0, .int .i64 (j : Int)] w fun e w' => e = .returned (.int .i64 (dataP p (j : Int))) ∧ Keeps (fun _ => False) w w' := by
  have HB := Lib.hid ((Has.start w).alloc (.cells (plC p) 145))
  have HO := Lib.hid (fun W => object_any p W)
  have hb : -9223372036854775808 ≤ oOf p 1 ∧ oOf p 1 ≤ 9223372036854775807 := by
    by_cases e : oOf p 0 = 1
    · have := (right_nums h).2.2.1 e; omega
    · have := (right_nums h).2.2.2.1 e; omega
  have hr := fun W => right_any (oOf p) (fun _ => 0) W hb
  rw [h] at hr
  have HR := Lib.hid hr
  have HE := Lib.hid (fun W => entry_zero p W)
  have HD := Lib.hid (fun W => data_any p j W hj hp h)
  clear hr hb h hp hj
  go_enter Tryz.func140, Tryz.ntmps140
  go_wp2_with fail
  refine (HO.out _).mono ?_
  rintro e w1 ⟨rfl, k1⟩
  replace HB := Lib.hid ((HB.out.none k1).alloc (.cells (objC (oOf p) fun _ => 0) 74))
  clear k1
  go_wp2_with fail
  refine (HR.out _).mono ?_
  rintro e w2 ⟨rfl, k2⟩
  replace HB := Lib.hid ((HB.out.none k2).drew)
  clear k2
  have HC := Lib.hid (five_cells (HB.out.at 1 rfl))
  go_wp2_with fail
  go_region_held3 (fun w' => w'.cell? ⟨w.heap.size, 0, none⟩ = some (.int .i64 (p 0)) ∧ w'.cell? ⟨w.heap.size, 1, none⟩ = some (.int .i64 (p 1)) ∧ w'.cell? ⟨w.heap.size, 2, none⟩ = some (.int .i64 (p 2)) ∧ w'.cell? ⟨w.heap.size, 3, none⟩ = some (.int .i64 (p 3)) ∧ w'.cell? ⟨w.heap.size, 4, none⟩ = some (.int .i64 (p 4)))
    (first
      | exact HC.out
      | go_keep)
    (first
      | (go_at_call 177; refine (HE.out _).mono ?_; rintro e9 w9 ⟨rfl, k9⟩; replace HB := Lib.hid (HB.out.none k9); replace HC := Lib.hid (five_cells (HB.out.at 1 rfl)); clear k9)
      | (go_at_call 176; refine (HD.out _).mono ?_; rintro e9 w9 ⟨rfl, k9⟩; replace HB := Lib.hid (HB.out.none k9); replace HC := Lib.hid (five_cells (HB.out.at 1 rfl)); clear k9)
      | fail)
  all_goals
    go_wp2_with fail
    go_ret
    exact ⟨rfl, HB.out.keeps⟩
end Go.Proofs.YthnmlklgbggmbaaGreat
namespace Go.Proofs.YthnmlklgbggmbaaGreat
open Go.ChangeShapes Go.WideShapes Go.ChangeAt Go.RowKit
set_option linter.unusedVariables false
set_option linter.unusedSimpArgs false
def setsA (cur : Array Value) (o : Nat) : List Value → Array Value
  | [] => cur
  | v :: t => setsA (cur.setIfInBounds o v) (o + 1) t
theorem setsA_size : ∀ (vs : List Value) (cur : Array Value) (o : Nat), (setsA cur o vs).size = cur.size
  | [], _, _ => rfl
  | v :: t, cur, o => by
    show (setsA (cur.setIfInBounds o v) (o + 1) t).size = _
    rw [setsA_size t, Array.size_setIfInBounds]
theorem setsA_out : ∀ (vs : List Value) (cur : Array Value) (o j : Nat), j < o ∨ o + vs.length ≤ j → (setsA cur o vs)[j]? = cur[j]?
  | [], _, _, _, _ => rfl
  | v :: t, cur, o, j, h => by
    show (setsA (cur.setIfInBounds o v) (o + 1) t)[j]? = _
    simp at h
    rw [setsA_out t _ _ _ (by omega), Array.getElem?_setIfInBounds_ne (by omega)]
theorem setsA_in : ∀ (vs : List Value) (cur : Array Value) (o j : Nat) (v : Value), o + vs.length ≤ cur.size → vs[j]? = some v → (setsA cur o vs)[o + j]? = some v
  | [], _, _, j, _, _, h => by cases j <;> cases h
  | x :: t, cur, o, 0, v, hs, h => by
    cases h
    show (setsA (cur.setIfInBounds o x) (o + 1) t)[o + 0]? = _
    simp at hs
    rw [setsA_out t _ _ _ (by omega)]
    exact Array.getElem?_setIfInBounds_self_of_lt (by omega)
  | x :: t, cur, o, j + 1, v, hs, h => by
    show (setsA (cur.setIfInBounds o x) (o + 1) t)[o + (j + 1)]? = _
    simp at hs
    rw [show o + (j + 1) = o + 1 + j by omega]
    exact setsA_in t _ _ j v (by rw [Array.size_setIfInBounds]; omega) h
theorem heap_sets : ∀ (vs : List Value) (o : Nat) (w : World) (b : Nat) (cur : Array Value) (T : TypeId) (fr : Nat × Nat), w.heap[b]? = some (.cells cur T fr) → (w.setCells b o vs).heap[b]? = some (.cells (setsA cur o vs) T fr)
  | [], _, _, _, _, _, _, h => h
  | v :: t, o, w, b, cur, T, fr, h => by
    rw [World.setCells]
    exact heap_sets t (o + 1) _ b _ T fr (heap_set h o v)
theorem Keeps.sets {S : Nat → Prop} {w0 : World} {b : Nat} (hs : S b ∨ w0.heap.size ≤ b) : ∀ (vs : List Value) (o : Nat) (w : World), Keeps S w0 w → Keeps S w0 (w.setCells b o vs)
  | [], _, _, h => h
  | v :: t, o, w, h => by
    rw [World.setCells]
    exact Keeps.sets hs t (o + 1) _ (h.setCell (p := ⟨b, o, Option.none⟩) hs v)
theorem there_of {w : World} {b : Nat} {cur : Array Value} {T : TypeId} (h : w.heap[b]? = some (.cells cur T (0, 0))) (o n : Nat) (hn : o + n ≤ cur.size) : w.there b o n := fun j hj =>
  ⟨by rw [cell_of h (o + j), Array.getElem?_eq_getElem (by omega)]; rfl, free_of h (o + j)⟩
theorem range_below {w w' : World} {B b o : Nat} {cs : List Value} (h : w.rangeAt b o cs) (hb : Below B w w') (hB : b < B) : w'.rangeAt b o cs := fun j v hv => (hb.cell (p := ⟨b, o + j, none⟩) hB).trans (h j v hv)
theorem range_keeps {w w' : World} {b o : Nat} {cs : List Value} (h : w.rangeAt b o cs) (hk : Keeps (fun _ => False) w w') (hl : b < w.heap.size) : w'.rangeAt b o cs := range_below h hk.none hl
end Go.Proofs.YthnmlklgbggmbaaGreat
namespace Go.Proofs.YthnmlklgbggmbaaGreat
open Go.ChangeShapes Go.WideShapes Go.ChangeAt Go.RowKit
set_option linter.unusedVariables false
set_option linter.unusedSimpArgs false
theorem Keeps.far {w w1 w2 : World} {S : Nat → Prop} (h : Keeps (fun _ => False) w w1) (k : Keeps S w1 w2) (hs : ∀ j, S j → w.heap.size ≤ j) : Keeps (fun _ => False) w w2 :=
  ⟨k.os.trans h.os, k.tape.trans h.tape, k.output.trans h.output, Nat.le_trans h.size k.size, fun i hi e => (k.block i (Nat.lt_of_lt_of_le hi h.size) (fun e2 => by have := hs i e2; omega)).trans (h.block i hi e)⟩
def preP (ob : Nat → Nat → Int) : Nat → Int
  | 0 => 0
  | i + 1 => preP ob i + sizeP (ob i)
def placeP (ob : Nat → Nat → Int) (i : Nat) : Nat → Int := fun j => match j with | 0 => ob i 0 | 1 => preP ob i | 2 => ob i 1 | 3 => ob i 2 | _ => ob i 3
def zeroPl : Nat → Int := fun _ => 0
def PlacesAt (w : World) (g n : Nat) (F : Nat → Nat → Int) : Prop := ∃ cs : Array Value, w.heap[g]? = some (.cells cs 145 (0, 0)) ∧ cs.size = n * 5 ∧ ∀ i, i < n → ∀ (j : Nat) (v : Value), (plC (F i)).toList[j]? = some v → cs[i * 5 + j]? = some v
theorem PlacesAt.keep {S : Nat → Prop} {w w' : World} {g n : Nat} {F : Nat → Nat → Int} (h : PlacesAt w g n F) (k : Keeps S w w') (hs : ¬ S g) : PlacesAt w' g n F := by
  obtain ⟨cs, h1, h2, h3⟩ := h
  exact ⟨cs, k.at h1 hs, h2, h3⟩
theorem PlacesAt.same {w : World} {g n : Nat} {F G : Nat → Nat → Int} (h : PlacesAt w g n F) (e : ∀ i, i < n → F i = G i) : PlacesAt w g n G := by
  obtain ⟨cs, h1, h2, h3⟩ := h
  exact ⟨cs, h1, h2, fun i hi j v hv => h3 i hi j v (by rw [e i hi]; exact hv)⟩
theorem PlacesAt.cell {w : World} {g n : Nat} {F : Nat → Nat → Int} (h : PlacesAt w g n F) {i : Nat} (hi : i < n) {j : Nat} {v : Value} (hv : (plC (F i)).toList[j]? = some v) : w.cell? ⟨g, i * 5 + j, none⟩ = some v := by
  obtain ⟨cs, h1, h2, h3⟩ := h
  rw [cell_of h1]
  exact h3 i hi j v hv
theorem PlacesAt.range {w : World} {g n : Nat} {F : Nat → Nat → Int} (h : PlacesAt w g n F) {i : Nat} (hi : i < n) : w.rangeAt g (i * 5) (plC (F i)).toList := fun j v hv => h.cell hi hv
theorem PlacesAt.lt {w : World} {g n : Nat} {F : Nat → Nat → Int} (h : PlacesAt w g n F) : g < w.heap.size := by obtain ⟨cs, h1, _⟩ := h; exact lt_of h1
theorem PlacesAt.there {w : World} {g n : Nat} {F : Nat → Nat → Int} (h : PlacesAt w g n F) {i : Nat} (hi : i < n) : w.there g (i * 5) 5 := by
  obtain ⟨cs, h1, h2, h3⟩ := h
  exact there_of h1 _ _ (by omega)
theorem PlacesAt.put {w : World} {g n : Nat} {F : Nat → Nat → Int} (h : PlacesAt w g n F) {i : Nat} (hi : i < n) (p : Nat → Int) (z : Int) (q : Nat → Int) (hq : q 0 = p 0 ∧ q 1 = z ∧ q 2 = p 2 ∧ q 3 = p 3 ∧ q 4 = p 4) :
    PlacesAt ((w.setCells g (i * 5) (plC p).toList).setCell ⟨g, i * 5 + 1, none⟩ (.int .i64 z)) g n (fun k => if k = i then q else F k) := by
  obtain ⟨cs, h1, h2, h3⟩ := h
  have h4 := heap_sets (plC p).toList (i * 5) w g cs _ _ h1
  refine ⟨_, heap_set h4 (i * 5 + 1) _, by rw [Array.size_setIfInBounds, setsA_size]; exact h2, fun k hk j v hv => ?_⟩
  have hj : j < 5 := (List.getElem?_eq_some_iff.1 hv).1
  show ((setsA cs (i * 5) (plC p).toList).setIfInBounds (i * 5 + 1) (.int .i64 z))[k * 5 + j]? = some v
  by_cases e : k = i
  · subst e
    replace hv : (plC (if k = k then q else F k)).toList[j]? = some v := hv
    rw [if_pos rfl] at hv
    by_cases e1 : j = 1
    · subst e1
      rw [Array.getElem?_setIfInBounds_self_of_lt (by rw [setsA_size]; omega)]
      have : Value.int .i64 (q 1) = v := by simpa using hv
      rw [← this, hq.2.1]
    · rw [Array.getElem?_setIfInBounds_ne (by omega)]
      refine setsA_in _ _ _ _ _ (by show k * 5 + 5 ≤ cs.size; omega) ?_
      obtain ⟨q0, _, q2, q3, q4⟩ := hq
      rcases (by omega : j = 0 ∨ j = 2 ∨ j = 3 ∨ j = 4) with rfl | rfl | rfl | rfl
      · simpa [q0] using hv
      · simpa [q2] using hv
      · simpa [q3] using hv
      · simpa [q4] using hv
  · replace hv : (plC (if k = i then q else F k)).toList[j]? = some v := hv
    rw [if_neg e] at hv
    rw [Array.getElem?_setIfInBounds_ne (by omega), setsA_out _ _ _ _ (by show _ ∨ i * 5 + 5 ≤ _; omega)]
    exact h3 k hk j v hv
structure ObIn (w : World) (a : Option Addr) (n : Nat) (ob oi : Nat → Nat → Int) : Prop where
  lies : 0 < n → ∃ b off, a = some ⟨b, off, none⟩ ∧ b < w.heap.size ∧ ∀ i, i < n → ∀ j, j < 10 → w.cell? ⟨b, off + i * 10 + j, none⟩ = (objC (ob i) (oi i))[j]?
theorem ObIn.keep {w w' : World} {a : Option Addr} {n : Nat} {ob oi : Nat → Nat → Int} (h : ObIn w a n ob oi) (k : Keeps (fun _ => False) w w') : ObIn w' a n ob oi :=
  ⟨fun hn => by
    obtain ⟨b, off, e, hb, hc⟩ := h.lies hn
    exact ⟨b, off, e, Nat.lt_of_lt_of_le hb k.size, fun i hi j hj => (k.none.cell (p := ⟨b, off + i * 10 + j, none⟩) hb).trans (hc i hi j hj)⟩⟩
theorem begin_any (t n : Int) (T : Nat) (w : World) (h : w.heap[T]? = some (.cells #[.int .i64 t] 3 (0, 0))) (hb : 0 ≤ t ∧ t ≤ 1000000 ∧ 0 ≤ n ∧ n ≤ 1000000) :
    Calls Tryz.prog 123 #[.int .i64 n, .pointer (some ⟨T, 0, none⟩)] w fun e w' => e = .returned (.int .i64 t) ∧ w'.heap[T]? = some (.cells #[.int .i64 (t + n)] 3 (0, 0)) ∧ Keeps (fun j => j = T) w w' := by
  have H := Lib.hid h
  have c0 : w.cell? ⟨T, 0, none⟩ = some (.int .i64 t) := cell_of h 0
  have f0 := free_of h 0
  have e1 : wrap64 (t + n) = t + n := IntWalk.wrap64_in _ ⟨by omega, by omega⟩
  clear h hb
  go_enter Tryz.func123, Tryz.ntmps123
  go_wp2_with fail
  go_ret
  refine ⟨rfl, ?_, ?_⟩
  · have := heap_set H.out 0 (.int .i64 (t + n))
    simpa [e1] using this
  · exact (Keeps.refl (fun j => j = T) w).setCell (p := ⟨T, 0, none⟩) (.inl rfl) _
theorem pre_bound {ob : Nat → Nat → Int} {n : Nat} (hr : ∀ i, i < n → rightS (ob i) = true) : ∀ k, k ≤ n → (k : Int) ≤ preP ob k ∧ preP ob k ≤ 258 * (k : Int)
  | 0, _ => by simp [preP]
  | k + 1, h => by
    have h1 := pre_bound hr k (by omega)
    have h2 := size_bound (hr k (by omega))
    have e : preP ob (k + 1) = preP ob k + sizeP (ob k) := rfl
    rw [e]
    omega
theorem place_info : (Tryz.prog.info? 145).map (·.size) = some 5 := by kernel_rfl
theorem pl_one (a b c d e : Int) : (#[.int .i64 a, .int .i64 b, .int .i64 c, .int .i64 d, .int .i64 e] : Array Value).all (·.oneCell') = true := by simp [Value.oneCell']
theorem obj_info10 : (Tryz.prog.info? 74).map (·.size) = some 10 := by kernel_rfl
theorem pl_zero : (Tryz.prog.info? 145).map (fun i => (i.zero, i.size, i.bytes)) = some (some (.agg #[.int .i64 0, .int .i64 0, .int .i64 0, .int .i64 0, .int .i64 0]), 5, 40) := by kernel_rfl
theorem make_places (w : World) (n : Nat) (hn : n ≤ 1000) : (Instr.makeSlice 80 (.int .i64 (n : Int)) (.int .i64 (n : Int))).run Tryz.prog w = .ok (.slice (some ⟨w.heap.size, 0, none⟩) n n) (w.alloc (.cells (madeCells #[.int .i64 0, .int .i64 0, .int .i64 0, .int .i64 0, .int .i64 0] (n * 5)) 145)) := by
  obtain ⟨i, hi, hz0, hz1, hz2⟩ := info_parts pl_zero
  have h := run_make w 80 145 i (.agg #[.int .i64 0, .int .i64 0, .int .i64 0, .int .i64 0, .int .i64 0]) Tryz.underlying80 hi hz0 .i64 .i64 (n : Int) (n : Int) (by omega) (by omega) (by rw [hz2]; omega) (by omega)
  rw [hz1] at h
  exact h
theorem places_new (w : World) (n : Nat) : PlacesAt (w.alloc (.cells (madeCells #[.int .i64 0, .int .i64 0, .int .i64 0, .int .i64 0, .int .i64 0] (n * 5)) 145)) w.heap.size n (fun _ => zeroPl) :=
  ⟨_, heap_new w _, size_madeCells _ _, fun i hi j v hv => by
    have hj : j < 5 := (List.getElem?_eq_some_iff.1 hv).1
    unfold madeCells
    rw [Array.getElem?_map, Array.getElem?_range, if_pos (by omega)]
    have e : (i * 5 + j) % 5 = j := by omega
    rcases (by omega : j = 0 ∨ j = 1 ∨ j = 2 ∨ j = 3 ∨ j = 4) with rfl | rfl | rfl | rfl | rfl <;> simp [zeroPl] at hv <;> simp [e, ← hv]⟩
end Go.Proofs.YthnmlklgbggmbaaGreat
