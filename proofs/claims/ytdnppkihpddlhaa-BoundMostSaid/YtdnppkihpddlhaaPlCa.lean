import Derived.Test.YtdnppkihpddlhaaPlB
namespace Go.Proofs.Ytdnppkihpddlhaa
open Go.ChangeShapes Go.WideShapes Go.ChangeAt Go.RowKit
set_option linter.unusedVariables false
set_option linter.unusedSimpArgs false
theorem single_word (w : World) : Calls Try.prog 47 #[.int .i64 4, .int .i64 8] w fun e w' => e = .returned (.int .i64 0) ∧ Keeps (fun _ => False) w w' := by
  go_enter Try.func47, Try.ntmps47
  go_wp2
  go_ret
  exact ⟨rfl, Keeps.refl _ _⟩
set_option maxHeartbeats 4000000 in
theorem cell_word (p : Nat → Int) (w : World) (hp : 0 ≤ p 1 ∧ p 1 ≤ 1000000) (h : rightS (oOf p) = true) (h4 : p 0 = 4) : Calls Try.prog 36 #[.agg (plC p), .int .i64 8, .int .i64 0, .int .i64 0] w fun e w' => e = .returned (.int .i64 (p 1)) ∧ Keeps (fun _ => False) w w' := by
  have HB := Lib.hid ((Has.start w).alloc (.cells (plC p) 41))
  have HO := Lib.hid (fun W => object_any p W)
  have hb : -9223372036854775808 ≤ oOf p 1 ∧ oOf p 1 ≤ 9223372036854775807 := by
    have := (right_nums h).2.2.2.1 (show oOf p 0 ≠ 1 by show p 0 ≠ 1; omega)
    rw [this]; omega
  have hr := fun W => right_any (oOf p) (fun _ => 0) W hb
  rw [h] at hr
  have HR := Lib.hid hr
  have HS := Lib.hid (fun W => single_word W)
  have HP := Lib.hid hp
  have HE0 := Lib.hid h4
  have HW1 := Lib.hid (show wrap64 (p 1) = p 1 ∧ wrap64 (p 1 + 0) = p 1 from ⟨IntWalk.wrap64_in _ ⟨by omega, by omega⟩, by rw [Int.add_zero]; exact IntWalk.wrap64_in _ ⟨by omega, by omega⟩⟩)
  clear hr hb h h4 hp
  go_enter Try.func36, Try.ntmps36
  go_wp2_with fail
  refine (HO.out _).mono ?_
  rintro e w1 ⟨rfl, k1⟩
  replace HB := Lib.hid ((HB.out.none k1).alloc (.cells (objC (oOf p) fun _ => 0) 26))
  clear k1
  go_wp2_with fail
  refine (HR.out _).mono ?_
  rintro e w2 ⟨rfl, k2⟩
  replace HB := Lib.hid (HB.out.none k2)
  clear k2
  obtain ⟨c0, c1, c2, c3, c4⟩ := five_cells (HB.out.at 1 rfl)
  rw [HE0.out] at c0
  go_wp2_with fail
  refine (HS.out _).mono ?_
  rintro e w3 ⟨rfl, k3⟩
  replace HB := Lib.hid (HB.out.none k3)
  clear k3 c0 c1 c2 c3 c4
  obtain ⟨c0, c1, c2, c3, c4⟩ := five_cells (HB.out.at 1 rfl)
  go_wp2_with fail
  go_ret
  exact ⟨congrArg (fun x => Ending.returned (.int .i64 x)) (by first | exact HW1.out.1 | exact HW1.out.2), HB.out.keeps⟩
set_option maxHeartbeats 4000000 in
theorem cell_data (p : Nat → Int) (j : Nat) (w : World) (hj : j < 4) (hp : 0 ≤ p 1 ∧ p 1 ≤ 1000000) (h : rightS (oOf p) = true) : Calls Try.prog 36 #[.agg (plC p), .int .i64 3, .int .i64 0, .int .i64 (j : Int)] w fun e w' => e = .returned (.int .i64 (dataP p (j : Int))) ∧ Keeps (fun _ => False) w w' := by
  have HB := Lib.hid ((Has.start w).alloc (.cells (plC p) 41))
  have HO := Lib.hid (fun W => object_any p W)
  have hb : -9223372036854775808 ≤ oOf p 1 ∧ oOf p 1 ≤ 9223372036854775807 := by
    by_cases e : oOf p 0 = 1
    · have := (right_nums h).2.2.1 e; omega
    · have := (right_nums h).2.2.2.1 e; omega
  have hr := fun W => right_any (oOf p) (fun _ => 0) W hb
  rw [h] at hr
  have HR := Lib.hid hr
  have HE := Lib.hid (fun W => entry_zero p W)
  have HD := Lib.hid (fun W => data_any p j W hj hp h)
  clear hr hb h hp hj
  go_enter Try.func36, Try.ntmps36
  go_wp2_with fail
  refine (HO.out _).mono ?_
  rintro e w1 ⟨rfl, k1⟩
  replace HB := Lib.hid ((HB.out.none k1).alloc (.cells (objC (oOf p) fun _ => 0) 26))
  clear k1
  go_wp2_with fail
  refine (HR.out _).mono ?_
  rintro e w2 ⟨rfl, k2⟩
  replace HB := Lib.hid ((HB.out.none k2).drew)
  clear k2
  have HC := Lib.hid (five_cells (HB.out.at 1 rfl))
  go_wp2_with fail
  go_region_held3 (fun w' => w'.cell? ⟨w.heap.size, 0, none⟩ = some (.int .i64 (p 0)) ∧ w'.cell? ⟨w.heap.size, 1, none⟩ = some (.int .i64 (p 1)) ∧ w'.cell? ⟨w.heap.size, 2, none⟩ = some (.int .i64 (p 2)) ∧ w'.cell? ⟨w.heap.size, 3, none⟩ = some (.int .i64 (p 3)) ∧ w'.cell? ⟨w.heap.size, 4, none⟩ = some (.int .i64 (p 4)))
    (first
      | exact HC.out
      | go_keep)
    (first
      | (go_at_call 46; refine (HE.out _).mono ?_; rintro e9 w9 ⟨rfl, k9⟩; replace HB := Lib.hid (HB.out.none k9); replace HC := Lib.hid (five_cells (HB.out.at 1 rfl)); clear k9)
      | (go_at_call 45; refine (HD.out _).mono ?_; rintro e9 w9 ⟨rfl, k9⟩; replace HB := Lib.hid (HB.out.none k9); replace HC := Lib.hid (five_cells (HB.out.at 1 rfl)); clear k9)
      | fail)
  all_goals
    go_wp2_with fail
    go_ret
    exact ⟨rfl, HB.out.keeps⟩
end Go.Proofs.Ytdnppkihpddlhaa
