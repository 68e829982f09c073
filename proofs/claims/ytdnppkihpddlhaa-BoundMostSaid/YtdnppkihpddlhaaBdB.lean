import Derived.Test.YtdnppkihpddlhaaBdA
namespace Go.Proofs.Ytdnppkihpddlhaa
open Go.ChangeShapes Go.WideShapes Go.ChangeAt Go.RowKit
set_option linter.unusedVariables false
set_option linter.unusedSimpArgs false
theorem entry_some (p : Nat → Int) (i : Int) (w : World) : Calls Try.prog 46 #[.agg (plC p), .int .i64 i] w fun e w' => (∃ x, e = .returned (.int .i64 x)) ∧ Keeps (fun _ => False) w w' := by
  have HB := Lib.hid (((Keeps.refl (fun _ => False) w).alloc (.cells (plC p) 41)))
  cases e : (p 0 == 3)
  all_goals
    go_enter Try.func46, Try.ntmps46
    go_wp2
    go_ret
    exact ⟨⟨_, rfl⟩, HB.out⟩
set_option maxHeartbeats 4000000 in
theorem data_some (p : Nat → Int) (i j : Int) (w : World) : Calls Try.prog 45 #[.agg (plC p), .int .i64 i, .int .i64 j] w fun e w' => (∃ x, e = .returned (.int .i64 x)) ∧ Keeps (fun _ => False) w w' := by
  have HB := Lib.hid ((Has.start w).alloc (.cells (plC p) 41))
  have HO := Lib.hid (fun W => object_any p W)
  have HE := Lib.hid (fun W => entries_any (oOf p) (fun _ => 0) W)
  have HA := Lib.hid (fun W => ahead_any (p 0) W)
  generalize aheadP (p 0) = q1 at *
  generalize entP (oOf p) = q2 at *
  by_cases hi : i < 0
  · have d0 : decide (i < 0) = true := decide_eq_true hi
    go_enter Try.func45, Try.ntmps45
    go_wp2_with fail
    go_ret
    exact ⟨⟨_, rfl⟩, HB.out.keeps⟩
  have d0 : decide (i < 0) = false := decide_eq_false hi
  clear hi
  go_enter Try.func45, Try.ntmps45
  go_wp2_with fail
  refine (HO.out _).mono ?_
  rintro e w1 ⟨rfl, k1⟩
  replace HB := Lib.hid (HB.out.none k1)
  clear k1
  go_wp2_with fail
  refine (HE.out _).mono ?_
  rintro e w2 ⟨rfl, k2⟩
  replace HB := Lib.hid (HB.out.none k2)
  clear k2
  by_cases hq : q2 ≤ i
  · have d1 : decide (q2 ≤ i) = true := decide_eq_true hq
    go_wp2_with fail
    go_ret
    exact ⟨⟨_, rfl⟩, HB.out.keeps⟩
  have d1 : decide (q2 ≤ i) = false := decide_eq_false hq
  clear hq
  by_cases hj : j < 0
  · have d2 : decide (j < 0) = true := decide_eq_true hj
    go_wp2_with fail
    go_ret
    exact ⟨⟨_, rfl⟩, HB.out.keeps⟩
  have d2 : decide (j < 0) = false := decide_eq_false hj
  clear hj
  obtain ⟨c0, c1, c2, c3, c4⟩ := five_cells (HB.out.at 0 rfl)
  have lx := lt_of (HB.out.at 0 rfl)
  by_cases hw : p 3 ≤ j
  · have d3 : decide (p 3 ≤ j) = true := decide_eq_true hw
    go_wp2_with fail
    go_ret
    exact ⟨⟨_, rfl⟩, HB.out.keeps⟩
  have d3 : decide (p 3 ≤ j) = false := decide_eq_false hw
  clear hw
  replace HB := Lib.hid HB.out.drew
  go_wp2_with fail
  have HC := Lib.hid (five_cells (HB.out.at 0 rfl))
  clear c0 c1 c2 c3 c4 lx
  go_region_held3 (fun w' => w'.cell? ⟨w.heap.size, 0, none⟩ = some (.int .i64 (p 0)) ∧ w'.cell? ⟨w.heap.size, 1, none⟩ = some (.int .i64 (p 1)) ∧ w'.cell? ⟨w.heap.size, 2, none⟩ = some (.int .i64 (p 2)) ∧ w'.cell? ⟨w.heap.size, 3, none⟩ = some (.int .i64 (p 3)) ∧ w'.cell? ⟨w.heap.size, 4, none⟩ = some (.int .i64 (p 4)))
    (first
      | exact HC.out
      | go_keep)
    (first
      | (go_at_call 23; refine (HA.out _).mono ?_; rintro e9 w9 ⟨rfl, k9⟩; replace HB := Lib.hid (HB.out.none k9); replace HC := Lib.hid (five_cells (HB.out.at 0 rfl)); clear k9)
      | fail)
  all_goals
    go_wp2_with fail
    go_ret
    exact ⟨⟨_, rfl⟩, HB.out.keeps⟩
end Go.Proofs.Ytdnppkihpddlhaa
