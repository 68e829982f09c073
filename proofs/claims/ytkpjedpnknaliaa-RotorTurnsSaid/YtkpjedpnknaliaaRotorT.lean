import Derived.Test.YtkpjedpnknaliaaRotorG
namespace Go.Proofs.Ytkpjedpnknaliaa
open Go.ChangeShapes Go.WideShapes Go.ChangeAt Go.RowKit
set_option linter.unusedVariables false
set_option linter.unusedSimpArgs false
theorem own05_any (x y a b c d p : Int) (w : World) :
    Calls Try.prog 38 #[.agg (rCells x y a b c d p)] w fun e w' => e = .returned (.agg (rCells x y a b c d p)) ∧ Keeps (fun _ => False) w w' := by
  go_enter Try.func38, Try.ntmps38
  go_wp2
  refine bodyPost_ret (v := .agg (rCells x y a b c d p)) (by simp [results, Try.results38, go_sem]) rfl ⟨rfl, ?_⟩
  exact ((Keeps.refl _ _).alloc _).alloc _
theorem back05_any (x y a b c d p : Int) (w : World) :
    Calls Try.prog 44 #[.agg (rCells x y a b c d p)] w fun e w' => e = .returned (.agg (rCells x y a b c d p)) ∧ Keeps (fun _ => False) w w' := by
  go_enter Try.func44, Try.ntmps44
  go_wp2
  refine bodyPost_ret (v := .agg (rCells x y a b c d p)) (by simp [results, Try.results44, go_sem]) rfl ⟨rfl, ?_⟩
  exact ((Keeps.refl _ _).alloc _).alloc _
theorem pair_skip05 (x y a b c d p : Int) (n : Int) (hn : n ≤ 9223372036854775807) : ∃ (q0 q1 q2 q3 q4 q5 q6 : Int) (r : Bool), (∀ w, Calls Try.prog 40 #[.agg (rCells x y a b c d p), .int .i64 n] w fun e w' => e = .returned (.tuple #[.agg (rCells q0 q1 q2 q3 q4 q5 q6), .bool r]) ∧ Keeps (fun _ => False) w w') ∧ (∀ w, Calls Try.prog 41 #[.agg (rCells x y a b c d p), .int .i64 n] w fun e w' => e = .returned (.tuple #[.agg (rCells q0 q1 q2 q3 q4 q5 q6), .bool r]) ∧ Keeps (fun _ => False) w w') := by
  cases h : (rightR x y a b c d p && decide (0 ≤ n))
  · exact ⟨0, 0, 0, 0, 0, 0, 0, false, fun w => pskip_no x y a b c d p n w h, fun w => fskip_no x y a b c d p n w h⟩
  · rw [Bool.and_eq_true, decide_eq_true_eq] at h
    obtain ⟨m, rfl⟩ : ∃ m : Nat, n = (m : Int) := ⟨n.toNat, by omega⟩
    exact ⟨_, _, a, b, c, d, p, true, fun w => pskip_yes x y a b c d p m w h.1 (by omega), fun w => fskip_yes x y a b c d p m w h.1 (by omega)⟩
theorem pair_next05 (x y a b c d p : Int) : ∃ (q0 q1 q2 q3 q4 q5 q6 : Int) (r : Bool), (∀ w, Calls Try.prog 37 #[.agg (rCells x y a b c d p)] w fun e w' => e = .returned (.tuple #[.agg (rCells q0 q1 q2 q3 q4 q5 q6), .bool r]) ∧ Keeps (fun _ => False) w w') ∧ (∀ w, Calls Try.prog 39 #[.agg (rCells x y a b c d p)] w fun e w' => e = .returned (.tuple #[.agg (rCells q0 q1 q2 q3 q4 q5 q6), .bool r]) ∧ Keeps (fun _ => False) w w') := by
  cases h : rightR x y a b c d p
  · exact ⟨0, 0, 0, 0, 0, 0, 0, false, fun w => pnext_of x y a b c d p 0 0 0 0 0 0 0 false w (fun w => pskip_no x y a b c d p 1 w (by rw [h]; rfl)), fun w => fnext_no x y a b c d p w h⟩
  · exact ⟨_, _, a, b, c, d, p, true, fun w => pnext_of x y a b c d p _ _ _ _ _ _ _ true w (fun w => pskip_yes x y a b c d p 1 w h (by omega)), fun w => fnext_yes x y a b c d p w h⟩
theorem turns05_large (x y a b c d p n : Int) (w : World) (h : 3000 < n) :
    Calls Try.prog 7 #[.agg (rCells x y a b c d p), .int .i64 n] w fun e w' => e = .returned (.bool true) ∧ Keeps (fun _ => False) w w' := by
  have d0 : decide (3000 < n) = true := decide_eq_true h
  clear h
  go_enter Try.func7, Try.ntmps7
  go_wp2_with fail
  refine (alive05_any _).mono ?_
  rintro e w1 ⟨rfl, k1⟩
  go_wp2
  go_ret
  exact ⟨rfl, ((Keeps.refl _ _).alloc _).trans k1⟩
set_option maxRecDepth 20000 in
set_option maxHeartbeats 4000000 in
theorem turns05_plain (x y a b c d p n : Int) (w : World) (h : n ≤ 3000) :
    Calls Try.prog 7 #[.agg (rCells x y a b c d p), .int .i64 n] w fun e w' => e = .returned (.bool true) ∧ Keeps (fun _ => False) w w' := by
  have d0 : decide (3000 < n) = false := decide_eq_false (by omega)
  obtain ⟨q0, q1, q2, q3, q4, q5, q6, r, g1, f1⟩ := pair_next05 x y a b c d p
  obtain ⟨s0, s1, s2, s3, s4, s5, s6, r', g2, f2⟩ := pair_skip05 x y a b c d p n (by omega)
  have PN := Lib.hid (And.intro g1 f1)
  have PS := Lib.hid (And.intro g2 f2)
  have HB := Lib.hid ((Has.start w).alloc (.cells (rCells x y a b c d p) 64))
  have HR := Lib.hid (fun w => pright_any x y a b c d p w)
  have HF := Lib.hid (fun w => fright_any x y a b c d p w)
  clear g1 f1 g2 f2 h
  generalize rightR x y a b c d p = rr at *
  go_enter Try.func7, Try.ntmps7
  go_wp2_with fail
  refine (own05_any _ _ _ _ _ _ _ _).mono ?_
  rintro e w0 ⟨rfl, k0⟩
  replace HB := Lib.hid (HB.out.none k0)
  clear k0
  go_wp2_with fail
  refine (PN.out.1 _).mono ?_
  rintro e w1 ⟨rfl, k1⟩
  replace HB := Lib.hid ((HB.out.none k1).alloc (.cells (rCells q0 q1 q2 q3 q4 q5 q6) 66))
  clear k1
  obtain ⟨x0, x1, x2, x3, x4, x5, x6⟩ := seven_cells (HB.out.at 1 rfl)
  go_wp2_with fail
  refine (PN.out.2 _).mono ?_
  rintro e w2 ⟨rfl, k2⟩
  replace HB := Lib.hid ((HB.out.none k2).alloc (.cells (rCells q0 q1 q2 q3 q4 q5 q6) 64))
  clear k2
  clear x0 x1 x2 x3 x4 x5 x6
  obtain ⟨x0, x1, x2, x3, x4, x5, x6⟩ := seven_cells (HB.out.at 2 rfl)
  go_wp2_with fail
  refine (own05_any _ _ _ _ _ _ _ _).mono ?_
  rintro e w9 ⟨rfl, k9⟩
  replace HB := Lib.hid (HB.out.none k9)
  clear k9
  clear x0 x1 x2 x3 x4 x5 x6
  go_wp2_with fail
  refine (PS.out.1 _).mono ?_
  rintro e w3 ⟨rfl, k3⟩
  replace HB := Lib.hid ((HB.out.none k3).alloc (.cells (rCells s0 s1 s2 s3 s4 s5 s6) 66))
  clear k3
  obtain ⟨x0, x1, x2, x3, x4, x5, x6⟩ := seven_cells (HB.out.at 3 rfl)
  go_wp2_with fail
  refine (PS.out.2 _).mono ?_
  rintro e w4 ⟨rfl, k4⟩
  replace HB := Lib.hid ((HB.out.none k4).alloc (.cells (rCells s0 s1 s2 s3 s4 s5 s6) 64) |>.drew)
  clear k4
  clear x0 x1 x2 x3 x4 x5 x6
  go_wp2_with fail
  go_region_held3 (fun w' => w'.cell? ⟨w.heap.size, 0, none⟩ = some (.int .i64 x) ∧ w'.cell? ⟨w.heap.size, 1, none⟩ = some (.int .i64 y) ∧ w'.cell? ⟨w.heap.size, 2, none⟩ = some (.int .i64 a) ∧ w'.cell? ⟨w.heap.size, 3, none⟩ = some (.int .i64 b) ∧ w'.cell? ⟨w.heap.size, 4, none⟩ = some (.int .i64 c) ∧ w'.cell? ⟨w.heap.size, 5, none⟩ = some (.int .i64 d) ∧ w'.cell? ⟨w.heap.size, 6, none⟩ = some (.int .i64 p) ∧ w'.cell? ⟨w1.heap.size, 0, none⟩ = some (.int .i64 q0) ∧ w'.cell? ⟨w1.heap.size, 1, none⟩ = some (.int .i64 q1) ∧ w'.cell? ⟨w1.heap.size, 2, none⟩ = some (.int .i64 q2) ∧ w'.cell? ⟨w1.heap.size, 3, none⟩ = some (.int .i64 q3) ∧ w'.cell? ⟨w1.heap.size, 4, none⟩ = some (.int .i64 q4) ∧ w'.cell? ⟨w1.heap.size, 5, none⟩ = some (.int .i64 q5) ∧ w'.cell? ⟨w1.heap.size, 6, none⟩ = some (.int .i64 q6) ∧ w'.cell? ⟨w2.heap.size, 0, none⟩ = some (.int .i64 q0) ∧ w'.cell? ⟨w2.heap.size, 1, none⟩ = some (.int .i64 q1) ∧ w'.cell? ⟨w2.heap.size, 2, none⟩ = some (.int .i64 q2) ∧ w'.cell? ⟨w2.heap.size, 3, none⟩ = some (.int .i64 q3) ∧ w'.cell? ⟨w2.heap.size, 4, none⟩ = some (.int .i64 q4) ∧ w'.cell? ⟨w2.heap.size, 5, none⟩ = some (.int .i64 q5) ∧ w'.cell? ⟨w2.heap.size, 6, none⟩ = some (.int .i64 q6) ∧ w'.cell? ⟨w3.heap.size, 0, none⟩ = some (.int .i64 s0) ∧ w'.cell? ⟨w3.heap.size, 1, none⟩ = some (.int .i64 s1) ∧ w'.cell? ⟨w3.heap.size, 2, none⟩ = some (.int .i64 s2) ∧ w'.cell? ⟨w3.heap.size, 3, none⟩ = some (.int .i64 s3) ∧ w'.cell? ⟨w3.heap.size, 4, none⟩ = some (.int .i64 s4) ∧ w'.cell? ⟨w3.heap.size, 5, none⟩ = some (.int .i64 s5) ∧ w'.cell? ⟨w3.heap.size, 6, none⟩ = some (.int .i64 s6) ∧ w'.cell? ⟨w4.heap.size, 0, none⟩ = some (.int .i64 s0) ∧ w'.cell? ⟨w4.heap.size, 1, none⟩ = some (.int .i64 s1) ∧ w'.cell? ⟨w4.heap.size, 2, none⟩ = some (.int .i64 s2) ∧ w'.cell? ⟨w4.heap.size, 3, none⟩ = some (.int .i64 s3) ∧ w'.cell? ⟨w4.heap.size, 4, none⟩ = some (.int .i64 s4) ∧ w'.cell? ⟨w4.heap.size, 5, none⟩ = some (.int .i64 s5) ∧ w'.cell? ⟨w4.heap.size, 6, none⟩ = some (.int .i64 s6))
    (first
      | exact ⟨cell_of (HB.out.at 4 rfl) 0, cell_of (HB.out.at 4 rfl) 1, cell_of (HB.out.at 4 rfl) 2, cell_of (HB.out.at 4 rfl) 3, cell_of (HB.out.at 4 rfl) 4, cell_of (HB.out.at 4 rfl) 5, cell_of (HB.out.at 4 rfl) 6, cell_of (HB.out.at 3 rfl) 0, cell_of (HB.out.at 3 rfl) 1, cell_of (HB.out.at 3 rfl) 2, cell_of (HB.out.at 3 rfl) 3, cell_of (HB.out.at 3 rfl) 4, cell_of (HB.out.at 3 rfl) 5, cell_of (HB.out.at 3 rfl) 6, cell_of (HB.out.at 2 rfl) 0, cell_of (HB.out.at 2 rfl) 1, cell_of (HB.out.at 2 rfl) 2, cell_of (HB.out.at 2 rfl) 3, cell_of (HB.out.at 2 rfl) 4, cell_of (HB.out.at 2 rfl) 5, cell_of (HB.out.at 2 rfl) 6, cell_of (HB.out.at 1 rfl) 0, cell_of (HB.out.at 1 rfl) 1, cell_of (HB.out.at 1 rfl) 2, cell_of (HB.out.at 1 rfl) 3, cell_of (HB.out.at 1 rfl) 4, cell_of (HB.out.at 1 rfl) 5, cell_of (HB.out.at 1 rfl) 6, cell_of (HB.out.at 0 rfl) 0, cell_of (HB.out.at 0 rfl) 1, cell_of (HB.out.at 0 rfl) 2, cell_of (HB.out.at 0 rfl) 3, cell_of (HB.out.at 0 rfl) 4, cell_of (HB.out.at 0 rfl) 5, cell_of (HB.out.at 0 rfl) 6⟩
      | go_keep)
    (first
      | (go_at_call 38; refine (own05_any _ _ _ _ _ _ _ _).mono ?_; rintro e w8 ⟨rfl, k8⟩; replace HB := Lib.hid (HB.out.none k8); clear k8)
      | (go_at_call 42; refine (HR.out _).mono ?_; rintro e w8 ⟨rfl, k8⟩; replace HB := Lib.hid (HB.out.none k8); clear k8)
      | (go_at_call 43; refine (HF.out _).mono ?_; rintro e w8 ⟨rfl, k8⟩; replace HB := Lib.hid (HB.out.none k8); clear k8)
      | (go_at_call 44; refine (back05_any _ _ _ _ _ _ _ _).mono ?_; rintro e w8 ⟨rfl, k8⟩; replace HB := Lib.hid (HB.out.none k8); clear k8)
      | (go_at_call 36; refine (alive05_any _).mono ?_; rintro e w8 ⟨rfl, k8⟩; replace HB := Lib.hid (HB.out.none k8); clear k8))
  all_goals
    go_wp2
    go_ret
    exact ⟨rfl, HB.out.keeps⟩
end Go.Proofs.Ytkpjedpnknaliaa
