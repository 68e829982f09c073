import Derived.Test.YtnogdeihiiejkaaConfG
namespace Go.Proofs.Ytnogdeihiiejkaa
open Go.ChangeShapes Go.WideShapes Go.ChangeAt Go.RowKit
set_option linter.unusedVariables false
set_option linter.unusedSimpArgs false
def cntB (c : CfD) : Nat → Bool
  | 0 => decide ((1 : Int) ≤ (c.nT : Int)) && decide ((c.nT : Int) ≤ 16)
  | 1 => decide ((c.nL : Int) ≤ 31)
  | 2 => decide ((c.nO : Int) ≤ 16)
  | _ => decide (0 ≤ c.tick) && decide (c.tick ≤ (c.nL : Int))
def cntF (c : CfD) (i : Nat) : Int := if cntB c i = true then 0 else 2
theorem tasks_any (c : CfD) (w : World) (hc : CfIn w c) (ho : c.Ok) :
    Calls Try.prog 21 #[.agg c.cells] w fun e w' => e = .returned (.agg (badC (eachV 2 (fun i => taskF (c.tp i) (c.tl i)) c.nT))) ∧ Keeps (fun _ => False) w w' := by
  have HB := Lib.hid (((Has.start w).alloc (.cells c.cells 78)).alloc (.cells #[.int .i64 0, .int .i64 0, .int .i64 0] 60) |>.eq (M := [(w.heap.size + 1, .cells #[.int .i64 0, .int .i64 0, .int .i64 0] 60 (0, 0)), (w.heap.size, .cells c.cells 78 (0, 0))]) (by simp))
  have HE := Lib.hid (fun w' (h : Has w w' [(w.heap.size + 1, .cells #[.int .i64 0, .int .i64 0, .int .i64 0] 60 (0, 0)), (w.heap.size, .cells c.cells 78 (0, 0))]) => each_tasks 2 (c.nT : Int) c.nT w.heap.size (fun i => taskF (c.tp i) (c.tl i)) w' rfl ho.t (fun i hi w2 k => tasks1_any c w.heap.size i w2 (hc.none (h.keeps.trans k)) ho (k.at (h.at 1 rfl) fun h => h) hi))
  generalize eachV 2 (fun i => taskF (c.tp i) (c.tl i)) c.nT = bv at *
  obtain ⟨b0, b1, b2⟩ := bv
  clear hc ho
  go_enter Try.func21, Try.ntmps21
  go_wp2_with fail
  refine (HE.out _ HB.out).mono ?_
  rintro e w2 ⟨rfl, k2⟩
  replace HB := Lib.hid (HB.out.none k2)
  clear k2
  obtain ⟨⟨r0, r1, r2⟩, g0, g1, g2, lr⟩ := three_cells (HB.out.at 0 rfl)
  have hle : w.heap.size ≤ w.heap.size + 1 := Nat.le_succ _
  go_wp2
  refine bodyPost_ret (v := .agg #[.int .i64 b0, .int .i64 b1, .int .i64 b2]) (by simp [results, Try.results21, go_sem, *]) rfl ⟨rfl, ?_⟩
  exact ((HB.out.keeps.setCell (p := ⟨w.heap.size + 1, 0, none⟩) (.inr hle) _).setCell (p := ⟨w.heap.size + 1, 1, none⟩) (.inr hle) _).setCell (p := ⟨w.heap.size + 1, 2, none⟩) (.inr hle) _
theorem levels_any (c : CfD) (w : World) (hc : CfIn w c) (ho : c.Ok) :
    Calls Try.prog 22 #[.agg c.cells] w fun e w' => e = .returned (.agg (badC (eachV 3 (fun i => levelF (c.lr i) (c.ll i)) c.nL))) ∧ Keeps (fun _ => False) w w' := by
  have HB := Lib.hid (((Has.start w).alloc (.cells c.cells 78)).alloc (.cells #[.int .i64 0, .int .i64 0, .int .i64 0] 60) |>.eq (M := [(w.heap.size + 1, .cells #[.int .i64 0, .int .i64 0, .int .i64 0] 60 (0, 0)), (w.heap.size, .cells c.cells 78 (0, 0))]) (by simp))
  have HE := Lib.hid (fun w' (h : Has w w' [(w.heap.size + 1, .cells #[.int .i64 0, .int .i64 0, .int .i64 0] 60 (0, 0)), (w.heap.size, .cells c.cells 78 (0, 0))]) => each_levels 3 (c.nL : Int) c.nL w.heap.size (fun i => levelF (c.lr i) (c.ll i)) w' rfl ho.l (fun i hi w2 k => levels1_any c w.heap.size i w2 (hc.none (h.keeps.trans k)) ho (k.at (h.at 1 rfl) fun h => h) hi))
  generalize eachV 3 (fun i => levelF (c.lr i) (c.ll i)) c.nL = bv at *
  obtain ⟨b0, b1, b2⟩ := bv
  clear hc ho
  go_enter Try.func22, Try.ntmps22
  go_wp2_with fail
  refine (HE.out _ HB.out).mono ?_
  rintro e w2 ⟨rfl, k2⟩
  replace HB := Lib.hid (HB.out.none k2)
  clear k2
  obtain ⟨⟨r0, r1, r2⟩, g0, g1, g2, lr⟩ := three_cells (HB.out.at 0 rfl)
  have hle : w.heap.size ≤ w.heap.size + 1 := Nat.le_succ _
  go_wp2
  refine bodyPost_ret (v := .agg #[.int .i64 b0, .int .i64 b1, .int .i64 b2]) (by simp [results, Try.results22, go_sem, *]) rfl ⟨rfl, ?_⟩
  exact ((HB.out.keeps.setCell (p := ⟨w.heap.size + 1, 0, none⟩) (.inr hle) _).setCell (p := ⟨w.heap.size + 1, 1, none⟩) (.inr hle) _).setCell (p := ⟨w.heap.size + 1, 2, none⟩) (.inr hle) _
theorem objects_any (c : CfD) (w : World) (hc : CfIn w c) (ho : c.Ok) :
    Calls Try.prog 23 #[.agg c.cells] w fun e w' => e = .returned (.agg (badC (eachV 4 (fun i => objF c (c.ob i)) c.nO))) ∧ Keeps (fun _ => False) w w' := by
  have HB := Lib.hid (((Has.start w).alloc (.cells c.cells 78)).alloc (.cells #[.int .i64 0, .int .i64 0, .int .i64 0] 60) |>.eq (M := [(w.heap.size + 1, .cells #[.int .i64 0, .int .i64 0, .int .i64 0] 60 (0, 0)), (w.heap.size, .cells c.cells 78 (0, 0))]) (by simp))
  have HE := Lib.hid (fun w' (h : Has w w' [(w.heap.size + 1, .cells #[.int .i64 0, .int .i64 0, .int .i64 0] 60 (0, 0)), (w.heap.size, .cells c.cells 78 (0, 0))]) => each_objects 4 (c.nO : Int) c.nO w.heap.size (fun i => objF c (c.ob i)) w' rfl ho.o (fun i hi w2 k => objs1_any c w.heap.size i w2 (hc.none (h.keeps.trans k)) ho (k.at (h.at 1 rfl) fun h => h) hi))
  generalize eachV 4 (fun i => objF c (c.ob i)) c.nO = bv at *
  obtain ⟨b0, b1, b2⟩ := bv
  clear hc ho
  go_enter Try.func23, Try.ntmps23
  go_wp2_with fail
  refine (HE.out _ HB.out).mono ?_
  rintro e w2 ⟨rfl, k2⟩
  replace HB := Lib.hid (HB.out.none k2)
  clear k2
  obtain ⟨⟨r0, r1, r2⟩, g0, g1, g2, lr⟩ := three_cells (HB.out.at 0 rfl)
  have hle : w.heap.size ≤ w.heap.size + 1 := Nat.le_succ _
  go_wp2
  refine bodyPost_ret (v := .agg #[.int .i64 b0, .int .i64 b1, .int .i64 b2]) (by simp [results, Try.results23, go_sem, *]) rfl ⟨rfl, ?_⟩
  exact ((HB.out.keeps.setCell (p := ⟨w.heap.size + 1, 0, none⟩) (.inr hle) _).setCell (p := ⟨w.heap.size + 1, 1, none⟩) (.inr hle) _).setCell (p := ⟨w.heap.size + 1, 2, none⟩) (.inr hle) _
theorem counts_tt (c : CfD) (w : World) (ho : c.Ok) (h1 : (1 : Int) ≤ (c.nT : Int)) (h2 : 0 ≤ c.tick) :
    Calls Try.prog 20 #[.agg c.cells] w fun e w' => e = .returned (.agg (badC (eachV 1 (cntF c) 4))) ∧ Keeps (fun _ => False) w w' := by
  have HB := Lib.hid (((Has.start w).alloc (.cells c.cells 78)).alloc (.cells #[.int .i64 0, .int .i64 0, .int .i64 0] 60) |>.eq (M := [(w.heap.size + 1, .cells #[.int .i64 0, .int .i64 0, .int .i64 0] 60 (0, 0)), (w.heap.size, .cells c.cells 78 (0, 0))]) (by simp))
  have d1 : decide ((1 : Int) ≤ (c.nT : Int)) = true := decide_eq_true h1
  have d2 : decide (0 ≤ c.tick) = true := decide_eq_true h2
  have hB0 : cntB c 0 = decide ((c.nT : Int) ≤ 16) := by show (decide ((1 : Int) ≤ (c.nT : Int)) && decide ((c.nT : Int) ≤ 16)) = _; rw [d1]; simp
  have hB3 : cntB c 3 = decide (c.tick ≤ (c.nL : Int)) := by show (decide (0 ≤ c.tick) && decide (c.tick ≤ (c.nL : Int))) = _; rw [d2]; simp
  have HBB := Lib.hid (And.intro hB0 hB3)
  have HE := Lib.hid (fun w' Q (h : w'.heap[Q]? = some (.cells #[.bool (cntB c 0), .bool (cntB c 1), .bool (cntB c 2), .bool (cntB c 3)] 85 (0, 0))) => each_counts 1 4 4 Q (cntF c) w' rfl (by unfold maxLen; omega) (fun i hi w2 k => counts1_any (cntB c) Q i w2 (k.at h fun h => h) hi))
  have hle : w.heap.size ≤ w.heap.size + 1 := Nat.le_succ _
  generalize eachV 1 (cntF c) 4 = bv at *
  obtain ⟨b0, b1, b2⟩ := bv
  clear ho h1 h2 hB0 hB3
  obtain ⟨e0, e1, e2, e3⟩ := four_cells (HB.out.at 1 rfl)
  go_enter Try.func20, Try.ntmps20
  go_wp2_with fail
  go_quiet (fail)
  replace HB := Lib.hid (HB.out.none ((Keeps.refl _ _).drewN nq))
  clear e0 e1 e2 e3
  obtain ⟨e0, e1, e2, e3⟩ := four_cells (HB.out.at 1 rfl)
  go_wp2_with fail
  replace HB := Lib.hid (HB.out.alloc (.cells #[.bool (cntB c 0), .bool (cntB c 1), .bool (cntB c 2), .bool (cntB c 3)] 85))
  refine (HE.out _ _ ?_).mono ?_
  · have hn := HB.out.at 0 rfl
    simp only [HBB.out.1, HBB.out.2] at hn ⊢
    simpa [cntB] using hn
  rintro e w2 ⟨rfl, k2⟩
  have HB2 := Lib.hid (show Has w w2 [(w.heap.size + 1, .cells #[.int .i64 0, .int .i64 0, .int .i64 0] 60 (0, 0)), (w.heap.size, .cells c.cells 78 (0, 0))] from by
    have hn := (HB.out.tl)
    simp only [HBB.out.1, HBB.out.2] at hn
    exact Has.none hn (by simpa [cntB] using k2))
  clear k2 HB
  obtain ⟨⟨r0, r1, r2⟩, g0, g1, g2, lr⟩ := three_cells (HB2.out.at 0 rfl)
  go_wp2
  refine bodyPost_ret (v := .agg #[.int .i64 b0, .int .i64 b1, .int .i64 b2]) (by simp [results, Try.results20, go_sem, *]) rfl ⟨rfl, ?_⟩
  exact ((HB2.out.keeps.setCell (p := ⟨w.heap.size + 1, 0, none⟩) (.inr hle) _).setCell (p := ⟨w.heap.size + 1, 1, none⟩) (.inr hle) _).setCell (p := ⟨w.heap.size + 1, 2, none⟩) (.inr hle) _
theorem counts_tf (c : CfD) (w : World) (ho : c.Ok) (h1 : (1 : Int) ≤ (c.nT : Int)) (h2 : ¬ 0 ≤ c.tick) :
    Calls Try.prog 20 #[.agg c.cells] w fun e w' => e = .returned (.agg (badC (eachV 1 (cntF c) 4))) ∧ Keeps (fun _ => False) w w' := by
  have HB := Lib.hid (((Has.start w).alloc (.cells c.cells 78)).alloc (.cells #[.int .i64 0, .int .i64 0, .int .i64 0] 60) |>.eq (M := [(w.heap.size + 1, .cells #[.int .i64 0, .int .i64 0, .int .i64 0] 60 (0, 0)), (w.heap.size, .cells c.cells 78 (0, 0))]) (by simp))
  have d1 : decide ((1 : Int) ≤ (c.nT : Int)) = true := decide_eq_true h1
  have d2 : decide (0 ≤ c.tick) = false := decide_eq_false h2
  have hB0 : cntB c 0 = decide ((c.nT : Int) ≤ 16) := by show (decide ((1 : Int) ≤ (c.nT : Int)) && decide ((c.nT : Int) ≤ 16)) = _; rw [d1]; simp
  have hB3 : cntB c 3 = false := by show (decide (0 ≤ c.tick) && decide (c.tick ≤ (c.nL : Int))) = _; rw [d2]; simp
  have HBB := Lib.hid (And.intro hB0 hB3)
  have HE := Lib.hid (fun w' Q (h : w'.heap[Q]? = some (.cells #[.bool (cntB c 0), .bool (cntB c 1), .bool (cntB c 2), .bool (cntB c 3)] 85 (0, 0))) => each_counts 1 4 4 Q (cntF c) w' rfl (by unfold maxLen; omega) (fun i hi w2 k => counts1_any (cntB c) Q i w2 (k.at h fun h => h) hi))
  have hle : w.heap.size ≤ w.heap.size + 1 := Nat.le_succ _
  generalize eachV 1 (cntF c) 4 = bv at *
  obtain ⟨b0, b1, b2⟩ := bv
  clear ho h1 h2 hB0 hB3
  obtain ⟨e0, e1, e2, e3⟩ := four_cells (HB.out.at 1 rfl)
  go_enter Try.func20, Try.ntmps20
  go_wp2_with fail
  go_quiet (fail)
  replace HB := Lib.hid (HB.out.none ((Keeps.refl _ _).drewN nq))
  clear e0 e1 e2 e3
  obtain ⟨e0, e1, e2, e3⟩ := four_cells (HB.out.at 1 rfl)
  go_wp2_with fail
  replace HB := Lib.hid (HB.out.alloc (.cells #[.bool (cntB c 0), .bool (cntB c 1), .bool (cntB c 2), .bool (cntB c 3)] 85))
  refine (HE.out _ _ ?_).mono ?_
  · have hn := HB.out.at 0 rfl
    simp only [HBB.out.1, HBB.out.2] at hn ⊢
    simpa [cntB] using hn
  rintro e w2 ⟨rfl, k2⟩
  have HB2 := Lib.hid (show Has w w2 [(w.heap.size + 1, .cells #[.int .i64 0, .int .i64 0, .int .i64 0] 60 (0, 0)), (w.heap.size, .cells c.cells 78 (0, 0))] from by
    have hn := (HB.out.tl)
    simp only [HBB.out.1, HBB.out.2] at hn
    exact Has.none hn (by simpa [cntB] using k2))
  clear k2 HB
  obtain ⟨⟨r0, r1, r2⟩, g0, g1, g2, lr⟩ := three_cells (HB2.out.at 0 rfl)
  go_wp2
  refine bodyPost_ret (v := .agg #[.int .i64 b0, .int .i64 b1, .int .i64 b2]) (by simp [results, Try.results20, go_sem, *]) rfl ⟨rfl, ?_⟩
  exact ((HB2.out.keeps.setCell (p := ⟨w.heap.size + 1, 0, none⟩) (.inr hle) _).setCell (p := ⟨w.heap.size + 1, 1, none⟩) (.inr hle) _).setCell (p := ⟨w.heap.size + 1, 2, none⟩) (.inr hle) _
theorem counts_ft (c : CfD) (w : World) (ho : c.Ok) (h1 : ¬ (1 : Int) ≤ (c.nT : Int)) (h2 : 0 ≤ c.tick) :
    Calls Try.prog 20 #[.agg c.cells] w fun e w' => e = .returned (.agg (badC (eachV 1 (cntF c) 4))) ∧ Keeps (fun _ => False) w w' := by
  have HB := Lib.hid (((Has.start w).alloc (.cells c.cells 78)).alloc (.cells #[.int .i64 0, .int .i64 0, .int .i64 0] 60) |>.eq (M := [(w.heap.size + 1, .cells #[.int .i64 0, .int .i64 0, .int .i64 0] 60 (0, 0)), (w.heap.size, .cells c.cells 78 (0, 0))]) (by simp))
  have d1 : decide ((1 : Int) ≤ (c.nT : Int)) = false := decide_eq_false h1
  have d2 : decide (0 ≤ c.tick) = true := decide_eq_true h2
  have hB0 : cntB c 0 = false := by show (decide ((1 : Int) ≤ (c.nT : Int)) && decide ((c.nT : Int) ≤ 16)) = _; rw [d1]; simp
  have hB3 : cntB c 3 = decide (c.tick ≤ (c.nL : Int)) := by show (decide (0 ≤ c.tick) && decide (c.tick ≤ (c.nL : Int))) = _; rw [d2]; simp
  have HBB := Lib.hid (And.intro hB0 hB3)
  have HE := Lib.hid (fun w' Q (h : w'.heap[Q]? = some (.cells #[.bool (cntB c 0), .bool (cntB c 1), .bool (cntB c 2), .bool (cntB c 3)] 85 (0, 0))) => each_counts 1 4 4 Q (cntF c) w' rfl (by unfold maxLen; omega) (fun i hi w2 k => counts1_any (cntB c) Q i w2 (k.at h fun h => h) hi))
  have hle : w.heap.size ≤ w.heap.size + 1 := Nat.le_succ _
  generalize eachV 1 (cntF c) 4 = bv at *
  obtain ⟨b0, b1, b2⟩ := bv
  clear ho h1 h2 hB0 hB3
  obtain ⟨e0, e1, e2, e3⟩ := four_cells (HB.out.at 1 rfl)
  go_enter Try.func20, Try.ntmps20
  go_wp2_with fail
  go_quiet (fail)
  replace HB := Lib.hid (HB.out.none ((Keeps.refl _ _).drewN nq))
  clear e0 e1 e2 e3
  obtain ⟨e0, e1, e2, e3⟩ := four_cells (HB.out.at 1 rfl)
  go_wp2_with fail
  replace HB := Lib.hid (HB.out.alloc (.cells #[.bool (cntB c 0), .bool (cntB c 1), .bool (cntB c 2), .bool (cntB c 3)] 85))
  refine (HE.out _ _ ?_).mono ?_
  · have hn := HB.out.at 0 rfl
    simp only [HBB.out.1, HBB.out.2] at hn ⊢
    simpa [cntB] using hn
  rintro e w2 ⟨rfl, k2⟩
  have HB2 := Lib.hid (show Has w w2 [(w.heap.size + 1, .cells #[.int .i64 0, .int .i64 0, .int .i64 0] 60 (0, 0)), (w.heap.size, .cells c.cells 78 (0, 0))] from by
    have hn := (HB.out.tl)
    simp only [HBB.out.1, HBB.out.2] at hn
    exact Has.none hn (by simpa [cntB] using k2))
  clear k2 HB
  obtain ⟨⟨r0, r1, r2⟩, g0, g1, g2, lr⟩ := three_cells (HB2.out.at 0 rfl)
  go_wp2
  refine bodyPost_ret (v := .agg #[.int .i64 b0, .int .i64 b1, .int .i64 b2]) (by simp [results, Try.results20, go_sem, *]) rfl ⟨rfl, ?_⟩
  exact ((HB2.out.keeps.setCell (p := ⟨w.heap.size + 1, 0, none⟩) (.inr hle) _).setCell (p := ⟨w.heap.size + 1, 1, none⟩) (.inr hle) _).setCell (p := ⟨w.heap.size + 1, 2, none⟩) (.inr hle) _
theorem counts_ff (c : CfD) (w : World) (ho : c.Ok) (h1 : ¬ (1 : Int) ≤ (c.nT : Int)) (h2 : ¬ 0 ≤ c.tick) :
    Calls Try.prog 20 #[.agg c.cells] w fun e w' => e = .returned (.agg (badC (eachV 1 (cntF c) 4))) ∧ Keeps (fun _ => False) w w' := by
  have HB := Lib.hid (((Has.start w).alloc (.cells c.cells 78)).alloc (.cells #[.int .i64 0, .int .i64 0, .int .i64 0] 60) |>.eq (M := [(w.heap.size + 1, .cells #[.int .i64 0, .int .i64 0, .int .i64 0] 60 (0, 0)), (w.heap.size, .cells c.cells 78 (0, 0))]) (by simp))
  have d1 : decide ((1 : Int) ≤ (c.nT : Int)) = false := decide_eq_false h1
  have d2 : decide (0 ≤ c.tick) = false := decide_eq_false h2
  have hB0 : cntB c 0 = false := by show (decide ((1 : Int) ≤ (c.nT : Int)) && decide ((c.nT : Int) ≤ 16)) = _; rw [d1]; simp
  have hB3 : cntB c 3 = false := by show (decide (0 ≤ c.tick) && decide (c.tick ≤ (c.nL : Int))) = _; rw [d2]; simp
  have HBB := Lib.hid (And.intro hB0 hB3)
  have HE := Lib.hid (fun w' Q (h : w'.heap[Q]? = some (.cells #[.bool (cntB c 0), .bool (cntB c 1), .bool (cntB c 2), .bool (cntB c 3)] 85 (0, 0))) => each_counts 1 4 4 Q (cntF c) w' rfl (by unfold maxLen; omega) (fun i hi w2 k => counts1_any (cntB c) Q i w2 (k.at h fun h => h) hi))
  have hle : w.heap.size ≤ w.heap.size + 1 := Nat.le_succ _
  generalize eachV 1 (cntF c) 4 = bv at *
  obtain ⟨b0, b1, b2⟩ := bv
  clear ho h1 h2 hB0 hB3
  obtain ⟨e0, e1, e2, e3⟩ := four_cells (HB.out.at 1 rfl)
  go_enter Try.func20, Try.ntmps20
  go_wp2_with fail
  go_quiet (fail)
  replace HB := Lib.hid (HB.out.none ((Keeps.refl _ _).drewN nq))
  clear e0 e1 e2 e3
  obtain ⟨e0, e1, e2, e3⟩ := four_cells (HB.out.at 1 rfl)
  go_wp2_with fail
  replace HB := Lib.hid (HB.out.alloc (.cells #[.bool (cntB c 0), .bool (cntB c 1), .bool (cntB c 2), .bool (cntB c 3)] 85))
  refine (HE.out _ _ ?_).mono ?_
  · have hn := HB.out.at 0 rfl
    simp only [HBB.out.1, HBB.out.2] at hn ⊢
    simpa [cntB] using hn
  rintro e w2 ⟨rfl, k2⟩
  have HB2 := Lib.hid (show Has w w2 [(w.heap.size + 1, .cells #[.int .i64 0, .int .i64 0, .int .i64 0] 60 (0, 0)), (w.heap.size, .cells c.cells 78 (0, 0))] from by
    have hn := (HB.out.tl)
    simp only [HBB.out.1, HBB.out.2] at hn
    exact Has.none hn (by simpa [cntB] using k2))
  clear k2 HB
  obtain ⟨⟨r0, r1, r2⟩, g0, g1, g2, lr⟩ := three_cells (HB2.out.at 0 rfl)
  go_wp2
  refine bodyPost_ret (v := .agg #[.int .i64 b0, .int .i64 b1, .int .i64 b2]) (by simp [results, Try.results20, go_sem, *]) rfl ⟨rfl, ?_⟩
  exact ((HB2.out.keeps.setCell (p := ⟨w.heap.size + 1, 0, none⟩) (.inr hle) _).setCell (p := ⟨w.heap.size + 1, 1, none⟩) (.inr hle) _).setCell (p := ⟨w.heap.size + 1, 2, none⟩) (.inr hle) _
theorem counts_any (c : CfD) (w : World) (ho : c.Ok) :
    Calls Try.prog 20 #[.agg c.cells] w fun e w' => e = .returned (.agg (badC (eachV 1 (cntF c) 4))) ∧ Keeps (fun _ => False) w w' := by
  by_cases h1 : (1 : Int) ≤ (c.nT : Int)
  · by_cases h2 : 0 ≤ c.tick
    · exact counts_tt c w ho h1 h2
    · exact counts_tf c w ho h1 h2
  · by_cases h2 : 0 ≤ c.tick
    · exact counts_ft c w ho h1 h2
    · exact counts_ff c w ho h1 h2
end Go.Proofs.Ytnogdeihiiejkaa
