import Derived.Test.YthnmlklgbggmbaaGreatConfGq
namespace Go.Proofs.YthnmlklgbggmbaaGreat
open Go.ChangeShapes Go.WideShapes Go.ChangeAt Go.RowKit
set_option linter.unusedVariables false
set_option linter.unusedSimpArgs false
def cntB (c : CfD) : Nat → Bool
  | 0 => decide ((1 : Int) ≤ (c.nT : Int)) && decide ((c.nT : Int) ≤ 16)
  | 1 => decide ((c.nL : Int) ≤ 31)
  | 2 => decide ((c.nO : Int) ≤ 16)
  | _ => decide (0 ≤ c.tick) && decide (c.tick ≤ (c.nL : Int))
def cntF (c : CfD) (i : Nat) : Int := if cntB c i = true then 0 else 2
theorem tasks_any (c : CfD) (w : World) (hc : CfIn w c) (ho : c.Ok) :
    Calls Tryz.prog 56 #[.agg c.cells] w fun e w' => e = .returned (.agg (badC (eachV 2 (fun i => taskF (c.tp i) (c.tl i)) c.nT))) ∧ Keeps (fun _ => False) w w' := by
  have HB := Lib.hid (((Has.start w).alloc (.cells c.cells 112)).alloc (.cells #[.int .i64 0, .int .i64 0, .int .i64 0] 30) |>.eq (M := [(w.heap.size + 1, .cells #[.int .i64 0, .int .i64 0, .int .i64 0] 30 (0, 0)), (w.heap.size, .cells c.cells 112 (0, 0))]) (by simp))
  have HE := Lib.hid (fun w' (h : Has w w' [(w.heap.size + 1, .cells #[.int .i64 0, .int .i64 0, .int .i64 0] 30 (0, 0)), (w.heap.size, .cells c.cells 112 (0, 0))]) => each_tasks 2 (c.nT : Int) c.nT w.heap.size (fun i => taskF (c.tp i) (c.tl i)) w' rfl ho.t (fun i hi w2 k => tasks1_any c w.heap.size i w2 (hc.none (h.keeps.trans k)) ho (k.at (h.at 1 rfl) fun h => h) hi))
  generalize eachV 2 (fun i => taskF (c.tp i) (c.tl i)) c.nT = bv at *
  obtain ⟨b0, b1, b2⟩ := bv
  clear hc ho
  go_enter Tryz.func56, Tryz.ntmps56
  go_wp2_with fail
  refine (HE.out _ HB.out).mono ?_
  rintro e w2 ⟨rfl, k2⟩
  replace HB := Lib.hid (HB.out.none k2)
  clear k2
  obtain ⟨⟨r0, r1, r2⟩, g0, g1, g2, lr⟩ := three_cells (HB.out.at 0 rfl)
  have hle : w.heap.size ≤ w.heap.size + 1 := Nat.le_succ _
  go_wp2
  refine bodyPost_ret (v := .agg #[.int .i64 b0, .int .i64 b1, .int .i64 b2]) (by simp [results, Tryz.results56, go_sem, *]) rfl ⟨rfl, ?_⟩
  exact ((HB.out.keeps.setCell (p := ⟨w.heap.size + 1, 0, none⟩) (.inr hle) _).setCell (p := ⟨w.heap.size + 1, 1, none⟩) (.inr hle) _).setCell (p := ⟨w.heap.size + 1, 2, none⟩) (.inr hle) _
theorem levels_any (c : CfD) (w : World) (hc : CfIn w c) (ho : c.Ok) :
    Calls Tryz.prog 57 #[.agg c.cells] w fun e w' => e = .returned (.agg (badC (eachV 3 (fun i => levelF (c.lr i) (c.ll i)) c.nL))) ∧ Keeps (fun _ => False) w w' := by
  have HB := Lib.hid (((Has.start w).alloc (.cells c.cells 112)).alloc (.cells #[.int .i64 0, .int .i64 0, .int .i64 0] 30) |>.eq (M := [(w.heap.size + 1, .cells #[.int .i64 0, .int .i64 0, .int .i64 0] 30 (0, 0)), (w.heap.size, .cells c.cells 112 (0, 0))]) (by simp))
  have HE := Lib.hid (fun w' (h : Has w w' [(w.heap.size + 1, .cells #[.int .i64 0, .int .i64 0, .int .i64 0] 30 (0, 0)), (w.heap.size, .cells c.cells 112 (0, 0))]) => each_levels 3 (c.nL : Int) c.nL w.heap.size (fun i => levelF (c.lr i) (c.ll i)) w' rfl ho.l (fun i hi w2 k => levels1_any c w.heap.size i w2 (hc.none (h.keeps.trans k)) ho (k.at (h.at 1 rfl) fun h => h) hi))
  generalize eachV 3 (fun i => levelF (c.lr i) (c.ll i)) c.nL = bv at *
  obtain ⟨b0, b1, b2⟩ := bv
  clear hc ho
  go_enter Tryz.func57, Tryz.ntmps57
  go_wp2_with fail
  refine (HE.out _ HB.out).mono ?_
  rintro e w2 ⟨rfl, k2⟩
  replace HB := Lib.hid (HB.out.none k2)
  clear k2
  obtain ⟨⟨r0, r1, r2⟩, g0, g1, g2, lr⟩ := three_cells (HB.out.at 0 rfl)
  have hle : w.heap.size ≤ w.heap.size + 1 := Nat.le_succ _
  go_wp2
  refine bodyPost_ret (v := .agg #[.int .i64 b0, .int .i64 b1, .int .i64 b2]) (by simp [results, Tryz.results57, go_sem, *]) rfl ⟨rfl, ?_⟩
  exact ((HB.out.keeps.setCell (p := ⟨w.heap.size + 1, 0, none⟩) (.inr hle) _).setCell (p := ⟨w.heap.size + 1, 1, none⟩) (.inr hle) _).setCell (p := ⟨w.heap.size + 1, 2, none⟩) (.inr hle) _
theorem objects_any (c : CfD) (w : World) (hc : CfIn w c) (ho : c.Ok) :
    Calls Tryz.prog 58 #[.agg c.cells] w fun e w' => e = .returned (.agg (badC (eachV 4 (fun i => objF c (c.ob i)) c.nO))) ∧ Keeps (fun _ => False) w w' := by
  have HB := Lib.hid (((Has.start w).alloc (.cells c.cells 112)).alloc (.cells #[.int .i64 0, .int .i64 0, .int .i64 0] 30) |>.eq (M := [(w.heap.size + 1, .cells #[.int .i64 0, .int .i64 0, .int .i64 0] 30 (0, 0)), (w.heap.size, .cells c.cells 112 (0, 0))]) (by simp))
  have HE := Lib.hid (fun w' (h : Has w w' [(w.heap.size + 1, .cells #[.int .i64 0, .int .i64 0, .int .i64 0] 30 (0, 0)), (w.heap.size, .cells c.cells 112 (0, 0))]) => each_objects 4 (c.nO : Int) c.nO w.heap.size (fun i => objF c (c.ob i)) w' rfl ho.o (fun i hi w2 k => objs1_any c w.heap.size i w2 (hc.none (h.keeps.trans k)) ho (k.at (h.at 1 rfl) fun h => h) hi))
  generalize eachV 4 (fun i => objF c (c.ob i)) c.nO = bv at *
  obtain ⟨b0, b1, b2⟩ := bv
  clear hc ho
  go_enter Tryz.func58, Tryz.ntmps58
  go_wp2_with fail
  refine (HE.out _ HB.out).mono ?_
  rintro e w2 ⟨rfl, k2⟩
  replace HB := Lib.hid (HB.out.none k2)
  clear k2
  obtain ⟨⟨r0, r1, r2⟩, g0, g1, g2, lr⟩ := three_cells (HB.out.at 0 rfl)
  have hle : w.heap.size ≤ w.heap.size + 1 := Nat.le_succ _
  go_wp2
  refine bodyPost_ret (v := .agg #[.int .i64 b0, .int .i64 b1, .int .i64 b2]) (by simp [results, Tryz.results58, go_sem, *]) rfl ⟨rfl, ?_⟩
  exact ((HB.out.keeps.setCell (p := ⟨w.heap.size + 1, 0, none⟩) (.inr hle) _).setCell (p := ⟨w.heap.size + 1, 1, none⟩) (.inr hle) _).setCell (p := ⟨w.heap.size + 1, 2, none⟩) (.inr hle) _
theorem counts_tt (c : CfD) (w : World) (ho : c.Ok) (h1 : (1 : Int) ≤ (c.nT : Int)) (h2 : 0 ≤ c.tick) :
    Calls Tryz.prog 55 #[.agg c.cells] w fun e w' => e = .returned (.agg (badC (eachV 1 (cntF c) 4))) ∧ Keeps (fun _ => False) w w' := by
  have HB := Lib.hid (((Has.start w).alloc (.cells c.cells 112)).alloc (.cells #[.int .i64 0, .int .i64 0, .int .i64 0] 30) |>.eq (M := [(w.heap.size + 1, .cells #[.int .i64 0, .int .i64 0, .int .i64 0] 30 (0, 0)), (w.heap.size, .cells c.cells 112 (0, 0))]) (by simp))
  have d1 : decide ((1 : Int) ≤ (c.nT : Int)) = true := decide_eq_true h1
  have d2 : decide (0 ≤ c.tick) = true := decide_eq_true h2
  have hB0 : cntB c 0 = decide ((c.nT : Int) ≤ 16) := by show (decide ((1 : Int) ≤ (c.nT : Int)) && decide ((c.nT : Int) ≤ 16)) = _; rw [d1]; simp
  have hB3 : cntB c 3 = decide (c.tick ≤ (c.nL : Int)) := by show (decide (0 ≤ c.tick) && decide (c.tick ≤ (c.nL : Int))) = _; rw [d2]; simp
  have HBB := Lib.hid (And.intro hB0 hB3)
  have HE := Lib.hid (fun w' Q (h : w'.heap[Q]? = some (.cells #[.bool (cntB c 0), .bool (cntB c 1), .bool (cntB c 2), .bool (cntB c 3)] 191 (0, 0))) => each_counts 1 4 4 Q (cntF c) w' rfl (by unfold maxLen; omega) (fun i hi w2 k => counts1_any (cntB c) Q i w2 (k.at h fun h => h) hi))
  have hle : w.heap.size ≤ w.heap.size + 1 := Nat.le_succ _
  generalize eachV 1 (cntF c) 4 = bv at *
  obtain ⟨b0, b1, b2⟩ := bv
  clear ho h1 h2 hB0 hB3
  obtain ⟨e0, e1, e2, e3⟩ := four_cells (HB.out.at 1 rfl)
  go_enter Tryz.func55, Tryz.ntmps55
  go_wp2_with fail
  go_quiet (fail)
  replace HB := Lib.hid (HB.out.none ((Keeps.refl _ _).drewN nq))
  clear e0 e1 e2 e3
  obtain ⟨e0, e1, e2, e3⟩ := four_cells (HB.out.at 1 rfl)
  go_wp2_with fail
  replace HB := Lib.hid (HB.out.alloc (.cells #[.bool (cntB c 0), .bool (cntB c 1), .bool (cntB c 2), .bool (cntB c 3)] 191))
  refine (HE.out _ _ ?_).mono ?_
  · have hn := HB.out.at 0 rfl
    simp only [HBB.out.1, HBB.out.2] at hn ⊢
    simpa [cntB] using hn
  rintro e w2 ⟨rfl, k2⟩
  have HB2 := Lib.hid (show Has w w2 [(w.heap.size + 1, .cells #[.int .i64 0, .int .i64 0, .int .i64 0] 30 (0, 0)), (w.heap.size, .cells c.cells 112 (0, 0))] from by
    have hn := (HB.out.tl)
    simp only [HBB.out.1, HBB.out.2] at hn
    exact Has.none hn (by simpa [cntB] using k2))
  clear k2 HB
  obtain ⟨⟨r0, r1, r2⟩, g0, g1, g2, lr⟩ := three_cells (HB2.out.at 0 rfl)
  go_wp2
  refine bodyPost_ret (v := .agg #[.int .i64 b0, .int .i64 b1, .int .i64 b2]) (by simp [results, Tryz.results55, go_sem, *]) rfl ⟨rfl, ?_⟩
  exact ((HB2.out.keeps.setCell (p := ⟨w.heap.size + 1, 0, none⟩) (.inr hle) _).setCell (p := ⟨w.heap.size + 1, 1, none⟩) (.inr hle) _).setCell (p := ⟨w.heap.size + 1, 2, none⟩) (.inr hle) _
theorem counts_tf (c : CfD) (w : World) (ho : c.Ok) (h1 : (1 : Int) ≤ (c.nT : Int)) (h2 : ¬ 0 ≤ c.tick) :
    Calls Tryz.prog 55 #[.agg c.cells] w fun e w' => e = .returned (.agg (badC (eachV 1 (cntF c) 4))) ∧ Keeps (fun _ => False) w w' := by
  have HB := Lib.hid (((Has.start w).alloc (.cells c.cells 112)).alloc (.cells #[.int .i64 0, .int .i64 0, .int .i64 0] 30) |>.eq (M := [(w.heap.size + 1, .cells #[.int .i64 0, .int .i64 0, .int .i64 0] 30 (0, 0)), (w.heap.size, .cells c.cells 112 (0, 0))]) (by simp))
  have d1 : decide ((1 : Int) ≤ (c.nT : Int)) = true := decide_eq_true h1
  have d2 : decide (0 ≤ c.tick) = false := decide_eq_false h2
  have hB0 : cntB c 0 = decide ((c.nT : Int) ≤ 16) := by show (decide ((1 : Int) ≤ (c.nT : Int)) && decide ((c.nT : Int) ≤ 16)) = _; rw [d1]; simp
  have hB3 : cntB c 3 = false := by show (decide (0 ≤ c.tick) && decide (c.tick ≤ (c.nL : Int))) = _; rw [d2]; simp
  have HBB := Lib.hid (And.intro hB0 hB3)
  have HE := Lib.hid (fun w' Q (h : w'.heap[Q]? = some (.cells #[.bool (cntB c 0), .bool (cntB c 1), .bool (cntB c 2), .bool (cntB c 3)] 191 (0, 0))) => each_counts 1 4 4 Q (cntF c) w' rfl (by unfold maxLen; omega) (fun i hi w2 k => counts1_any (cntB c) Q i w2 (k.at h fun h => h) hi))
  have hle : w.heap.size ≤ w.heap.size + 1 := Nat.le_succ _
  generalize eachV 1 (cntF c) 4 = bv at *
  obtain ⟨b0, b1, b2⟩ := bv
  clear ho h1 h2 hB0 hB3
  obtain ⟨e0, e1, e2, e3⟩ := four_cells (HB.out.at 1 rfl)
  go_enter Tryz.func55, Tryz.ntmps55
  go_wp2_with fail
  go_quiet (fail)
  replace HB := Lib.hid (HB.out.none ((Keeps.refl _ _).drewN nq))
  clear e0 e1 e2 e3
  obtain ⟨e0, e1, e2, e3⟩ := four_cells (HB.out.at 1 rfl)
  go_wp2_with fail
  replace HB := Lib.hid (HB.out.alloc (.cells #[.bool (cntB c 0), .bool (cntB c 1), .bool (cntB c 2), .bool (cntB c 3)] 191))
  refine (HE.out _ _ ?_).mono ?_
  · have hn := HB.out.at 0 rfl
    simp only [HBB.out.1, HBB.out.2] at hn ⊢
    simpa [cntB] using hn
  rintro e w2 ⟨rfl, k2⟩
  have HB2 := Lib.hid (show Has w w2 [(w.heap.size + 1, .cells #[.int .i64 0, .int .i64 0, .int .i64 0] 30 (0, 0)), (w.heap.size, .cells c.cells 112 (0, 0))] from by
    have hn := (HB.out.tl)
    simp only [HBB.out.1, HBB.out.2] at hn
    exact Has.none hn (by simpa [cntB] using k2))
  clear k2 HB
  obtain ⟨⟨r0, r1, r2⟩, g0, g1, g2, lr⟩ := three_cells (HB2.out.at 0 rfl)
  go_wp2
  refine bodyPost_ret (v := .agg #[.int .i64 b0, .int .i64 b1, .int .i64 b2]) (by simp [results, Tryz.results55, go_sem, *]) rfl ⟨rfl, ?_⟩
  exact ((HB2.out.keeps.setCell (p := ⟨w.heap.size + 1, 0, none⟩) (.inr hle) _).setCell (p := ⟨w.heap.size + 1, 1, none⟩) (.inr hle) _).setCell (p := ⟨w.heap.size + 1, 2, none⟩) (.inr hle) _
theorem counts_ft (c : CfD) (w : World) (ho : c.Ok) (h1 : ¬ (1 : Int) ≤ (c.nT : Int)) (h2 : 0 ≤ c.tick) :
    Calls Tryz.prog 55 #[.agg c.cells] w fun e w' => e = .returned (.agg (badC (eachV 1 (cntF c) 4))) ∧ Keeps (fun _ => False) w w' := by
  have HB := Lib.hid (((Has.start w).alloc (.cells c.cells 112)).alloc (.cells #[.int .i64 0, .int .i64 0, .int .i64 0] 30) |>.eq (M := [(w.heap.size + 1, .cells #[.int .i64 0, .int .i64 0, .int .i64 0] 30 (0, 0)), (w.heap.size, .cells c.cells 112 (0, 0))]) (by simp))
  have d1 : decide ((1 : Int) ≤ (c.nT : Int)) = false := decide_eq_false h1
  have d2 : decide (0 ≤ c.tick) = true := decide_eq_true h2
  have hB0 : cntB c 0 = false := by show (decide ((1 : Int) ≤ (c.nT : Int)) && decide ((c.nT : Int) ≤ 16)) = _; rw [d1]; simp
  have hB3 : cntB c 3 = decide (c.tick ≤ (c.nL : Int)) := by show (decide (0 ≤ c.tick) && decide (c.tick ≤ (c.nL : Int))) = _; rw [d2]; simp
  have HBB := Lib.hid (And.intro hB0 hB3)
  have HE := Lib.hid (fun w' Q (h : w'.heap[Q]? = some (.cells #[.bool (cntB c 0), .bool (cntB c 1), .bool (cntB c 2), .bool (cntB c 3)] 191 (0, 0))) => each_counts 1 4 4 Q (cntF c) w' rfl (by unfold maxLen; omega) (fun i hi w2 k => counts1_any (cntB c) Q i w2 (k.at h fun h => h) hi))
  have hle : w.heap.size ≤ w.heap.size + 1 := Nat.le_succ _
  generalize eachV 1 (cntF c) 4 = bv at *
  obtain ⟨b0, b1, b2⟩ := bv
  clear ho h1 h2 hB0 hB3
  obtain ⟨e0, e1, e2, e3⟩ := four_cells (HB.out.at 1 rfl)
  go_enter Tryz.func55, Tryz.ntmps55
  go_wp2_with fail
  go_quiet (fail)
  replace HB := Lib.hid (HB.out.none ((Keeps.refl _ _).drewN nq))
  clear e0 e1 e2 e3
  obtain ⟨e0, e1, e2, e3⟩ := four_cells (HB.out.at 1 rfl)
  go_wp2_with fail
  replace HB := Lib.hid (HB.out.alloc (.cells #[.bool (cntB c 0), .bool (cntB c 1), .bool (cntB c 2), .bool (cntB c 3)] 191))
  refine (HE.out _ _ ?_).mono ?_
  · have hn := HB.out.at 0 rfl
    simp only [HBB.out.1, HBB.out.2] at hn ⊢
    simpa [cntB] using hn
  rintro e w2 ⟨rfl, k2⟩
  have HB2 := Lib.hid (show Has w w2 [(w.heap.size + 1, .cells #[.int .i64 0, .int .i64 0, .int .i64 0] 30 (0, 0)), (w.heap.size, .cells c.cells 112 (0, 0))] from by
    have hn := (HB.out.tl)
    simp only [HBB.out.1, HBB.out.2] at hn
    exact Has.none hn (by simpa [cntB] using k2))
  clear k2 HB
  obtain ⟨⟨r0, r1, r2⟩, g0, g1, g2, lr⟩ := three_cells (HB2.out.at 0 rfl)
  go_wp2
  refine bodyPost_ret (v := .agg #[.int .i64 b0, .int .i64 b1, .int .i64 b2]) (by simp [results, Tryz.results55, go_sem, *]) rfl ⟨rfl, ?_⟩
  exact ((HB2.out.keeps.setCell (p := ⟨w.heap.size + 1, 0, none⟩) (.inr hle) _).setCell (p := ⟨w.heap.size + 1, 1, none⟩) (.inr hle) _).setCell (p := ⟨w.heap.size + 1, 2, none⟩) (.inr hle) _
theorem counts_ff (c : CfD) (w : World) (ho : c.Ok) (h1 : ¬ (1 : Int) ≤ (c.nT : Int)) (h2 : ¬ 0 ≤ c.tick) :
    Calls Tryz.prog 55 #[.agg c.cells] w fun e w' => e = .returned (.agg (badC (eachV 1 (cntF c) 4))) ∧ Keeps (fun _ => False) w w' := by
  have HB := Lib.hid (((Has.start w).alloc (.cells c.cells 112)).alloc (.cells #[.int .i64 0, .int .i64 0, .int .i64 0] 30) |>.eq (M := [(w.heap.size + 1, .cells #[.int .i64 0, .int .i64 0, .int .i64 0] 30 (0, 0)), (w.heap.size, .cells c.cells 112 (0, 0))]) (by simp))
  have d1 : decide ((1 : Int) ≤ (c.nT : Int)) = false := decide_eq_false h1
  have d2 : decide (0 ≤ c.tick) = false := decide_eq_false h2
  have hB0 : cntB c 0 = false := by show (decide ((1 : Int) ≤ (c.nT : Int)) && decide ((c.nT : Int) ≤ 16)) = _; rw [d1]; simp
  have hB3 : cntB c 3 = false := by show (decide (0 ≤ c.tick) && decide (c.tick ≤ (c.nL : Int))) = _; rw [d2]; simp
  have HBB := Lib.hid (And.intro hB0 hB3)
  have HE := Lib.hid (fun w' Q (h : w'.heap[Q]? = some (.cells #[.bool (cntB c 0), .bool (cntB c 1), .bool (cntB c 2), .bool (cntB c 3)] 191 (0, 0))) => each_counts 1 4 4 Q (cntF c) w' rfl (by unfold maxLen; omega) (fun i hi w2 k => counts1_any (cntB c) Q i w2 (k.at h fun h => h) hi))
  have hle : w.heap.size ≤ w.heap.size + 1 := Nat.le_succ _
  generalize eachV 1 (cntF c) 4 = bv at *
  obtain ⟨b0, b1, b2⟩ := bv
  clear ho h1 h2 hB0 hB3
  obtain ⟨e0, e1, e2, e3⟩ := four_cells (HB.out.at 1 rfl)
  go_enter Tryz.func55, Tryz.ntmps55
  go_wp2_with fail
  go_quiet (fail)
  replace HB := Lib.hid (HB.out.none ((Keeps.refl _ _).drewN nq))
  clear e0 e1 e2 e3
  obtain ⟨e0, e1, e2, e3⟩ := four_cells (HB.out.at 1 rfl)
  go_wp2_with fail
  replace HB := Lib.hid (HB.out.alloc (.cells #[.bool (cntB c 0), .bool (cntB c 1), .bool (cntB c 2), .bool (cntB c 3)] 191))
  refine (HE.out _ _ ?_).mono ?_
  · have hn := HB.out.at 0 rfl
    simp only [HBB.out.1, HBB.out.2] at hn ⊢
    simpa [cntB] using hn
  rintro e w2 ⟨rfl, k2⟩
  have HB2 := Lib.hid (show Has w w2 [(w.heap.size + 1, .cells #[.int .i64 0, .int .i64 0, .int .i64 0] 30 (0, 0)), (w.heap.size, .cells c.cells 112 (0, 0))] from by
    have hn := (HB.out.tl)
    simp only [HBB.out.1, HBB.out.2] at hn
    exact Has.none hn (by simpa [cntB] using k2))
  clear k2 HB
  obtain ⟨⟨r0, r1, r2⟩, g0, g1, g2, lr⟩ := three_cells (HB2.out.at 0 rfl)
  go_wp2
  refine bodyPost_ret (v := .agg #[.int .i64 b0, .int .i64 b1, .int .i64 b2]) (by simp [results, Tryz.results55, go_sem, *]) rfl ⟨rfl, ?_⟩
  exact ((HB2.out.keeps.setCell (p := ⟨w.heap.size + 1, 0, none⟩) (.inr hle) _).setCell (p := ⟨w.heap.size + 1, 1, none⟩) (.inr hle) _).setCell (p := ⟨w.heap.size + 1, 2, none⟩) (.inr hle) _
theorem counts_any (c : CfD) (w : World) (ho : c.Ok) :
    Calls Tryz.prog 55 #[.agg c.cells] w fun e w' => e = .returned (.agg (badC (eachV 1 (cntF c) 4))) ∧ Keeps (fun _ => False) w w' := by
  by_cases h1 : (1 : Int) ≤ (c.nT : Int)
  · by_cases h2 : 0 ≤ c.tick
    · exact counts_tt c w ho h1 h2
    · exact counts_tf c w ho h1 h2
  · by_cases h2 : 0 ≤ c.tick
    · exact counts_ft c w ho h1 h2
    · exact counts_ff c w ho h1 h2
end Go.Proofs.YthnmlklgbggmbaaGreat
namespace Go.Proofs.YthnmlklgbggmbaaGreat
open Go.ChangeShapes Go.WideShapes Go.ChangeAt Go.RowKit
set_option linter.unusedVariables false
set_option linter.unusedSimpArgs false
theorem eachV_zero {part : Int} {f : Nat → Int} {n : Nat} (h : (eachV part f n).1 = 0) : eachV part f n = (0, 0, 0) := by
  unfold eachV at *
  cases h1 : firstN f n with
  | none => rfl
  | some i =>
    rw [h1] at h
    exact absurd h (firstN_some h1).2.1
def bad1 (c : CfD) : Int × Int × Int := eachV 1 (cntF c) 4
def bad2 (c : CfD) : Int × Int × Int := eachV 2 (fun i => taskF (c.tp i) (c.tl i)) c.nT
def bad3 (c : CfD) : Int × Int × Int := eachV 3 (fun i => levelF (c.lr i) (c.ll i)) c.nL
def bad4 (c : CfD) : Int × Int × Int := eachV 4 (fun i => objF c (c.ob i)) c.nO
def badOf (c : CfD) : Int × Int × Int := if (bad1 c).1 = 0 then (if (bad2 c).1 = 0 then (if (bad3 c).1 = 0 then bad4 c else bad3 c) else bad2 c) else bad1 c
structure CkB (w wr : World) (f0 f1 f2 : Int) : Prop where
  keeps : Keeps (fun _ => False) w wr
  first : wr.heap[w.heap.size + 1 + 1 + 1]? = some (.cells #[.int .i64 f0, .int .i64 f1, .int .i64 f2] 30 (0, 0))
  res : wr.heap[w.heap.size + 1]? = some (.cells #[.int .i64 0, .int .i64 0, .int .i64 0] 30 (0, 0))
theorem CkB.none {w wr w2 : World} {f0 f1 f2 : Int} (h : CkB w wr f0 f1 f2) (k : Keeps (fun _ => False) wr w2) : CkB w w2 f0 f1 f2 := ⟨h.keeps.trans k, k.at h.first fun h => h, k.at h.res fun h => h⟩
theorem CkB.put {w wr : World} {f0 f1 f2 g0 g1 g2 : Int} (h : CkB w wr f0 f1 f2) : CkB w (((wr.setCell ⟨w.heap.size + 1 + 1 + 1, 0, Option.none⟩ (.int .i64 g0)).setCell ⟨w.heap.size + 1 + 1 + 1, 1, Option.none⟩ (.int .i64 g1)).setCell ⟨w.heap.size + 1 + 1 + 1, 2, Option.none⟩ (.int .i64 g2)) g0 g1 g2 := by
  have e0 := heap_set h.first 0 (.int .i64 g0)
  simp only [List.setIfInBounds_toArray, List.set_cons_zero, List.set_cons_succ] at e0
  have e1 := heap_set e0 1 (.int .i64 g1)
  simp only [List.setIfInBounds_toArray, List.set_cons_zero, List.set_cons_succ] at e1
  have e2 := heap_set e1 2 (.int .i64 g2)
  simp only [List.setIfInBounds_toArray, List.set_cons_zero, List.set_cons_succ] at e2
  have hle : w.heap.size ≤ w.heap.size + 1 + 1 + 1 := by omega
  exact ⟨((h.keeps.setCell (p := ⟨w.heap.size + 1 + 1 + 1, 0, Option.none⟩) (.inr hle) _).setCell (p := ⟨w.heap.size + 1 + 1 + 1, 1, Option.none⟩) (.inr hle) _).setCell (p := ⟨w.heap.size + 1 + 1 + 1, 2, Option.none⟩) (.inr hle) _, e2, heap_other (heap_other (heap_other h.res (by simp) _) (by simp) _) (by simp) _⟩
theorem CkB.fin {w wr : World} {f0 f1 f2 g0 g1 g2 : Int} (h : CkB w wr f0 f1 f2) : Keeps (fun _ => False) w (((wr.setCell ⟨w.heap.size + 1, 0, Option.none⟩ (.int .i64 g0)).setCell ⟨w.heap.size + 1, 1, Option.none⟩ (.int .i64 g1)).setCell ⟨w.heap.size + 1, 2, Option.none⟩ (.int .i64 g2)) := by
  have hle : w.heap.size ≤ w.heap.size + 1 := Nat.le_succ _
  exact ((h.keeps.setCell (p := ⟨w.heap.size + 1, 0, Option.none⟩) (.inr hle) _).setCell (p := ⟨w.heap.size + 1, 1, Option.none⟩) (.inr hle) _).setCell (p := ⟨w.heap.size + 1, 2, Option.none⟩) (.inr hle) _
set_option maxHeartbeats 1000000 in
theorem check_any (c : CfD) (w : World) (hc : CfIn w c) (ho : c.Ok) :
    Calls Tryz.prog 21 #[.agg c.cells] w fun e w' => e = .returned (.agg (badC (badOf c))) ∧ Keeps (fun _ => False) w w' := by
  have HB := Lib.hid (show CkB w ((((w.alloc (.cells c.cells 26)).alloc (.cells #[.int .i64 0, .int .i64 0, .int .i64 0] 30)).alloc (.cells c.cells 112)).alloc (.cells #[.int .i64 0, .int .i64 0, .int .i64 0] 30)) 0 0 0 from by
    have h := ((((Has.start w).alloc (.cells c.cells 26)).alloc (.cells #[.int .i64 0, .int .i64 0, .int .i64 0] 30)).alloc (.cells c.cells 112)).alloc (.cells #[.int .i64 0, .int .i64 0, .int .i64 0] 30)
    have h0 := h.at 0 rfl
    have h2 := h.at 2 rfl
    exact ⟨h.keeps, by simpa using h0, by simpa using h2⟩)
  have H1 := Lib.hid (fun w' => counts_any c w' ho)
  have H2 := Lib.hid (fun w' (k : Keeps (fun _ => False) w w') => tasks_any c w' (hc.none k) ho)
  have H3 := Lib.hid (fun w' (k : Keeps (fun _ => False) w w') => levels_any c w' (hc.none k) ho)
  have H4 := Lib.hid (fun w' (k : Keeps (fun _ => False) w w') => objects_any c w' (hc.none k) ho)
  have HV := Lib.hid (show badOf c = if (bad1 c).1 = 0 then (if (bad2 c).1 = 0 then (if (bad3 c).1 = 0 then bad4 c else bad3 c) else bad2 c) else bad1 c from rfl)
  have Z1 := Lib.hid (show (bad1 c).1 = 0 → bad1 c = (0, 0, 0) from eachV_zero)
  have Z2 := Lib.hid (show (bad2 c).1 = 0 → bad2 c = (0, 0, 0) from eachV_zero)
  have Z3 := Lib.hid (show (bad3 c).1 = 0 → bad3 c = (0, 0, 0) from eachV_zero)
  have Z4 := Lib.hid (show (bad4 c).1 = 0 → bad4 c = (0, 0, 0) from eachV_zero)
  change Hid (∀ w', Calls Tryz.prog _ _ w' fun e w2 => e = .returned (.agg (badC (bad1 c))) ∧ Keeps (fun _ => False) w' w2) at H1
  change Hid (∀ w' (k : Keeps (fun _ => False) w w'), Calls Tryz.prog _ _ w' fun e w2 => e = .returned (.agg (badC (bad2 c))) ∧ Keeps (fun _ => False) w' w2) at H2
  change Hid (∀ w' (k : Keeps (fun _ => False) w w'), Calls Tryz.prog _ _ w' fun e w2 => e = .returned (.agg (badC (bad3 c))) ∧ Keeps (fun _ => False) w' w2) at H3
  change Hid (∀ w' (k : Keeps (fun _ => False) w w'), Calls Tryz.prog _ _ w' fun e w2 => e = .returned (.agg (badC (bad4 c))) ∧ Keeps (fun _ => False) w' w2) at H4
  generalize badOf c = bo at *
  generalize bad1 c = v1 at *
  generalize bad2 c = v2 at *
  generalize bad3 c = v3 at *
  generalize bad4 c = v4 at *
  obtain ⟨a1, p1, q1⟩ := v1
  obtain ⟨a2, p2, q2⟩ := v2
  obtain ⟨a3, p3, q3⟩ := v3
  obtain ⟨a4, p4, q4⟩ := v4
  have X0 : ∀ (f0 f1 f2 f3 : Value) (w : World), (Instr.index 114 (.agg #[f0, f1, f2, f3]) (.int .i64 0)).run Tryz.prog w = .ok f0 w := fun _ _ _ _ _ => by kernel_rfl
  have X1 : ∀ (f0 f1 f2 f3 : Value) (w : World), (Instr.index 114 (.agg #[f0, f1, f2, f3]) (.int .i64 1)).run Tryz.prog w = .ok f1 w := fun _ _ _ _ _ => by kernel_rfl
  have X2 : ∀ (f0 f1 f2 f3 : Value) (w : World), (Instr.index 114 (.agg #[f0, f1, f2, f3]) (.int .i64 2)).run Tryz.prog w = .ok f2 w := fun _ _ _ _ _ => by kernel_rfl
  have X3 : ∀ (f0 f1 f2 f3 : Value) (w : World), (Instr.index 114 (.agg #[f0, f1, f2, f3]) (.int .i64 3)).run Tryz.prog w = .ok f3 w := fun _ _ _ _ _ => by kernel_rfl
  clear hc ho
  go_enter Tryz.func21, Tryz.ntmps21
  go_wp2_with fail
  go_step3
  go_wp2_with fail
  go_step3
  go_wp2_with fail
  refine wp_loop_rounds 5 ?_
  rw [rounds_succ]
  go_wp2_with fail
  refine (H1.out _).mono ?_
  rintro e w2 ⟨rfl, k2⟩
  replace HB := Lib.hid (HB.out.none k2)
  clear k2
  obtain ⟨⟨x0, x1, x2⟩, f0, f1, f2, lx⟩ := three_cells HB.out.first
  obtain ⟨⟨y0, y1, y2⟩, j0, j1, j2, ly⟩ := three_cells HB.out.res
  rcases Decidable.em (a1 = 0) with hz | hz
  · obtain ⟨rfl, rfl, rfl⟩ : a1 = 0 ∧ p1 = 0 ∧ q1 = 0 := by simpa using Z1.out hz
    replace HB := Lib.hid (HB.out.put (g0 := 0) (g1 := 0) (g2 := 0))
    clear hz
    obtain ⟨⟨s0, s1, s2⟩, t0, t1, t2, lt⟩ := three_cells HB.out.first
    obtain ⟨⟨v0, v1, v2⟩, z0, z1, z2, lz⟩ := three_cells HB.out.res
    go_wp2_with fail
    clear x0 x1 x2 f0 f1 f2 lx y0 y1 y2 j0 j1 j2 ly s0 s1 s2 t0 t1 t2 lt v0 v1 v2 z0 z1 z2 lz
    rw [rounds_succ]
    go_wp2_with fail
    refine (H2.out _ HB.out.keeps).mono ?_
    rintro e w3 ⟨rfl, k3⟩
    replace HB := Lib.hid (HB.out.none k3)
    clear k3
    obtain ⟨⟨x0, x1, x2⟩, f0, f1, f2, lx⟩ := three_cells HB.out.first
    obtain ⟨⟨y0, y1, y2⟩, j0, j1, j2, ly⟩ := three_cells HB.out.res
    rcases Decidable.em (a2 = 0) with hz | hz
    · obtain ⟨rfl, rfl, rfl⟩ : a2 = 0 ∧ p2 = 0 ∧ q2 = 0 := by simpa using Z2.out hz
      replace HB := Lib.hid (HB.out.put (g0 := 0) (g1 := 0) (g2 := 0))
      clear hz
      obtain ⟨⟨s0, s1, s2⟩, t0, t1, t2, lt⟩ := three_cells HB.out.first
      obtain ⟨⟨v0, v1, v2⟩, z0, z1, z2, lz⟩ := three_cells HB.out.res
      go_wp2_with fail
      clear x0 x1 x2 f0 f1 f2 lx y0 y1 y2 j0 j1 j2 ly s0 s1 s2 t0 t1 t2 lt v0 v1 v2 z0 z1 z2 lz
      rw [rounds_succ]
      go_wp2_with fail
      refine (H3.out _ HB.out.keeps).mono ?_
      rintro e w4 ⟨rfl, k4⟩
      replace HB := Lib.hid (HB.out.none k4)
      clear k4
      obtain ⟨⟨x0, x1, x2⟩, f0, f1, f2, lx⟩ := three_cells HB.out.first
      obtain ⟨⟨y0, y1, y2⟩, j0, j1, j2, ly⟩ := three_cells HB.out.res
      rcases Decidable.em (a3 = 0) with hz | hz
      · obtain ⟨rfl, rfl, rfl⟩ : a3 = 0 ∧ p3 = 0 ∧ q3 = 0 := by simpa using Z3.out hz
        replace HB := Lib.hid (HB.out.put (g0 := 0) (g1 := 0) (g2 := 0))
        clear hz
        obtain ⟨⟨s0, s1, s2⟩, t0, t1, t2, lt⟩ := three_cells HB.out.first
        obtain ⟨⟨v0, v1, v2⟩, z0, z1, z2, lz⟩ := three_cells HB.out.res
        go_wp2_with fail
        clear x0 x1 x2 f0 f1 f2 lx y0 y1 y2 j0 j1 j2 ly s0 s1 s2 t0 t1 t2 lt v0 v1 v2 z0 z1 z2 lz
        rw [rounds_succ]
        go_wp2_with fail
        refine (H4.out _ HB.out.keeps).mono ?_
        rintro e w5 ⟨rfl, k5⟩
        replace HB := Lib.hid (HB.out.none k5)
        clear k5
        obtain ⟨⟨x0, x1, x2⟩, f0, f1, f2, lx⟩ := three_cells HB.out.first
        obtain ⟨⟨y0, y1, y2⟩, j0, j1, j2, ly⟩ := three_cells HB.out.res
        rcases Decidable.em (a4 = 0) with hz | hz
        · obtain ⟨rfl, rfl, rfl⟩ : a4 = 0 ∧ p4 = 0 ∧ q4 = 0 := by simpa using Z4.out hz
          replace HB := Lib.hid (HB.out.put (g0 := 0) (g1 := 0) (g2 := 0))
          clear hz
          obtain ⟨⟨s0, s1, s2⟩, t0, t1, t2, lt⟩ := three_cells HB.out.first
          obtain ⟨⟨v0, v1, v2⟩, z0, z1, z2, lz⟩ := three_cells HB.out.res
          go_wp2_with fail
          have HVV := Lib.hid (show bo = (0, 0, 0) from by rw [HV.out]; simp)
          rw [rounds_succ]
          go_wp2
          (try rw [Exit.noGoto_ret])
          refine bodyPost_ret (v := .agg #[.int .i64 (0), .int .i64 (0), .int .i64 (0)]) (by simp [results, Tryz.results21, go_sem, *]) rfl ⟨by rw [HVV.out], HB.out.fin⟩
        · have hb0 : (a4 == 0) = false := beq_eq_false_iff_ne.mpr hz
          have HVV := Lib.hid (show bo = (a4, p4, q4) from by rw [HV.out]; simp [hz])
          clear hz
          replace HB := Lib.hid (HB.out.put (g0 := a4) (g1 := p4) (g2 := q4))
          obtain ⟨⟨s0, s1, s2⟩, t0, t1, t2, lt⟩ := three_cells HB.out.first
          obtain ⟨⟨v0, v1, v2⟩, z0, z1, z2, lz⟩ := three_cells HB.out.res
          go_wp2
          (try rw [Exit.noGoto_ret])
          refine bodyPost_ret (v := .agg #[.int .i64 (a4), .int .i64 (p4), .int .i64 (q4)]) (by simp [results, Tryz.results21, go_sem, *]) rfl ⟨by rw [HVV.out], HB.out.fin⟩
      · have hb0 : (a3 == 0) = false := beq_eq_false_iff_ne.mpr hz
        have HVV := Lib.hid (show bo = (a3, p3, q3) from by rw [HV.out]; simp [hz])
        clear hz
        replace HB := Lib.hid (HB.out.put (g0 := a3) (g1 := p3) (g2 := q3))
        obtain ⟨⟨s0, s1, s2⟩, t0, t1, t2, lt⟩ := three_cells HB.out.first
        obtain ⟨⟨v0, v1, v2⟩, z0, z1, z2, lz⟩ := three_cells HB.out.res
        go_wp2
        (try rw [Exit.noGoto_ret])
        refine bodyPost_ret (v := .agg #[.int .i64 (a3), .int .i64 (p3), .int .i64 (q3)]) (by simp [results, Tryz.results21, go_sem, *]) rfl ⟨by rw [HVV.out], HB.out.fin⟩
    · have hb0 : (a2 == 0) = false := beq_eq_false_iff_ne.mpr hz
      have HVV := Lib.hid (show bo = (a2, p2, q2) from by rw [HV.out]; simp [hz])
      clear hz
      replace HB := Lib.hid (HB.out.put (g0 := a2) (g1 := p2) (g2 := q2))
      obtain ⟨⟨s0, s1, s2⟩, t0, t1, t2, lt⟩ := three_cells HB.out.first
      obtain ⟨⟨v0, v1, v2⟩, z0, z1, z2, lz⟩ := three_cells HB.out.res
      go_wp2
      (try rw [Exit.noGoto_ret])
      refine bodyPost_ret (v := .agg #[.int .i64 (a2), .int .i64 (p2), .int .i64 (q2)]) (by simp [results, Tryz.results21, go_sem, *]) rfl ⟨by rw [HVV.out], HB.out.fin⟩
  · have hb0 : (a1 == 0) = false := beq_eq_false_iff_ne.mpr hz
    have HVV := Lib.hid (show bo = (a1, p1, q1) from by rw [HV.out]; simp [hz])
    clear hz
    replace HB := Lib.hid (HB.out.put (g0 := a1) (g1 := p1) (g2 := q1))
    obtain ⟨⟨s0, s1, s2⟩, t0, t1, t2, lt⟩ := three_cells HB.out.first
    obtain ⟨⟨v0, v1, v2⟩, z0, z1, z2, lz⟩ := three_cells HB.out.res
    go_wp2
    (try rw [Exit.noGoto_ret])
    refine bodyPost_ret (v := .agg #[.int .i64 (a1), .int .i64 (p1), .int .i64 (q1)]) (by simp [results, Tryz.results21, go_sem, *]) rfl ⟨by rw [HVV.out], HB.out.fin⟩
end Go.Proofs.YthnmlklgbggmbaaGreat
