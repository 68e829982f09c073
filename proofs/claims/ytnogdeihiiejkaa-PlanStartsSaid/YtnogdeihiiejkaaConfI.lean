import Derived.Test.YtnogdeihiiejkaaConfH
namespace Go.Proofs.Ytnogdeihiiejkaa
open Go.ChangeShapes Go.WideShapes Go.ChangeAt Go.RowKit
set_option linter.unusedVariables false
set_option linter.unusedSimpArgs false
theorem eachV_zero {part : Int} {f : Nat → Int} {n : Nat} (h : (eachV part f n).1 = 0) : eachV part f n = (0, 0, 0) := by
  unfold eachV at *
  cases h1 : firstN f n with
  | none => rfl
  | some i =>
    rw [h1] at h
    exact absurd h (firstN_some h1).2.1
def bad1 (c : CfD) : Int × Int × Int := eachV 1 (cntF c) 4
def bad2 (c : CfD) : Int × Int × Int := eachV 2 (fun i => taskF (c.tp i) (c.tl i)) c.nT
def bad3 (c : CfD) : Int × Int × Int := eachV 3 (fun i => levelF (c.lr i) (c.ll i)) c.nL
def bad4 (c : CfD) : Int × Int × Int := eachV 4 (fun i => objF c (c.ob i)) c.nO
/-- What Check returns. -/
def badOf (c : CfD) : Int × Int × Int := if (bad1 c).1 = 0 then (if (bad2 c).1 = 0 then (if (bad3 c).1 = 0 then bad4 c else bad3 c) else bad2 c) else bad1 c
/-- What Check stands on. -/
structure CkB (w wr : World) (f0 f1 f2 : Int) : Prop where
  keeps : Keeps (fun _ => False) w wr
  first : wr.heap[w.heap.size + 1 + 1 + 1]? = some (.cells #[.int .i64 f0, .int .i64 f1, .int .i64 f2] 60 (0, 0))
  res : wr.heap[w.heap.size + 1]? = some (.cells #[.int .i64 0, .int .i64 0, .int .i64 0] 60 (0, 0))
theorem CkB.none {w wr w2 : World} {f0 f1 f2 : Int} (h : CkB w wr f0 f1 f2) (k : Keeps (fun _ => False) wr w2) : CkB w w2 f0 f1 f2 := ⟨h.keeps.trans k, k.at h.first fun h => h, k.at h.res fun h => h⟩
theorem CkB.put {w wr : World} {f0 f1 f2 g0 g1 g2 : Int} (h : CkB w wr f0 f1 f2) : CkB w (((wr.setCell ⟨w.heap.size + 1 + 1 + 1, 0, Option.none⟩ (.int .i64 g0)).setCell ⟨w.heap.size + 1 + 1 + 1, 1, Option.none⟩ (.int .i64 g1)).setCell ⟨w.heap.size + 1 + 1 + 1, 2, Option.none⟩ (.int .i64 g2)) g0 g1 g2 := by
  have e0 := heap_set h.first 0 (.int .i64 g0)
  simp only [List.setIfInBounds_toArray, List.set_cons_zero, List.set_cons_succ] at e0
  have e1 := heap_set e0 1 (.int .i64 g1)
  simp only [List.setIfInBounds_toArray, List.set_cons_zero, List.set_cons_succ] at e1
  have e2 := heap_set e1 2 (.int .i64 g2)
  simp only [List.setIfInBounds_toArray, List.set_cons_zero, List.set_cons_succ] at e2
  have hle : w.heap.size ≤ w.heap.size + 1 + 1 + 1 := by omega
  exact ⟨((h.keeps.setCell (p := ⟨w.heap.size + 1 + 1 + 1, 0, Option.none⟩) (.inr hle) _).setCell (p := ⟨w.heap.size + 1 + 1 + 1, 1, Option.none⟩) (.inr hle) _).setCell (p := ⟨w.heap.size + 1 + 1 + 1, 2, Option.none⟩) (.inr hle) _, e2, heap_other (heap_other (heap_other h.res (by simp) _) (by simp) _) (by simp) _⟩
theorem CkB.fin {w wr : World} {f0 f1 f2 g0 g1 g2 : Int} (h : CkB w wr f0 f1 f2) : Keeps (fun _ => False) w (((wr.setCell ⟨w.heap.size + 1, 0, Option.none⟩ (.int .i64 g0)).setCell ⟨w.heap.size + 1, 1, Option.none⟩ (.int .i64 g1)).setCell ⟨w.heap.size + 1, 2, Option.none⟩ (.int .i64 g2)) := by
  have hle : w.heap.size ≤ w.heap.size + 1 := Nat.le_succ _
  exact ((h.keeps.setCell (p := ⟨w.heap.size + 1, 0, Option.none⟩) (.inr hle) _).setCell (p := ⟨w.heap.size + 1, 1, Option.none⟩) (.inr hle) _).setCell (p := ⟨w.heap.size + 1, 2, Option.none⟩) (.inr hle) _
set_option maxHeartbeats 1000000 in
theorem check_any (c : CfD) (w : World) (hc : CfIn w c) (ho : c.Ok) :
    Calls Try.prog 12 #[.agg c.cells] w fun e w' => e = .returned (.agg (badC (badOf c))) ∧ Keeps (fun _ => False) w w' := by
  have HB := Lib.hid (show CkB w ((((w.alloc (.cells c.cells 26)).alloc (.cells #[.int .i64 0, .int .i64 0, .int .i64 0] 60)).alloc (.cells c.cells 78)).alloc (.cells #[.int .i64 0, .int .i64 0, .int .i64 0] 60)) 0 0 0 from by
    have h := ((((Has.start w).alloc (.cells c.cells 26)).alloc (.cells #[.int .i64 0, .int .i64 0, .int .i64 0] 60)).alloc (.cells c.cells 78)).alloc (.cells #[.int .i64 0, .int .i64 0, .int .i64 0] 60)
    have h0 := h.at 0 rfl
    have h2 := h.at 2 rfl
    exact ⟨h.keeps, by simpa using h0, by simpa using h2⟩)
  have H1 := Lib.hid (fun w' => counts_any c w' ho)
  have H2 := Lib.hid (fun w' (k : Keeps (fun _ => False) w w') => tasks_any c w' (hc.none k) ho)
  have H3 := Lib.hid (fun w' (k : Keeps (fun _ => False) w w') => levels_any c w' (hc.none k) ho)
  have H4 := Lib.hid (fun w' (k : Keeps (fun _ => False) w w') => objects_any c w' (hc.none k) ho)
  have HV := Lib.hid (show badOf c = if (bad1 c).1 = 0 then (if (bad2 c).1 = 0 then (if (bad3 c).1 = 0 then bad4 c else bad3 c) else bad2 c) else bad1 c from rfl)
  have Z1 := Lib.hid (show (bad1 c).1 = 0 → bad1 c = (0, 0, 0) from eachV_zero)
  have Z2 := Lib.hid (show (bad2 c).1 = 0 → bad2 c = (0, 0, 0) from eachV_zero)
  have Z3 := Lib.hid (show (bad3 c).1 = 0 → bad3 c = (0, 0, 0) from eachV_zero)
  have Z4 := Lib.hid (show (bad4 c).1 = 0 → bad4 c = (0, 0, 0) from eachV_zero)
  change Hid (∀ w', Calls Try.prog _ _ w' fun e w2 => e = .returned (.agg (badC (bad1 c))) ∧ Keeps (fun _ => False) w' w2) at H1
  change Hid (∀ w' (k : Keeps (fun _ => False) w w'), Calls Try.prog _ _ w' fun e w2 => e = .returned (.agg (badC (bad2 c))) ∧ Keeps (fun _ => False) w' w2) at H2
  change Hid (∀ w' (k : Keeps (fun _ => False) w w'), Calls Try.prog _ _ w' fun e w2 => e = .returned (.agg (badC (bad3 c))) ∧ Keeps (fun _ => False) w' w2) at H3
  change Hid (∀ w' (k : Keeps (fun _ => False) w w'), Calls Try.prog _ _ w' fun e w2 => e = .returned (.agg (badC (bad4 c))) ∧ Keeps (fun _ => False) w' w2) at H4
  generalize badOf c = bo at *
  generalize bad1 c = v1 at *
  generalize bad2 c = v2 at *
  generalize bad3 c = v3 at *
  generalize bad4 c = v4 at *
  obtain ⟨a1, p1, q1⟩ := v1
  obtain ⟨a2, p2, q2⟩ := v2
  obtain ⟨a3, p3, q3⟩ := v3
  obtain ⟨a4, p4, q4⟩ := v4
  have X0 : ∀ (f0 f1 f2 f3 : Value) (w : World), (Instr.index 80 (.agg #[f0, f1, f2, f3]) (.int .i64 0)).run Try.prog w = .ok f0 w := fun _ _ _ _ _ => by kernel_rfl
  have X1 : ∀ (f0 f1 f2 f3 : Value) (w : World), (Instr.index 80 (.agg #[f0, f1, f2, f3]) (.int .i64 1)).run Try.prog w = .ok f1 w := fun _ _ _ _ _ => by kernel_rfl
  have X2 : ∀ (f0 f1 f2 f3 : Value) (w : World), (Instr.index 80 (.agg #[f0, f1, f2, f3]) (.int .i64 2)).run Try.prog w = .ok f2 w := fun _ _ _ _ _ => by kernel_rfl
  have X3 : ∀ (f0 f1 f2 f3 : Value) (w : World), (Instr.index 80 (.agg #[f0, f1, f2, f3]) (.int .i64 3)).run Try.prog w = .ok f3 w := fun _ _ _ _ _ => by kernel_rfl
  clear hc ho
  go_enter Try.func12, Try.ntmps12
  go_wp2_with fail
  go_step3
  go_wp2_with fail
  go_step3
  go_wp2_with fail
  refine wp_loop_rounds 5 ?_
  rw [rounds_succ]
  go_wp2_with fail
  refine (H1.out _).mono ?_
  rintro e w2 ⟨rfl, k2⟩
  replace HB := Lib.hid (HB.out.none k2)
  clear k2
  obtain ⟨⟨x0, x1, x2⟩, f0, f1, f2, lx⟩ := three_cells HB.out.first
  obtain ⟨⟨y0, y1, y2⟩, j0, j1, j2, ly⟩ := three_cells HB.out.res
  rcases Decidable.em (a1 = 0) with hz | hz
  · obtain ⟨rfl, rfl, rfl⟩ : a1 = 0 ∧ p1 = 0 ∧ q1 = 0 := by simpa using Z1.out hz
    replace HB := Lib.hid (HB.out.put (g0 := 0) (g1 := 0) (g2 := 0))
    clear hz
    obtain ⟨⟨s0, s1, s2⟩, t0, t1, t2, lt⟩ := three_cells HB.out.first
    obtain ⟨⟨v0, v1, v2⟩, z0, z1, z2, lz⟩ := three_cells HB.out.res
    go_wp2_with fail
    clear x0 x1 x2 f0 f1 f2 lx y0 y1 y2 j0 j1 j2 ly s0 s1 s2 t0 t1 t2 lt v0 v1 v2 z0 z1 z2 lz
    rw [rounds_succ]
    go_wp2_with fail
    refine (H2.out _ HB.out.keeps).mono ?_
    rintro e w3 ⟨rfl, k3⟩
    replace HB := Lib.hid (HB.out.none k3)
    clear k3
    obtain ⟨⟨x0, x1, x2⟩, f0, f1, f2, lx⟩ := three_cells HB.out.first
    obtain ⟨⟨y0, y1, y2⟩, j0, j1, j2, ly⟩ := three_cells HB.out.res
    rcases Decidable.em (a2 = 0) with hz | hz
    · obtain ⟨rfl, rfl, rfl⟩ : a2 = 0 ∧ p2 = 0 ∧ q2 = 0 := by simpa using Z2.out hz
      replace HB := Lib.hid (HB.out.put (g0 := 0) (g1 := 0) (g2 := 0))
      clear hz
      obtain ⟨⟨s0, s1, s2⟩, t0, t1, t2, lt⟩ := three_cells HB.out.first
      obtain ⟨⟨v0, v1, v2⟩, z0, z1, z2, lz⟩ := three_cells HB.out.res
      go_wp2_with fail
      clear x0 x1 x2 f0 f1 f2 lx y0 y1 y2 j0 j1 j2 ly s0 s1 s2 t0 t1 t2 lt v0 v1 v2 z0 z1 z2 lz
      rw [rounds_succ]
      go_wp2_with fail
      refine (H3.out _ HB.out.keeps).mono ?_
      rintro e w4 ⟨rfl, k4⟩
      replace HB := Lib.hid (HB.out.none k4)
      clear k4
      obtain ⟨⟨x0, x1, x2⟩, f0, f1, f2, lx⟩ := three_cells HB.out.first
      obtain ⟨⟨y0, y1, y2⟩, j0, j1, j2, ly⟩ := three_cells HB.out.res
      rcases Decidable.em (a3 = 0) with hz | hz
      · obtain ⟨rfl, rfl, rfl⟩ : a3 = 0 ∧ p3 = 0 ∧ q3 = 0 := by simpa using Z3.out hz
        replace HB := Lib.hid (HB.out.put (g0 := 0) (g1 := 0) (g2 := 0))
        clear hz
        obtain ⟨⟨s0, s1, s2⟩, t0, t1, t2, lt⟩ := three_cells HB.out.first
        obtain ⟨⟨v0, v1, v2⟩, z0, z1, z2, lz⟩ := three_cells HB.out.res
        go_wp2_with fail
        clear x0 x1 x2 f0 f1 f2 lx y0 y1 y2 j0 j1 j2 ly s0 s1 s2 t0 t1 t2 lt v0 v1 v2 z0 z1 z2 lz
        rw [rounds_succ]
        go_wp2_with fail
        refine (H4.out _ HB.out.keeps).mono ?_
        rintro e w5 ⟨rfl, k5⟩
        replace HB := Lib.hid (HB.out.none k5)
        clear k5
        obtain ⟨⟨x0, x1, x2⟩, f0, f1, f2, lx⟩ := three_cells HB.out.first
        obtain ⟨⟨y0, y1, y2⟩, j0, j1, j2, ly⟩ := three_cells HB.out.res
        rcases Decidable.em (a4 = 0) with hz | hz
        · obtain ⟨rfl, rfl, rfl⟩ : a4 = 0 ∧ p4 = 0 ∧ q4 = 0 := by simpa using Z4.out hz
          replace HB := Lib.hid (HB.out.put (g0 := 0) (g1 := 0) (g2 := 0))
          clear hz
          obtain ⟨⟨s0, s1, s2⟩, t0, t1, t2, lt⟩ := three_cells HB.out.first
          obtain ⟨⟨v0, v1, v2⟩, z0, z1, z2, lz⟩ := three_cells HB.out.res
          go_wp2_with fail
          have HVV := Lib.hid (show bo = (0, 0, 0) from by rw [HV.out]; simp)
          rw [rounds_succ]
          go_wp2
          (try rw [Exit.noGoto_ret])
          refine bodyPost_ret (v := .agg #[.int .i64 (0), .int .i64 (0), .int .i64 (0)]) (by simp [results, Try.results12, go_sem, *]) rfl ⟨by rw [HVV.out], HB.out.fin⟩
        · have hb0 : (a4 == 0) = false := beq_eq_false_iff_ne.mpr hz
          have HVV := Lib.hid (show bo = (a4, p4, q4) from by rw [HV.out]; simp [hz])
          clear hz
          replace HB := Lib.hid (HB.out.put (g0 := a4) (g1 := p4) (g2 := q4))
          obtain ⟨⟨s0, s1, s2⟩, t0, t1, t2, lt⟩ := three_cells HB.out.first
          obtain ⟨⟨v0, v1, v2⟩, z0, z1, z2, lz⟩ := three_cells HB.out.res
          go_wp2
          (try rw [Exit.noGoto_ret])
          refine bodyPost_ret (v := .agg #[.int .i64 (a4), .int .i64 (p4), .int .i64 (q4)]) (by simp [results, Try.results12, go_sem, *]) rfl ⟨by rw [HVV.out], HB.out.fin⟩
      · have hb0 : (a3 == 0) = false := beq_eq_false_iff_ne.mpr hz
        have HVV := Lib.hid (show bo = (a3, p3, q3) from by rw [HV.out]; simp [hz])
        clear hz
        replace HB := Lib.hid (HB.out.put (g0 := a3) (g1 := p3) (g2 := q3))
        obtain ⟨⟨s0, s1, s2⟩, t0, t1, t2, lt⟩ := three_cells HB.out.first
        obtain ⟨⟨v0, v1, v2⟩, z0, z1, z2, lz⟩ := three_cells HB.out.res
        go_wp2
        (try rw [Exit.noGoto_ret])
        refine bodyPost_ret (v := .agg #[.int .i64 (a3), .int .i64 (p3), .int .i64 (q3)]) (by simp [results, Try.results12, go_sem, *]) rfl ⟨by rw [HVV.out], HB.out.fin⟩
    · have hb0 : (a2 == 0) = false := beq_eq_false_iff_ne.mpr hz
      have HVV := Lib.hid (show bo = (a2, p2, q2) from by rw [HV.out]; simp [hz])
      clear hz
      replace HB := Lib.hid (HB.out.put (g0 := a2) (g1 := p2) (g2 := q2))
      obtain ⟨⟨s0, s1, s2⟩, t0, t1, t2, lt⟩ := three_cells HB.out.first
      obtain ⟨⟨v0, v1, v2⟩, z0, z1, z2, lz⟩ := three_cells HB.out.res
      go_wp2
      (try rw [Exit.noGoto_ret])
      refine bodyPost_ret (v := .agg #[.int .i64 (a2), .int .i64 (p2), .int .i64 (q2)]) (by simp [results, Try.results12, go_sem, *]) rfl ⟨by rw [HVV.out], HB.out.fin⟩
  · have hb0 : (a1 == 0) = false := beq_eq_false_iff_ne.mpr hz
    have HVV := Lib.hid (show bo = (a1, p1, q1) from by rw [HV.out]; simp [hz])
    clear hz
    replace HB := Lib.hid (HB.out.put (g0 := a1) (g1 := p1) (g2 := q1))
    obtain ⟨⟨s0, s1, s2⟩, t0, t1, t2, lt⟩ := three_cells HB.out.first
    obtain ⟨⟨v0, v1, v2⟩, z0, z1, z2, lz⟩ := three_cells HB.out.res
    go_wp2
    (try rw [Exit.noGoto_ret])
    refine bodyPost_ret (v := .agg #[.int .i64 (a1), .int .i64 (p1), .int .i64 (q1)]) (by simp [results, Try.results12, go_sem, *]) rfl ⟨by rw [HVV.out], HB.out.fin⟩
end Go.Proofs.Ytnogdeihiiejkaa
