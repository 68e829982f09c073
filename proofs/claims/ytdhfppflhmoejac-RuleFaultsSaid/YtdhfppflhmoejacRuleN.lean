import Derived.Test.YtdhfppflhmoejacRuleM
import Derived.Test.YtdhfppflhmoejacConfO
namespace Go.Proofs.Ytdhfppflhmoejac
open Go.ChangeShapes Go.WideShapes Go.ChangeAt Go.RowKit
set_option linter.unusedVariables false
set_option linter.unusedSimpArgs false
def cA (T L : Nat) : CfD := ⟨1, 1, 0, 0, some ⟨T, 0, none⟩, some ⟨L, 0, none⟩, none, 1, 1, 0, fun _ => 0, fun _ => false, fun _ => 0, fun _ => none, fun _ => 0, fun _ => 1, fun _ => 0, fun _ => none, fun _ => 0, fun _ _ => 0, fun _ _ => 0⟩
theorem cA_in {w : World} {T L : Nat} (h1 : w.heap[T]? = some (.cells #[.int .i64 0, .bool false, .slice none 0 0] 50 (0, 0))) (h2 : w.heap[L]? = some (.cells #[.int .i64 1, .slice none 0 0] 70 (0, 0))) : CfIn w (cA T L) := by
  refine ⟨fun _ => ⟨T, 0, rfl, lt_of h1, fun i hi => ?_⟩, fun _ => ⟨L, 0, rfl, lt_of h2, fun i hi => ?_⟩, fun h => absurd h (by simp [cA])⟩
  · obtain rfl : i = 0 := by have : i < 1 := hi; omega
    exact ⟨cell_of h1 0, cell_of h1 1, cell_of h1 2⟩
  · obtain rfl : i = 0 := by have : i < 1 := hi; omega
    exact ⟨cell_of h2 0, cell_of h2 1⟩
theorem cA_ok (T L : Nat) : (cA T L).Ok := ⟨by show 1 ≤ maxLen; unfold maxLen; omega, by show 1 ≤ maxLen; unfold maxLen; omega, by show 0 ≤ maxLen; omega, by show -9223372036854775808 ≤ (0 : Int) ∧ (0 : Int) ≤ 9223372036854775807; omega, fun i hi => by show -9223372036854775808 ≤ (1 : Int) ∧ (1 : Int) ≤ 9223372036854775807; omega, fun i hi j hj => by show -9223372036854775808 ≤ (0 : Int) ∧ (0 : Int) ≤ 9223372036854775807; omega⟩
theorem cA_one (T L : Nat) : firstF (cA T L) (-1) 13 0 (fun _ => 0) = 11 := by kernel_rfl
theorem cA_two (T L : Nat) : firstF (cA T L) 0 13 0 (fun _ => 0) = 0 := by kernel_rfl
@[reducible] def cAcells (T L : Nat) : Array Value := #[.slice (some ⟨T, 0, none⟩) 1 1, .slice (some ⟨L, 0, none⟩) 1 1, .slice none 0 0, .int .i64 0]
theorem cA_first (T L : Nat) (w : World) (h1 : w.heap[T]? = some (.cells #[.int .i64 0, .bool false, .slice none 0 0] 50 (0, 0))) (h2 : w.heap[L]? = some (.cells #[.int .i64 1, .slice none 0 0] 70 (0, 0))) :
    (Calls Try.prog 19 #[.agg (cAcells T L), .int .i64 (-1), .agg #[.int .i64 13, .int .i64 0, .int .u32 0, .int .u32 0, .int .u32 0, .int .u32 0, .int .u32 0]] w fun e w' => e = .returned (.int .i64 11) ∧ Keeps (fun _ => False) w w') ∧ (Calls Try.prog 19 #[.agg (cAcells T L), .int .i64 0, .agg #[.int .i64 13, .int .i64 0, .int .u32 0, .int .u32 0, .int .u32 0, .int .u32 0, .int .u32 0]] w fun e w' => e = .returned (.int .i64 0) ∧ Keeps (fun _ => False) w w') := by
  have q1 := first_any (cA T L) (-1) 13 0 (fun _ => 0) 0 w (cA_in h1 h2) (cA_ok T L)
  have q2 := first_any (cA T L) 0 13 0 (fun _ => 0) 0 w (cA_in h1 h2) (cA_ok T L)
  rw [cA_one] at q1
  rw [cA_two] at q2
  exact ⟨q1, q2⟩
theorem alive31_any (w : World) :
    Calls Try.prog 18 #[] w fun e w' => e = .returned (.bool true) ∧ Keeps (fun _ => False) w w' := by
  have HB := Lib.hid (((Has.start w).alloc (.cells #[.int .i64 0, .bool false, .slice none 0 0] 50)).alloc (.cells #[.int .i64 1, .slice none 0 0] 70) |>.alloc (.cells (cAcells w.heap.size (w.heap.size + 1)) 46) |>.eq (M := [(w.heap.size + 1 + 1, .cells (cAcells w.heap.size (w.heap.size + 1)) 46 (0, 0)), (w.heap.size + 1, .cells #[.int .i64 1, .slice none 0 0] 70 (0, 0)), (w.heap.size, .cells #[.int .i64 0, .bool false, .slice none 0 0] 50 (0, 0))]) (by simp))
  have HF := Lib.hid (fun w' (h : Has w w' [(w.heap.size + 1 + 1, .cells (cAcells w.heap.size (w.heap.size + 1)) 46 (0, 0)), (w.heap.size + 1, .cells #[.int .i64 1, .slice none 0 0] 70 (0, 0)), (w.heap.size, .cells #[.int .i64 0, .bool false, .slice none 0 0] 50 (0, 0))]) => cA_first w.heap.size (w.heap.size + 1) w' (h.at 2 rfl) (h.at 1 rfl))
  go_enter Try.func18, Try.ntmps18
  go_wp2_with fail
  refine (HF.out _ HB.out).1.mono ?_
  rintro e w2 ⟨rfl, k2⟩
  replace HB := Lib.hid (HB.out.none k2)
  clear k2
  obtain ⟨e0, e1, e2, e3⟩ := four_cells (HB.out.at 0 rfl)
  go_wp2_with fail
  refine (HF.out _ HB.out).2.mono ?_
  rintro e w3 ⟨rfl, k3⟩
  replace HB := Lib.hid (HB.out.none k3)
  clear k3
  go_wp2
  go_ret
  exact ⟨rfl, HB.out.keeps⟩
set_option maxHeartbeats 4000000 in
theorem faults_plain (c : CfD) (x k o : Int) (v : Nat → Int) (n : Int) (w : World) (hc : CfIn w c) (ho : c.Ok) (hf : firstF c x k o v ≠ 10) : Calls Try.prog 5 #[.agg c.cells, .int .i64 x, .agg (callC k o v n)] w fun e w' => e = .returned (.bool true) ∧ Keeps (fun _ => False) w w' := by
  have HB := Lib.hid (((Has.start w).alloc (.cells c.cells 46)).alloc (.cells (callC k o v n) 59) |>.eq (M := [(w.heap.size + 1, .cells (callC k o v n) 59 (0, 0)), (w.heap.size, .cells c.cells 46 (0, 0))]) (by simp))
  have HL := Lib.hid (light_any c w hc ho)
  have HLW := Lib.hid (fun w' (kk : Keeps (fun _ => False) w w') => light_any c w' (hc.none kk) ho)
  have HF := Lib.hid (fun w' (kk : Keeps (fun _ => False) w w') => first_any c x k o v n w' (hc.none kk) ho)
  have hr := firstF_range c x k o v
  generalize firstF c x k o v = f at *
  clear hc ho
  go_enter Try.func5, Try.ntmps5
  go_wp2_with fail
  refine (HLW.out _ HB.out.keeps).mono ?_
  rintro e w2 ⟨b, rfl, _, k2⟩
  replace HB := Lib.hid (HB.out.none k2)
  clear k2
  cases b
  · go_wp2_with fail
    refine (alive31_any _).mono ?_
    rintro e w3 ⟨rfl, k3⟩
    replace HB := Lib.hid (HB.out.none k3)
    clear k3
    go_wp2
    go_ret
    exact ⟨rfl, HB.out.keeps⟩
  obtain ⟨e0, e1, e2, e3⟩ := four_cells (HB.out.at 1 rfl)
  obtain ⟨z0, z1, z2, z3, z4, z5, z6⟩ := seven_at (HB.out.at 0 rfl)
  go_wp2_with fail
  refine (HF.out _ HB.out.keeps).mono ?_
  rintro e w4 ⟨rfl, k4⟩
  replace HB := Lib.hid (HB.out.none k4)
  clear k4 e0 e1 e2 e3 z0 z1 z2 z3 z4 z5 z6
  obtain ⟨e0, e1, e2, e3⟩ := four_cells (HB.out.at 1 rfl)
  obtain ⟨z0, z1, z2, z3, z4, z5, z6⟩ := seven_at (HB.out.at 0 rfl)
  have hr' : f = 0 ∨ f = 1 ∨ f = 11 ∨ f = 4 ∨ f = 2 ∨ f = 12 := by omega
  clear hr hf
  rcases hr' with rfl | rfl | rfl | rfl | rfl | rfl
  · go_wp2_with fail
    refine (alive31_any _).mono ?_
    rintro e w5 ⟨rfl, k5⟩
    replace HB := Lib.hid (HB.out.none k5)
    clear k5
    go_wp2
    go_ret
    exact ⟨rfl, HB.out.keeps⟩
  · go_wp2_with fail
    refine (alive31_any _).mono ?_
    rintro e w5 ⟨rfl, k5⟩
    replace HB := Lib.hid (HB.out.none k5)
    clear k5
    go_wp2
    go_ret
    exact ⟨rfl, HB.out.keeps⟩
  · go_wp2_with fail
    refine (alive31_any _).mono ?_
    rintro e w5 ⟨rfl, k5⟩
    replace HB := Lib.hid (HB.out.none k5)
    clear k5
    go_wp2
    go_ret
    exact ⟨rfl, HB.out.keeps⟩
  · go_wp2_with fail
    refine (alive31_any _).mono ?_
    rintro e w5 ⟨rfl, k5⟩
    replace HB := Lib.hid (HB.out.none k5)
    clear k5
    go_wp2
    go_ret
    exact ⟨rfl, HB.out.keeps⟩
  · go_wp2_with fail
    refine (alive31_any _).mono ?_
    rintro e w5 ⟨rfl, k5⟩
    replace HB := Lib.hid (HB.out.none k5)
    clear k5
    go_wp2
    go_ret
    exact ⟨rfl, HB.out.keeps⟩
  · go_wp2_with fail
    refine (alive31_any _).mono ?_
    rintro e w5 ⟨rfl, k5⟩
    replace HB := Lib.hid (HB.out.none k5)
    clear k5
    go_wp2
    go_ret
    exact ⟨rfl, HB.out.keeps⟩
set_option maxHeartbeats 4000000 in
theorem faults_11 (c : CfD) (x k o : Int) (v : Nat → Int) (n : Int) (w : World) (hc : CfIn w c) (ho : c.Ok) (hf : firstF c x k o v = 10) (hk : k = 11) : Calls Try.prog 5 #[.agg c.cells, .int .i64 x, .agg (callC k o v n)] w fun e w' => e = .returned (.bool true) ∧ Keeps (fun _ => False) w w' := by
  have HB := Lib.hid (((Has.start w).alloc (.cells c.cells 46)).alloc (.cells (callC k o v n) 59) |>.eq (M := [(w.heap.size + 1, .cells (callC k o v n) 59 (0, 0)), (w.heap.size, .cells c.cells 46 (0, 0))]) (by simp))
  have HL := Lib.hid (light_any c w hc ho)
  have HLW := Lib.hid (fun w' (kk : Keeps (fun _ => False) w w') => light_any c w' (hc.none kk) ho)
  have HF := Lib.hid (fun w' (kk : Keeps (fun _ => False) w w') => first_any c x k o v n w' (hc.none kk) ho)
  have d1 : (k == 11) = true := beq_iff_eq.mpr hk
  generalize firstF c x k o v = f at *
  subst hf
  clear hc ho hk
  go_enter Try.func5, Try.ntmps5
  go_wp2_with fail
  refine (HLW.out _ HB.out.keeps).mono ?_
  rintro e w2 ⟨b, rfl, _, k2⟩
  replace HB := Lib.hid (HB.out.none k2)
  clear k2
  cases b
  · go_wp2_with fail
    refine (alive31_any _).mono ?_
    rintro e w3 ⟨rfl, k3⟩
    replace HB := Lib.hid (HB.out.none k3)
    clear k3
    go_wp2
    go_ret
    exact ⟨rfl, HB.out.keeps⟩
  obtain ⟨e0, e1, e2, e3⟩ := four_cells (HB.out.at 1 rfl)
  obtain ⟨z0, z1, z2, z3, z4, z5, z6⟩ := seven_at (HB.out.at 0 rfl)
  go_wp2_with fail
  refine (HF.out _ HB.out.keeps).mono ?_
  rintro e w4 ⟨rfl, k4⟩
  replace HB := Lib.hid (HB.out.none k4)
  clear k4 e0 e1 e2 e3 z0 z1 z2 z3 z4 z5 z6
  obtain ⟨e0, e1, e2, e3⟩ := four_cells (HB.out.at 1 rfl)
  obtain ⟨z0, z1, z2, z3, z4, z5, z6⟩ := seven_at (HB.out.at 0 rfl)
  go_wp2_with fail
  refine (alive31_any _).mono ?_
  rintro e w5 ⟨rfl, k5⟩
  replace HB := Lib.hid (HB.out.none k5)
  clear k5
  go_wp2
  go_ret
  exact ⟨rfl, HB.out.keeps⟩
set_option maxHeartbeats 4000000 in
theorem faults_b (c : CfD) (x k o : Int) (v : Nat → Int) (n : Int) (w : World) (hc : CfIn w c) (ho : c.Ok) (hf : firstF c x k o v = 10) (hk : k ≠ 11) (hb : blocksF k = true) : Calls Try.prog 5 #[.agg c.cells, .int .i64 x, .agg (callC k o v n)] w fun e w' => e = .returned (.bool true) ∧ Keeps (fun _ => False) w w' := by
  have HB := Lib.hid (((Has.start w).alloc (.cells c.cells 46)).alloc (.cells (callC k o v n) 59) |>.eq (M := [(w.heap.size + 1, .cells (callC k o v n) 59 (0, 0)), (w.heap.size, .cells c.cells 46 (0, 0))]) (by simp))
  have HL := Lib.hid (light_any c w hc ho)
  have HLW := Lib.hid (fun w' (kk : Keeps (fun _ => False) w w') => light_any c w' (hc.none kk) ho)
  have HF := Lib.hid (fun w' (kk : Keeps (fun _ => False) w w') => first_any c x k o v n w' (hc.none kk) ho)
  have d1 : (k == 11) = false := beq_eq_false_iff_ne.mpr hk
  have HBL := Lib.hid hb
  generalize firstF c x k o v = f at *
  subst hf
  clear hc ho hk hb
  go_enter Try.func5, Try.ntmps5
  go_wp2_with fail
  refine (HLW.out _ HB.out.keeps).mono ?_
  rintro e w2 ⟨b, rfl, _, k2⟩
  replace HB := Lib.hid (HB.out.none k2)
  clear k2
  cases b
  · go_wp2_with fail
    refine (alive31_any _).mono ?_
    rintro e w3 ⟨rfl, k3⟩
    replace HB := Lib.hid (HB.out.none k3)
    clear k3
    go_wp2
    go_ret
    exact ⟨rfl, HB.out.keeps⟩
  obtain ⟨e0, e1, e2, e3⟩ := four_cells (HB.out.at 1 rfl)
  obtain ⟨z0, z1, z2, z3, z4, z5, z6⟩ := seven_at (HB.out.at 0 rfl)
  go_wp2_with fail
  refine (HF.out _ HB.out.keeps).mono ?_
  rintro e w4 ⟨rfl, k4⟩
  replace HB := Lib.hid (HB.out.none k4)
  clear k4 e0 e1 e2 e3 z0 z1 z2 z3 z4 z5 z6
  obtain ⟨e0, e1, e2, e3⟩ := four_cells (HB.out.at 1 rfl)
  obtain ⟨z0, z1, z2, z3, z4, z5, z6⟩ := seven_at (HB.out.at 0 rfl)
  go_wp2_with fail
  refine (blocks_any _ _).mono ?_
  rintro e w6 ⟨rfl, k6⟩
  rw [HBL.out]
  replace HB := Lib.hid (HB.out.none k6)
  clear k6
  go_wp2_with fail
  refine (alive31_any _).mono ?_
  rintro e w5 ⟨rfl, k5⟩
  replace HB := Lib.hid (HB.out.none k5)
  clear k5
  go_wp2
  go_ret
  exact ⟨rfl, HB.out.keeps⟩
set_option maxHeartbeats 4000000 in
theorem faults_1 (c : CfD) (x : Int) (i : Nat) (v : Nat → Int) (n : Int) (w : World) (hc : CfIn w c) (ho : c.Ok) (hi : i < c.nO) (hf : firstF c x 1 (i : Int) v = 10) (hne : x ≠ c.ob i 4) (hg : firstF c (c.ob i 4) 1 (i : Int) v = 0) : Calls Try.prog 5 #[.agg c.cells, .int .i64 x, .agg (callC 1 (i : Int) v n)] w fun e w' => e = .returned (.bool true) ∧ Keeps (fun _ => False) w w' := by
  have HB := Lib.hid (((Has.start w).alloc (.cells c.cells 46)).alloc (.cells (callC 1 (i : Int) v n) 59) |>.eq (M := [(w.heap.size + 1, .cells (callC 1 (i : Int) v n) 59 (0, 0)), (w.heap.size, .cells c.cells 46 (0, 0))]) (by simp))
  have HL := Lib.hid (light_any c w hc ho)
  have HLW := Lib.hid (fun w' (kk : Keeps (fun _ => False) w w') => light_any c w' (hc.none kk) ho)
  have HF := Lib.hid (fun w' (kk : Keeps (fun _ => False) w w') => first_any c x 1 (i : Int) v n w' (hc.none kk) ho)
  have HG := Lib.hid (fun w' (kk : Keeps (fun _ => False) w w') => first_any c (c.ob i 4) 1 (i : Int) v n w' (hc.none kk) ho)
  have HGV := Lib.hid hg
  have d0 : decide ((i : Int) < 0) = false := decide_eq_false (by omega)
  have d1 : decide ((c.nO : Int) ≤ (i : Int)) = false := decide_eq_false (by omega)
  have hlim := ho.o
  unfold maxLen at hlim
  obtain ⟨bb, off, hta, hbl, hrow⟩ := hc.o (by omega)
  have HRW := Lib.hid (show ∀ w', Keeps (fun _ => False) w w' → ∀ j, j < 10 → w'.cell? ⟨bb, off + i * 10 + j, none⟩ = (c.obj i)[j]? from fun w' kk j hj => (kk.none.cell (p := ⟨bb, off + i * 10 + j, none⟩) hbl).trans (hrow i hi j hj))
  have HTA := Lib.hid hta
  have dn : (c.ob i 4 != x) = true := by rw [bne, beq_eq_false_iff_ne.mpr (fun e => hne e.symm)]; rfl
  generalize firstF c x 1 (i : Int) v = f at *
  subst hf
  clear hrow hbl hta hc ho hne hg
  generalize hob : c.ob i = ob at *
  generalize hoi : c.oi i = oi at *
  have HOB := Lib.hid (And.intro hob hoi)
  clear hob hoi
  go_enter Try.func5, Try.ntmps5
  go_wp2_with fail
  refine (HLW.out _ HB.out.keeps).mono ?_
  rintro e w2 ⟨b, rfl, _, k2⟩
  replace HB := Lib.hid (HB.out.none k2)
  clear k2
  cases b
  · go_wp2_with fail
    refine (alive31_any _).mono ?_
    rintro e w3 ⟨rfl, k3⟩
    replace HB := Lib.hid (HB.out.none k3)
    clear k3
    go_wp2
    go_ret
    exact ⟨rfl, HB.out.keeps⟩
  obtain ⟨e0, e1, e2, e3⟩ := four_cells (HB.out.at 1 rfl)
  obtain ⟨z0, z1, z2, z3, z4, z5, z6⟩ := seven_at (HB.out.at 0 rfl)
  go_wp2_with fail
  refine (HF.out _ HB.out.keeps).mono ?_
  rintro e w4 ⟨rfl, k4⟩
  replace HB := Lib.hid (HB.out.none k4)
  clear k4 e0 e1 e2 e3 z0 z1 z2 z3 z4 z5 z6
  obtain ⟨e0, e1, e2, e3⟩ := four_cells (HB.out.at 1 rfl)
  obtain ⟨z0, z1, z2, z3, z4, z5, z6⟩ := seven_at (HB.out.at 0 rfl)
  go_wp2_with fail
  refine (blocks_any _ _).mono ?_
  rintro e w6 ⟨rfl, k6⟩
  rw [show blocksF 1 = false from rfl]
  replace HB := Lib.hid (HB.out.none k6)
  clear k6 e0 e1 e2 e3 z0 z1 z2 z3 z4 z5 z6
  obtain ⟨e0, e1, e2, e3⟩ := four_cells (HB.out.at 1 rfl)
  obtain ⟨z0, z1, z2, z3, z4, z5, z6⟩ := seven_at (HB.out.at 0 rfl)
  have lz := lt_of (HB.out.at 0 rfl)
  have le := lt_of (HB.out.at 1 rfl)
  rw [HTA.out] at e2
  have hr := HRW.out w6 HB.out.keeps
  rw [show c.obj i = objC ob oi from by unfold CfD.obj objC; rw [HOB.out.1, HOB.out.2]] at hr
  have c0 : w6.cell? ⟨bb, off + i * 10, none⟩ = some (.int .i64 (ob 0)) := hr 0 (by omega)
  have c1 : w6.cell? ⟨bb, off + i * 10 + 1, none⟩ = some (.int .i64 (ob 1)) := hr 1 (by omega)
  have c2 : w6.cell? ⟨bb, off + i * 10 + 2, none⟩ = some (.int .i64 (ob 2)) := hr 2 (by omega)
  have c3 : w6.cell? ⟨bb, off + i * 10 + 3, none⟩ = some (.int .i64 (ob 3)) := hr 3 (by omega)
  have c4 : w6.cell? ⟨bb, off + i * 10 + 4, none⟩ = some (.int .i64 (ob 4)) := hr 4 (by omega)
  have c5 : w6.cell? ⟨bb, off + i * 10 + 5, none⟩ = some (.int .i64 (ob 5)) := hr 5 (by omega)
  have c6 : w6.cell? ⟨bb, off + i * 10 + 6, none⟩ = some (.int .u32 (oi 0)) := hr 6 (by omega)
  have c7 : w6.cell? ⟨bb, off + i * 10 + 7, none⟩ = some (.int .u32 (oi 1)) := hr 7 (by omega)
  have c8 : w6.cell? ⟨bb, off + i * 10 + 8, none⟩ = some (.int .u32 (oi 2)) := hr 8 (by omega)
  have c9 : w6.cell? ⟨bb, off + i * 10 + 9, none⟩ = some (.int .u32 (oi 3)) := hr 9 (by omega)
  replace HB := Lib.hid (HB.out.alloc (.cells (objC ob oi) 63))
  clear hr
  go_wp2_with fail
  rw [← HTA.out]
  refine (HG.out _ HB.out.keeps).mono ?_
  rintro e w7 ⟨rfl, k7⟩
  rw [HGV.out]
  replace HB := Lib.hid (HB.out.none k7)
  clear k7
  go_wp2_with fail
  refine (alive31_any _).mono ?_
  rintro e w5 ⟨rfl, k5⟩
  replace HB := Lib.hid (HB.out.none k5)
  clear k5
  go_wp2
  go_ret
  exact ⟨rfl, HB.out.keeps⟩
set_option maxHeartbeats 4000000 in
theorem faults_2 (c : CfD) (x : Int) (i : Nat) (v : Nat → Int) (n : Int) (w : World) (hc : CfIn w c) (ho : c.Ok) (hi : i < c.nO) (hf : firstF c x 2 (i : Int) v = 10) (hne : x ≠ c.ob i 5) (hg : firstF c (c.ob i 5) 2 (i : Int) v = 0) : Calls Try.prog 5 #[.agg c.cells, .int .i64 x, .agg (callC 2 (i : Int) v n)] w fun e w' => e = .returned (.bool true) ∧ Keeps (fun _ => False) w w' := by
  have HB := Lib.hid (((Has.start w).alloc (.cells c.cells 46)).alloc (.cells (callC 2 (i : Int) v n) 59) |>.eq (M := [(w.heap.size + 1, .cells (callC 2 (i : Int) v n) 59 (0, 0)), (w.heap.size, .cells c.cells 46 (0, 0))]) (by simp))
  have HL := Lib.hid (light_any c w hc ho)
  have HLW := Lib.hid (fun w' (kk : Keeps (fun _ => False) w w') => light_any c w' (hc.none kk) ho)
  have HF := Lib.hid (fun w' (kk : Keeps (fun _ => False) w w') => first_any c x 2 (i : Int) v n w' (hc.none kk) ho)
  have HG := Lib.hid (fun w' (kk : Keeps (fun _ => False) w w') => first_any c (c.ob i 5) 2 (i : Int) v n w' (hc.none kk) ho)
  have HGV := Lib.hid hg
  have d0 : decide ((i : Int) < 0) = false := decide_eq_false (by omega)
  have d1 : decide ((c.nO : Int) ≤ (i : Int)) = false := decide_eq_false (by omega)
  have hlim := ho.o
  unfold maxLen at hlim
  obtain ⟨bb, off, hta, hbl, hrow⟩ := hc.o (by omega)
  have HRW := Lib.hid (show ∀ w', Keeps (fun _ => False) w w' → ∀ j, j < 10 → w'.cell? ⟨bb, off + i * 10 + j, none⟩ = (c.obj i)[j]? from fun w' kk j hj => (kk.none.cell (p := ⟨bb, off + i * 10 + j, none⟩) hbl).trans (hrow i hi j hj))
  have HTA := Lib.hid hta
  have dn : (c.ob i 5 != x) = true := by rw [bne, beq_eq_false_iff_ne.mpr (fun e => hne e.symm)]; rfl
  generalize firstF c x 2 (i : Int) v = f at *
  subst hf
  clear hrow hbl hta hc ho hne hg
  generalize hob : c.ob i = ob at *
  generalize hoi : c.oi i = oi at *
  have HOB := Lib.hid (And.intro hob hoi)
  clear hob hoi
  go_enter Try.func5, Try.ntmps5
  go_wp2_with fail
  refine (HLW.out _ HB.out.keeps).mono ?_
  rintro e w2 ⟨b, rfl, _, k2⟩
  replace HB := Lib.hid (HB.out.none k2)
  clear k2
  cases b
  · go_wp2_with fail
    refine (alive31_any _).mono ?_
    rintro e w3 ⟨rfl, k3⟩
    replace HB := Lib.hid (HB.out.none k3)
    clear k3
    go_wp2
    go_ret
    exact ⟨rfl, HB.out.keeps⟩
  obtain ⟨e0, e1, e2, e3⟩ := four_cells (HB.out.at 1 rfl)
  obtain ⟨z0, z1, z2, z3, z4, z5, z6⟩ := seven_at (HB.out.at 0 rfl)
  go_wp2_with fail
  refine (HF.out _ HB.out.keeps).mono ?_
  rintro e w4 ⟨rfl, k4⟩
  replace HB := Lib.hid (HB.out.none k4)
  clear k4 e0 e1 e2 e3 z0 z1 z2 z3 z4 z5 z6
  obtain ⟨e0, e1, e2, e3⟩ := four_cells (HB.out.at 1 rfl)
  obtain ⟨z0, z1, z2, z3, z4, z5, z6⟩ := seven_at (HB.out.at 0 rfl)
  go_wp2_with fail
  refine (blocks_any _ _).mono ?_
  rintro e w6 ⟨rfl, k6⟩
  rw [show blocksF 2 = false from rfl]
  replace HB := Lib.hid (HB.out.none k6)
  clear k6 e0 e1 e2 e3 z0 z1 z2 z3 z4 z5 z6
  obtain ⟨e0, e1, e2, e3⟩ := four_cells (HB.out.at 1 rfl)
  obtain ⟨z0, z1, z2, z3, z4, z5, z6⟩ := seven_at (HB.out.at 0 rfl)
  have lz := lt_of (HB.out.at 0 rfl)
  have le := lt_of (HB.out.at 1 rfl)
  rw [HTA.out] at e2
  have hr := HRW.out w6 HB.out.keeps
  rw [show c.obj i = objC ob oi from by unfold CfD.obj objC; rw [HOB.out.1, HOB.out.2]] at hr
  have c0 : w6.cell? ⟨bb, off + i * 10, none⟩ = some (.int .i64 (ob 0)) := hr 0 (by omega)
  have c1 : w6.cell? ⟨bb, off + i * 10 + 1, none⟩ = some (.int .i64 (ob 1)) := hr 1 (by omega)
  have c2 : w6.cell? ⟨bb, off + i * 10 + 2, none⟩ = some (.int .i64 (ob 2)) := hr 2 (by omega)
  have c3 : w6.cell? ⟨bb, off + i * 10 + 3, none⟩ = some (.int .i64 (ob 3)) := hr 3 (by omega)
  have c4 : w6.cell? ⟨bb, off + i * 10 + 4, none⟩ = some (.int .i64 (ob 4)) := hr 4 (by omega)
  have c5 : w6.cell? ⟨bb, off + i * 10 + 5, none⟩ = some (.int .i64 (ob 5)) := hr 5 (by omega)
  have c6 : w6.cell? ⟨bb, off + i * 10 + 6, none⟩ = some (.int .u32 (oi 0)) := hr 6 (by omega)
  have c7 : w6.cell? ⟨bb, off + i * 10 + 7, none⟩ = some (.int .u32 (oi 1)) := hr 7 (by omega)
  have c8 : w6.cell? ⟨bb, off + i * 10 + 8, none⟩ = some (.int .u32 (oi 2)) := hr 8 (by omega)
  have c9 : w6.cell? ⟨bb, off + i * 10 + 9, none⟩ = some (.int .u32 (oi 3)) := hr 9 (by omega)
  replace HB := Lib.hid (HB.out.alloc (.cells (objC ob oi) 63))
  clear hr
  go_wp2_with fail
  rw [← HTA.out]
  refine (HG.out _ HB.out.keeps).mono ?_
  rintro e w7 ⟨rfl, k7⟩
  rw [HGV.out]
  replace HB := Lib.hid (HB.out.none k7)
  clear k7
  go_wp2_with fail
  refine (alive31_any _).mono ?_
  rintro e w5 ⟨rfl, k5⟩
  replace HB := Lib.hid (HB.out.none k5)
  clear k5
  go_wp2
  go_ret
  exact ⟨rfl, HB.out.keeps⟩
set_option maxHeartbeats 4000000 in
theorem faults_3 (c : CfD) (x : Int) (i : Nat) (v : Nat → Int) (n : Int) (w : World) (hc : CfIn w c) (ho : c.Ok) (hi : i < c.nO) (hf : firstF c x 3 (i : Int) v = 10) (hne : x ≠ c.ob i 4) (hg : firstF c (c.ob i 4) 3 (i : Int) v = 0) : Calls Try.prog 5 #[.agg c.cells, .int .i64 x, .agg (callC 3 (i : Int) v n)] w fun e w' => e = .returned (.bool true) ∧ Keeps (fun _ => False) w w' := by
  have HB := Lib.hid (((Has.start w).alloc (.cells c.cells 46)).alloc (.cells (callC 3 (i : Int) v n) 59) |>.eq (M := [(w.heap.size + 1, .cells (callC 3 (i : Int) v n) 59 (0, 0)), (w.heap.size, .cells c.cells 46 (0, 0))]) (by simp))
  have HL := Lib.hid (light_any c w hc ho)
  have HLW := Lib.hid (fun w' (kk : Keeps (fun _ => False) w w') => light_any c w' (hc.none kk) ho)
  have HF := Lib.hid (fun w' (kk : Keeps (fun _ => False) w w') => first_any c x 3 (i : Int) v n w' (hc.none kk) ho)
  have HG := Lib.hid (fun w' (kk : Keeps (fun _ => False) w w') => first_any c (c.ob i 4) 3 (i : Int) v n w' (hc.none kk) ho)
  have HGV := Lib.hid hg
  have d0 : decide ((i : Int) < 0) = false := decide_eq_false (by omega)
  have d1 : decide ((c.nO : Int) ≤ (i : Int)) = false := decide_eq_false (by omega)
  have hlim := ho.o
  unfold maxLen at hlim
  obtain ⟨bb, off, hta, hbl, hrow⟩ := hc.o (by omega)
  have HRW := Lib.hid (show ∀ w', Keeps (fun _ => False) w w' → ∀ j, j < 10 → w'.cell? ⟨bb, off + i * 10 + j, none⟩ = (c.obj i)[j]? from fun w' kk j hj => (kk.none.cell (p := ⟨bb, off + i * 10 + j, none⟩) hbl).trans (hrow i hi j hj))
  have HTA := Lib.hid hta
  have dn : (c.ob i 4 != x) = true := by rw [bne, beq_eq_false_iff_ne.mpr (fun e => hne e.symm)]; rfl
  generalize firstF c x 3 (i : Int) v = f at *
  subst hf
  clear hrow hbl hta hc ho hne hg
  generalize hob : c.ob i = ob at *
  generalize hoi : c.oi i = oi at *
  have HOB := Lib.hid (And.intro hob hoi)
  clear hob hoi
  go_enter Try.func5, Try.ntmps5
  go_wp2_with fail
  refine (HLW.out _ HB.out.keeps).mono ?_
  rintro e w2 ⟨b, rfl, _, k2⟩
  replace HB := Lib.hid (HB.out.none k2)
  clear k2
  cases b
  · go_wp2_with fail
    refine (alive31_any _).mono ?_
    rintro e w3 ⟨rfl, k3⟩
    replace HB := Lib.hid (HB.out.none k3)
    clear k3
    go_wp2
    go_ret
    exact ⟨rfl, HB.out.keeps⟩
  obtain ⟨e0, e1, e2, e3⟩ := four_cells (HB.out.at 1 rfl)
  obtain ⟨z0, z1, z2, z3, z4, z5, z6⟩ := seven_at (HB.out.at 0 rfl)
  go_wp2_with fail
  refine (HF.out _ HB.out.keeps).mono ?_
  rintro e w4 ⟨rfl, k4⟩
  replace HB := Lib.hid (HB.out.none k4)
  clear k4 e0 e1 e2 e3 z0 z1 z2 z3 z4 z5 z6
  obtain ⟨e0, e1, e2, e3⟩ := four_cells (HB.out.at 1 rfl)
  obtain ⟨z0, z1, z2, z3, z4, z5, z6⟩ := seven_at (HB.out.at 0 rfl)
  go_wp2_with fail
  refine (blocks_any _ _).mono ?_
  rintro e w6 ⟨rfl, k6⟩
  rw [show blocksF 3 = false from rfl]
  replace HB := Lib.hid (HB.out.none k6)
  clear k6 e0 e1 e2 e3 z0 z1 z2 z3 z4 z5 z6
  obtain ⟨e0, e1, e2, e3⟩ := four_cells (HB.out.at 1 rfl)
  obtain ⟨z0, z1, z2, z3, z4, z5, z6⟩ := seven_at (HB.out.at 0 rfl)
  have lz := lt_of (HB.out.at 0 rfl)
  have le := lt_of (HB.out.at 1 rfl)
  rw [HTA.out] at e2
  have hr := HRW.out w6 HB.out.keeps
  rw [show c.obj i = objC ob oi from by unfold CfD.obj objC; rw [HOB.out.1, HOB.out.2]] at hr
  have c0 : w6.cell? ⟨bb, off + i * 10, none⟩ = some (.int .i64 (ob 0)) := hr 0 (by omega)
  have c1 : w6.cell? ⟨bb, off + i * 10 + 1, none⟩ = some (.int .i64 (ob 1)) := hr 1 (by omega)
  have c2 : w6.cell? ⟨bb, off + i * 10 + 2, none⟩ = some (.int .i64 (ob 2)) := hr 2 (by omega)
  have c3 : w6.cell? ⟨bb, off + i * 10 + 3, none⟩ = some (.int .i64 (ob 3)) := hr 3 (by omega)
  have c4 : w6.cell? ⟨bb, off + i * 10 + 4, none⟩ = some (.int .i64 (ob 4)) := hr 4 (by omega)
  have c5 : w6.cell? ⟨bb, off + i * 10 + 5, none⟩ = some (.int .i64 (ob 5)) := hr 5 (by omega)
  have c6 : w6.cell? ⟨bb, off + i * 10 + 6, none⟩ = some (.int .u32 (oi 0)) := hr 6 (by omega)
  have c7 : w6.cell? ⟨bb, off + i * 10 + 7, none⟩ = some (.int .u32 (oi 1)) := hr 7 (by omega)
  have c8 : w6.cell? ⟨bb, off + i * 10 + 8, none⟩ = some (.int .u32 (oi 2)) := hr 8 (by omega)
  have c9 : w6.cell? ⟨bb, off + i * 10 + 9, none⟩ = some (.int .u32 (oi 3)) := hr 9 (by omega)
  replace HB := Lib.hid (HB.out.alloc (.cells (objC ob oi) 63))
  clear hr
  go_wp2_with fail
  rw [← HTA.out]
  refine (HG.out _ HB.out.keeps).mono ?_
  rintro e w7 ⟨rfl, k7⟩
  rw [HGV.out]
  replace HB := Lib.hid (HB.out.none k7)
  clear k7
  go_wp2_with fail
  refine (alive31_any _).mono ?_
  rintro e w5 ⟨rfl, k5⟩
  replace HB := Lib.hid (HB.out.none k5)
  clear k5
  go_wp2
  go_ret
  exact ⟨rfl, HB.out.keeps⟩
set_option maxHeartbeats 4000000 in
theorem faults_4 (c : CfD) (x : Int) (i : Nat) (v : Nat → Int) (n : Int) (w : World) (hc : CfIn w c) (ho : c.Ok) (hi : i < c.nO) (hf : firstF c x 4 (i : Int) v = 10) (hne : x ≠ c.ob i 5) (hg : firstF c (c.ob i 5) 4 (i : Int) v = 0) : Calls Try.prog 5 #[.agg c.cells, .int .i64 x, .agg (callC 4 (i : Int) v n)] w fun e w' => e = .returned (.bool true) ∧ Keeps (fun _ => False) w w' := by
  have HB := Lib.hid (((Has.start w).alloc (.cells c.cells 46)).alloc (.cells (callC 4 (i : Int) v n) 59) |>.eq (M := [(w.heap.size + 1, .cells (callC 4 (i : Int) v n) 59 (0, 0)), (w.heap.size, .cells c.cells 46 (0, 0))]) (by simp))
  have HL := Lib.hid (light_any c w hc ho)
  have HLW := Lib.hid (fun w' (kk : Keeps (fun _ => False) w w') => light_any c w' (hc.none kk) ho)
  have HF := Lib.hid (fun w' (kk : Keeps (fun _ => False) w w') => first_any c x 4 (i : Int) v n w' (hc.none kk) ho)
  have HG := Lib.hid (fun w' (kk : Keeps (fun _ => False) w w') => first_any c (c.ob i 5) 4 (i : Int) v n w' (hc.none kk) ho)
  have HGV := Lib.hid hg
  have d0 : decide ((i : Int) < 0) = false := decide_eq_false (by omega)
  have d1 : decide ((c.nO : Int) ≤ (i : Int)) = false := decide_eq_false (by omega)
  have hlim := ho.o
  unfold maxLen at hlim
  obtain ⟨bb, off, hta, hbl, hrow⟩ := hc.o (by omega)
  have HRW := Lib.hid (show ∀ w', Keeps (fun _ => False) w w' → ∀ j, j < 10 → w'.cell? ⟨bb, off + i * 10 + j, none⟩ = (c.obj i)[j]? from fun w' kk j hj => (kk.none.cell (p := ⟨bb, off + i * 10 + j, none⟩) hbl).trans (hrow i hi j hj))
  have HTA := Lib.hid hta
  have dn : (c.ob i 5 != x) = true := by rw [bne, beq_eq_false_iff_ne.mpr (fun e => hne e.symm)]; rfl
  generalize firstF c x 4 (i : Int) v = f at *
  subst hf
  clear hrow hbl hta hc ho hne hg
  generalize hob : c.ob i = ob at *
  generalize hoi : c.oi i = oi at *
  have HOB := Lib.hid (And.intro hob hoi)
  clear hob hoi
  go_enter Try.func5, Try.ntmps5
  go_wp2_with fail
  refine (HLW.out _ HB.out.keeps).mono ?_
  rintro e w2 ⟨b, rfl, _, k2⟩
  replace HB := Lib.hid (HB.out.none k2)
  clear k2
  cases b
  · go_wp2_with fail
    refine (alive31_any _).mono ?_
    rintro e w3 ⟨rfl, k3⟩
    replace HB := Lib.hid (HB.out.none k3)
    clear k3
    go_wp2
    go_ret
    exact ⟨rfl, HB.out.keeps⟩
  obtain ⟨e0, e1, e2, e3⟩ := four_cells (HB.out.at 1 rfl)
  obtain ⟨z0, z1, z2, z3, z4, z5, z6⟩ := seven_at (HB.out.at 0 rfl)
  go_wp2_with fail
  refine (HF.out _ HB.out.keeps).mono ?_
  rintro e w4 ⟨rfl, k4⟩
  replace HB := Lib.hid (HB.out.none k4)
  clear k4 e0 e1 e2 e3 z0 z1 z2 z3 z4 z5 z6
  obtain ⟨e0, e1, e2, e3⟩ := four_cells (HB.out.at 1 rfl)
  obtain ⟨z0, z1, z2, z3, z4, z5, z6⟩ := seven_at (HB.out.at 0 rfl)
  go_wp2_with fail
  refine (blocks_any _ _).mono ?_
  rintro e w6 ⟨rfl, k6⟩
  rw [show blocksF 4 = false from rfl]
  replace HB := Lib.hid (HB.out.none k6)
  clear k6 e0 e1 e2 e3 z0 z1 z2 z3 z4 z5 z6
  obtain ⟨e0, e1, e2, e3⟩ := four_cells (HB.out.at 1 rfl)
  obtain ⟨z0, z1, z2, z3, z4, z5, z6⟩ := seven_at (HB.out.at 0 rfl)
  have lz := lt_of (HB.out.at 0 rfl)
  have le := lt_of (HB.out.at 1 rfl)
  rw [HTA.out] at e2
  have hr := HRW.out w6 HB.out.keeps
  rw [show c.obj i = objC ob oi from by unfold CfD.obj objC; rw [HOB.out.1, HOB.out.2]] at hr
  have c0 : w6.cell? ⟨bb, off + i * 10, none⟩ = some (.int .i64 (ob 0)) := hr 0 (by omega)
  have c1 : w6.cell? ⟨bb, off + i * 10 + 1, none⟩ = some (.int .i64 (ob 1)) := hr 1 (by omega)
  have c2 : w6.cell? ⟨bb, off + i * 10 + 2, none⟩ = some (.int .i64 (ob 2)) := hr 2 (by omega)
  have c3 : w6.cell? ⟨bb, off + i * 10 + 3, none⟩ = some (.int .i64 (ob 3)) := hr 3 (by omega)
  have c4 : w6.cell? ⟨bb, off + i * 10 + 4, none⟩ = some (.int .i64 (ob 4)) := hr 4 (by omega)
  have c5 : w6.cell? ⟨bb, off + i * 10 + 5, none⟩ = some (.int .i64 (ob 5)) := hr 5 (by omega)
  have c6 : w6.cell? ⟨bb, off + i * 10 + 6, none⟩ = some (.int .u32 (oi 0)) := hr 6 (by omega)
  have c7 : w6.cell? ⟨bb, off + i * 10 + 7, none⟩ = some (.int .u32 (oi 1)) := hr 7 (by omega)
  have c8 : w6.cell? ⟨bb, off + i * 10 + 8, none⟩ = some (.int .u32 (oi 2)) := hr 8 (by omega)
  have c9 : w6.cell? ⟨bb, off + i * 10 + 9, none⟩ = some (.int .u32 (oi 3)) := hr 9 (by omega)
  replace HB := Lib.hid (HB.out.alloc (.cells (objC ob oi) 63))
  clear hr
  go_wp2_with fail
  rw [← HTA.out]
  refine (HG.out _ HB.out.keeps).mono ?_
  rintro e w7 ⟨rfl, k7⟩
  rw [HGV.out]
  replace HB := Lib.hid (HB.out.none k7)
  clear k7
  go_wp2_with fail
  refine (alive31_any _).mono ?_
  rintro e w5 ⟨rfl, k5⟩
  replace HB := Lib.hid (HB.out.none k5)
  clear k5
  go_wp2
  go_ret
  exact ⟨rfl, HB.out.keeps⟩
theorem faults_any (c : CfD) (x k o : Int) (v : Nat → Int) (n : Int) (w : World) (hc : CfIn w c) (ho : c.Ok) : Calls Try.prog 5 #[.agg c.cells, .int .i64 x, .agg (callC k o v n)] w fun e w' => e = .returned (.bool true) ∧ Keeps (fun _ => False) w w' := by
  by_cases hf : firstF c x k o v = 10
  · by_cases hk : k = 11
    · exact faults_11 c x k o v n w hc ho hf hk
    cases hb : blocksF k
    case true => exact faults_b c x k o v n w hc ho hf hk hb
    rcases rule_law c x k o v hf with h | h | ⟨i, rfl, hi, ⟨h, hne, hg⟩ | ⟨h, hne, hg⟩⟩
    · exact absurd h hk
    · rw [hb] at h; cases h
    · rcases h with rfl | rfl
      · exact faults_1 c x i v n w hc ho hi hf hne hg
      · exact faults_3 c x i v n w hc ho hi hf hne hg
    · rcases h with rfl | rfl
      · exact faults_2 c x i v n w hc ho hi hf hne hg
      · exact faults_4 c x i v n w hc ho hi hf hne hg
  · exact faults_plain c x k o v n w hc ho hf
end Go.Proofs.Ytdhfppflhmoejac
