import Derived.Test.YthnmlklgbggmbaaGreatRefAz
import Derived.LoopN
namespace Go.Proofs.YthnmlklgbggmbaaGreat
open Go.ChangeShapes Go.WideShapes Go.ChangeAt Go.RowKit
set_option linter.unusedVariables false
set_option linter.unusedSimpArgs false
set_option maxHeartbeats 8000000 in
set_option maxRecDepth 20000 in
theorem rcheck_any (c : CfD) (w : World) (hc : CfIn w c) (ho : c.Ok) :
    Calls Tryz.prog 6 #[.agg c.cells] w fun e w' => e = .returned (.agg (badC (badOf c))) ∧ Keeps (fun _ => False) w w' := by
  have HB := Lib.hid ((((((Has.start w).alloc (.cells c.cells 26)).alloc (.cells #[.int .i64 0, .int .i64 0, .int .i64 0] 30)).alloc (.cells #[.int .i64 (c.nT : Int), .int .i64 (c.nL : Int), .int .i64 (c.nO : Int), .int .i64 c.tick] 3)).alloc (.cells #[.int .i64 1, .int .i64 0, .int .i64 0, .int .i64 0] 3)).alloc (.cells #[.int .i64 16, .int .i64 31, .int .i64 16, .int .i64 (c.nL : Int)] 3) |>.eq (M := [(w.heap.size + 1 + 1 + 1 + 1, .cells #[.int .i64 16, .int .i64 31, .int .i64 16, .int .i64 (c.nL : Int)] 3 (0, 0)), (w.heap.size + 1 + 1 + 1, .cells #[.int .i64 1, .int .i64 0, .int .i64 0, .int .i64 0] 3 (0, 0)), (w.heap.size + 1 + 1, .cells #[.int .i64 (c.nT : Int), .int .i64 (c.nL : Int), .int .i64 (c.nO : Int), .int .i64 c.tick] 3 (0, 0)), (w.heap.size + 1, .cells #[.int .i64 0, .int .i64 0, .int .i64 0] 30 (0, 0)), (w.heap.size, .cells c.cells 26 (0, 0))]) (by simp))
  have HC := Lib.hid (And.intro hc ho)
  have hlT := ho.t
  have hlL := ho.l
  have hlO := ho.o
  unfold maxLen at hlT hlL hlO
  clear hc ho
  go_enter Tryz.func6, Tryz.ntmps6
  go_wp2_with fail
  obtain ⟨W0, hW0⟩ : ∃ W0 : World, W0 = (((((w.alloc (.cells c.cells 26)).alloc (.cells #[.int .i64 0, .int .i64 0, .int .i64 0] 30)).alloc (.cells #[.int .i64 (c.nT : Int), .int .i64 (c.nL : Int), .int .i64 (c.nO : Int), .int .i64 c.tick] 3)).alloc (.cells #[.int .i64 1, .int .i64 0, .int .i64 0, .int .i64 0] 3)).alloc (.cells #[.int .i64 16, .int .i64 31, .int .i64 16, .int .i64 (c.nL : Int)] 3)) := ⟨_, rfl⟩
  rw [← hW0] at HB ⊢
  clear hW0
  refine wp_loop_rounds 5 ?_
  obtain ⟨m0, m1, m2, m3⟩ := four_cells (HB.out.at 0 rfl)
  obtain ⟨l0, l1, l2, l3⟩ := four_cells (HB.out.at 1 rfl)
  obtain ⟨n0, n1, n2, n3⟩ := four_cells (HB.out.at 2 rfl)
  rw [rounds_succ]
  by_cases h1 : (c.nT : Int) < 1
  · have hcf : cntF c 0 = 2 := by
      unfold cntF
      rw [if_neg]
      simp only [cntB, Bool.and_eq_true, decide_eq_true_eq]
      omega
    have q1 : decide ((c.nT : Int) < 1) = true := decide_eq_true h1
    clear h1
    go_wp2_with fail
    go_quiet (fail)
    replace HB := Lib.hid (HB.out.none ((Keeps.refl _ _).drewN nq))
    generalize W0.drewN nq = W1 at HB ⊢
    clear m0 m1 m2 m3 l0 l1 l2 l3 n0 n1 n2 n3
    have HVV := Lib.hid (show badOf c = (2, 1, 0) from by rw [badOf_1 c 0 (by omega) (fun k hk => by omega) (by rw [hcf]; decide), hcf]; rfl)
    obtain ⟨⟨r0, r1, r2⟩, g0, g1, g2, lr⟩ := three_cells (HB.out.at 3 rfl)
    have hle : w.heap.size ≤ w.heap.size + 1 := Nat.le_succ _
    go_wp2
    refine bodyPost_ret (v := .agg #[.int .i64 (2), .int .i64 (1), .int .i64 (0)]) (by simp [results, Tryz.results6, go_sem, *]) rfl ⟨by rw [HVV.out], ?_⟩
    exact ((HB.out.keeps.setCell (p := ⟨w.heap.size + 1, 0, none⟩) (.inr hle) _).setCell (p := ⟨w.heap.size + 1, 1, none⟩) (.inr hle) _).setCell (p := ⟨w.heap.size + 1, 2, none⟩) (.inr hle) _
  by_cases h2 : 16 < (c.nT : Int)
  · have hcf : cntF c 0 = 2 := by
      unfold cntF
      rw [if_neg]
      simp only [cntB, Bool.and_eq_true, decide_eq_true_eq]
      omega
    have q1 : decide ((c.nT : Int) < 1) = false := decide_eq_false h1
    have q2 : decide (16 < (c.nT : Int)) = true := decide_eq_true h2
    clear h1 h2
    go_wp2_with fail
    go_quiet (fail)
    replace HB := Lib.hid (HB.out.none ((Keeps.refl _ _).drewN nq))
    generalize W0.drewN nq = W1 at HB ⊢
    clear m0 m1 m2 m3 l0 l1 l2 l3 n0 n1 n2 n3
    have HVV := Lib.hid (show badOf c = (2, 1, 0) from by rw [badOf_1 c 0 (by omega) (fun k hk => by omega) (by rw [hcf]; decide), hcf]; rfl)
    obtain ⟨⟨r0, r1, r2⟩, g0, g1, g2, lr⟩ := three_cells (HB.out.at 3 rfl)
    have hle : w.heap.size ≤ w.heap.size + 1 := Nat.le_succ _
    go_wp2
    refine bodyPost_ret (v := .agg #[.int .i64 (2), .int .i64 (1), .int .i64 (0)]) (by simp [results, Tryz.results6, go_sem, *]) rfl ⟨by rw [HVV.out], ?_⟩
    exact ((HB.out.keeps.setCell (p := ⟨w.heap.size + 1, 0, none⟩) (.inr hle) _).setCell (p := ⟨w.heap.size + 1, 1, none⟩) (.inr hle) _).setCell (p := ⟨w.heap.size + 1, 2, none⟩) (.inr hle) _
  have hc0 := Lib.hid (show cntF c 0 = 0 from by
    unfold cntF
    rw [if_pos]
    simp only [cntB, Bool.and_eq_true, decide_eq_true_eq]
    omega)
  have q1 : decide ((c.nT : Int) < 1) = false := decide_eq_false h1
  have q2 : decide (16 < (c.nT : Int)) = false := decide_eq_false h2
  clear h1 h2
  go_wp2_with fail
  go_quiet (fail)
  replace HB := Lib.hid (HB.out.none ((Keeps.refl _ _).drewN nq))
  generalize W0.drewN nq = W1 at HB ⊢
  clear q1 q2
  clear m0 m1 m2 m3 l0 l1 l2 l3 n0 n1 n2 n3
  go_wp2_with fail
  obtain ⟨m0, m1, m2, m3⟩ := four_cells (HB.out.at 0 rfl)
  obtain ⟨l0, l1, l2, l3⟩ := four_cells (HB.out.at 1 rfl)
  obtain ⟨n0, n1, n2, n3⟩ := four_cells (HB.out.at 2 rfl)
  rw [rounds_succ]
  by_cases h1 : (c.nL : Int) < 0
  · have hcf : cntF c 1 = 2 := by
      unfold cntF
      rw [if_neg]
      simp only [cntB, Bool.and_eq_true, decide_eq_true_eq]
      omega
    have q1 : decide ((c.nL : Int) < 0) = true := decide_eq_true h1
    clear h1
    go_wp2_with fail
    go_quiet (fail)
    replace HB := Lib.hid (HB.out.none ((Keeps.refl _ _).drewN nq))
    generalize W1.drewN nq = W2 at HB ⊢
    clear m0 m1 m2 m3 l0 l1 l2 l3 n0 n1 n2 n3
    have HVV := Lib.hid (show badOf c = (2, 1, 1) from by rw [badOf_1 c 1 (by omega) (fun k hk => by rcases (by omega : k = 0) with rfl <;> first | exact hc0.out) (by rw [hcf]; decide), hcf]; rfl)
    obtain ⟨⟨r0, r1, r2⟩, g0, g1, g2, lr⟩ := three_cells (HB.out.at 3 rfl)
    have hle : w.heap.size ≤ w.heap.size + 1 := Nat.le_succ _
    go_wp2
    refine bodyPost_ret (v := .agg #[.int .i64 (2), .int .i64 (1), .int .i64 (1)]) (by simp [results, Tryz.results6, go_sem, *]) rfl ⟨by rw [HVV.out], ?_⟩
    exact ((HB.out.keeps.setCell (p := ⟨w.heap.size + 1, 0, none⟩) (.inr hle) _).setCell (p := ⟨w.heap.size + 1, 1, none⟩) (.inr hle) _).setCell (p := ⟨w.heap.size + 1, 2, none⟩) (.inr hle) _
  by_cases h2 : 31 < (c.nL : Int)
  · have hcf : cntF c 1 = 2 := by
      unfold cntF
      rw [if_neg]
      simp only [cntB, Bool.and_eq_true, decide_eq_true_eq]
      omega
    have q1 : decide ((c.nL : Int) < 0) = false := decide_eq_false h1
    have q2 : decide (31 < (c.nL : Int)) = true := decide_eq_true h2
    clear h1 h2
    go_wp2_with fail
    go_quiet (fail)
    replace HB := Lib.hid (HB.out.none ((Keeps.refl _ _).drewN nq))
    generalize W1.drewN nq = W2 at HB ⊢
    clear m0 m1 m2 m3 l0 l1 l2 l3 n0 n1 n2 n3
    have HVV := Lib.hid (show badOf c = (2, 1, 1) from by rw [badOf_1 c 1 (by omega) (fun k hk => by rcases (by omega : k = 0) with rfl <;> first | exact hc0.out) (by rw [hcf]; decide), hcf]; rfl)
    obtain ⟨⟨r0, r1, r2⟩, g0, g1, g2, lr⟩ := three_cells (HB.out.at 3 rfl)
    have hle : w.heap.size ≤ w.heap.size + 1 := Nat.le_succ _
    go_wp2
    refine bodyPost_ret (v := .agg #[.int .i64 (2), .int .i64 (1), .int .i64 (1)]) (by simp [results, Tryz.results6, go_sem, *]) rfl ⟨by rw [HVV.out], ?_⟩
    exact ((HB.out.keeps.setCell (p := ⟨w.heap.size + 1, 0, none⟩) (.inr hle) _).setCell (p := ⟨w.heap.size + 1, 1, none⟩) (.inr hle) _).setCell (p := ⟨w.heap.size + 1, 2, none⟩) (.inr hle) _
  have hc1 := Lib.hid (show cntF c 1 = 0 from by
    unfold cntF
    rw [if_pos]
    simp only [cntB, Bool.and_eq_true, decide_eq_true_eq]
    omega)
  have q1 : decide ((c.nL : Int) < 0) = false := decide_eq_false h1
  have q2 : decide (31 < (c.nL : Int)) = false := decide_eq_false h2
  clear h1 h2
  go_wp2_with fail
  go_quiet (fail)
  replace HB := Lib.hid (HB.out.none ((Keeps.refl _ _).drewN nq))
  generalize W1.drewN nq = W2 at HB ⊢
  clear q1 q2
  clear m0 m1 m2 m3 l0 l1 l2 l3 n0 n1 n2 n3
  go_wp2_with fail
  obtain ⟨m0, m1, m2, m3⟩ := four_cells (HB.out.at 0 rfl)
  obtain ⟨l0, l1, l2, l3⟩ := four_cells (HB.out.at 1 rfl)
  obtain ⟨n0, n1, n2, n3⟩ := four_cells (HB.out.at 2 rfl)
  rw [rounds_succ]
  by_cases h1 : (c.nO : Int) < 0
  · have hcf : cntF c 2 = 2 := by
      unfold cntF
      rw [if_neg]
      simp only [cntB, Bool.and_eq_true, decide_eq_true_eq]
      omega
    have q1 : decide ((c.nO : Int) < 0) = true := decide_eq_true h1
    clear h1
    go_wp2_with fail
    go_quiet (fail)
    replace HB := Lib.hid (HB.out.none ((Keeps.refl _ _).drewN nq))
    generalize W2.drewN nq = W3 at HB ⊢
    clear m0 m1 m2 m3 l0 l1 l2 l3 n0 n1 n2 n3
    have HVV := Lib.hid (show badOf c = (2, 1, 2) from by rw [badOf_1 c 2 (by omega) (fun k hk => by rcases (by omega : k = 0 ∨ k = 1) with rfl | rfl <;> first | exact hc0.out | exact hc1.out) (by rw [hcf]; decide), hcf]; rfl)
    obtain ⟨⟨r0, r1, r2⟩, g0, g1, g2, lr⟩ := three_cells (HB.out.at 3 rfl)
    have hle : w.heap.size ≤ w.heap.size + 1 := Nat.le_succ _
    go_wp2
    refine bodyPost_ret (v := .agg #[.int .i64 (2), .int .i64 (1), .int .i64 (2)]) (by simp [results, Tryz.results6, go_sem, *]) rfl ⟨by rw [HVV.out], ?_⟩
    exact ((HB.out.keeps.setCell (p := ⟨w.heap.size + 1, 0, none⟩) (.inr hle) _).setCell (p := ⟨w.heap.size + 1, 1, none⟩) (.inr hle) _).setCell (p := ⟨w.heap.size + 1, 2, none⟩) (.inr hle) _
  by_cases h2 : 16 < (c.nO : Int)
  · have hcf : cntF c 2 = 2 := by
      unfold cntF
      rw [if_neg]
      simp only [cntB, Bool.and_eq_true, decide_eq_true_eq]
      omega
    have q1 : decide ((c.nO : Int) < 0) = false := decide_eq_false h1
    have q2 : decide (16 < (c.nO : Int)) = true := decide_eq_true h2
    clear h1 h2
    go_wp2_with fail
    go_quiet (fail)
    replace HB := Lib.hid (HB.out.none ((Keeps.refl _ _).drewN nq))
    generalize W2.drewN nq = W3 at HB ⊢
    clear m0 m1 m2 m3 l0 l1 l2 l3 n0 n1 n2 n3
    have HVV := Lib.hid (show badOf c = (2, 1, 2) from by rw [badOf_1 c 2 (by omega) (fun k hk => by rcases (by omega : k = 0 ∨ k = 1) with rfl | rfl <;> first | exact hc0.out | exact hc1.out) (by rw [hcf]; decide), hcf]; rfl)
    obtain ⟨⟨r0, r1, r2⟩, g0, g1, g2, lr⟩ := three_cells (HB.out.at 3 rfl)
    have hle : w.heap.size ≤ w.heap.size + 1 := Nat.le_succ _
    go_wp2
    refine bodyPost_ret (v := .agg #[.int .i64 (2), .int .i64 (1), .int .i64 (2)]) (by simp [results, Tryz.results6, go_sem, *]) rfl ⟨by rw [HVV.out], ?_⟩
    exact ((HB.out.keeps.setCell (p := ⟨w.heap.size + 1, 0, none⟩) (.inr hle) _).setCell (p := ⟨w.heap.size + 1, 1, none⟩) (.inr hle) _).setCell (p := ⟨w.heap.size + 1, 2, none⟩) (.inr hle) _
  have hc2 := Lib.hid (show cntF c 2 = 0 from by
    unfold cntF
    rw [if_pos]
    simp only [cntB, Bool.and_eq_true, decide_eq_true_eq]
    omega)
  have q1 : decide ((c.nO : Int) < 0) = false := decide_eq_false h1
  have q2 : decide (16 < (c.nO : Int)) = false := decide_eq_false h2
  clear h1 h2
  go_wp2_with fail
  go_quiet (fail)
  replace HB := Lib.hid (HB.out.none ((Keeps.refl _ _).drewN nq))
  generalize W2.drewN nq = W3 at HB ⊢
  clear q1 q2
  clear m0 m1 m2 m3 l0 l1 l2 l3 n0 n1 n2 n3
  go_wp2_with fail
  obtain ⟨m0, m1, m2, m3⟩ := four_cells (HB.out.at 0 rfl)
  obtain ⟨l0, l1, l2, l3⟩ := four_cells (HB.out.at 1 rfl)
  obtain ⟨n0, n1, n2, n3⟩ := four_cells (HB.out.at 2 rfl)
  rw [rounds_succ]
  by_cases h1 : c.tick < 0
  · have hcf : cntF c 3 = 2 := by
      unfold cntF
      rw [if_neg]
      simp only [cntB, Bool.and_eq_true, decide_eq_true_eq]
      omega
    have q1 : decide (c.tick < 0) = true := decide_eq_true h1
    clear h1
    go_wp2_with fail
    go_quiet (fail)
    replace HB := Lib.hid (HB.out.none ((Keeps.refl _ _).drewN nq))
    generalize W3.drewN nq = W4 at HB ⊢
    clear m0 m1 m2 m3 l0 l1 l2 l3 n0 n1 n2 n3
    have HVV := Lib.hid (show badOf c = (2, 1, 3) from by rw [badOf_1 c 3 (by omega) (fun k hk => by rcases (by omega : k = 0 ∨ k = 1 ∨ k = 2) with rfl | rfl | rfl <;> first | exact hc0.out | exact hc1.out | exact hc2.out) (by rw [hcf]; decide), hcf]; rfl)
    obtain ⟨⟨r0, r1, r2⟩, g0, g1, g2, lr⟩ := three_cells (HB.out.at 3 rfl)
    have hle : w.heap.size ≤ w.heap.size + 1 := Nat.le_succ _
    go_wp2
    refine bodyPost_ret (v := .agg #[.int .i64 (2), .int .i64 (1), .int .i64 (3)]) (by simp [results, Tryz.results6, go_sem, *]) rfl ⟨by rw [HVV.out], ?_⟩
    exact ((HB.out.keeps.setCell (p := ⟨w.heap.size + 1, 0, none⟩) (.inr hle) _).setCell (p := ⟨w.heap.size + 1, 1, none⟩) (.inr hle) _).setCell (p := ⟨w.heap.size + 1, 2, none⟩) (.inr hle) _
  by_cases h2 : (c.nL : Int) < c.tick
  · have hcf : cntF c 3 = 2 := by
      unfold cntF
      rw [if_neg]
      simp only [cntB, Bool.and_eq_true, decide_eq_true_eq]
      omega
    have q1 : decide (c.tick < 0) = false := decide_eq_false h1
    have q2 : decide ((c.nL : Int) < c.tick) = true := decide_eq_true h2
    clear h1 h2
    go_wp2_with fail
    go_quiet (fail)
    replace HB := Lib.hid (HB.out.none ((Keeps.refl _ _).drewN nq))
    generalize W3.drewN nq = W4 at HB ⊢
    clear m0 m1 m2 m3 l0 l1 l2 l3 n0 n1 n2 n3
    have HVV := Lib.hid (show badOf c = (2, 1, 3) from by rw [badOf_1 c 3 (by omega) (fun k hk => by rcases (by omega : k = 0 ∨ k = 1 ∨ k = 2) with rfl | rfl | rfl <;> first | exact hc0.out | exact hc1.out | exact hc2.out) (by rw [hcf]; decide), hcf]; rfl)
    obtain ⟨⟨r0, r1, r2⟩, g0, g1, g2, lr⟩ := three_cells (HB.out.at 3 rfl)
    have hle : w.heap.size ≤ w.heap.size + 1 := Nat.le_succ _
    go_wp2
    refine bodyPost_ret (v := .agg #[.int .i64 (2), .int .i64 (1), .int .i64 (3)]) (by simp [results, Tryz.results6, go_sem, *]) rfl ⟨by rw [HVV.out], ?_⟩
    exact ((HB.out.keeps.setCell (p := ⟨w.heap.size + 1, 0, none⟩) (.inr hle) _).setCell (p := ⟨w.heap.size + 1, 1, none⟩) (.inr hle) _).setCell (p := ⟨w.heap.size + 1, 2, none⟩) (.inr hle) _
  have hc3 := Lib.hid (show cntF c 3 = 0 from by
    unfold cntF
    rw [if_pos]
    simp only [cntB, Bool.and_eq_true, decide_eq_true_eq]
    omega)
  have q1 : decide (c.tick < 0) = false := decide_eq_false h1
  have q2 : decide ((c.nL : Int) < c.tick) = false := decide_eq_false h2
  clear h1 h2
  go_wp2_with fail
  go_quiet (fail)
  replace HB := Lib.hid (HB.out.none ((Keeps.refl _ _).drewN nq))
  generalize W3.drewN nq = W4 at HB ⊢
  clear q1 q2
  clear m0 m1 m2 m3 l0 l1 l2 l3 n0 n1 n2 n3
  go_wp2_with fail
  rw [rounds_succ]
  have Z1 := Lib.hid (show ∀ k, k < 4 → cntF c k = 0 from fun k hk => by rcases (by omega : k = 0 ∨ k = 1 ∨ k = 2 ∨ k = 3) with rfl | rfl | rfl | rfl <;> first | exact hc0.out | exact hc1.out | exact hc2.out | exact hc3.out)
  have HL31 := Lib.hid (show c.nL ≤ 1000000 from by
    have h := Z1.out 1 (by omega)
    unfold cntF at h
    by_cases hb : cntB c 1 = true
    · have : (c.nL : Int) ≤ 31 := by simpa [cntB] using hb
      omega
    · rw [if_neg hb] at h
      exact absurd h (by decide))
  replace HB := Lib.hid (show Has w W4 [(w.heap.size + 1, .cells #[.int .i64 0, .int .i64 0, .int .i64 0] 30 (0, 0)), (w.heap.size, .cells c.cells 26 (0, 0))] from HB.out.tl.tl.tl)
  clear hc0 hc1 hc2 hc3
  obtain ⟨e0, e1, e2, e3⟩ := four_cells (HB.out.at 1 rfl)
  go_wp2_with fail
  clear e0 e1 e2 e3
  go_loopw [7] (fun i wr => ∃ j : Nat, j ≤ c.nT ∧ i = .int .i64 j ∧ (∀ k, k < j → taskF (c.tp k) (c.tl k) = 0) ∧ Has w wr [(w.heap.size + 1, .cells #[.int .i64 0, .int .i64 0, .int .i64 0] 30 (0, 0)), (w.heap.size, .cells c.cells 26 (0, 0))]) (fun i _ => c.nT - (intOf i).toNat)
  case atStart => exact ⟨0, by omega, rfl, fun k hk => by omega, HB.out⟩
  case round =>
    obtain ⟨j, hj, rfl, hz, hB⟩ := hrel
    replace HB := Lib.hid hB
    have HZ := Lib.hid hz
    clear hB hz
    obtain ⟨e0, e1, e2, e3⟩ := four_cells (HB.out.at 1 rfl)
    have lx := lt_of (HB.out.at 1 rfl)
    by_cases hlt : j < c.nT
    · obtain ⟨b, off, hta, hbl, hrow⟩ := (HC.out.1.none HB.out.keeps).t (by omega)
      obtain ⟨c0, c1, c2⟩ := hrow j hlt
      rw [hta] at e0
      clear hrow hta
      by_cases h1 : c.tp j < 0
      · have hf : taskF (c.tp j) (c.tl j) = 2 := by unfold taskF; rw [if_pos (.inl h1)]
        have q1 : decide (c.tp j < 0) = true := decide_eq_true h1
        clear h1
        have HVV := Lib.hid (show badOf c = (2, 2, (j : Int)) from by rw [badOf_2 c Z1.out j hlt HZ.out (by rw [hf]; decide), hf])
        obtain ⟨⟨r0, r1, r2⟩, g0, g1, g2, lr⟩ := three_cells (HB.out.at 0 rfl)
        have hle : w.heap.size ≤ w.heap.size + 1 := Nat.le_succ _
        go_wp2
        refine bodyPost_ret (v := .agg #[.int .i64 (2), .int .i64 (2), .int .i64 ((j : Int))]) (by simp [results, Tryz.results6, go_sem, *]) rfl ⟨by rw [HVV.out], ?_⟩
        exact ((HB.out.keeps.setCell (p := ⟨w.heap.size + 1, 0, none⟩) (.inr hle) _).setCell (p := ⟨w.heap.size + 1, 1, none⟩) (.inr hle) _).setCell (p := ⟨w.heap.size + 1, 2, none⟩) (.inr hle) _
      by_cases h2 : 31 < c.tp j
      · have hf : taskF (c.tp j) (c.tl j) = 2 := by unfold taskF; rw [if_pos (.inr (by omega))]
        have q1 : decide (c.tp j < 0) = false := decide_eq_false h1
        have q2 : decide (31 < c.tp j) = true := decide_eq_true h2
        clear h1 h2
        have HVV := Lib.hid (show badOf c = (2, 2, (j : Int)) from by rw [badOf_2 c Z1.out j hlt HZ.out (by rw [hf]; decide), hf])
        obtain ⟨⟨r0, r1, r2⟩, g0, g1, g2, lr⟩ := three_cells (HB.out.at 0 rfl)
        have hle : w.heap.size ≤ w.heap.size + 1 := Nat.le_succ _
        go_wp2
        refine bodyPost_ret (v := .agg #[.int .i64 (2), .int .i64 (2), .int .i64 ((j : Int))]) (by simp [results, Tryz.results6, go_sem, *]) rfl ⟨by rw [HVV.out], ?_⟩
        exact ((HB.out.keeps.setCell (p := ⟨w.heap.size + 1, 0, none⟩) (.inr hle) _).setCell (p := ⟨w.heap.size + 1, 1, none⟩) (.inr hle) _).setCell (p := ⟨w.heap.size + 1, 2, none⟩) (.inr hle) _
      have q1 : decide (c.tp j < 0) = false := decide_eq_false h1
      have q2 : decide (31 < c.tp j) = false := decide_eq_false h2
      by_cases h3 : 64 < c.tl j
      · have hf : taskF (c.tp j) (c.tl j) = 14 := by unfold taskF codeF; rw [if_neg (by omega), if_pos h3]
        have q3 : decide ((64 : Int) < (c.tl j : Int)) = true := decide_eq_true (by omega)
        clear h1 h2 h3
        have HVV := Lib.hid (show badOf c = (14, 2, (j : Int)) from by rw [badOf_2 c Z1.out j hlt HZ.out (by rw [hf]; decide), hf])
        obtain ⟨⟨r0, r1, r2⟩, g0, g1, g2, lr⟩ := three_cells (HB.out.at 0 rfl)
        have hle : w.heap.size ≤ w.heap.size + 1 := Nat.le_succ _
        go_wp2
        refine bodyPost_ret (v := .agg #[.int .i64 (14), .int .i64 (2), .int .i64 ((j : Int))]) (by simp [results, Tryz.results6, go_sem, *]) rfl ⟨by rw [HVV.out], ?_⟩
        exact ((HB.out.keeps.setCell (p := ⟨w.heap.size + 1, 0, none⟩) (.inr hle) _).setCell (p := ⟨w.heap.size + 1, 1, none⟩) (.inr hle) _).setCell (p := ⟨w.heap.size + 1, 2, none⟩) (.inr hle) _
      have HZ2 := Lib.hid (zero_more (f := fun k => taskF (c.tp k) (c.tl k)) HZ.out (show taskF (c.tp j) (c.tl j) = 0 from by unfold taskF codeF; rw [if_neg (by omega), if_neg h3]))
      have q3 : decide ((64 : Int) < (c.tl j : Int)) = false := decide_eq_false (by omega)
      clear h1 h2 h3
      go_wp2
      go_roundw
      case rel => exact ⟨j + 1, by omega, by go_num, HZ2.out, HB.out⟩
      case measure => simp [intOf]; omega
    · obtain rfl : j = c.nT := by omega
      go_wp2_with fail
      clear e0 e1 e2 e3 lx
      go_loopw [8] (fun i wr => ∃ j : Nat, j ≤ c.nL ∧ i = .int .i64 j ∧ (∀ k, k < j → levelF (c.lr k) (c.ll k) = 0) ∧ Has w wr [(w.heap.size + 1, .cells #[.int .i64 0, .int .i64 0, .int .i64 0] 30 (0, 0)), (w.heap.size, .cells c.cells 26 (0, 0))]) (fun i _ => c.nL - (intOf i).toNat)
      case atStart => exact ⟨0, by omega, rfl, fun k hk => by omega, HB.out⟩
      case round =>
        obtain ⟨j, hj2, rfl, hz2, hB⟩ := hrel
        replace HB := Lib.hid hB
        have HZ2 := Lib.hid hz2
        clear hB hz2
        obtain ⟨e0, e1, e2, e3⟩ := four_cells (HB.out.at 1 rfl)
        have lx := lt_of (HB.out.at 1 rfl)
        by_cases hlt : j < c.nL
        · obtain ⟨b, off, hta, hbl, hrow⟩ := (HC.out.1.none HB.out.keeps).l (by omega)
          obtain ⟨c0, c2⟩ := hrow j hlt
          have HRow := Lib.hid (fun w' (kk : Keeps (fun _ => False) _ w') => (kk.none.cell (p := ⟨b, off + j * 2 + 1, none⟩) hbl).trans c2)
          have HTA := Lib.hid hta
          rw [hta] at e1
          have HRm := Lib.hid (fun w' => rroom_any (c.lr j) w' (HC.out.2.lr j hlt).1 (HC.out.2.lr j hlt).2)
          clear hrow hta c2
          go_wp2_with fail
          refine (HRm.out _).mono ?_
          rintro e w3 ⟨rfl, k3⟩
          have c2 := HRow.out w3 k3
          replace HB := Lib.hid (HB.out.none k3)
          have hbl3 := Nat.lt_of_lt_of_le hbl k3.size
          clear k3 HRow c0 e0 e1 e2 e3 lx
          obtain ⟨e0, e1, e2, e3⟩ := four_cells (HB.out.at 1 rfl)
          have lx := lt_of (HB.out.at 1 rfl)
          rw [HTA.out] at e1
          rcases hq : roomB (c.lr j)
          · have hf : levelF (c.lr j) (c.ll j) = 13 := by unfold levelF; rw [hq]; rfl
            have HVV := Lib.hid (show badOf c = (13, 3, (j : Int)) from by rw [badOf_3 c Z1.out HZ.out j hlt HZ2.out (by rw [hf]; decide), hf])
            obtain ⟨⟨r0, r1, r2⟩, g0, g1, g2, lr⟩ := three_cells (HB.out.at 0 rfl)
            have hle : w.heap.size ≤ w.heap.size + 1 := Nat.le_succ _
            go_wp2
            refine bodyPost_ret (v := .agg #[.int .i64 (13), .int .i64 (3), .int .i64 ((j : Int))]) (by simp [results, Tryz.results6, go_sem, *]) rfl ⟨by rw [HVV.out], ?_⟩
            exact ((HB.out.keeps.setCell (p := ⟨w.heap.size + 1, 0, none⟩) (.inr hle) _).setCell (p := ⟨w.heap.size + 1, 1, none⟩) (.inr hle) _).setCell (p := ⟨w.heap.size + 1, 2, none⟩) (.inr hle) _
          by_cases h3 : 64 < c.ll j
          · have hf : levelF (c.lr j) (c.ll j) = 14 := by unfold levelF codeF; rw [hq, if_pos rfl, if_pos h3]
            have q3 : decide ((64 : Int) < (c.ll j : Int)) = true := decide_eq_true (by omega)
            clear h3
            have HVV := Lib.hid (show badOf c = (14, 3, (j : Int)) from by rw [badOf_3 c Z1.out HZ.out j hlt HZ2.out (by rw [hf]; decide), hf])
            obtain ⟨⟨r0, r1, r2⟩, g0, g1, g2, lr⟩ := three_cells (HB.out.at 0 rfl)
            have hle : w.heap.size ≤ w.heap.size + 1 := Nat.le_succ _
            go_wp2
            refine bodyPost_ret (v := .agg #[.int .i64 (14), .int .i64 (3), .int .i64 ((j : Int))]) (by simp [results, Tryz.results6, go_sem, *]) rfl ⟨by rw [HVV.out], ?_⟩
            exact ((HB.out.keeps.setCell (p := ⟨w.heap.size + 1, 0, none⟩) (.inr hle) _).setCell (p := ⟨w.heap.size + 1, 1, none⟩) (.inr hle) _).setCell (p := ⟨w.heap.size + 1, 2, none⟩) (.inr hle) _
          have HZ3 := Lib.hid (zero_more (f := fun k => levelF (c.lr k) (c.ll k)) HZ2.out (show levelF (c.lr j) (c.ll j) = 0 from by unfold levelF codeF; rw [hq, if_pos rfl, if_neg h3]))
          have q3 : decide ((64 : Int) < (c.ll j : Int)) = false := decide_eq_false (by omega)
          clear h3
          go_wp2
          go_roundw
          case rel => exact ⟨j + 1, by omega, by go_num, HZ3.out, HB.out⟩
          case measure => simp [intOf]; omega
        · obtain rfl : j = c.nL := by omega
          go_wp2_with fail
          clear e0 e1 e2 e3 lx
          go_loopw [9] (fun i wr => ∃ j : Nat, j ≤ c.nO ∧ i = .int .i64 j ∧ (∀ k, k < j → objF c (c.ob k) = 0) ∧ Has w wr [(w.heap.size + 1, .cells #[.int .i64 0, .int .i64 0, .int .i64 0] 30 (0, 0)), (w.heap.size, .cells c.cells 26 (0, 0))]) (fun i _ => c.nO - (intOf i).toNat)
          case atStart => exact ⟨0, by omega, rfl, fun k hk => by omega, HB.out⟩
          case round =>
            obtain ⟨j, hj3, rfl, hz3, hB⟩ := hrel
            replace HB := Lib.hid hB
            have HZ3 := Lib.hid hz3
            clear hB hz3
            by_cases hlt : j < c.nO
            · obtain ⟨b, off, hta, hbl, hrow⟩ := (HC.out.1.none HB.out.keeps).o (by omega)
              have hr := fun q hq => hrow j hlt q hq
              have c0 : wr.cell? ⟨b, off + j * 10, none⟩ = some (.int .i64 (c.ob j 0)) := hr 0 (by omega)
              have c1 : wr.cell? ⟨b, off + j * 10 + 1, none⟩ = some (.int .i64 (c.ob j 1)) := hr 1 (by omega)
              have c2 : wr.cell? ⟨b, off + j * 10 + 2, none⟩ = some (.int .i64 (c.ob j 2)) := hr 2 (by omega)
              have c3 : wr.cell? ⟨b, off + j * 10 + 3, none⟩ = some (.int .i64 (c.ob j 3)) := hr 3 (by omega)
              have c4 : wr.cell? ⟨b, off + j * 10 + 4, none⟩ = some (.int .i64 (c.ob j 4)) := hr 4 (by omega)
              have c5 : wr.cell? ⟨b, off + j * 10 + 5, none⟩ = some (.int .i64 (c.ob j 5)) := hr 5 (by omega)
              have c6 : wr.cell? ⟨b, off + j * 10 + 6, none⟩ = some (.int .u32 (c.oi j 0)) := hr 6 (by omega)
              have c7 : wr.cell? ⟨b, off + j * 10 + 7, none⟩ = some (.int .u32 (c.oi j 1)) := hr 7 (by omega)
              have c8 : wr.cell? ⟨b, off + j * 10 + 8, none⟩ = some (.int .u32 (c.oi j 2)) := hr 8 (by omega)
              have c9 : wr.cell? ⟨b, off + j * 10 + 9, none⟩ = some (.int .u32 (c.oi j 3)) := hr 9 (by omega)
              obtain ⟨e0, e1, e2, e3⟩ := four_cells (HB.out.at 1 rfl)
              have lx := lt_of (HB.out.at 1 rfl)
              rw [hta] at e2
              have hbd := HC.out.2.ob j hlt 1 (by omega)
              have HRm := Lib.hid (fun w' => rroom_any (c.ob j 1) w' hbd.1 hbd.2)
              have HR0 := Lib.hid (fun hk w' => rright_any (c.ob j) (c.oi j) w' hbd hk)
              have HO0 := Lib.hid (fun hk w' => rown_any c (c.ob j) (c.oi j) w' HC.out.2 HL31.out hk)
              replace HB := Lib.hid (HB.out.alloc (.cells (objC (c.ob j) (c.oi j)) 74))
              clear hrow hr hta hbd
              by_cases h1 : c.ob j 0 < 1
              · have hf : objF c (c.ob j) = 12 := by unfold objF; rw [if_pos (.inl h1)]
                have q1 : decide (c.ob j 0 < 1) = true := decide_eq_true h1
                clear h1
                have HVV := Lib.hid (show badOf c = (12, 4, (j : Int)) from by rw [badOf_4 c Z1.out HZ.out HZ2.out j hlt HZ3.out (by rw [hf]; decide), hf])
                obtain ⟨⟨r0, r1, r2⟩, g0, g1, g2, lr⟩ := three_cells (HB.out.at 1 rfl)
                have hle : w.heap.size ≤ w.heap.size + 1 := Nat.le_succ _
                go_wp2
                refine bodyPost_ret (v := .agg #[.int .i64 (12), .int .i64 (4), .int .i64 ((j : Int))]) (by simp [results, Tryz.results6, go_sem, *]) rfl ⟨by rw [HVV.out], ?_⟩
                exact ((HB.out.keeps.setCell (p := ⟨w.heap.size + 1, 0, none⟩) (.inr hle) _).setCell (p := ⟨w.heap.size + 1, 1, none⟩) (.inr hle) _).setCell (p := ⟨w.heap.size + 1, 2, none⟩) (.inr hle) _
              by_cases h2 : 4 < c.ob j 0
              · have hf : objF c (c.ob j) = 12 := by unfold objF; rw [if_pos (.inr h2)]
                have q1 : decide (c.ob j 0 < 1) = false := decide_eq_false h1
                have q2 : decide (4 < c.ob j 0) = true := decide_eq_true h2
                clear h1 h2
                have HVV := Lib.hid (show badOf c = (12, 4, (j : Int)) from by rw [badOf_4 c Z1.out HZ.out HZ2.out j hlt HZ3.out (by rw [hf]; decide), hf])
                obtain ⟨⟨r0, r1, r2⟩, g0, g1, g2, lr⟩ := three_cells (HB.out.at 1 rfl)
                have hle : w.heap.size ≤ w.heap.size + 1 := Nat.le_succ _
                go_wp2
                refine bodyPost_ret (v := .agg #[.int .i64 (12), .int .i64 (4), .int .i64 ((j : Int))]) (by simp [results, Tryz.results6, go_sem, *]) rfl ⟨by rw [HVV.out], ?_⟩
                exact ((HB.out.keeps.setCell (p := ⟨w.heap.size + 1, 0, none⟩) (.inr hle) _).setCell (p := ⟨w.heap.size + 1, 1, none⟩) (.inr hle) _).setCell (p := ⟨w.heap.size + 1, 2, none⟩) (.inr hle) _
              have q1 : decide (c.ob j 0 < 1) = false := decide_eq_false h1
              have q2 : decide (4 < c.ob j 0) = false := decide_eq_false h2
              have HRight := Lib.hid (HR0.out ⟨by omega, by omega⟩)
              have HOwn := Lib.hid (HO0.out ⟨by omega, by omega⟩)
              clear HR0 HO0
              rcases h3 : c.ob j 0 == 1
              · have hnr : ¬ (c.ob j 0 = 1 ∧ roomB (c.ob j 1) = false) := fun h => absurd h.1 (beq_eq_false_iff_ne.1 h3)
                go_wp2_with fail
                clear c0 c1 c2 c3 c4 c5 c6 c7 c8 c9 e0 e1 e2 e3 lx
                refine (HRight.out _).mono ?_
                rintro e w5 ⟨rfl, k5⟩
                replace HB := Lib.hid (HB.out.none k5)
                clear k5
                obtain ⟨x0, x1, x2, x3, x4, x5, x6, x7, x8, x9⟩ := ten_cells (HB.out.at 0 rfl)
                have lo := lt_of (HB.out.at 0 rfl)
                obtain ⟨e0, e1, e2, e3⟩ := four_cells (HB.out.at 2 rfl)
                have lx := lt_of (HB.out.at 2 rfl)
                rcases hR : rightS (c.ob j)
                · have hf : objF c (c.ob j) = 2 := by unfold objF; rw [if_neg (by omega), if_neg hnr, if_pos hR]
                  have HVV := Lib.hid (show badOf c = (2, 4, (j : Int)) from by rw [badOf_4 c Z1.out HZ.out HZ2.out j hlt HZ3.out (by rw [hf]; decide), hf])
                  obtain ⟨⟨r0, r1, r2⟩, g0, g1, g2, lr⟩ := three_cells (HB.out.at 1 rfl)
                  have hle : w.heap.size ≤ w.heap.size + 1 := Nat.le_succ _
                  go_wp2
                  refine bodyPost_ret (v := .agg #[.int .i64 (2), .int .i64 (4), .int .i64 ((j : Int))]) (by simp [results, Tryz.results6, go_sem, *]) rfl ⟨by rw [HVV.out], ?_⟩
                  exact ((HB.out.keeps.setCell (p := ⟨w.heap.size + 1, 0, none⟩) (.inr hle) _).setCell (p := ⟨w.heap.size + 1, 1, none⟩) (.inr hle) _).setCell (p := ⟨w.heap.size + 1, 2, none⟩) (.inr hle) _
                go_wp2_with fail
                refine (HOwn.out _).mono ?_
                rintro e w6 ⟨rfl, k6⟩
                replace HB := Lib.hid (HB.out.none k6)
                clear k6
                clear x0 x1 x2 x3 x4 x5 x6 x7 x8 x9 lo e0 e1 e2 e3 lx
                obtain ⟨x0, x1, x2, x3, x4, x5, x6, x7, x8, x9⟩ := ten_cells (HB.out.at 0 rfl)
                have lo := lt_of (HB.out.at 0 rfl)
                obtain ⟨e0, e1, e2, e3⟩ := four_cells (HB.out.at 2 rfl)
                have lx := lt_of (HB.out.at 2 rfl)
                rcases hO : ownF c (c.ob j)
                · have hf : objF c (c.ob j) = 10 := by unfold objF; rw [if_neg (by omega), if_neg hnr, if_neg (by rw [hR]; decide), if_pos hO]
                  have HVV := Lib.hid (show badOf c = (10, 4, (j : Int)) from by rw [badOf_4 c Z1.out HZ.out HZ2.out j hlt HZ3.out (by rw [hf]; decide), hf])
                  obtain ⟨⟨r0, r1, r2⟩, g0, g1, g2, lr⟩ := three_cells (HB.out.at 1 rfl)
                  have hle : w.heap.size ≤ w.heap.size + 1 := Nat.le_succ _
                  go_wp2
                  refine bodyPost_ret (v := .agg #[.int .i64 (10), .int .i64 (4), .int .i64 ((j : Int))]) (by simp [results, Tryz.results6, go_sem, *]) rfl ⟨by rw [HVV.out], ?_⟩
                  exact ((HB.out.keeps.setCell (p := ⟨w.heap.size + 1, 0, none⟩) (.inr hle) _).setCell (p := ⟨w.heap.size + 1, 1, none⟩) (.inr hle) _).setCell (p := ⟨w.heap.size + 1, 2, none⟩) (.inr hle) _
                have HZ4 := Lib.hid (zero_more (f := fun k => objF c (c.ob k)) HZ3.out (show objF c (c.ob j) = 0 from by unfold objF; rw [if_neg (by omega), if_neg hnr, if_neg (by rw [hR]; decide), if_neg (by rw [hO]; decide)]))
                replace HB := Lib.hid HB.out.tl
                go_wp2
                go_roundw
                case rel => exact ⟨j + 1, by omega, by go_num, HZ4.out, HB.out⟩
                case measure => simp [intOf]; omega
              · go_wp2_with fail
                refine (HRm.out _).mono ?_
                rintro e w4 ⟨rfl, k4⟩
                replace HB := Lib.hid (HB.out.none k4)
                clear k4 c0 c1 c2 c3 c4 c5 c6 c7 c8 c9 e0 e1 e2 e3 lx
                obtain ⟨x0, x1, x2, x3, x4, x5, x6, x7, x8, x9⟩ := ten_cells (HB.out.at 0 rfl)
                have lo := lt_of (HB.out.at 0 rfl)
                obtain ⟨e0, e1, e2, e3⟩ := four_cells (HB.out.at 2 rfl)
                have lx := lt_of (HB.out.at 2 rfl)
                rcases hq : roomB (c.ob j 1)
                · have hf : objF c (c.ob j) = 13 := by unfold objF; rw [if_neg (by omega), if_pos ⟨beq_iff_eq.1 h3, hq⟩]
                  have HVV := Lib.hid (show badOf c = (13, 4, (j : Int)) from by rw [badOf_4 c Z1.out HZ.out HZ2.out j hlt HZ3.out (by rw [hf]; decide), hf])
                  obtain ⟨⟨r0, r1, r2⟩, g0, g1, g2, lr⟩ := three_cells (HB.out.at 1 rfl)
                  have hle : w.heap.size ≤ w.heap.size + 1 := Nat.le_succ _
                  go_wp2
                  refine bodyPost_ret (v := .agg #[.int .i64 (13), .int .i64 (4), .int .i64 ((j : Int))]) (by simp [results, Tryz.results6, go_sem, *]) rfl ⟨by rw [HVV.out], ?_⟩
                  exact ((HB.out.keeps.setCell (p := ⟨w.heap.size + 1, 0, none⟩) (.inr hle) _).setCell (p := ⟨w.heap.size + 1, 1, none⟩) (.inr hle) _).setCell (p := ⟨w.heap.size + 1, 2, none⟩) (.inr hle) _
                have hnr : ¬ (c.ob j 0 = 1 ∧ roomB (c.ob j 1) = false) := fun h => absurd h.2 (by rw [hq]; decide)
                go_wp2_with fail
                refine (HRight.out _).mono ?_
                rintro e w5 ⟨rfl, k5⟩
                replace HB := Lib.hid (HB.out.none k5)
                clear k5
                clear x0 x1 x2 x3 x4 x5 x6 x7 x8 x9 lo e0 e1 e2 e3 lx
                obtain ⟨x0, x1, x2, x3, x4, x5, x6, x7, x8, x9⟩ := ten_cells (HB.out.at 0 rfl)
                have lo := lt_of (HB.out.at 0 rfl)
                obtain ⟨e0, e1, e2, e3⟩ := four_cells (HB.out.at 2 rfl)
                have lx := lt_of (HB.out.at 2 rfl)
                rcases hR : rightS (c.ob j)
                · have hf : objF c (c.ob j) = 2 := by unfold objF; rw [if_neg (by omega), if_neg hnr, if_pos hR]
                  have HVV := Lib.hid (show badOf c = (2, 4, (j : Int)) from by rw [badOf_4 c Z1.out HZ.out HZ2.out j hlt HZ3.out (by rw [hf]; decide), hf])
                  obtain ⟨⟨r0, r1, r2⟩, g0, g1, g2, lr⟩ := three_cells (HB.out.at 1 rfl)
                  have hle : w.heap.size ≤ w.heap.size + 1 := Nat.le_succ _
                  go_wp2
                  refine bodyPost_ret (v := .agg #[.int .i64 (2), .int .i64 (4), .int .i64 ((j : Int))]) (by simp [results, Tryz.results6, go_sem, *]) rfl ⟨by rw [HVV.out], ?_⟩
                  exact ((HB.out.keeps.setCell (p := ⟨w.heap.size + 1, 0, none⟩) (.inr hle) _).setCell (p := ⟨w.heap.size + 1, 1, none⟩) (.inr hle) _).setCell (p := ⟨w.heap.size + 1, 2, none⟩) (.inr hle) _
                go_wp2_with fail
                refine (HOwn.out _).mono ?_
                rintro e w6 ⟨rfl, k6⟩
                replace HB := Lib.hid (HB.out.none k6)
                clear k6
                clear x0 x1 x2 x3 x4 x5 x6 x7 x8 x9 lo e0 e1 e2 e3 lx
                obtain ⟨x0, x1, x2, x3, x4, x5, x6, x7, x8, x9⟩ := ten_cells (HB.out.at 0 rfl)
                have lo := lt_of (HB.out.at 0 rfl)
                obtain ⟨e0, e1, e2, e3⟩ := four_cells (HB.out.at 2 rfl)
                have lx := lt_of (HB.out.at 2 rfl)
                rcases hO : ownF c (c.ob j)
                · have hf : objF c (c.ob j) = 10 := by unfold objF; rw [if_neg (by omega), if_neg hnr, if_neg (by rw [hR]; decide), if_pos hO]
                  have HVV := Lib.hid (show badOf c = (10, 4, (j : Int)) from by rw [badOf_4 c Z1.out HZ.out HZ2.out j hlt HZ3.out (by rw [hf]; decide), hf])
                  obtain ⟨⟨r0, r1, r2⟩, g0, g1, g2, lr⟩ := three_cells (HB.out.at 1 rfl)
                  have hle : w.heap.size ≤ w.heap.size + 1 := Nat.le_succ _
                  go_wp2
                  refine bodyPost_ret (v := .agg #[.int .i64 (10), .int .i64 (4), .int .i64 ((j : Int))]) (by simp [results, Tryz.results6, go_sem, *]) rfl ⟨by rw [HVV.out], ?_⟩
                  exact ((HB.out.keeps.setCell (p := ⟨w.heap.size + 1, 0, none⟩) (.inr hle) _).setCell (p := ⟨w.heap.size + 1, 1, none⟩) (.inr hle) _).setCell (p := ⟨w.heap.size + 1, 2, none⟩) (.inr hle) _
                have HZ4 := Lib.hid (zero_more (f := fun k => objF c (c.ob k)) HZ3.out (show objF c (c.ob j) = 0 from by unfold objF; rw [if_neg (by omega), if_neg hnr, if_neg (by rw [hR]; decide), if_neg (by rw [hO]; decide)]))
                replace HB := Lib.hid HB.out.tl
                go_wp2
                go_roundw
                case rel => exact ⟨j + 1, by omega, by go_num, HZ4.out, HB.out⟩
                case measure => simp [intOf]; omega
            · obtain rfl : j = c.nO := by omega
              obtain ⟨e0, e1, e2, e3⟩ := four_cells (HB.out.at 1 rfl)
              have lx := lt_of (HB.out.at 1 rfl)
              have HVV := Lib.hid (show badOf c = (0, 0, 0) from badOf_0 c Z1.out HZ.out HZ2.out HZ3.out)
              obtain ⟨⟨r0, r1, r2⟩, g0, g1, g2, lr⟩ := three_cells (HB.out.at 0 rfl)
              have hle : w.heap.size ≤ w.heap.size + 1 := Nat.le_succ _
              go_wp2
              refine bodyPost_ret (v := .agg #[.int .i64 (0), .int .i64 (0), .int .i64 (0)]) (by simp [results, Tryz.results6, go_sem, *]) rfl ⟨by rw [HVV.out], ?_⟩
              exact ((HB.out.keeps.setCell (p := ⟨w.heap.size + 1, 0, none⟩) (.inr hle) _).setCell (p := ⟨w.heap.size + 1, 1, none⟩) (.inr hle) _).setCell (p := ⟨w.heap.size + 1, 2, none⟩) (.inr hle) _
end Go.Proofs.YthnmlklgbggmbaaGreat
