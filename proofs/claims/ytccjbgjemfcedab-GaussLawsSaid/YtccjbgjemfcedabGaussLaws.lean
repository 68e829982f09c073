import Derived.Test.YtccjbgjemfcedabGaussDv
namespace Go.Proofs.Ytccjbgjemfcedab
open Go.ChangeShapes Go.WideShapes Go.ChangeAt Go.RowKit
set_option linter.unusedVariables false
set_option linter.unusedSimpArgs false
attribute [local go_sem ↓ 2000] eqn
/-- The three numbers of the law, in memory. -/
structure X3 (w wr : World) (a b c d e f : Int) (X Y Z : Nat) : Prop where
  keeps : Keeps (fun _ => False) w wr
  x : wr.heap[X]? = some (.cells #[.int .i64 a, .int .i64 b] 24 (0, 0))
  y : wr.heap[Y]? = some (.cells #[.int .i64 c, .int .i64 d] 24 (0, 0))
  z : wr.heap[Z]? = some (.cells #[.int .i64 e, .int .i64 f] 24 (0, 0))
theorem X3.none {w w1 w2 : World} {a b c d e f : Int} {X Y Z : Nat} (h : X3 w w1 a b c d e f X Y Z) (k : Keeps (fun _ => False) w1 w2) : X3 w w2 a b c d e f X Y Z :=
  ⟨h.keeps.trans k, k.at h.x fun h => h, k.at h.y fun h => h, k.at h.z fun h => h⟩
theorem six (w : World) (o1 o2 o3 o4 o5 o6 : Obj) : ((((((w.alloc o1).alloc o2).alloc o3).alloc o4).alloc o5).alloc o6).drew.heap[w.heap.size + 1 + 1 + 1]? = some o4 ∧ ((((((w.alloc o1).alloc o2).alloc o3).alloc o4).alloc o5).alloc o6).drew.heap[w.heap.size + 1 + 1 + 1 + 1]? = some o5 ∧
    ((((((w.alloc o1).alloc o2).alloc o3).alloc o4).alloc o5).alloc o6).drew.heap[w.heap.size + 1 + 1 + 1 + 1 + 1]? = some o6 ∧ Keeps (fun _ => False) w ((((((w.alloc o1).alloc o2).alloc o3).alloc o4).alloc o5).alloc o6).drew := by
  have h4 := heap_new (((w.alloc o1).alloc o2).alloc o3) o4
  have h5 := heap_new ((((w.alloc o1).alloc o2).alloc o3).alloc o4) o5
  have h6 := heap_new (((((w.alloc o1).alloc o2).alloc o3).alloc o4).alloc o5) o6
  simp only [World.size_alloc] at h4 h5 h6
  exact ⟨heap_old (heap_old h4 _) _, heap_old h5 _, h6, ((((((Keeps.refl _ _).alloc _).alloc _).alloc _).alloc _).alloc _).alloc _ |>.drew⟩
theorem two_heap (w : World) (o1 o2 : Obj) : ((w.alloc o1).alloc o2).heap[w.heap.size]? = some o1 ∧ ((w.alloc o1).alloc o2).heap[w.heap.size + 1]? = some o2 ∧ Keeps (fun _ => False) w ((w.alloc o1).alloc o2) := by
  have h := heap_new (w.alloc o1) o2
  rw [World.size_alloc] at h
  exact ⟨heap_old (heap_new w o1) o2, h, ((Keeps.refl _ _).alloc _).alloc _⟩
theorem w64 {x : Int} (h : -9223372036854775808 ≤ x ∧ x ≤ 9223372036854775807) {y : Int} (e : x = y) : IntKind.i64.wrap x = y := by rw [IntWalk.i64_in x h, e]
set_option maxRecDepth 20000 in
set_option maxHeartbeats 40000000 in
theorem gaussLaws_plain (a b c d e f : Int) (w : World) :
    Calls Try.prog 3 #[.agg #[.int .i64 a, .int .i64 b], .agg #[.int .i64 c, .int .i64 d], .agg #[.int .i64 e, .int .i64 f]] w fun e w' => e = .returned (.bool true) ∧ Keeps (fun _ => False) w w' := by
  go_enter Try.func3, Try.ntmps3
  go_wp2_with fail
  rename_i K hK
  have REST : ∀ (X Y Z : Nat) (wr : World), X3 w wr a b c d e f X Y Z → K { tmps := #[.agg #[.int .i64 a, .int .i64 b], .agg #[.int .i64 c, .int .i64 d], .agg #[.int .i64 e, .int .i64 f], .pointer (some ⟨w.heap.size, 0, none⟩), .pointer (some ⟨w.heap.size + 1, 0, none⟩), .pointer (some ⟨w.heap.size + 1 + 1, 0, none⟩), .bool false, .pointer (some ⟨X, 0, none⟩), .pointer (some ⟨Y, 0, none⟩), .pointer (some ⟨Z, 0, none⟩), undef, undef, undef, undef, undef, undef, undef, undef, undef, .agg #[.int .i64 a, .int .i64 b], .agg #[.int .i64 c, .int .i64 d], .agg #[.int .i64 e, .int .i64 f], undef, undef, undef, undef, undef, undef, undef, undef, undef, undef, undef, undef, undef, undef, undef, undef, undef, undef, undef, undef, undef, undef, undef, undef, undef, undef, undef, undef, undef, undef, undef, undef, undef, undef, undef, undef, undef, undef, undef, undef, undef, undef, undef, undef, undef, undef, undef, undef, undef, undef, undef, undef, undef, undef, undef, undef, undef, undef, undef, undef, undef, undef, undef, undef, undef, undef, undef, undef, undef, undef, undef, undef, undef, undef, undef, undef, undef, undef, undef, undef, undef, undef, undef, undef, undef, undef, undef, undef, undef, undef, undef, undef, undef, undef, undef, undef, undef, undef, undef, undef, undef, undef, undef, undef, undef, undef, undef, undef, undef, undef, undef, undef, undef, undef, undef, undef, undef, undef, undef, undef, undef, undef, undef, undef, undef, undef, undef, undef, undef, undef, undef, undef, undef, undef, undef, undef, undef, undef, undef, undef, undef, undef, undef, undef, undef, undef, undef], defers := [] } wr := by
    intro X Y Z wr hx3
    refine hK _ _ ?_
    have HX := Lib.hid hx3
    clear hx3 hK
    by_cases hg : rightB a b = true ∧ rightB c d = true ∧ ¬ (c = 0 ∧ d = 0)
    · have HG := Lib.hid hg
      have HRA := Lib.hid hg.1
      have HRC := Lib.hid hg.2.1
      clear hg
      obtain ⟨x0, x1, _, _, lx⟩ := two_cells HX.out.x
      obtain ⟨y0, y1, _, _, ly⟩ := two_cells HX.out.y
      obtain ⟨z0, z1, _, _, lz⟩ := two_cells HX.out.z
      obtain ⟨p, q, r, s, hdiv, hq1, hq2, hq3, hq4, hq5⟩ := gdivs a b c d HG.out.1 HG.out.2.1 HG.out.2.2
      have HDV := Lib.hid hdiv
      have bp := right_bds hq5
      have bc := right_bds HG.out.2.1
      have br := right_bds hq4
      have ba := right_bds HG.out.1
      have hpc := abs_mul (a := p) (b := c) (M := 1048576) (N := 1048576) (by omega) (by omega)
      have hqd := abs_mul (a := q) (b := d) (M := 1048576) (N := 1048576) (by omega) (by omega)
      have hpd := abs_mul (a := p) (b := d) (M := 1048576) (N := 1048576) (by omega) (by omega)
      have hqc := abs_mul (a := q) (b := c) (M := 1048576) (N := 1048576) (by omega) (by omega)
      have hcc := abs_mul (a := c) (b := c) (M := 1048576) (N := 1048576) (by omega) (by omega)
      have hdd := abs_mul (a := d) (b := d) (M := 1048576) (N := 1048576) (by omega) (by omega)
      obtain ⟨Ny, hNy⟩ : ∃ Ny, c * c + d * d = Ny := ⟨_, rfl⟩
      obtain ⟨Nr, hNr⟩ : ∃ Nr, r * r + s * s = Nr := ⟨_, rfl⟩
      have sr := z_sq r
      have ss := z_sq s
      have HR := Lib.hid (And.intro hq4 (And.intro hNr (And.intro HG.out.2.1 hNy)))
      rw [hNy, hNr] at hq3
      have W2' := Lib.hid (w64 (x := 2 * Nr) (by omega) rfl)
      have d5' := Lib.hid (decide_eq_false (show ¬ Ny < 2 * Nr by omega))
      obtain ⟨m1, hm1⟩ : ∃ m1, p * c = m1 := ⟨_, rfl⟩
      obtain ⟨m2, hm2⟩ : ∃ m2, q * d = m2 := ⟨_, rfl⟩
      obtain ⟨m3, hm3⟩ : ∃ m3, p * d = m3 := ⟨_, rfl⟩
      obtain ⟨m4, hm4⟩ : ∃ m4, q * c = m4 := ⟨_, rfl⟩
      have V1 := Lib.hid (w64 (x := p * c) (by omega) hm1)
      have V2 := Lib.hid (w64 (x := q * d) (by omega) hm2)
      have V3 := Lib.hid (w64 (x := p * d) (by omega) hm3)
      have V4 := Lib.hid (w64 (x := q * c) (by omega) hm4)
      rw [hm1, hm2] at hq1
      rw [hm3, hm4] at hq2
      rw [hm1] at hpc
      rw [hm2] at hqd
      rw [hm3] at hpd
      rw [hm4] at hqc
      have V5 := Lib.hid (w64 (x := m1 - m2) (by omega) rfl)
      have V6 := Lib.hid (w64 (x := m1 - m2 + r) (y := a) (by omega) (by omega))
      have V7 := Lib.hid (w64 (x := m3 + m4) (by omega) rfl)
      have V8 := Lib.hid (w64 (x := m3 + m4 + s) (y := b) (by omega) (by omega))
      clear hdiv hq1 hq2 hq3 hq4 hq5 bp bc br ba hpc hqd hpd hqc hcc hdd hNy hNr sr ss hm1 hm2 hm3 hm4
      go_wp2_with fail
      refine (HDV.out _).mono ?_
      rintro e1 w2 ⟨rfl, k2⟩
      obtain ⟨w3, hw3⟩ : ∃ w3, (w2.alloc (.cells #[.int .i64 p, .int .i64 q] 24)).alloc (.cells #[.int .i64 r, .int .i64 s] 24) = w3 := ⟨_, rfl⟩
      obtain ⟨t1, t2, t3⟩ := two_heap w2 (.cells #[.int .i64 p, .int .i64 q] 24) (.cells #[.int .i64 r, .int .i64 s] 24)
      rw [hw3] at t1 t2 t3
      replace HX := Lib.hid ((HX.out.none k2).none t3)
      obtain ⟨p0, p1, _, _, lp⟩ := two_cells t1
      obtain ⟨r0, r1, _, _, lr⟩ := two_cells t2
      clear x0 x1 lx y0 y1 ly z0 z1 lz
      obtain ⟨x0, x1, _, _, lx⟩ := two_cells HX.out.x
      obtain ⟨y0, y1, _, _, ly⟩ := two_cells HX.out.y
      have HS := Lib.hid (show ∀ w', Keeps (fun _ => False) w3 w' → w'.cell? ⟨w2.heap.size + 1, 0, none⟩ = some (.int .i64 r) ∧ w'.cell? ⟨w2.heap.size + 1, 1, none⟩ = some (.int .i64 s) ∧ w'.cell? ⟨Y, 0, none⟩ = some (.int .i64 c) ∧ w'.cell? ⟨Y, 1, none⟩ = some (.int .i64 d) ∧ w'.cell? ⟨w2.heap.size, 0, none⟩ = some (.int .i64 p) ∧ w'.cell? ⟨w2.heap.size, 1, none⟩ = some (.int .i64 q) ∧ w'.cell? ⟨X, 0, none⟩ = some (.int .i64 a) ∧ w'.cell? ⟨X, 1, none⟩ = some (.int .i64 b) from fun w' hw => ⟨(hw.none.cell (p := ⟨_, _, none⟩) lr).trans r0, (hw.none.cell (p := ⟨_, _, none⟩) lr).trans r1, (hw.none.cell (p := ⟨_, _, none⟩) ly).trans y0, (hw.none.cell (p := ⟨_, _, none⟩) ly).trans y1, (hw.none.cell (p := ⟨_, _, none⟩) lp).trans p0, (hw.none.cell (p := ⟨_, _, none⟩) lp).trans p1, (hw.none.cell (p := ⟨_, _, none⟩) lx).trans x0, (hw.none.cell (p := ⟨_, _, none⟩) lx).trans x1⟩)
      have HK0 := Lib.hid (show Keeps (fun _ => False) w3 w3.drew from (Keeps.refl _ _).drew)
      clear k2 t1 t2 t3
      go_wp2_with fail
      clear hw3 p0 p1 r0 r1 x0 x1 y0 y1
      have W2 := W2'.out
      have d5 := d5'.out
      have v1 := V1.out
      have v2 := V2.out
      have v3 := V3.out
      have v4 := V4.out
      have v5 := V5.out
      have v6 := V6.out
      have v7 := V7.out
      have v8 := V8.out
      refine wp_region_noPanic ?_
      refine wp_region_held_drew (S := (fun w' => w'.cell? ⟨w2.heap.size + 1, 0, none⟩ = some (.int .i64 r) ∧ w'.cell? ⟨w2.heap.size + 1, 1, none⟩ = some (.int .i64 s) ∧ w'.cell? ⟨Y, 0, none⟩ = some (.int .i64 c) ∧ w'.cell? ⟨Y, 1, none⟩ = some (.int .i64 d) ∧ w'.cell? ⟨w2.heap.size, 0, none⟩ = some (.int .i64 p) ∧ w'.cell? ⟨w2.heap.size, 1, none⟩ = some (.int .i64 q) ∧ w'.cell? ⟨X, 0, none⟩ = some (.int .i64 a) ∧ w'.cell? ⟨X, 1, none⟩ = some (.int .i64 b))) (by kernel_rfl) ?_ (fun hHeld => ?_)
      · exact HS.out _ HK0.out
      refine wpAnyH_take (i := 0) (v := ?_) rfl (by kernel_rfl) (by kernel_rfl) (by kernel_rfl) (fun _ _ _ h => h) (Or.inl ⟨by kernel_rfl, ?_⟩) (by assumption) ?_
      rotate_left
      · (intro w hSw; (try dsimp only at hSw); go_simp; try with_reducible rfl)
      simp only [Act.put, List.getElem_toArray, List.getElem_cons_zero, List.getElem_cons_succ, List.setIfInBounds_toArray, List.set_cons_zero, List.set_cons_succ]
      refine wpAnyH_take (i := 3) (v := ?_) rfl (by kernel_rfl) (by kernel_rfl) (by kernel_rfl) (fun _ _ _ h => h) (Or.inl ⟨by kernel_rfl, ?_⟩) (by assumption) ?_
      rotate_left
      · (intro w hSw; (try dsimp only at hSw); go_simp; try with_reducible rfl)
      simp only [Act.put, List.getElem_toArray, List.getElem_cons_zero, List.getElem_cons_succ, List.setIfInBounds_toArray, List.set_cons_zero, List.set_cons_succ]
      refine wpAnyH_ready (rs := [1]) (by kernel_rfl) (by simp) ?_
      refine AllReadyH.cons rfl (fun K hK => ?_) AllReadyH.nil
      go_simp
      (go_at_call 7; refine (norm_any r s _).mono ?_; rintro e2 u1 ⟨rfl, k1⟩; rw [if_pos HR.out.1, HR.out.2.1]; have HK1 := Lib.hid (HK0.out.trans k1); clear k1)
      go_wp2_with fail
      refine hK.out _ _ ?_ (fun hHeld => ?_)
      · ((try dsimp only); exact HS.out _ HK1.out)
      clear hK K
      try simp only [Act.put, List.getElem_toArray, List.getElem_cons_zero, List.getElem_cons_succ, List.setIfInBounds_toArray, List.set_cons_zero, List.set_cons_succ]
      refine wpAnyH_take (i := 2) (v := ?_) rfl (by kernel_rfl) (by kernel_rfl) (by kernel_rfl) (fun _ _ _ h => h) (Or.inl ⟨by kernel_rfl, ?_⟩) (by assumption) ?_
      rotate_left
      · (intro w hSw; (try dsimp only at hSw); go_simp; try with_reducible rfl)
      simp only [Act.put, List.getElem_toArray, List.getElem_cons_zero, List.getElem_cons_succ, List.setIfInBounds_toArray, List.set_cons_zero, List.set_cons_succ]
      refine wpAnyH_ready (rs := [4]) (by kernel_rfl) (by simp) ?_
      refine AllReadyH.cons rfl (fun K hK => ?_) AllReadyH.nil
      go_simp
      (go_at_call 7; refine (norm_any c d _).mono ?_; rintro e2 u2 ⟨rfl, k2⟩; rw [if_pos HR.out.2.2.1, HR.out.2.2.2]; have HK2 := Lib.hid (HK1.out.trans k2); clear k2)
      go_wp2_with fail
      refine hK.out _ _ ?_ (fun hHeld => ?_)
      · ((try dsimp only); exact HS.out _ HK2.out)
      clear hK K
      try simp only [Act.put, List.getElem_toArray, List.getElem_cons_zero, List.getElem_cons_succ, List.setIfInBounds_toArray, List.set_cons_zero, List.set_cons_succ]
      refine wpAnyH_take (i := 5) (v := ?_) rfl (by kernel_rfl) (by kernel_rfl) (by kernel_rfl) (fun _ _ _ h => h) (Or.inl ⟨by kernel_rfl, ?_⟩) (by assumption) ?_
      rotate_left
      · (intro w hSw; (try dsimp only at hSw); go_simp; try with_reducible rfl)
      simp only [Act.put, List.getElem_toArray, List.getElem_cons_zero, List.getElem_cons_succ, List.setIfInBounds_toArray, List.set_cons_zero, List.set_cons_succ]
      refine wpAnyH_take (i := 6) (v := ?_) rfl (by kernel_rfl) (by kernel_rfl) (by kernel_rfl) (fun _ _ _ h => h) (Or.inl ⟨by kernel_rfl, ?_⟩) (by assumption) ?_
      rotate_left
      · (intro w hSw; (try dsimp only at hSw); go_simp; try with_reducible rfl)
      simp only [Act.put, List.getElem_toArray, List.getElem_cons_zero, List.getElem_cons_succ, List.setIfInBounds_toArray, List.set_cons_zero, List.set_cons_succ]
      refine wpAnyH_take (i := 7) (v := ?_) rfl (by kernel_rfl) (by kernel_rfl) (by kernel_rfl) (fun _ _ _ h => h) (Or.inl ⟨by kernel_rfl, ?_⟩) (by assumption) ?_
      rotate_left
      · (intro w hSw; (try dsimp only at hSw); go_simp; try with_reducible rfl)
      simp only [Act.put, List.getElem_toArray, List.getElem_cons_zero, List.getElem_cons_succ, List.setIfInBounds_toArray, List.set_cons_zero, List.set_cons_succ]
      refine wpAnyH_take (i := 8) (v := ?_) rfl (by kernel_rfl) (by kernel_rfl) (by kernel_rfl) (fun _ _ _ h => h) (Or.inl ⟨by kernel_rfl, ?_⟩) (by assumption) ?_
      rotate_left
      · (intro w hSw; (try dsimp only at hSw); go_simp; try with_reducible rfl)
      simp only [Act.put, List.getElem_toArray, List.getElem_cons_zero, List.getElem_cons_succ, List.setIfInBounds_toArray, List.set_cons_zero, List.set_cons_succ]
      refine wpAnyH_take (i := 9) (v := ?_) rfl (by kernel_rfl) (by kernel_rfl) (by kernel_rfl) (fun _ _ _ h => h) (Or.inl ⟨by kernel_rfl, ?_⟩) (by assumption) ?_
      rotate_left
      · (intro w hSw; (try dsimp only at hSw); go_simp; try with_reducible rfl)
      simp only [Act.put, List.getElem_toArray, List.getElem_cons_zero, List.getElem_cons_succ, List.setIfInBounds_toArray, List.set_cons_zero, List.set_cons_succ]
      refine wpAnyH_take (i := 10) (v := ?_) rfl (by kernel_rfl) (by kernel_rfl) (by kernel_rfl) (fun _ _ _ h => h) (Or.inl ⟨by kernel_rfl, ?_⟩) (by assumption) ?_
      rotate_left
      · (intro w hSw; (try dsimp only at hSw); go_simp; try with_reducible rfl)
      simp only [Act.put, List.getElem_toArray, List.getElem_cons_zero, List.getElem_cons_succ, List.setIfInBounds_toArray, List.set_cons_zero, List.set_cons_succ]
      refine wpAnyH_take (i := 11) (v := ?_) rfl (by kernel_rfl) (by kernel_rfl) (by kernel_rfl) (fun _ _ _ h => h) (Or.inl ⟨by kernel_rfl, ?_⟩) (by assumption) ?_
      rotate_left
      · (intro w hSw; (try dsimp only at hSw); go_simp; try with_reducible rfl)
      simp only [Act.put, List.getElem_toArray, List.getElem_cons_zero, List.getElem_cons_succ, List.setIfInBounds_toArray, List.set_cons_zero, List.set_cons_succ]
      refine wpAnyH_take (i := 12) (v := ?_) rfl (by kernel_rfl) (by kernel_rfl) (by kernel_rfl) (fun _ _ _ h => h) (Or.inl ⟨by kernel_rfl, ?_⟩) (by assumption) ?_
      rotate_left
      · (intro w hSw; (try dsimp only at hSw); go_simp; try with_reducible rfl)
      simp only [Act.put, List.getElem_toArray, List.getElem_cons_zero, List.getElem_cons_succ, List.setIfInBounds_toArray, List.set_cons_zero, List.set_cons_succ]
      refine wpAnyH_take (i := 13) (v := ?_) rfl (by kernel_rfl) (by kernel_rfl) (by kernel_rfl) (fun _ _ _ h => h) (Or.inl ⟨by kernel_rfl, ?_⟩) (by assumption) ?_
      rotate_left
      · (intro w hSw; (try dsimp only at hSw); go_simp; try with_reducible rfl)
      simp only [Act.put, List.getElem_toArray, List.getElem_cons_zero, List.getElem_cons_succ, List.setIfInBounds_toArray, List.set_cons_zero, List.set_cons_succ]
      refine wpAnyH_take (i := 14) (v := ?_) rfl (by kernel_rfl) (by kernel_rfl) (by kernel_rfl) (fun _ _ _ h => h) (Or.inl ⟨by kernel_rfl, ?_⟩) (by assumption) ?_
      rotate_left
      · (intro w hSw; (try dsimp only at hSw); go_simp; try with_reducible rfl)
      simp only [Act.put, List.getElem_toArray, List.getElem_cons_zero, List.getElem_cons_succ, List.setIfInBounds_toArray, List.set_cons_zero, List.set_cons_succ]
      refine wpAnyH_take (i := 15) (v := ?_) rfl (by kernel_rfl) (by kernel_rfl) (by kernel_rfl) (fun _ _ _ h => h) (Or.inl ⟨by kernel_rfl, ?_⟩) (by assumption) ?_
      rotate_left
      · (intro w hSw; (try dsimp only at hSw); go_simp; try with_reducible rfl)
      simp only [Act.put, List.getElem_toArray, List.getElem_cons_zero, List.getElem_cons_succ, List.setIfInBounds_toArray, List.set_cons_zero, List.set_cons_succ]
      refine wpAnyH_take (i := 16) (v := ?_) rfl (by kernel_rfl) (by kernel_rfl) (by kernel_rfl) (fun _ _ _ h => h) (Or.inl ⟨by kernel_rfl, ?_⟩) (by assumption) ?_
      rotate_left
      · (intro w hSw; (try dsimp only at hSw); go_simp; try with_reducible rfl)
      simp only [Act.put, List.getElem_toArray, List.getElem_cons_zero, List.getElem_cons_succ, List.setIfInBounds_toArray, List.set_cons_zero, List.set_cons_succ]
      refine wpAnyH_take (i := 17) (v := ?_) rfl (by kernel_rfl) (by kernel_rfl) (by kernel_rfl) (fun _ _ _ h => h) (Or.inl ⟨by kernel_rfl, ?_⟩) (by assumption) ?_
      rotate_left
      · (intro w hSw; (try dsimp only at hSw); go_simp; try with_reducible rfl)
      simp only [Act.put, List.getElem_toArray, List.getElem_cons_zero, List.getElem_cons_succ, List.setIfInBounds_toArray, List.set_cons_zero, List.set_cons_succ]
      refine wpAnyH_take (i := 18) (v := ?_) rfl (by kernel_rfl) (by kernel_rfl) (by kernel_rfl) (fun _ _ _ h => h) (Or.inl ⟨by kernel_rfl, ?_⟩) (by assumption) ?_
      rotate_left
      · (intro w hSw; (try dsimp only at hSw); go_simp; try with_reducible rfl)
      simp only [Act.put, List.getElem_toArray, List.getElem_cons_zero, List.getElem_cons_succ, List.setIfInBounds_toArray, List.set_cons_zero, List.set_cons_succ]
      refine wpAnyH_take (i := 19) (v := ?_) rfl (by kernel_rfl) (by kernel_rfl) (by kernel_rfl) (fun _ _ _ h => h) (Or.inl ⟨by kernel_rfl, ?_⟩) (by assumption) ?_
      rotate_left
      · (intro w hSw; (try dsimp only at hSw); go_simp; try with_reducible rfl)
      simp only [Act.put, List.getElem_toArray, List.getElem_cons_zero, List.getElem_cons_succ, List.setIfInBounds_toArray, List.set_cons_zero, List.set_cons_succ]
      refine wpAnyH_take (i := 20) (v := ?_) rfl (by kernel_rfl) (by kernel_rfl) (by kernel_rfl) (fun _ _ _ h => h) (Or.inl ⟨by kernel_rfl, ?_⟩) (by assumption) ?_
      rotate_left
      · (intro w hSw; (try dsimp only at hSw); go_simp; try with_reducible rfl)
      simp only [Act.put, List.getElem_toArray, List.getElem_cons_zero, List.getElem_cons_succ, List.setIfInBounds_toArray, List.set_cons_zero, List.set_cons_succ]
      refine wpAnyH_take (i := 21) (v := ?_) rfl (by kernel_rfl) (by kernel_rfl) (by kernel_rfl) (fun _ _ _ h => h) (Or.inl ⟨by kernel_rfl, ?_⟩) (by assumption) ?_
      rotate_left
      · (intro w hSw; (try dsimp only at hSw); go_simp; try with_reducible rfl)
      simp only [Act.put, List.getElem_toArray, List.getElem_cons_zero, List.getElem_cons_succ, List.setIfInBounds_toArray, List.set_cons_zero, List.set_cons_succ]
      refine wpAnyH_take (i := 22) (v := ?_) rfl (by kernel_rfl) (by kernel_rfl) (by kernel_rfl) (fun _ _ _ h => h) (Or.inl ⟨by kernel_rfl, ?_⟩) (by assumption) ?_
      rotate_left
      · (intro w hSw; (try dsimp only at hSw); go_simp; try with_reducible rfl)
      simp only [Act.put, List.getElem_toArray, List.getElem_cons_zero, List.getElem_cons_succ, List.setIfInBounds_toArray, List.set_cons_zero, List.set_cons_succ]
      refine wpAnyH_take (i := 23) (v := ?_) rfl (by kernel_rfl) (by kernel_rfl) (by kernel_rfl) (fun _ _ _ h => h) (Or.inl ⟨by kernel_rfl, ?_⟩) (by assumption) ?_
      rotate_left
      · (intro w hSw; (try dsimp only at hSw); go_simp; try with_reducible rfl)
      simp only [Act.put, List.getElem_toArray, List.getElem_cons_zero, List.getElem_cons_succ, List.setIfInBounds_toArray, List.set_cons_zero, List.set_cons_succ]
      refine wpAnyH_take (i := 24) (v := ?_) rfl (by kernel_rfl) (by kernel_rfl) (by kernel_rfl) (fun _ _ _ h => h) (Or.inl ⟨by kernel_rfl, ?_⟩) (by assumption) ?_
      rotate_left
      · (intro w hSw; (try dsimp only at hSw); go_simp; try with_reducible rfl)
      simp only [Act.put, List.getElem_toArray, List.getElem_cons_zero, List.getElem_cons_succ, List.setIfInBounds_toArray, List.set_cons_zero, List.set_cons_succ]
      refine wpAnyH_take (i := 25) (v := ?_) rfl (by kernel_rfl) (by kernel_rfl) (by kernel_rfl) (fun _ _ _ h => h) (Or.inl ⟨by kernel_rfl, ?_⟩) (by assumption) ?_
      rotate_left
      · (intro w hSw; (try dsimp only at hSw); go_simp; try with_reducible rfl)
      simp only [Act.put, List.getElem_toArray, List.getElem_cons_zero, List.getElem_cons_succ, List.setIfInBounds_toArray, List.set_cons_zero, List.set_cons_succ]
      refine wpAnyH_take (i := 26) (v := ?_) rfl (by kernel_rfl) (by kernel_rfl) (by kernel_rfl) (fun _ _ _ h => h) (Or.inl ⟨by kernel_rfl, ?_⟩) (by assumption) ?_
      rotate_left
      · (intro w hSw; (try dsimp only at hSw); go_simp; try with_reducible rfl)
      simp only [Act.put, List.getElem_toArray, List.getElem_cons_zero, List.getElem_cons_succ, List.setIfInBounds_toArray, List.set_cons_zero, List.set_cons_succ]
      refine wpAnyH_take (i := 27) (v := ?_) rfl (by kernel_rfl) (by kernel_rfl) (by kernel_rfl) (fun _ _ _ h => h) (Or.inl ⟨by kernel_rfl, ?_⟩) (by assumption) ?_
      rotate_left
      · (intro w hSw; (try dsimp only at hSw); go_simp; try with_reducible rfl)
      simp only [Act.put, List.getElem_toArray, List.getElem_cons_zero, List.getElem_cons_succ, List.setIfInBounds_toArray, List.set_cons_zero, List.set_cons_succ]
      refine wpAnyH_take (i := 28) (v := ?_) rfl (by kernel_rfl) (by kernel_rfl) (by kernel_rfl) (fun _ _ _ h => h) (Or.inl ⟨by kernel_rfl, ?_⟩) (by assumption) ?_
      rotate_left
      · (intro w hSw; (try dsimp only at hSw); go_simp; try with_reducible rfl)
      simp only [Act.put, List.getElem_toArray, List.getElem_cons_zero, List.getElem_cons_succ, List.setIfInBounds_toArray, List.set_cons_zero, List.set_cons_succ]
      refine wpAnyH_take (i := 29) (v := ?_) rfl (by kernel_rfl) (by kernel_rfl) (by kernel_rfl) (fun _ _ _ h => h) (Or.inl ⟨by kernel_rfl, ?_⟩) (by assumption) ?_
      rotate_left
      · (intro w hSw; (try dsimp only at hSw); go_simp; try with_reducible rfl)
      simp only [Act.put, List.getElem_toArray, List.getElem_cons_zero, List.getElem_cons_succ, List.setIfInBounds_toArray, List.set_cons_zero, List.set_cons_succ]
      refine wpAnyH_take (i := 30) (v := ?_) rfl (by kernel_rfl) (by kernel_rfl) (by kernel_rfl) (fun _ _ _ h => h) (Or.inl ⟨by kernel_rfl, ?_⟩) (by assumption) ?_
      rotate_left
      · (intro w hSw; (try dsimp only at hSw); go_simp; try with_reducible rfl)
      simp only [Act.put, List.getElem_toArray, List.getElem_cons_zero, List.getElem_cons_succ, List.setIfInBounds_toArray, List.set_cons_zero, List.set_cons_succ]
      refine wpAnyH_take (i := 31) (v := ?_) rfl (by kernel_rfl) (by kernel_rfl) (by kernel_rfl) (fun _ _ _ h => h) (Or.inl ⟨by kernel_rfl, ?_⟩) (by assumption) ?_
      rotate_left
      · (intro w hSw; (try dsimp only at hSw); go_simp; try with_reducible rfl)
      simp only [Act.put, List.getElem_toArray, List.getElem_cons_zero, List.getElem_cons_succ, List.setIfInBounds_toArray, List.set_cons_zero, List.set_cons_succ]
      refine wpAnyH_take (i := 32) (v := ?_) rfl (by kernel_rfl) (by kernel_rfl) (by kernel_rfl) (fun _ _ _ h => h) (Or.inl ⟨by kernel_rfl, ?_⟩) (by assumption) ?_
      rotate_left
      · (intro w hSw; (try dsimp only at hSw); go_simp; try with_reducible rfl)
      simp only [Act.put, List.getElem_toArray, List.getElem_cons_zero, List.getElem_cons_succ, List.setIfInBounds_toArray, List.set_cons_zero, List.set_cons_succ]
      refine wpAnyH_take (i := 33) (v := ?_) rfl (by kernel_rfl) (by kernel_rfl) (by kernel_rfl) (fun _ _ _ h => h) (Or.inl ⟨by kernel_rfl, ?_⟩) (by assumption) ?_
      rotate_left
      · (intro w hSw; (try dsimp only at hSw); go_simp; try with_reducible rfl)
      simp only [Act.put, List.getElem_toArray, List.getElem_cons_zero, List.getElem_cons_succ, List.setIfInBounds_toArray, List.set_cons_zero, List.set_cons_succ]
      refine wpAnyH_take (i := 34) (v := ?_) rfl (by kernel_rfl) (by kernel_rfl) (by kernel_rfl) (fun _ _ _ h => h) (Or.inl ⟨by kernel_rfl, ?_⟩) (by assumption) ?_
      rotate_left
      · (intro w hSw; (try dsimp only at hSw); go_simp; try with_reducible rfl)
      simp only [Act.put, List.getElem_toArray, List.getElem_cons_zero, List.getElem_cons_succ, List.setIfInBounds_toArray, List.set_cons_zero, List.set_cons_succ]
      refine wpAnyH_take (i := 35) (v := ?_) rfl (by kernel_rfl) (by kernel_rfl) (by kernel_rfl) (fun _ _ _ h => h) (Or.inl ⟨by kernel_rfl, ?_⟩) (by assumption) ?_
      rotate_left
      · (intro w hSw; (try dsimp only at hSw); go_simp; try with_reducible rfl)
      simp only [Act.put, List.getElem_toArray, List.getElem_cons_zero, List.getElem_cons_succ, List.setIfInBounds_toArray, List.set_cons_zero, List.set_cons_succ]
      refine wpAnyH_take (i := 36) (v := ?_) rfl (by kernel_rfl) (by kernel_rfl) (by kernel_rfl) (fun _ _ _ h => h) (Or.inl ⟨by kernel_rfl, ?_⟩) (by assumption) ?_
      rotate_left
      · (intro w hSw; (try dsimp only at hSw); go_simp; try with_reducible rfl)
      simp only [Act.put, List.getElem_toArray, List.getElem_cons_zero, List.getElem_cons_succ, List.setIfInBounds_toArray, List.set_cons_zero, List.set_cons_succ]
      refine wpAnyH_take (i := 37) (v := ?_) rfl (by kernel_rfl) (by kernel_rfl) (by kernel_rfl) (fun _ _ _ h => h) (Or.inl ⟨by kernel_rfl, ?_⟩) (by assumption) ?_
      rotate_left
      · (intro w hSw; (try dsimp only at hSw); go_simp; try with_reducible rfl)
      simp only [Act.put, List.getElem_toArray, List.getElem_cons_zero, List.getElem_cons_succ, List.setIfInBounds_toArray, List.set_cons_zero, List.set_cons_succ]
      refine wpAnyH_take (i := 38) (v := ?_) rfl (by kernel_rfl) (by kernel_rfl) (by kernel_rfl) (fun _ _ _ h => h) (Or.inl ⟨by kernel_rfl, ?_⟩) (by assumption) ?_
      rotate_left
      · (intro w hSw; (try dsimp only at hSw); go_simp; try with_reducible rfl)
      simp only [Act.put, List.getElem_toArray, List.getElem_cons_zero, List.getElem_cons_succ, List.setIfInBounds_toArray, List.set_cons_zero, List.set_cons_succ]
      refine wpAnyH_take (i := 39) (v := ?_) rfl (by kernel_rfl) (by kernel_rfl) (by kernel_rfl) (fun _ _ _ h => h) (Or.inl ⟨by kernel_rfl, ?_⟩) (by assumption) ?_
      rotate_left
      · (intro w hSw; (try dsimp only at hSw); go_simp; try with_reducible rfl)
      simp only [Act.put, List.getElem_toArray, List.getElem_cons_zero, List.getElem_cons_succ, List.setIfInBounds_toArray, List.set_cons_zero, List.set_cons_succ]
      refine wpAnyH_take (i := 40) (v := ?_) rfl (by kernel_rfl) (by kernel_rfl) (by kernel_rfl) (fun _ _ _ h => h) (Or.inl ⟨by kernel_rfl, ?_⟩) (by assumption) ?_
      rotate_left
      · (intro w hSw; (try dsimp only at hSw); go_simp; try with_reducible rfl)
      simp only [Act.put, List.getElem_toArray, List.getElem_cons_zero, List.getElem_cons_succ, List.setIfInBounds_toArray, List.set_cons_zero, List.set_cons_succ]
      refine wpAnyH_take (i := 41) (v := ?_) rfl (by kernel_rfl) (by kernel_rfl) (by kernel_rfl) (fun _ _ _ h => h) (Or.inl ⟨by kernel_rfl, ?_⟩) (by assumption) ?_
      rotate_left
      · (intro w hSw; (try dsimp only at hSw); go_simp; try with_reducible rfl)
      simp only [Act.put, List.getElem_toArray, List.getElem_cons_zero, List.getElem_cons_succ, List.setIfInBounds_toArray, List.set_cons_zero, List.set_cons_succ]
      refine wpAnyH_take (i := 42) (v := ?_) rfl (by kernel_rfl) (by kernel_rfl) (by kernel_rfl) (fun _ _ _ h => h) (Or.inl ⟨by kernel_rfl, ?_⟩) (by assumption) ?_
      rotate_left
      · (intro w hSw; (try dsimp only at hSw); go_simp; try with_reducible rfl)
      simp only [Act.put, List.getElem_toArray, List.getElem_cons_zero, List.getElem_cons_succ, List.setIfInBounds_toArray, List.set_cons_zero, List.set_cons_succ]
      refine wpAnyH_take (i := 43) (v := ?_) rfl (by kernel_rfl) (by kernel_rfl) (by kernel_rfl) (fun _ _ _ h => h) (Or.inl ⟨by kernel_rfl, ?_⟩) (by assumption) ?_
      rotate_left
      · (intro w hSw; (try dsimp only at hSw); go_simp; try with_reducible rfl)
      simp only [Act.put, List.getElem_toArray, List.getElem_cons_zero, List.getElem_cons_succ, List.setIfInBounds_toArray, List.set_cons_zero, List.set_cons_succ]
      refine wpAnyH_done (by kernel_rfl) ?_ _
      refine NoPanic.normal ?_
      replace HX := Lib.hid (HX.out.none HK2.out)
      clear W2 d5 v1 v2 v3 v4 v5 v6 v7 v8 W2' d5' V1 V2 V3 V4 V5 V6 V7 V8 HS HK0 HK1 HK2 HDV HR lp lr lx ly
      have HRB := Lib.hid (show (rightB a b && rightB c d) = true by rw [HRA.out, HRC.out]; rfl)
      cases hR : rightB (a * c - b * d) (a * d + b * c) with
      | true =>
        obtain ⟨g1, hg1⟩ : ∃ g1, a * c - b * d = g1 := ⟨_, rfl⟩
        obtain ⟨g2, hg2⟩ : ∃ g2, a * d + b * c = g2 := ⟨_, rfl⟩
        have hnm := z_norms a b c d
        rw [hg1, hg2] at hR hnm
        obtain ⟨Nx, hNx⟩ : ∃ Nx, a * a + b * b = Nx := ⟨_, rfl⟩
        obtain ⟨Ny, hNy⟩ : ∃ Ny, c * c + d * d = Ny := ⟨_, rfl⟩
        rw [hNx, hNy] at hnm
        have HPR := Lib.hid (show toldA (a * c - b * d) (a * d + b * c) = g1 ∧ toldB (a * c - b * d) (a * d + b * c) = g2 ∧ rightB (a * c - b * d) (a * d + b * c) = true ∧ True by rw [hg1, hg2, toldA, toldB, if_pos hR, if_pos hR]; exact ⟨rfl, rfl, hR, trivial⟩)
        have HNM := Lib.hid (And.intro hR (And.intro hnm (And.intro hNx hNy)))
        have bg := right_bds hR
        have hgg := abs_mul (a := g1) (b := g1) (M := 1048576) (N := 1048576) (by omega) (by omega)
        have hgh := abs_mul (a := g2) (b := g2) (M := 1048576) (N := 1048576) (by omega) (by omega)
        have HV1 := Lib.hid (w64 (x := Nx * Ny) (by rw [← hnm]; omega) rfl)
        clear hnm hNx hNy hg1 hg2 bg hgg hgh hR
        obtain ⟨x0, x1, _, _, lx⟩ := two_cells HX.out.x
        obtain ⟨y0, y1, _, _, ly⟩ := two_cells HX.out.y
        obtain ⟨z0, z1, _, _, lz⟩ := two_cells HX.out.z
        go_wp2_with fail
        refine (gmul_any a b c d _).mono ?_
        rintro e1 w2 ⟨rfl, k2⟩
        rw [if_pos HRB.out, HPR.out.1, HPR.out.2.1, HPR.out.2.2.1]
        replace HX := Lib.hid (HX.out.none k2)
        have tp := heap_new w2 (.cells #[.int .i64 g1, .int .i64 g2] 24)
        replace HX := Lib.hid (HX.out.none ((Keeps.refl _ _).alloc (.cells #[.int .i64 g1, .int .i64 g2] 24)))
        obtain ⟨w3, hw3⟩ : ∃ w3, w2.alloc (.cells #[.int .i64 g1, .int .i64 g2] 24) = w3 := ⟨_, rfl⟩
        rw [hw3] at tp HX
        clear x0 x1 lx y0 y1 ly z0 z1 lz
        obtain ⟨x0, x1, _, _, lx⟩ := two_cells HX.out.x
        obtain ⟨y0, y1, _, _, ly⟩ := two_cells HX.out.y
        obtain ⟨p0, p1, _, _, lp⟩ := two_cells tp
        have HS := Lib.hid (show ∀ w', Keeps (fun _ => False) w3 w' → w'.cell? ⟨w2.heap.size, 0, none⟩ = some (.int .i64 g1) ∧ w'.cell? ⟨w2.heap.size, 1, none⟩ = some (.int .i64 g2) ∧ w'.cell? ⟨X, 0, none⟩ = some (.int .i64 a) ∧ w'.cell? ⟨X, 1, none⟩ = some (.int .i64 b) ∧ w'.cell? ⟨Y, 0, none⟩ = some (.int .i64 c) ∧ w'.cell? ⟨Y, 1, none⟩ = some (.int .i64 d) from fun w' hw => ⟨(hw.none.cell (p := ⟨_, _, none⟩) lp).trans p0, (hw.none.cell (p := ⟨_, _, none⟩) lp).trans p1, (hw.none.cell (p := ⟨_, _, none⟩) lx).trans x0, (hw.none.cell (p := ⟨_, _, none⟩) lx).trans x1, (hw.none.cell (p := ⟨_, _, none⟩) ly).trans y0, (hw.none.cell (p := ⟨_, _, none⟩) ly).trans y1⟩)
        have HK0 := Lib.hid (show Keeps (fun _ => False) w3 w3.drew from (Keeps.refl _ _).drew)
        clear k2 tp
        go_wp2_with fail
        try clear hw3
        clear x0 x1 y0 y1 p0 p1
        refine wp_region_noPanic ?_
        refine wp_region_held_drew (S := (fun w' => w'.cell? ⟨w2.heap.size, 0, none⟩ = some (.int .i64 g1) ∧ w'.cell? ⟨w2.heap.size, 1, none⟩ = some (.int .i64 g2) ∧ w'.cell? ⟨X, 0, none⟩ = some (.int .i64 a) ∧ w'.cell? ⟨X, 1, none⟩ = some (.int .i64 b) ∧ w'.cell? ⟨Y, 0, none⟩ = some (.int .i64 c) ∧ w'.cell? ⟨Y, 1, none⟩ = some (.int .i64 d))) (by kernel_rfl) ?_ (fun hHeld => ?_)
        · exact HS.out _ HK0.out
        refine wpAnyH_take (i := 0) (v := ?_) rfl (by kernel_rfl) (by kernel_rfl) (by kernel_rfl) (fun _ _ _ h => h) (Or.inl ⟨by kernel_rfl, ?_⟩) (by assumption) ?_
        rotate_left
        · (intro w hSw; (try dsimp only at hSw); go_simp; try with_reducible rfl)
        simp only [Act.put, List.getElem_toArray, List.getElem_cons_zero, List.getElem_cons_succ, List.setIfInBounds_toArray, List.set_cons_zero, List.set_cons_succ]
        refine wpAnyH_take (i := 1) (v := ?_) rfl (by kernel_rfl) (by kernel_rfl) (by kernel_rfl) (fun _ _ _ h => h) (Or.inl ⟨by kernel_rfl, ?_⟩) (by assumption) ?_
        rotate_left
        · (intro w hSw; (try dsimp only at hSw); go_simp; try with_reducible rfl)
        simp only [Act.put, List.getElem_toArray, List.getElem_cons_zero, List.getElem_cons_succ, List.setIfInBounds_toArray, List.set_cons_zero, List.set_cons_succ]
        refine wpAnyH_take (i := 2) (v := ?_) rfl (by kernel_rfl) (by kernel_rfl) (by kernel_rfl) (fun _ _ _ h => h) (Or.inl ⟨by kernel_rfl, ?_⟩) (by assumption) ?_
        rotate_left
        · (intro w hSw; (try dsimp only at hSw); go_simp; try with_reducible rfl)
        simp only [Act.put, List.getElem_toArray, List.getElem_cons_zero, List.getElem_cons_succ, List.setIfInBounds_toArray, List.set_cons_zero, List.set_cons_succ]
        refine wpAnyH_take (i := 4) (v := ?_) rfl (by kernel_rfl) (by kernel_rfl) (by kernel_rfl) (fun _ _ _ h => h) (Or.inl ⟨by kernel_rfl, ?_⟩) (by assumption) ?_
        rotate_left
        · (intro w hSw; (try dsimp only at hSw); go_simp; try with_reducible rfl)
        simp only [Act.put, List.getElem_toArray, List.getElem_cons_zero, List.getElem_cons_succ, List.setIfInBounds_toArray, List.set_cons_zero, List.set_cons_succ]
        refine wpAnyH_take (i := 6) (v := ?_) rfl (by kernel_rfl) (by kernel_rfl) (by kernel_rfl) (fun _ _ _ h => h) (Or.inl ⟨by kernel_rfl, ?_⟩) (by assumption) ?_
        rotate_left
        · (intro w hSw; (try dsimp only at hSw); go_simp; try with_reducible rfl)
        simp only [Act.put, List.getElem_toArray, List.getElem_cons_zero, List.getElem_cons_succ, List.setIfInBounds_toArray, List.set_cons_zero, List.set_cons_succ]
        refine wpAnyH_ready (rs := [3]) (by kernel_rfl) (by simp) ?_
        refine AllReadyH.cons rfl (fun K hK => ?_) AllReadyH.nil
        go_simp
        (go_at_call 7; refine (norm_any g1 g2 _).mono ?_; rintro e2 u1 ⟨rfl, k1⟩; rw [if_pos HNM.out.1, HNM.out.2.1]; have HK1 := Lib.hid (HK0.out.trans k1); clear k1)
        go_wp2_with fail
        refine hK.out _ _ ?_ (fun hHeld => ?_)
        · ((try dsimp only); exact HS.out _ HK1.out)
        clear hK K
        try simp only [Act.put, List.getElem_toArray, List.getElem_cons_zero, List.getElem_cons_succ, List.setIfInBounds_toArray, List.set_cons_zero, List.set_cons_succ]
        refine wpAnyH_ready (rs := [5]) (by kernel_rfl) (by simp) ?_
        refine AllReadyH.cons rfl (fun K hK => ?_) AllReadyH.nil
        go_simp
        (go_at_call 7; refine (norm_any a b _).mono ?_; rintro e2 u2 ⟨rfl, k2⟩; rw [if_pos HRA.out, HNM.out.2.2.1]; have HK2 := Lib.hid (HK1.out.trans k2); clear k2)
        go_wp2_with fail
        refine hK.out _ _ ?_ (fun hHeld => ?_)
        · ((try dsimp only); exact HS.out _ HK2.out)
        clear hK K
        try simp only [Act.put, List.getElem_toArray, List.getElem_cons_zero, List.getElem_cons_succ, List.setIfInBounds_toArray, List.set_cons_zero, List.set_cons_succ]
        refine wpAnyH_ready (rs := [7]) (by kernel_rfl) (by simp) ?_
        refine AllReadyH.cons rfl (fun K hK => ?_) AllReadyH.nil
        go_simp
        (go_at_call 7; refine (norm_any c d _).mono ?_; rintro e2 u3 ⟨rfl, k3⟩; rw [if_pos HRC.out, HNM.out.2.2.2]; have HK3 := Lib.hid (HK2.out.trans k3); clear k3)
        go_wp2_with fail
        refine hK.out _ _ ?_ (fun hHeld => ?_)
        · ((try dsimp only); exact HS.out _ HK3.out)
        clear hK K
        try simp only [Act.put, List.getElem_toArray, List.getElem_cons_zero, List.getElem_cons_succ, List.setIfInBounds_toArray, List.set_cons_zero, List.set_cons_succ]
        have V1 := HV1.out
        refine wpAnyH_take (i := 8) (v := ?_) rfl (by kernel_rfl) (by kernel_rfl) (by kernel_rfl) (fun _ _ _ h => h) (Or.inl ⟨by kernel_rfl, ?_⟩) (by assumption) ?_
        rotate_left
        · (intro w hSw; (try dsimp only at hSw); go_simp; try with_reducible rfl)
        simp only [Act.put, List.getElem_toArray, List.getElem_cons_zero, List.getElem_cons_succ, List.setIfInBounds_toArray, List.set_cons_zero, List.set_cons_succ]
        refine wpAnyH_take (i := 9) (v := ?_) rfl (by kernel_rfl) (by kernel_rfl) (by kernel_rfl) (fun _ _ _ h => h) (Or.inl ⟨by kernel_rfl, ?_⟩) (by assumption) ?_
        rotate_left
        · (intro w hSw; (try dsimp only at hSw); go_simp; try with_reducible rfl)
        simp only [Act.put, List.getElem_toArray, List.getElem_cons_zero, List.getElem_cons_succ, List.setIfInBounds_toArray, List.set_cons_zero, List.set_cons_succ]
        refine wpAnyH_take (i := 10) (v := ?_) rfl (by kernel_rfl) (by kernel_rfl) (by kernel_rfl) (fun _ _ _ h => h) (Or.inl ⟨by kernel_rfl, ?_⟩) (by assumption) ?_
        rotate_left
        · (intro w hSw; (try dsimp only at hSw); go_simp; try with_reducible rfl)
        simp only [Act.put, List.getElem_toArray, List.getElem_cons_zero, List.getElem_cons_succ, List.setIfInBounds_toArray, List.set_cons_zero, List.set_cons_succ]
        refine wpAnyH_done (by kernel_rfl) ?_ _
        refine NoPanic.normal ?_
        replace HX := Lib.hid (HX.out.none HK3.out)
        clear V1 HS HK0 HK1 HK2 HK3 lp lx ly
        obtain ⟨x0, x1, _, _, lx⟩ := two_cells HX.out.x
        obtain ⟨y0, y1, _, _, ly⟩ := two_cells HX.out.y
        obtain ⟨z0, z1, _, _, lz⟩ := two_cells HX.out.z
        go_wp2_with fail
        refine (gturn_any a b 4 _ (by decide)).mono ?_
        rintro e1 w2 ⟨rfl, k2⟩
        rw [if_pos HRA.out, show turnN (turns 4) (a, b) = (a, b) from rfl]
        replace HX := Lib.hid ((HX.out.none k2).none ((Keeps.refl _ _).alloc (.cells #[.int .i64 a, .int .i64 b] 24)))
        have he := (eqN_iff a b a b).2 ⟨rfl, rfl⟩
        clear k2
        clear x0 x1 lx y0 y1 ly z0 z1 lz
        obtain ⟨x0, x1, _, _, lx⟩ := two_cells HX.out.x
        obtain ⟨y0, y1, _, _, ly⟩ := two_cells HX.out.y
        obtain ⟨z0, z1, _, _, lz⟩ := two_cells HX.out.z
        go_wp2_with fail
        refine (gcd_good a b c d _ HRA.out HRC.out).mono ?_
        rintro e1 w2 ⟨p, q, rfl, hgc, k2⟩
        have HGC := Lib.hid hgc
        obtain ⟨D1, hD1, hc1⟩ := divides_any p q a b hgc.right HRA.out
        obtain ⟨D2, hD2, hc2⟩ := divides_any p q c d hgc.right HRC.out
        have e1 : D1 = true := hD1.2 hgc.one
        have e2 : D2 = true := hD2.2 hgc.two
        subst e1 e2
        have HC1 := Lib.hid hc1
        have HC2 := Lib.hid hc2
        replace HX := Lib.hid (HX.out.none k2)
        have tp := heap_new w2 (.cells #[.int .i64 p, .int .i64 q] 24)
        replace HX := Lib.hid (HX.out.none ((Keeps.refl _ _).alloc (.cells #[.int .i64 p, .int .i64 q] 24)))
        obtain ⟨w3, hw3⟩ : ∃ w3, w2.alloc (.cells #[.int .i64 p, .int .i64 q] 24) = w3 := ⟨_, rfl⟩
        rw [hw3] at tp HX
        clear hgc hD1 hD2 hc1 hc2 k2
        clear x0 x1 lx y0 y1 ly z0 z1 lz
        obtain ⟨x0, x1, _, _, lx⟩ := two_cells HX.out.x
        obtain ⟨y0, y1, _, _, ly⟩ := two_cells HX.out.y
        obtain ⟨z0, z1, _, _, lz⟩ := two_cells HX.out.z
        obtain ⟨p0, p1, _, _, lp⟩ := two_cells tp
        go_wp2_with fail
        clear hw3
        refine (HC1.out _).mono ?_
        rintro e2 w4 ⟨rfl, k4⟩
        replace HX := Lib.hid (HX.out.none k4)
        replace tp := k4.at tp fun h => h
        clear k4 p0 p1 lp HC1
        clear x0 x1 lx y0 y1 ly z0 z1 lz
        obtain ⟨x0, x1, _, _, lx⟩ := two_cells HX.out.x
        obtain ⟨y0, y1, _, _, ly⟩ := two_cells HX.out.y
        obtain ⟨z0, z1, _, _, lz⟩ := two_cells HX.out.z
        obtain ⟨p0, p1, _, _, lp⟩ := two_cells tp
        go_wp2_with fail
        refine (HC2.out _).mono ?_
        rintro e2 w5 ⟨rfl, k5⟩
        replace HX := Lib.hid (HX.out.none k5)
        replace tp := k5.at tp fun h => h
        clear k5 p0 p1 lp HC2
        clear x0 x1 lx y0 y1 ly z0 z1 lz
        obtain ⟨x0, x1, _, _, lx⟩ := two_cells HX.out.x
        obtain ⟨y0, y1, _, _, ly⟩ := two_cells HX.out.y
        obtain ⟨z0, z1, _, _, lz⟩ := two_cells HX.out.z
        obtain ⟨p0, p1, _, _, lp⟩ := two_cells tp
        have HTP := Lib.hid tp
        clear tp
        rcases HGC.out.face with ⟨hf1, hf2⟩ | ⟨hf1, hf2⟩
        · have hen : eqN p q 0 0 = true := (eqN_iff _ _ _ _).2 ⟨hf1, hf2⟩
          clear hf1 hf2
          go_wp2_with fail
          refine (norm_any e f _).mono ?_
          rintro e3 w6 ⟨rfl, k6⟩
          replace HX := Lib.hid (HX.out.none k6)
          have tp := k6.at HTP.out fun h => h
          clear k6 p0 p1 lp
          clear x0 x1 lx y0 y1 ly z0 z1 lz
          obtain ⟨x0, x1, _, _, lx⟩ := two_cells HX.out.x
          obtain ⟨y0, y1, _, _, ly⟩ := two_cells HX.out.y
          obtain ⟨z0, z1, _, _, lz⟩ := two_cells HX.out.z
          obtain ⟨p0, p1, _, _, lp⟩ := two_cells tp
          replace HTP := Lib.hid tp
          clear tp
          cases hrz : rightB e f with
          | false =>
            rw [if_neg (by simp)]
            clear hrz
            go_wp2_with fail
            refine (alive04_any' _).mono ?_
            rintro e9 w9 ⟨rfl, k9⟩
            replace HX := Lib.hid (HX.out.none k9)
            clear k9
            go_wp2
            go_ret
            exact ⟨rfl, HX.out.keeps⟩
          | true =>
            rw [if_pos rfl]
            have dz : decide (e * e + f * f < 0) = false := decide_eq_false (by have h1 := z_sq e; have h2 := z_sq f; omega)
            obtain ⟨D3, hD3, hc3⟩ := divides_any e f a b hrz HRA.out
            obtain ⟨D4, hD4, hc4⟩ := divides_any e f c d hrz HRC.out
            obtain ⟨D5, hD5, hc5⟩ := divides_any e f p q hrz HGC.out.right
            have HC3 := Lib.hid hc3
            have HC4 := Lib.hid hc4
            have HC5 := Lib.hid hc5
            have HIMP := Lib.hid (show D3 = true → D4 = true → D5 = true from fun h3 h4 => hD5.2 (HGC.out.all e f (hD3.1 h3) (hD4.1 h4)))
            clear hrz hD3 hD4 hD5 hc3 hc4 hc5
            go_wp2_with fail
            refine (HC3.out _).mono ?_
            rintro e4 w7 ⟨rfl, k7⟩
            replace HX := Lib.hid (HX.out.none k7)
            have tp := k7.at HTP.out fun h => h
            clear k7 p0 p1 lp
            clear x0 x1 lx y0 y1 ly z0 z1 lz
            obtain ⟨x0, x1, _, _, lx⟩ := two_cells HX.out.x
            obtain ⟨y0, y1, _, _, ly⟩ := two_cells HX.out.y
            obtain ⟨z0, z1, _, _, lz⟩ := two_cells HX.out.z
            obtain ⟨p0, p1, _, _, lp⟩ := two_cells tp
            replace HTP := Lib.hid tp
            clear tp HC3
            cases D3 with
            | false =>
              go_wp2_with fail
              refine (alive04_any' _).mono ?_
              rintro e9 w9 ⟨rfl, k9⟩
              replace HX := Lib.hid (HX.out.none k9)
              clear k9
              go_wp2
              go_ret
              exact ⟨rfl, HX.out.keeps⟩
            | true =>
              go_wp2_with fail
              refine (HC4.out _).mono ?_
              rintro e5 w8 ⟨rfl, k8⟩
              replace HX := Lib.hid (HX.out.none k8)
              have tp := k8.at HTP.out fun h => h
              clear k8 p0 p1 lp
              clear x0 x1 lx y0 y1 ly z0 z1 lz
              obtain ⟨x0, x1, _, _, lx⟩ := two_cells HX.out.x
              obtain ⟨y0, y1, _, _, ly⟩ := two_cells HX.out.y
              obtain ⟨z0, z1, _, _, lz⟩ := two_cells HX.out.z
              obtain ⟨p0, p1, _, _, lp⟩ := two_cells tp
              replace HTP := Lib.hid tp
              clear tp HC4
              cases D4 with
              | false =>
                go_wp2_with fail
                refine (alive04_any' _).mono ?_
                rintro e9 w9 ⟨rfl, k9⟩
                replace HX := Lib.hid (HX.out.none k9)
                clear k9
                go_wp2
                go_ret
                exact ⟨rfl, HX.out.keeps⟩
              | true =>
                have e5 : D5 = true := by first | exact HIMP.out (by first | rfl | trivial) (by first | rfl | trivial) | exact HIMP.out (by first | rfl | trivial) | exact HIMP.out
                subst e5
                go_wp2_with fail
                refine (HC5.out _).mono ?_
                rintro e6 w10 ⟨rfl, k10⟩
                replace HX := Lib.hid (HX.out.none k10)
                clear k10
                go_wp2_with fail
                refine (alive04_any' _).mono ?_
                rintro e9 w9 ⟨rfl, k9⟩
                replace HX := Lib.hid (HX.out.none k9)
                clear k9
                go_wp2
                go_ret
                exact ⟨rfl, HX.out.keeps⟩
        · have hen : eqN p q 0 0 = false := by
            cases h : eqN p q 0 0 with
            | false => rfl
            | true => have := ((eqN_iff _ _ _ _).1 h).1; omega
          have dp : decide (p ≤ 0) = false := decide_eq_false (by omega)
          have dq : decide (q < 0) = false := decide_eq_false (by omega)
          clear hf1 hf2
          go_wp2_with fail
          refine (norm_any e f _).mono ?_
          rintro e3 w6 ⟨rfl, k6⟩
          replace HX := Lib.hid (HX.out.none k6)
          have tp := k6.at HTP.out fun h => h
          clear k6 p0 p1 lp
          clear x0 x1 lx y0 y1 ly z0 z1 lz
          obtain ⟨x0, x1, _, _, lx⟩ := two_cells HX.out.x
          obtain ⟨y0, y1, _, _, ly⟩ := two_cells HX.out.y
          obtain ⟨z0, z1, _, _, lz⟩ := two_cells HX.out.z
          obtain ⟨p0, p1, _, _, lp⟩ := two_cells tp
          replace HTP := Lib.hid tp
          clear tp
          cases hrz : rightB e f with
          | false =>
            rw [if_neg (by simp)]
            clear hrz
            go_wp2_with fail
            refine (alive04_any' _).mono ?_
            rintro e9 w9 ⟨rfl, k9⟩
            replace HX := Lib.hid (HX.out.none k9)
            clear k9
            go_wp2
            go_ret
            exact ⟨rfl, HX.out.keeps⟩
          | true =>
            rw [if_pos rfl]
            have dz : decide (e * e + f * f < 0) = false := decide_eq_false (by have h1 := z_sq e; have h2 := z_sq f; omega)
            obtain ⟨D3, hD3, hc3⟩ := divides_any e f a b hrz HRA.out
            obtain ⟨D4, hD4, hc4⟩ := divides_any e f c d hrz HRC.out
            obtain ⟨D5, hD5, hc5⟩ := divides_any e f p q hrz HGC.out.right
            have HC3 := Lib.hid hc3
            have HC4 := Lib.hid hc4
            have HC5 := Lib.hid hc5
            have HIMP := Lib.hid (show D3 = true → D4 = true → D5 = true from fun h3 h4 => hD5.2 (HGC.out.all e f (hD3.1 h3) (hD4.1 h4)))
            clear hrz hD3 hD4 hD5 hc3 hc4 hc5
            go_wp2_with fail
            refine (HC3.out _).mono ?_
            rintro e4 w7 ⟨rfl, k7⟩
            replace HX := Lib.hid (HX.out.none k7)
            have tp := k7.at HTP.out fun h => h
            clear k7 p0 p1 lp
            clear x0 x1 lx y0 y1 ly z0 z1 lz
            obtain ⟨x0, x1, _, _, lx⟩ := two_cells HX.out.x
            obtain ⟨y0, y1, _, _, ly⟩ := two_cells HX.out.y
            obtain ⟨z0, z1, _, _, lz⟩ := two_cells HX.out.z
            obtain ⟨p0, p1, _, _, lp⟩ := two_cells tp
            replace HTP := Lib.hid tp
            clear tp HC3
            cases D3 with
            | false =>
              go_wp2_with fail
              refine (alive04_any' _).mono ?_
              rintro e9 w9 ⟨rfl, k9⟩
              replace HX := Lib.hid (HX.out.none k9)
              clear k9
              go_wp2
              go_ret
              exact ⟨rfl, HX.out.keeps⟩
            | true =>
              go_wp2_with fail
              refine (HC4.out _).mono ?_
              rintro e5 w8 ⟨rfl, k8⟩
              replace HX := Lib.hid (HX.out.none k8)
              have tp := k8.at HTP.out fun h => h
              clear k8 p0 p1 lp
              clear x0 x1 lx y0 y1 ly z0 z1 lz
              obtain ⟨x0, x1, _, _, lx⟩ := two_cells HX.out.x
              obtain ⟨y0, y1, _, _, ly⟩ := two_cells HX.out.y
              obtain ⟨z0, z1, _, _, lz⟩ := two_cells HX.out.z
              obtain ⟨p0, p1, _, _, lp⟩ := two_cells tp
              replace HTP := Lib.hid tp
              clear tp HC4
              cases D4 with
              | false =>
                go_wp2_with fail
                refine (alive04_any' _).mono ?_
                rintro e9 w9 ⟨rfl, k9⟩
                replace HX := Lib.hid (HX.out.none k9)
                clear k9
                go_wp2
                go_ret
                exact ⟨rfl, HX.out.keeps⟩
              | true =>
                have e5 : D5 = true := by first | exact HIMP.out (by first | rfl | trivial) (by first | rfl | trivial) | exact HIMP.out (by first | rfl | trivial) | exact HIMP.out
                subst e5
                go_wp2_with fail
                refine (HC5.out _).mono ?_
                rintro e6 w10 ⟨rfl, k10⟩
                replace HX := Lib.hid (HX.out.none k10)
                clear k10
                go_wp2_with fail
                refine (alive04_any' _).mono ?_
                rintro e9 w9 ⟨rfl, k9⟩
                replace HX := Lib.hid (HX.out.none k9)
                clear k9
                go_wp2
                go_ret
                exact ⟨rfl, HX.out.keeps⟩
      | false =>
        have HPR := Lib.hid (show toldA (a * c - b * d) (a * d + b * c) = 0 ∧ toldB (a * c - b * d) (a * d + b * c) = 0 ∧ rightB (a * c - b * d) (a * d + b * c) = false ∧ True by rw [toldA, toldB, hR]; exact ⟨rfl, rfl, rfl, trivial⟩)
        clear hR
        obtain ⟨x0, x1, _, _, lx⟩ := two_cells HX.out.x
        obtain ⟨y0, y1, _, _, ly⟩ := two_cells HX.out.y
        obtain ⟨z0, z1, _, _, lz⟩ := two_cells HX.out.z
        go_wp2_with fail
        refine (gmul_any a b c d _).mono ?_
        rintro e1 w2 ⟨rfl, k2⟩
        rw [if_pos HRB.out, HPR.out.1, HPR.out.2.1, HPR.out.2.2.1]
        replace HX := Lib.hid (HX.out.none k2)
        have tp := heap_new w2 (.cells #[.int .i64 0, .int .i64 0] 24)
        replace HX := Lib.hid (HX.out.none ((Keeps.refl _ _).alloc (.cells #[.int .i64 0, .int .i64 0] 24)))
        clear x0 x1 lx y0 y1 ly z0 z1 lz
        obtain ⟨x0, x1, _, _, lx⟩ := two_cells HX.out.x
        obtain ⟨y0, y1, _, _, ly⟩ := two_cells HX.out.y
        obtain ⟨p0, p1, _, _, lp⟩ := two_cells tp
        have HS := Lib.hid (show ∀ w', Keeps (fun _ => False) (w2.alloc (.cells #[.int .i64 0, .int .i64 0] 24)) w' → w'.cell? ⟨w2.heap.size, 0, none⟩ = some (.int .i64 0) ∧ w'.cell? ⟨w2.heap.size, 1, none⟩ = some (.int .i64 0) ∧ w'.cell? ⟨X, 0, none⟩ = some (.int .i64 a) ∧ w'.cell? ⟨X, 1, none⟩ = some (.int .i64 b) ∧ w'.cell? ⟨Y, 0, none⟩ = some (.int .i64 c) ∧ w'.cell? ⟨Y, 1, none⟩ = some (.int .i64 d) from fun w' hw => ⟨(hw.none.cell (p := ⟨_, _, none⟩) lp).trans p0, (hw.none.cell (p := ⟨_, _, none⟩) lp).trans p1, (hw.none.cell (p := ⟨_, _, none⟩) lx).trans x0, (hw.none.cell (p := ⟨_, _, none⟩) lx).trans x1, (hw.none.cell (p := ⟨_, _, none⟩) ly).trans y0, (hw.none.cell (p := ⟨_, _, none⟩) ly).trans y1⟩)
        have HK0 := Lib.hid (show Keeps (fun _ => False) (w2.alloc (.cells #[.int .i64 0, .int .i64 0] 24)) (w2.alloc (.cells #[.int .i64 0, .int .i64 0] 24)).drew from (Keeps.refl _ _).drew)
        clear k2 tp
        go_wp2_with fail
        try clear hw3
        clear x0 x1 y0 y1 p0 p1
        refine wp_region_noPanic ?_
        refine wp_region_held_drew (S := (fun w' => w'.cell? ⟨w2.heap.size, 0, none⟩ = some (.int .i64 0) ∧ w'.cell? ⟨w2.heap.size, 1, none⟩ = some (.int .i64 0) ∧ w'.cell? ⟨X, 0, none⟩ = some (.int .i64 a) ∧ w'.cell? ⟨X, 1, none⟩ = some (.int .i64 b) ∧ w'.cell? ⟨Y, 0, none⟩ = some (.int .i64 c) ∧ w'.cell? ⟨Y, 1, none⟩ = some (.int .i64 d))) (by kernel_rfl) ?_ (fun hHeld => ?_)
        · exact HS.out _ HK0.out
        refine wpAnyH_take (i := 0) (v := ?_) rfl (by kernel_rfl) (by kernel_rfl) (by kernel_rfl) (fun _ _ _ h => h) (Or.inl ⟨by kernel_rfl, ?_⟩) (by assumption) ?_
        rotate_left
        · (intro w hSw; (try dsimp only at hSw); go_simp; try with_reducible rfl)
        simp only [Act.put, List.getElem_toArray, List.getElem_cons_zero, List.getElem_cons_succ, List.setIfInBounds_toArray, List.set_cons_zero, List.set_cons_succ]
        refine wpAnyH_take (i := 1) (v := ?_) rfl (by kernel_rfl) (by kernel_rfl) (by kernel_rfl) (fun _ _ _ h => h) (Or.inl ⟨by kernel_rfl, ?_⟩) (by assumption) ?_
        rotate_left
        · (intro w hSw; (try dsimp only at hSw); go_simp; try with_reducible rfl)
        simp only [Act.put, List.getElem_toArray, List.getElem_cons_zero, List.getElem_cons_succ, List.setIfInBounds_toArray, List.set_cons_zero, List.set_cons_succ]
        refine wpAnyH_take (i := 2) (v := undef) rfl (by kernel_rfl) (by kernel_rfl) (by kernel_rfl) (fun _ _ _ h => h) (Or.inr ⟨by rfl, rfl⟩) (by assumption) ?_
        simp only [Act.put, List.getElem_toArray, List.getElem_cons_zero, List.getElem_cons_succ, List.setIfInBounds_toArray, List.set_cons_zero, List.set_cons_succ]
        refine wpAnyH_take (i := 3) (v := undef) rfl (by kernel_rfl) (by kernel_rfl) (by kernel_rfl) (fun _ _ _ h => h) (Or.inr ⟨by rfl, rfl⟩) (by assumption) ?_
        simp only [Act.put, List.getElem_toArray, List.getElem_cons_zero, List.getElem_cons_succ, List.setIfInBounds_toArray, List.set_cons_zero, List.set_cons_succ]
        refine wpAnyH_take (i := 4) (v := undef) rfl (by kernel_rfl) (by kernel_rfl) (by kernel_rfl) (fun _ _ _ h => h) (Or.inr ⟨by rfl, rfl⟩) (by assumption) ?_
        simp only [Act.put, List.getElem_toArray, List.getElem_cons_zero, List.getElem_cons_succ, List.setIfInBounds_toArray, List.set_cons_zero, List.set_cons_succ]
        refine wpAnyH_take (i := 5) (v := undef) rfl (by kernel_rfl) (by kernel_rfl) (by kernel_rfl) (fun _ _ _ h => h) (Or.inr ⟨by rfl, rfl⟩) (by assumption) ?_
        simp only [Act.put, List.getElem_toArray, List.getElem_cons_zero, List.getElem_cons_succ, List.setIfInBounds_toArray, List.set_cons_zero, List.set_cons_succ]
        refine wpAnyH_take (i := 6) (v := undef) rfl (by kernel_rfl) (by kernel_rfl) (by kernel_rfl) (fun _ _ _ h => h) (Or.inr ⟨by rfl, rfl⟩) (by assumption) ?_
        simp only [Act.put, List.getElem_toArray, List.getElem_cons_zero, List.getElem_cons_succ, List.setIfInBounds_toArray, List.set_cons_zero, List.set_cons_succ]
        refine wpAnyH_take (i := 7) (v := undef) rfl (by kernel_rfl) (by kernel_rfl) (by kernel_rfl) (fun _ _ _ h => h) (Or.inr ⟨by rfl, rfl⟩) (by assumption) ?_
        simp only [Act.put, List.getElem_toArray, List.getElem_cons_zero, List.getElem_cons_succ, List.setIfInBounds_toArray, List.set_cons_zero, List.set_cons_succ]
        refine wpAnyH_take (i := 8) (v := undef) rfl (by kernel_rfl) (by kernel_rfl) (by kernel_rfl) (fun _ _ _ h => h) (Or.inr ⟨by rfl, rfl⟩) (by assumption) ?_
        simp only [Act.put, List.getElem_toArray, List.getElem_cons_zero, List.getElem_cons_succ, List.setIfInBounds_toArray, List.set_cons_zero, List.set_cons_succ]
        refine wpAnyH_take (i := 9) (v := undef) rfl (by kernel_rfl) (by kernel_rfl) (by kernel_rfl) (fun _ _ _ h => h) (Or.inr ⟨by rfl, rfl⟩) (by assumption) ?_
        simp only [Act.put, List.getElem_toArray, List.getElem_cons_zero, List.getElem_cons_succ, List.setIfInBounds_toArray, List.set_cons_zero, List.set_cons_succ]
        refine wpAnyH_take (i := 10) (v := ?_) rfl (by kernel_rfl) (by kernel_rfl) (by kernel_rfl) (fun _ _ _ h => h) (Or.inl ⟨by kernel_rfl, ?_⟩) (by assumption) ?_
        rotate_left
        · (intro w hSw; (try dsimp only at hSw); go_simp; try with_reducible rfl)
        simp only [Act.put, List.getElem_toArray, List.getElem_cons_zero, List.getElem_cons_succ, List.setIfInBounds_toArray, List.set_cons_zero, List.set_cons_succ]
        refine wpAnyH_done (by kernel_rfl) ?_ _
        refine NoPanic.normal ?_
        replace HX := Lib.hid (HX.out.none HK0.out)
        clear HS HK0 lp lx ly
        obtain ⟨x0, x1, _, _, lx⟩ := two_cells HX.out.x
        obtain ⟨y0, y1, _, _, ly⟩ := two_cells HX.out.y
        obtain ⟨z0, z1, _, _, lz⟩ := two_cells HX.out.z
        go_wp2_with fail
        refine (gturn_any a b 4 _ (by decide)).mono ?_
        rintro e1 w2 ⟨rfl, k2⟩
        rw [if_pos HRA.out, show turnN (turns 4) (a, b) = (a, b) from rfl]
        replace HX := Lib.hid ((HX.out.none k2).none ((Keeps.refl _ _).alloc (.cells #[.int .i64 a, .int .i64 b] 24)))
        have he := (eqN_iff a b a b).2 ⟨rfl, rfl⟩
        clear k2
        clear x0 x1 lx y0 y1 ly z0 z1 lz
        obtain ⟨x0, x1, _, _, lx⟩ := two_cells HX.out.x
        obtain ⟨y0, y1, _, _, ly⟩ := two_cells HX.out.y
        obtain ⟨z0, z1, _, _, lz⟩ := two_cells HX.out.z
        go_wp2_with fail
        refine (gcd_good a b c d _ HRA.out HRC.out).mono ?_
        rintro e1 w2 ⟨p, q, rfl, hgc, k2⟩
        have HGC := Lib.hid hgc
        obtain ⟨D1, hD1, hc1⟩ := divides_any p q a b hgc.right HRA.out
        obtain ⟨D2, hD2, hc2⟩ := divides_any p q c d hgc.right HRC.out
        have e1 : D1 = true := hD1.2 hgc.one
        have e2 : D2 = true := hD2.2 hgc.two
        subst e1 e2
        have HC1 := Lib.hid hc1
        have HC2 := Lib.hid hc2
        replace HX := Lib.hid (HX.out.none k2)
        have tp := heap_new w2 (.cells #[.int .i64 p, .int .i64 q] 24)
        replace HX := Lib.hid (HX.out.none ((Keeps.refl _ _).alloc (.cells #[.int .i64 p, .int .i64 q] 24)))
        obtain ⟨w3, hw3⟩ : ∃ w3, w2.alloc (.cells #[.int .i64 p, .int .i64 q] 24) = w3 := ⟨_, rfl⟩
        rw [hw3] at tp HX
        clear hgc hD1 hD2 hc1 hc2 k2
        clear x0 x1 lx y0 y1 ly z0 z1 lz
        obtain ⟨x0, x1, _, _, lx⟩ := two_cells HX.out.x
        obtain ⟨y0, y1, _, _, ly⟩ := two_cells HX.out.y
        obtain ⟨z0, z1, _, _, lz⟩ := two_cells HX.out.z
        obtain ⟨p0, p1, _, _, lp⟩ := two_cells tp
        go_wp2_with fail
        clear hw3
        refine (HC1.out _).mono ?_
        rintro e2 w4 ⟨rfl, k4⟩
        replace HX := Lib.hid (HX.out.none k4)
        replace tp := k4.at tp fun h => h
        clear k4 p0 p1 lp HC1
        clear x0 x1 lx y0 y1 ly z0 z1 lz
        obtain ⟨x0, x1, _, _, lx⟩ := two_cells HX.out.x
        obtain ⟨y0, y1, _, _, ly⟩ := two_cells HX.out.y
        obtain ⟨z0, z1, _, _, lz⟩ := two_cells HX.out.z
        obtain ⟨p0, p1, _, _, lp⟩ := two_cells tp
        go_wp2_with fail
        refine (HC2.out _).mono ?_
        rintro e2 w5 ⟨rfl, k5⟩
        replace HX := Lib.hid (HX.out.none k5)
        replace tp := k5.at tp fun h => h
        clear k5 p0 p1 lp HC2
        clear x0 x1 lx y0 y1 ly z0 z1 lz
        obtain ⟨x0, x1, _, _, lx⟩ := two_cells HX.out.x
        obtain ⟨y0, y1, _, _, ly⟩ := two_cells HX.out.y
        obtain ⟨z0, z1, _, _, lz⟩ := two_cells HX.out.z
        obtain ⟨p0, p1, _, _, lp⟩ := two_cells tp
        have HTP := Lib.hid tp
        clear tp
        rcases HGC.out.face with ⟨hf1, hf2⟩ | ⟨hf1, hf2⟩
        · have hen : eqN p q 0 0 = true := (eqN_iff _ _ _ _).2 ⟨hf1, hf2⟩
          clear hf1 hf2
          go_wp2_with fail
          refine (norm_any e f _).mono ?_
          rintro e3 w6 ⟨rfl, k6⟩
          replace HX := Lib.hid (HX.out.none k6)
          have tp := k6.at HTP.out fun h => h
          clear k6 p0 p1 lp
          clear x0 x1 lx y0 y1 ly z0 z1 lz
          obtain ⟨x0, x1, _, _, lx⟩ := two_cells HX.out.x
          obtain ⟨y0, y1, _, _, ly⟩ := two_cells HX.out.y
          obtain ⟨z0, z1, _, _, lz⟩ := two_cells HX.out.z
          obtain ⟨p0, p1, _, _, lp⟩ := two_cells tp
          replace HTP := Lib.hid tp
          clear tp
          cases hrz : rightB e f with
          | false =>
            rw [if_neg (by simp)]
            clear hrz
            go_wp2_with fail
            refine (alive04_any' _).mono ?_
            rintro e9 w9 ⟨rfl, k9⟩
            replace HX := Lib.hid (HX.out.none k9)
            clear k9
            go_wp2
            go_ret
            exact ⟨rfl, HX.out.keeps⟩
          | true =>
            rw [if_pos rfl]
            have dz : decide (e * e + f * f < 0) = false := decide_eq_false (by have h1 := z_sq e; have h2 := z_sq f; omega)
            obtain ⟨D3, hD3, hc3⟩ := divides_any e f a b hrz HRA.out
            obtain ⟨D4, hD4, hc4⟩ := divides_any e f c d hrz HRC.out
            obtain ⟨D5, hD5, hc5⟩ := divides_any e f p q hrz HGC.out.right
            have HC3 := Lib.hid hc3
            have HC4 := Lib.hid hc4
            have HC5 := Lib.hid hc5
            have HIMP := Lib.hid (show D3 = true → D4 = true → D5 = true from fun h3 h4 => hD5.2 (HGC.out.all e f (hD3.1 h3) (hD4.1 h4)))
            clear hrz hD3 hD4 hD5 hc3 hc4 hc5
            go_wp2_with fail
            refine (HC3.out _).mono ?_
            rintro e4 w7 ⟨rfl, k7⟩
            replace HX := Lib.hid (HX.out.none k7)
            have tp := k7.at HTP.out fun h => h
            clear k7 p0 p1 lp
            clear x0 x1 lx y0 y1 ly z0 z1 lz
            obtain ⟨x0, x1, _, _, lx⟩ := two_cells HX.out.x
            obtain ⟨y0, y1, _, _, ly⟩ := two_cells HX.out.y
            obtain ⟨z0, z1, _, _, lz⟩ := two_cells HX.out.z
            obtain ⟨p0, p1, _, _, lp⟩ := two_cells tp
            replace HTP := Lib.hid tp
            clear tp HC3
            cases D3 with
            | false =>
              go_wp2_with fail
              refine (alive04_any' _).mono ?_
              rintro e9 w9 ⟨rfl, k9⟩
              replace HX := Lib.hid (HX.out.none k9)
              clear k9
              go_wp2
              go_ret
              exact ⟨rfl, HX.out.keeps⟩
            | true =>
              go_wp2_with fail
              refine (HC4.out _).mono ?_
              rintro e5 w8 ⟨rfl, k8⟩
              replace HX := Lib.hid (HX.out.none k8)
              have tp := k8.at HTP.out fun h => h
              clear k8 p0 p1 lp
              clear x0 x1 lx y0 y1 ly z0 z1 lz
              obtain ⟨x0, x1, _, _, lx⟩ := two_cells HX.out.x
              obtain ⟨y0, y1, _, _, ly⟩ := two_cells HX.out.y
              obtain ⟨z0, z1, _, _, lz⟩ := two_cells HX.out.z
              obtain ⟨p0, p1, _, _, lp⟩ := two_cells tp
              replace HTP := Lib.hid tp
              clear tp HC4
              cases D4 with
              | false =>
                go_wp2_with fail
                refine (alive04_any' _).mono ?_
                rintro e9 w9 ⟨rfl, k9⟩
                replace HX := Lib.hid (HX.out.none k9)
                clear k9
                go_wp2
                go_ret
                exact ⟨rfl, HX.out.keeps⟩
              | true =>
                have e5 : D5 = true := by first | exact HIMP.out (by first | rfl | trivial) (by first | rfl | trivial) | exact HIMP.out (by first | rfl | trivial) | exact HIMP.out
                subst e5
                go_wp2_with fail
                refine (HC5.out _).mono ?_
                rintro e6 w10 ⟨rfl, k10⟩
                replace HX := Lib.hid (HX.out.none k10)
                clear k10
                go_wp2_with fail
                refine (alive04_any' _).mono ?_
                rintro e9 w9 ⟨rfl, k9⟩
                replace HX := Lib.hid (HX.out.none k9)
                clear k9
                go_wp2
                go_ret
                exact ⟨rfl, HX.out.keeps⟩
        · have hen : eqN p q 0 0 = false := by
            cases h : eqN p q 0 0 with
            | false => rfl
            | true => have := ((eqN_iff _ _ _ _).1 h).1; omega
          have dp : decide (p ≤ 0) = false := decide_eq_false (by omega)
          have dq : decide (q < 0) = false := decide_eq_false (by omega)
          clear hf1 hf2
          go_wp2_with fail
          refine (norm_any e f _).mono ?_
          rintro e3 w6 ⟨rfl, k6⟩
          replace HX := Lib.hid (HX.out.none k6)
          have tp := k6.at HTP.out fun h => h
          clear k6 p0 p1 lp
          clear x0 x1 lx y0 y1 ly z0 z1 lz
          obtain ⟨x0, x1, _, _, lx⟩ := two_cells HX.out.x
          obtain ⟨y0, y1, _, _, ly⟩ := two_cells HX.out.y
          obtain ⟨z0, z1, _, _, lz⟩ := two_cells HX.out.z
          obtain ⟨p0, p1, _, _, lp⟩ := two_cells tp
          replace HTP := Lib.hid tp
          clear tp
          cases hrz : rightB e f with
          | false =>
            rw [if_neg (by simp)]
            clear hrz
            go_wp2_with fail
            refine (alive04_any' _).mono ?_
            rintro e9 w9 ⟨rfl, k9⟩
            replace HX := Lib.hid (HX.out.none k9)
            clear k9
            go_wp2
            go_ret
            exact ⟨rfl, HX.out.keeps⟩
          | true =>
            rw [if_pos rfl]
            have dz : decide (e * e + f * f < 0) = false := decide_eq_false (by have h1 := z_sq e; have h2 := z_sq f; omega)
            obtain ⟨D3, hD3, hc3⟩ := divides_any e f a b hrz HRA.out
            obtain ⟨D4, hD4, hc4⟩ := divides_any e f c d hrz HRC.out
            obtain ⟨D5, hD5, hc5⟩ := divides_any e f p q hrz HGC.out.right
            have HC3 := Lib.hid hc3
            have HC4 := Lib.hid hc4
            have HC5 := Lib.hid hc5
            have HIMP := Lib.hid (show D3 = true → D4 = true → D5 = true from fun h3 h4 => hD5.2 (HGC.out.all e f (hD3.1 h3) (hD4.1 h4)))
            clear hrz hD3 hD4 hD5 hc3 hc4 hc5
            go_wp2_with fail
            refine (HC3.out _).mono ?_
            rintro e4 w7 ⟨rfl, k7⟩
            replace HX := Lib.hid (HX.out.none k7)
            have tp := k7.at HTP.out fun h => h
            clear k7 p0 p1 lp
            clear x0 x1 lx y0 y1 ly z0 z1 lz
            obtain ⟨x0, x1, _, _, lx⟩ := two_cells HX.out.x
            obtain ⟨y0, y1, _, _, ly⟩ := two_cells HX.out.y
            obtain ⟨z0, z1, _, _, lz⟩ := two_cells HX.out.z
            obtain ⟨p0, p1, _, _, lp⟩ := two_cells tp
            replace HTP := Lib.hid tp
            clear tp HC3
            cases D3 with
            | false =>
              go_wp2_with fail
              refine (alive04_any' _).mono ?_
              rintro e9 w9 ⟨rfl, k9⟩
              replace HX := Lib.hid (HX.out.none k9)
              clear k9
              go_wp2
              go_ret
              exact ⟨rfl, HX.out.keeps⟩
            | true =>
              go_wp2_with fail
              refine (HC4.out _).mono ?_
              rintro e5 w8 ⟨rfl, k8⟩
              replace HX := Lib.hid (HX.out.none k8)
              have tp := k8.at HTP.out fun h => h
              clear k8 p0 p1 lp
              clear x0 x1 lx y0 y1 ly z0 z1 lz
              obtain ⟨x0, x1, _, _, lx⟩ := two_cells HX.out.x
              obtain ⟨y0, y1, _, _, ly⟩ := two_cells HX.out.y
              obtain ⟨z0, z1, _, _, lz⟩ := two_cells HX.out.z
              obtain ⟨p0, p1, _, _, lp⟩ := two_cells tp
              replace HTP := Lib.hid tp
              clear tp HC4
              cases D4 with
              | false =>
                go_wp2_with fail
                refine (alive04_any' _).mono ?_
                rintro e9 w9 ⟨rfl, k9⟩
                replace HX := Lib.hid (HX.out.none k9)
                clear k9
                go_wp2
                go_ret
                exact ⟨rfl, HX.out.keeps⟩
              | true =>
                have e5 : D5 = true := by first | exact HIMP.out (by first | rfl | trivial) (by first | rfl | trivial) | exact HIMP.out (by first | rfl | trivial) | exact HIMP.out
                subst e5
                go_wp2_with fail
                refine (HC5.out _).mono ?_
                rintro e6 w10 ⟨rfl, k10⟩
                replace HX := Lib.hid (HX.out.none k10)
                clear k10
                go_wp2_with fail
                refine (alive04_any' _).mono ?_
                rintro e9 w9 ⟨rfl, k9⟩
                replace HX := Lib.hid (HX.out.none k9)
                clear k9
                go_wp2
                go_ret
                exact ⟨rfl, HX.out.keeps⟩
    · have HBAD := Lib.hid hg
      clear hg
      by_cases hb : rightB a b = true ∧ rightB c d = true
      · have HRA := Lib.hid hb.1
        have HRC := Lib.hid hb.2
        clear hb
        obtain ⟨x0, x1, _, _, lx⟩ := two_cells HX.out.x
        obtain ⟨y0, y1, _, _, ly⟩ := two_cells HX.out.y
        obtain ⟨z0, z1, _, _, lz⟩ := two_cells HX.out.z
        go_wp2_with fail
        refine (gdiv_bad a b c d _ HBAD.out).mono ?_
        rintro e1 w2 ⟨rfl, k2⟩
        replace HX := Lib.hid ((HX.out.none k2).none (two_heap w2 (.cells #[.int .i64 0, .int .i64 0] 24) (.cells #[.int .i64 0, .int .i64 0] 24)).2.2)
        clear k2
        clear x0 x1 lx y0 y1 ly z0 z1 lz
        have HRB := Lib.hid (show (rightB a b && rightB c d) = true by rw [HRA.out, HRC.out]; rfl)
        cases hR : rightB (a * c - b * d) (a * d + b * c) with
        | true =>
          obtain ⟨g1, hg1⟩ : ∃ g1, a * c - b * d = g1 := ⟨_, rfl⟩
          obtain ⟨g2, hg2⟩ : ∃ g2, a * d + b * c = g2 := ⟨_, rfl⟩
          have hnm := z_norms a b c d
          rw [hg1, hg2] at hR hnm
          obtain ⟨Nx, hNx⟩ : ∃ Nx, a * a + b * b = Nx := ⟨_, rfl⟩
          obtain ⟨Ny, hNy⟩ : ∃ Ny, c * c + d * d = Ny := ⟨_, rfl⟩
          rw [hNx, hNy] at hnm
          have HPR := Lib.hid (show toldA (a * c - b * d) (a * d + b * c) = g1 ∧ toldB (a * c - b * d) (a * d + b * c) = g2 ∧ rightB (a * c - b * d) (a * d + b * c) = true ∧ True by rw [hg1, hg2, toldA, toldB, if_pos hR, if_pos hR]; exact ⟨rfl, rfl, hR, trivial⟩)
          have HNM := Lib.hid (And.intro hR (And.intro hnm (And.intro hNx hNy)))
          have bg := right_bds hR
          have hgg := abs_mul (a := g1) (b := g1) (M := 1048576) (N := 1048576) (by omega) (by omega)
          have hgh := abs_mul (a := g2) (b := g2) (M := 1048576) (N := 1048576) (by omega) (by omega)
          have HV1 := Lib.hid (w64 (x := Nx * Ny) (by rw [← hnm]; omega) rfl)
          clear hnm hNx hNy hg1 hg2 bg hgg hgh hR
          obtain ⟨x0, x1, _, _, lx⟩ := two_cells HX.out.x
          obtain ⟨y0, y1, _, _, ly⟩ := two_cells HX.out.y
          obtain ⟨z0, z1, _, _, lz⟩ := two_cells HX.out.z
          go_wp2_with fail
          refine (gmul_any a b c d _).mono ?_
          rintro e1 w2 ⟨rfl, k2⟩
          rw [if_pos HRB.out, HPR.out.1, HPR.out.2.1, HPR.out.2.2.1]
          replace HX := Lib.hid (HX.out.none k2)
          have tp := heap_new w2 (.cells #[.int .i64 g1, .int .i64 g2] 24)
          replace HX := Lib.hid (HX.out.none ((Keeps.refl _ _).alloc (.cells #[.int .i64 g1, .int .i64 g2] 24)))
          obtain ⟨w3, hw3⟩ : ∃ w3, w2.alloc (.cells #[.int .i64 g1, .int .i64 g2] 24) = w3 := ⟨_, rfl⟩
          rw [hw3] at tp HX
          clear x0 x1 lx y0 y1 ly z0 z1 lz
          obtain ⟨x0, x1, _, _, lx⟩ := two_cells HX.out.x
          obtain ⟨y0, y1, _, _, ly⟩ := two_cells HX.out.y
          obtain ⟨p0, p1, _, _, lp⟩ := two_cells tp
          have HS := Lib.hid (show ∀ w', Keeps (fun _ => False) w3 w' → w'.cell? ⟨w2.heap.size, 0, none⟩ = some (.int .i64 g1) ∧ w'.cell? ⟨w2.heap.size, 1, none⟩ = some (.int .i64 g2) ∧ w'.cell? ⟨X, 0, none⟩ = some (.int .i64 a) ∧ w'.cell? ⟨X, 1, none⟩ = some (.int .i64 b) ∧ w'.cell? ⟨Y, 0, none⟩ = some (.int .i64 c) ∧ w'.cell? ⟨Y, 1, none⟩ = some (.int .i64 d) from fun w' hw => ⟨(hw.none.cell (p := ⟨_, _, none⟩) lp).trans p0, (hw.none.cell (p := ⟨_, _, none⟩) lp).trans p1, (hw.none.cell (p := ⟨_, _, none⟩) lx).trans x0, (hw.none.cell (p := ⟨_, _, none⟩) lx).trans x1, (hw.none.cell (p := ⟨_, _, none⟩) ly).trans y0, (hw.none.cell (p := ⟨_, _, none⟩) ly).trans y1⟩)
          have HK0 := Lib.hid (show Keeps (fun _ => False) w3 w3.drew from (Keeps.refl _ _).drew)
          clear k2 tp
          go_wp2_with fail
          try clear hw3
          clear x0 x1 y0 y1 p0 p1
          refine wp_region_noPanic ?_
          refine wp_region_held_drew (S := (fun w' => w'.cell? ⟨w2.heap.size, 0, none⟩ = some (.int .i64 g1) ∧ w'.cell? ⟨w2.heap.size, 1, none⟩ = some (.int .i64 g2) ∧ w'.cell? ⟨X, 0, none⟩ = some (.int .i64 a) ∧ w'.cell? ⟨X, 1, none⟩ = some (.int .i64 b) ∧ w'.cell? ⟨Y, 0, none⟩ = some (.int .i64 c) ∧ w'.cell? ⟨Y, 1, none⟩ = some (.int .i64 d))) (by kernel_rfl) ?_ (fun hHeld => ?_)
          · exact HS.out _ HK0.out
          refine wpAnyH_take (i := 0) (v := ?_) rfl (by kernel_rfl) (by kernel_rfl) (by kernel_rfl) (fun _ _ _ h => h) (Or.inl ⟨by kernel_rfl, ?_⟩) (by assumption) ?_
          rotate_left
          · (intro w hSw; (try dsimp only at hSw); go_simp; try with_reducible rfl)
          simp only [Act.put, List.getElem_toArray, List.getElem_cons_zero, List.getElem_cons_succ, List.setIfInBounds_toArray, List.set_cons_zero, List.set_cons_succ]
          refine wpAnyH_take (i := 1) (v := ?_) rfl (by kernel_rfl) (by kernel_rfl) (by kernel_rfl) (fun _ _ _ h => h) (Or.inl ⟨by kernel_rfl, ?_⟩) (by assumption) ?_
          rotate_left
          · (intro w hSw; (try dsimp only at hSw); go_simp; try with_reducible rfl)
          simp only [Act.put, List.getElem_toArray, List.getElem_cons_zero, List.getElem_cons_succ, List.setIfInBounds_toArray, List.set_cons_zero, List.set_cons_succ]
          refine wpAnyH_take (i := 2) (v := ?_) rfl (by kernel_rfl) (by kernel_rfl) (by kernel_rfl) (fun _ _ _ h => h) (Or.inl ⟨by kernel_rfl, ?_⟩) (by assumption) ?_
          rotate_left
          · (intro w hSw; (try dsimp only at hSw); go_simp; try with_reducible rfl)
          simp only [Act.put, List.getElem_toArray, List.getElem_cons_zero, List.getElem_cons_succ, List.setIfInBounds_toArray, List.set_cons_zero, List.set_cons_succ]
          refine wpAnyH_take (i := 4) (v := ?_) rfl (by kernel_rfl) (by kernel_rfl) (by kernel_rfl) (fun _ _ _ h => h) (Or.inl ⟨by kernel_rfl, ?_⟩) (by assumption) ?_
          rotate_left
          · (intro w hSw; (try dsimp only at hSw); go_simp; try with_reducible rfl)
          simp only [Act.put, List.getElem_toArray, List.getElem_cons_zero, List.getElem_cons_succ, List.setIfInBounds_toArray, List.set_cons_zero, List.set_cons_succ]
          refine wpAnyH_take (i := 6) (v := ?_) rfl (by kernel_rfl) (by kernel_rfl) (by kernel_rfl) (fun _ _ _ h => h) (Or.inl ⟨by kernel_rfl, ?_⟩) (by assumption) ?_
          rotate_left
          · (intro w hSw; (try dsimp only at hSw); go_simp; try with_reducible rfl)
          simp only [Act.put, List.getElem_toArray, List.getElem_cons_zero, List.getElem_cons_succ, List.setIfInBounds_toArray, List.set_cons_zero, List.set_cons_succ]
          refine wpAnyH_ready (rs := [3]) (by kernel_rfl) (by simp) ?_
          refine AllReadyH.cons rfl (fun K hK => ?_) AllReadyH.nil
          go_simp
          (go_at_call 7; refine (norm_any g1 g2 _).mono ?_; rintro e2 u1 ⟨rfl, k1⟩; rw [if_pos HNM.out.1, HNM.out.2.1]; have HK1 := Lib.hid (HK0.out.trans k1); clear k1)
          go_wp2_with fail
          refine hK.out _ _ ?_ (fun hHeld => ?_)
          · ((try dsimp only); exact HS.out _ HK1.out)
          clear hK K
          try simp only [Act.put, List.getElem_toArray, List.getElem_cons_zero, List.getElem_cons_succ, List.setIfInBounds_toArray, List.set_cons_zero, List.set_cons_succ]
          refine wpAnyH_ready (rs := [5]) (by kernel_rfl) (by simp) ?_
          refine AllReadyH.cons rfl (fun K hK => ?_) AllReadyH.nil
          go_simp
          (go_at_call 7; refine (norm_any a b _).mono ?_; rintro e2 u2 ⟨rfl, k2⟩; rw [if_pos HRA.out, HNM.out.2.2.1]; have HK2 := Lib.hid (HK1.out.trans k2); clear k2)
          go_wp2_with fail
          refine hK.out _ _ ?_ (fun hHeld => ?_)
          · ((try dsimp only); exact HS.out _ HK2.out)
          clear hK K
          try simp only [Act.put, List.getElem_toArray, List.getElem_cons_zero, List.getElem_cons_succ, List.setIfInBounds_toArray, List.set_cons_zero, List.set_cons_succ]
          refine wpAnyH_ready (rs := [7]) (by kernel_rfl) (by simp) ?_
          refine AllReadyH.cons rfl (fun K hK => ?_) AllReadyH.nil
          go_simp
          (go_at_call 7; refine (norm_any c d _).mono ?_; rintro e2 u3 ⟨rfl, k3⟩; rw [if_pos HRC.out, HNM.out.2.2.2]; have HK3 := Lib.hid (HK2.out.trans k3); clear k3)
          go_wp2_with fail
          refine hK.out _ _ ?_ (fun hHeld => ?_)
          · ((try dsimp only); exact HS.out _ HK3.out)
          clear hK K
          try simp only [Act.put, List.getElem_toArray, List.getElem_cons_zero, List.getElem_cons_succ, List.setIfInBounds_toArray, List.set_cons_zero, List.set_cons_succ]
          have V1 := HV1.out
          refine wpAnyH_take (i := 8) (v := ?_) rfl (by kernel_rfl) (by kernel_rfl) (by kernel_rfl) (fun _ _ _ h => h) (Or.inl ⟨by kernel_rfl, ?_⟩) (by assumption) ?_
          rotate_left
          · (intro w hSw; (try dsimp only at hSw); go_simp; try with_reducible rfl)
          simp only [Act.put, List.getElem_toArray, List.getElem_cons_zero, List.getElem_cons_succ, List.setIfInBounds_toArray, List.set_cons_zero, List.set_cons_succ]
          refine wpAnyH_take (i := 9) (v := ?_) rfl (by kernel_rfl) (by kernel_rfl) (by kernel_rfl) (fun _ _ _ h => h) (Or.inl ⟨by kernel_rfl, ?_⟩) (by assumption) ?_
          rotate_left
          · (intro w hSw; (try dsimp only at hSw); go_simp; try with_reducible rfl)
          simp only [Act.put, List.getElem_toArray, List.getElem_cons_zero, List.getElem_cons_succ, List.setIfInBounds_toArray, List.set_cons_zero, List.set_cons_succ]
          refine wpAnyH_take (i := 10) (v := ?_) rfl (by kernel_rfl) (by kernel_rfl) (by kernel_rfl) (fun _ _ _ h => h) (Or.inl ⟨by kernel_rfl, ?_⟩) (by assumption) ?_
          rotate_left
          · (intro w hSw; (try dsimp only at hSw); go_simp; try with_reducible rfl)
          simp only [Act.put, List.getElem_toArray, List.getElem_cons_zero, List.getElem_cons_succ, List.setIfInBounds_toArray, List.set_cons_zero, List.set_cons_succ]
          refine wpAnyH_done (by kernel_rfl) ?_ _
          refine NoPanic.normal ?_
          replace HX := Lib.hid (HX.out.none HK3.out)
          clear V1 HS HK0 HK1 HK2 HK3 lp lx ly
          obtain ⟨x0, x1, _, _, lx⟩ := two_cells HX.out.x
          obtain ⟨y0, y1, _, _, ly⟩ := two_cells HX.out.y
          obtain ⟨z0, z1, _, _, lz⟩ := two_cells HX.out.z
          go_wp2_with fail
          refine (gturn_any a b 4 _ (by decide)).mono ?_
          rintro e1 w2 ⟨rfl, k2⟩
          rw [if_pos HRA.out, show turnN (turns 4) (a, b) = (a, b) from rfl]
          replace HX := Lib.hid ((HX.out.none k2).none ((Keeps.refl _ _).alloc (.cells #[.int .i64 a, .int .i64 b] 24)))
          have he := (eqN_iff a b a b).2 ⟨rfl, rfl⟩
          clear k2
          clear x0 x1 lx y0 y1 ly z0 z1 lz
          obtain ⟨x0, x1, _, _, lx⟩ := two_cells HX.out.x
          obtain ⟨y0, y1, _, _, ly⟩ := two_cells HX.out.y
          obtain ⟨z0, z1, _, _, lz⟩ := two_cells HX.out.z
          go_wp2_with fail
          refine (gcd_good a b c d _ HRA.out HRC.out).mono ?_
          rintro e1 w2 ⟨p, q, rfl, hgc, k2⟩
          have HGC := Lib.hid hgc
          obtain ⟨D1, hD1, hc1⟩ := divides_any p q a b hgc.right HRA.out
          obtain ⟨D2, hD2, hc2⟩ := divides_any p q c d hgc.right HRC.out
          have e1 : D1 = true := hD1.2 hgc.one
          have e2 : D2 = true := hD2.2 hgc.two
          subst e1 e2
          have HC1 := Lib.hid hc1
          have HC2 := Lib.hid hc2
          replace HX := Lib.hid (HX.out.none k2)
          have tp := heap_new w2 (.cells #[.int .i64 p, .int .i64 q] 24)
          replace HX := Lib.hid (HX.out.none ((Keeps.refl _ _).alloc (.cells #[.int .i64 p, .int .i64 q] 24)))
          obtain ⟨w3, hw3⟩ : ∃ w3, w2.alloc (.cells #[.int .i64 p, .int .i64 q] 24) = w3 := ⟨_, rfl⟩
          rw [hw3] at tp HX
          clear hgc hD1 hD2 hc1 hc2 k2
          clear x0 x1 lx y0 y1 ly z0 z1 lz
          obtain ⟨x0, x1, _, _, lx⟩ := two_cells HX.out.x
          obtain ⟨y0, y1, _, _, ly⟩ := two_cells HX.out.y
          obtain ⟨z0, z1, _, _, lz⟩ := two_cells HX.out.z
          obtain ⟨p0, p1, _, _, lp⟩ := two_cells tp
          go_wp2_with fail
          clear hw3
          refine (HC1.out _).mono ?_
          rintro e2 w4 ⟨rfl, k4⟩
          replace HX := Lib.hid (HX.out.none k4)
          replace tp := k4.at tp fun h => h
          clear k4 p0 p1 lp HC1
          clear x0 x1 lx y0 y1 ly z0 z1 lz
          obtain ⟨x0, x1, _, _, lx⟩ := two_cells HX.out.x
          obtain ⟨y0, y1, _, _, ly⟩ := two_cells HX.out.y
          obtain ⟨z0, z1, _, _, lz⟩ := two_cells HX.out.z
          obtain ⟨p0, p1, _, _, lp⟩ := two_cells tp
          go_wp2_with fail
          refine (HC2.out _).mono ?_
          rintro e2 w5 ⟨rfl, k5⟩
          replace HX := Lib.hid (HX.out.none k5)
          replace tp := k5.at tp fun h => h
          clear k5 p0 p1 lp HC2
          clear x0 x1 lx y0 y1 ly z0 z1 lz
          obtain ⟨x0, x1, _, _, lx⟩ := two_cells HX.out.x
          obtain ⟨y0, y1, _, _, ly⟩ := two_cells HX.out.y
          obtain ⟨z0, z1, _, _, lz⟩ := two_cells HX.out.z
          obtain ⟨p0, p1, _, _, lp⟩ := two_cells tp
          have HTP := Lib.hid tp
          clear tp
          rcases HGC.out.face with ⟨hf1, hf2⟩ | ⟨hf1, hf2⟩
          · have hen : eqN p q 0 0 = true := (eqN_iff _ _ _ _).2 ⟨hf1, hf2⟩
            clear hf1 hf2
            go_wp2_with fail
            refine (norm_any e f _).mono ?_
            rintro e3 w6 ⟨rfl, k6⟩
            replace HX := Lib.hid (HX.out.none k6)
            have tp := k6.at HTP.out fun h => h
            clear k6 p0 p1 lp
            clear x0 x1 lx y0 y1 ly z0 z1 lz
            obtain ⟨x0, x1, _, _, lx⟩ := two_cells HX.out.x
            obtain ⟨y0, y1, _, _, ly⟩ := two_cells HX.out.y
            obtain ⟨z0, z1, _, _, lz⟩ := two_cells HX.out.z
            obtain ⟨p0, p1, _, _, lp⟩ := two_cells tp
            replace HTP := Lib.hid tp
            clear tp
            cases hrz : rightB e f with
            | false =>
              rw [if_neg (by simp)]
              clear hrz
              go_wp2_with fail
              refine (alive04_any' _).mono ?_
              rintro e9 w9 ⟨rfl, k9⟩
              replace HX := Lib.hid (HX.out.none k9)
              clear k9
              go_wp2
              go_ret
              exact ⟨rfl, HX.out.keeps⟩
            | true =>
              rw [if_pos rfl]
              have dz : decide (e * e + f * f < 0) = false := decide_eq_false (by have h1 := z_sq e; have h2 := z_sq f; omega)
              obtain ⟨D3, hD3, hc3⟩ := divides_any e f a b hrz HRA.out
              obtain ⟨D4, hD4, hc4⟩ := divides_any e f c d hrz HRC.out
              obtain ⟨D5, hD5, hc5⟩ := divides_any e f p q hrz HGC.out.right
              have HC3 := Lib.hid hc3
              have HC4 := Lib.hid hc4
              have HC5 := Lib.hid hc5
              have HIMP := Lib.hid (show D3 = true → D4 = true → D5 = true from fun h3 h4 => hD5.2 (HGC.out.all e f (hD3.1 h3) (hD4.1 h4)))
              clear hrz hD3 hD4 hD5 hc3 hc4 hc5
              go_wp2_with fail
              refine (HC3.out _).mono ?_
              rintro e4 w7 ⟨rfl, k7⟩
              replace HX := Lib.hid (HX.out.none k7)
              have tp := k7.at HTP.out fun h => h
              clear k7 p0 p1 lp
              clear x0 x1 lx y0 y1 ly z0 z1 lz
              obtain ⟨x0, x1, _, _, lx⟩ := two_cells HX.out.x
              obtain ⟨y0, y1, _, _, ly⟩ := two_cells HX.out.y
              obtain ⟨z0, z1, _, _, lz⟩ := two_cells HX.out.z
              obtain ⟨p0, p1, _, _, lp⟩ := two_cells tp
              replace HTP := Lib.hid tp
              clear tp HC3
              cases D3 with
              | false =>
                go_wp2_with fail
                refine (alive04_any' _).mono ?_
                rintro e9 w9 ⟨rfl, k9⟩
                replace HX := Lib.hid (HX.out.none k9)
                clear k9
                go_wp2
                go_ret
                exact ⟨rfl, HX.out.keeps⟩
              | true =>
                go_wp2_with fail
                refine (HC4.out _).mono ?_
                rintro e5 w8 ⟨rfl, k8⟩
                replace HX := Lib.hid (HX.out.none k8)
                have tp := k8.at HTP.out fun h => h
                clear k8 p0 p1 lp
                clear x0 x1 lx y0 y1 ly z0 z1 lz
                obtain ⟨x0, x1, _, _, lx⟩ := two_cells HX.out.x
                obtain ⟨y0, y1, _, _, ly⟩ := two_cells HX.out.y
                obtain ⟨z0, z1, _, _, lz⟩ := two_cells HX.out.z
                obtain ⟨p0, p1, _, _, lp⟩ := two_cells tp
                replace HTP := Lib.hid tp
                clear tp HC4
                cases D4 with
                | false =>
                  go_wp2_with fail
                  refine (alive04_any' _).mono ?_
                  rintro e9 w9 ⟨rfl, k9⟩
                  replace HX := Lib.hid (HX.out.none k9)
                  clear k9
                  go_wp2
                  go_ret
                  exact ⟨rfl, HX.out.keeps⟩
                | true =>
                  have e5 : D5 = true := by first | exact HIMP.out (by first | rfl | trivial) (by first | rfl | trivial) | exact HIMP.out (by first | rfl | trivial) | exact HIMP.out
                  subst e5
                  go_wp2_with fail
                  refine (HC5.out _).mono ?_
                  rintro e6 w10 ⟨rfl, k10⟩
                  replace HX := Lib.hid (HX.out.none k10)
                  clear k10
                  go_wp2_with fail
                  refine (alive04_any' _).mono ?_
                  rintro e9 w9 ⟨rfl, k9⟩
                  replace HX := Lib.hid (HX.out.none k9)
                  clear k9
                  go_wp2
                  go_ret
                  exact ⟨rfl, HX.out.keeps⟩
          · have hen : eqN p q 0 0 = false := by
              cases h : eqN p q 0 0 with
              | false => rfl
              | true => have := ((eqN_iff _ _ _ _).1 h).1; omega
            have dp : decide (p ≤ 0) = false := decide_eq_false (by omega)
            have dq : decide (q < 0) = false := decide_eq_false (by omega)
            clear hf1 hf2
            go_wp2_with fail
            refine (norm_any e f _).mono ?_
            rintro e3 w6 ⟨rfl, k6⟩
            replace HX := Lib.hid (HX.out.none k6)
            have tp := k6.at HTP.out fun h => h
            clear k6 p0 p1 lp
            clear x0 x1 lx y0 y1 ly z0 z1 lz
            obtain ⟨x0, x1, _, _, lx⟩ := two_cells HX.out.x
            obtain ⟨y0, y1, _, _, ly⟩ := two_cells HX.out.y
            obtain ⟨z0, z1, _, _, lz⟩ := two_cells HX.out.z
            obtain ⟨p0, p1, _, _, lp⟩ := two_cells tp
            replace HTP := Lib.hid tp
            clear tp
            cases hrz : rightB e f with
            | false =>
              rw [if_neg (by simp)]
              clear hrz
              go_wp2_with fail
              refine (alive04_any' _).mono ?_
              rintro e9 w9 ⟨rfl, k9⟩
              replace HX := Lib.hid (HX.out.none k9)
              clear k9
              go_wp2
              go_ret
              exact ⟨rfl, HX.out.keeps⟩
            | true =>
              rw [if_pos rfl]
              have dz : decide (e * e + f * f < 0) = false := decide_eq_false (by have h1 := z_sq e; have h2 := z_sq f; omega)
              obtain ⟨D3, hD3, hc3⟩ := divides_any e f a b hrz HRA.out
              obtain ⟨D4, hD4, hc4⟩ := divides_any e f c d hrz HRC.out
              obtain ⟨D5, hD5, hc5⟩ := divides_any e f p q hrz HGC.out.right
              have HC3 := Lib.hid hc3
              have HC4 := Lib.hid hc4
              have HC5 := Lib.hid hc5
              have HIMP := Lib.hid (show D3 = true → D4 = true → D5 = true from fun h3 h4 => hD5.2 (HGC.out.all e f (hD3.1 h3) (hD4.1 h4)))
              clear hrz hD3 hD4 hD5 hc3 hc4 hc5
              go_wp2_with fail
              refine (HC3.out _).mono ?_
              rintro e4 w7 ⟨rfl, k7⟩
              replace HX := Lib.hid (HX.out.none k7)
              have tp := k7.at HTP.out fun h => h
              clear k7 p0 p1 lp
              clear x0 x1 lx y0 y1 ly z0 z1 lz
              obtain ⟨x0, x1, _, _, lx⟩ := two_cells HX.out.x
              obtain ⟨y0, y1, _, _, ly⟩ := two_cells HX.out.y
              obtain ⟨z0, z1, _, _, lz⟩ := two_cells HX.out.z
              obtain ⟨p0, p1, _, _, lp⟩ := two_cells tp
              replace HTP := Lib.hid tp
              clear tp HC3
              cases D3 with
              | false =>
                go_wp2_with fail
                refine (alive04_any' _).mono ?_
                rintro e9 w9 ⟨rfl, k9⟩
                replace HX := Lib.hid (HX.out.none k9)
                clear k9
                go_wp2
                go_ret
                exact ⟨rfl, HX.out.keeps⟩
              | true =>
                go_wp2_with fail
                refine (HC4.out _).mono ?_
                rintro e5 w8 ⟨rfl, k8⟩
                replace HX := Lib.hid (HX.out.none k8)
                have tp := k8.at HTP.out fun h => h
                clear k8 p0 p1 lp
                clear x0 x1 lx y0 y1 ly z0 z1 lz
                obtain ⟨x0, x1, _, _, lx⟩ := two_cells HX.out.x
                obtain ⟨y0, y1, _, _, ly⟩ := two_cells HX.out.y
                obtain ⟨z0, z1, _, _, lz⟩ := two_cells HX.out.z
                obtain ⟨p0, p1, _, _, lp⟩ := two_cells tp
                replace HTP := Lib.hid tp
                clear tp HC4
                cases D4 with
                | false =>
                  go_wp2_with fail
                  refine (alive04_any' _).mono ?_
                  rintro e9 w9 ⟨rfl, k9⟩
                  replace HX := Lib.hid (HX.out.none k9)
                  clear k9
                  go_wp2
                  go_ret
                  exact ⟨rfl, HX.out.keeps⟩
                | true =>
                  have e5 : D5 = true := by first | exact HIMP.out (by first | rfl | trivial) (by first | rfl | trivial) | exact HIMP.out (by first | rfl | trivial) | exact HIMP.out
                  subst e5
                  go_wp2_with fail
                  refine (HC5.out _).mono ?_
                  rintro e6 w10 ⟨rfl, k10⟩
                  replace HX := Lib.hid (HX.out.none k10)
                  clear k10
                  go_wp2_with fail
                  refine (alive04_any' _).mono ?_
                  rintro e9 w9 ⟨rfl, k9⟩
                  replace HX := Lib.hid (HX.out.none k9)
                  clear k9
                  go_wp2
                  go_ret
                  exact ⟨rfl, HX.out.keeps⟩
        | false =>
          have HPR := Lib.hid (show toldA (a * c - b * d) (a * d + b * c) = 0 ∧ toldB (a * c - b * d) (a * d + b * c) = 0 ∧ rightB (a * c - b * d) (a * d + b * c) = false ∧ True by rw [toldA, toldB, hR]; exact ⟨rfl, rfl, rfl, trivial⟩)
          clear hR
          obtain ⟨x0, x1, _, _, lx⟩ := two_cells HX.out.x
          obtain ⟨y0, y1, _, _, ly⟩ := two_cells HX.out.y
          obtain ⟨z0, z1, _, _, lz⟩ := two_cells HX.out.z
          go_wp2_with fail
          refine (gmul_any a b c d _).mono ?_
          rintro e1 w2 ⟨rfl, k2⟩
          rw [if_pos HRB.out, HPR.out.1, HPR.out.2.1, HPR.out.2.2.1]
          replace HX := Lib.hid (HX.out.none k2)
          have tp := heap_new w2 (.cells #[.int .i64 0, .int .i64 0] 24)
          replace HX := Lib.hid (HX.out.none ((Keeps.refl _ _).alloc (.cells #[.int .i64 0, .int .i64 0] 24)))
          clear x0 x1 lx y0 y1 ly z0 z1 lz
          obtain ⟨x0, x1, _, _, lx⟩ := two_cells HX.out.x
          obtain ⟨y0, y1, _, _, ly⟩ := two_cells HX.out.y
          obtain ⟨p0, p1, _, _, lp⟩ := two_cells tp
          have HS := Lib.hid (show ∀ w', Keeps (fun _ => False) (w2.alloc (.cells #[.int .i64 0, .int .i64 0] 24)) w' → w'.cell? ⟨w2.heap.size, 0, none⟩ = some (.int .i64 0) ∧ w'.cell? ⟨w2.heap.size, 1, none⟩ = some (.int .i64 0) ∧ w'.cell? ⟨X, 0, none⟩ = some (.int .i64 a) ∧ w'.cell? ⟨X, 1, none⟩ = some (.int .i64 b) ∧ w'.cell? ⟨Y, 0, none⟩ = some (.int .i64 c) ∧ w'.cell? ⟨Y, 1, none⟩ = some (.int .i64 d) from fun w' hw => ⟨(hw.none.cell (p := ⟨_, _, none⟩) lp).trans p0, (hw.none.cell (p := ⟨_, _, none⟩) lp).trans p1, (hw.none.cell (p := ⟨_, _, none⟩) lx).trans x0, (hw.none.cell (p := ⟨_, _, none⟩) lx).trans x1, (hw.none.cell (p := ⟨_, _, none⟩) ly).trans y0, (hw.none.cell (p := ⟨_, _, none⟩) ly).trans y1⟩)
          have HK0 := Lib.hid (show Keeps (fun _ => False) (w2.alloc (.cells #[.int .i64 0, .int .i64 0] 24)) (w2.alloc (.cells #[.int .i64 0, .int .i64 0] 24)).drew from (Keeps.refl _ _).drew)
          clear k2 tp
          go_wp2_with fail
          try clear hw3
          clear x0 x1 y0 y1 p0 p1
          refine wp_region_noPanic ?_
          refine wp_region_held_drew (S := (fun w' => w'.cell? ⟨w2.heap.size, 0, none⟩ = some (.int .i64 0) ∧ w'.cell? ⟨w2.heap.size, 1, none⟩ = some (.int .i64 0) ∧ w'.cell? ⟨X, 0, none⟩ = some (.int .i64 a) ∧ w'.cell? ⟨X, 1, none⟩ = some (.int .i64 b) ∧ w'.cell? ⟨Y, 0, none⟩ = some (.int .i64 c) ∧ w'.cell? ⟨Y, 1, none⟩ = some (.int .i64 d))) (by kernel_rfl) ?_ (fun hHeld => ?_)
          · exact HS.out _ HK0.out
          refine wpAnyH_take (i := 0) (v := ?_) rfl (by kernel_rfl) (by kernel_rfl) (by kernel_rfl) (fun _ _ _ h => h) (Or.inl ⟨by kernel_rfl, ?_⟩) (by assumption) ?_
          rotate_left
          · (intro w hSw; (try dsimp only at hSw); go_simp; try with_reducible rfl)
          simp only [Act.put, List.getElem_toArray, List.getElem_cons_zero, List.getElem_cons_succ, List.setIfInBounds_toArray, List.set_cons_zero, List.set_cons_succ]
          refine wpAnyH_take (i := 1) (v := ?_) rfl (by kernel_rfl) (by kernel_rfl) (by kernel_rfl) (fun _ _ _ h => h) (Or.inl ⟨by kernel_rfl, ?_⟩) (by assumption) ?_
          rotate_left
          · (intro w hSw; (try dsimp only at hSw); go_simp; try with_reducible rfl)
          simp only [Act.put, List.getElem_toArray, List.getElem_cons_zero, List.getElem_cons_succ, List.setIfInBounds_toArray, List.set_cons_zero, List.set_cons_succ]
          refine wpAnyH_take (i := 2) (v := undef) rfl (by kernel_rfl) (by kernel_rfl) (by kernel_rfl) (fun _ _ _ h => h) (Or.inr ⟨by rfl, rfl⟩) (by assumption) ?_
          simp only [Act.put, List.getElem_toArray, List.getElem_cons_zero, List.getElem_cons_succ, List.setIfInBounds_toArray, List.set_cons_zero, List.set_cons_succ]
          refine wpAnyH_take (i := 3) (v := undef) rfl (by kernel_rfl) (by kernel_rfl) (by kernel_rfl) (fun _ _ _ h => h) (Or.inr ⟨by rfl, rfl⟩) (by assumption) ?_
          simp only [Act.put, List.getElem_toArray, List.getElem_cons_zero, List.getElem_cons_succ, List.setIfInBounds_toArray, List.set_cons_zero, List.set_cons_succ]
          refine wpAnyH_take (i := 4) (v := undef) rfl (by kernel_rfl) (by kernel_rfl) (by kernel_rfl) (fun _ _ _ h => h) (Or.inr ⟨by rfl, rfl⟩) (by assumption) ?_
          simp only [Act.put, List.getElem_toArray, List.getElem_cons_zero, List.getElem_cons_succ, List.setIfInBounds_toArray, List.set_cons_zero, List.set_cons_succ]
          refine wpAnyH_take (i := 5) (v := undef) rfl (by kernel_rfl) (by kernel_rfl) (by kernel_rfl) (fun _ _ _ h => h) (Or.inr ⟨by rfl, rfl⟩) (by assumption) ?_
          simp only [Act.put, List.getElem_toArray, List.getElem_cons_zero, List.getElem_cons_succ, List.setIfInBounds_toArray, List.set_cons_zero, List.set_cons_succ]
          refine wpAnyH_take (i := 6) (v := undef) rfl (by kernel_rfl) (by kernel_rfl) (by kernel_rfl) (fun _ _ _ h => h) (Or.inr ⟨by rfl, rfl⟩) (by assumption) ?_
          simp only [Act.put, List.getElem_toArray, List.getElem_cons_zero, List.getElem_cons_succ, List.setIfInBounds_toArray, List.set_cons_zero, List.set_cons_succ]
          refine wpAnyH_take (i := 7) (v := undef) rfl (by kernel_rfl) (by kernel_rfl) (by kernel_rfl) (fun _ _ _ h => h) (Or.inr ⟨by rfl, rfl⟩) (by assumption) ?_
          simp only [Act.put, List.getElem_toArray, List.getElem_cons_zero, List.getElem_cons_succ, List.setIfInBounds_toArray, List.set_cons_zero, List.set_cons_succ]
          refine wpAnyH_take (i := 8) (v := undef) rfl (by kernel_rfl) (by kernel_rfl) (by kernel_rfl) (fun _ _ _ h => h) (Or.inr ⟨by rfl, rfl⟩) (by assumption) ?_
          simp only [Act.put, List.getElem_toArray, List.getElem_cons_zero, List.getElem_cons_succ, List.setIfInBounds_toArray, List.set_cons_zero, List.set_cons_succ]
          refine wpAnyH_take (i := 9) (v := undef) rfl (by kernel_rfl) (by kernel_rfl) (by kernel_rfl) (fun _ _ _ h => h) (Or.inr ⟨by rfl, rfl⟩) (by assumption) ?_
          simp only [Act.put, List.getElem_toArray, List.getElem_cons_zero, List.getElem_cons_succ, List.setIfInBounds_toArray, List.set_cons_zero, List.set_cons_succ]
          refine wpAnyH_take (i := 10) (v := ?_) rfl (by kernel_rfl) (by kernel_rfl) (by kernel_rfl) (fun _ _ _ h => h) (Or.inl ⟨by kernel_rfl, ?_⟩) (by assumption) ?_
          rotate_left
          · (intro w hSw; (try dsimp only at hSw); go_simp; try with_reducible rfl)
          simp only [Act.put, List.getElem_toArray, List.getElem_cons_zero, List.getElem_cons_succ, List.setIfInBounds_toArray, List.set_cons_zero, List.set_cons_succ]
          refine wpAnyH_done (by kernel_rfl) ?_ _
          refine NoPanic.normal ?_
          replace HX := Lib.hid (HX.out.none HK0.out)
          clear HS HK0 lp lx ly
          obtain ⟨x0, x1, _, _, lx⟩ := two_cells HX.out.x
          obtain ⟨y0, y1, _, _, ly⟩ := two_cells HX.out.y
          obtain ⟨z0, z1, _, _, lz⟩ := two_cells HX.out.z
          go_wp2_with fail
          refine (gturn_any a b 4 _ (by decide)).mono ?_
          rintro e1 w2 ⟨rfl, k2⟩
          rw [if_pos HRA.out, show turnN (turns 4) (a, b) = (a, b) from rfl]
          replace HX := Lib.hid ((HX.out.none k2).none ((Keeps.refl _ _).alloc (.cells #[.int .i64 a, .int .i64 b] 24)))
          have he := (eqN_iff a b a b).2 ⟨rfl, rfl⟩
          clear k2
          clear x0 x1 lx y0 y1 ly z0 z1 lz
          obtain ⟨x0, x1, _, _, lx⟩ := two_cells HX.out.x
          obtain ⟨y0, y1, _, _, ly⟩ := two_cells HX.out.y
          obtain ⟨z0, z1, _, _, lz⟩ := two_cells HX.out.z
          go_wp2_with fail
          refine (gcd_good a b c d _ HRA.out HRC.out).mono ?_
          rintro e1 w2 ⟨p, q, rfl, hgc, k2⟩
          have HGC := Lib.hid hgc
          obtain ⟨D1, hD1, hc1⟩ := divides_any p q a b hgc.right HRA.out
          obtain ⟨D2, hD2, hc2⟩ := divides_any p q c d hgc.right HRC.out
          have e1 : D1 = true := hD1.2 hgc.one
          have e2 : D2 = true := hD2.2 hgc.two
          subst e1 e2
          have HC1 := Lib.hid hc1
          have HC2 := Lib.hid hc2
          replace HX := Lib.hid (HX.out.none k2)
          have tp := heap_new w2 (.cells #[.int .i64 p, .int .i64 q] 24)
          replace HX := Lib.hid (HX.out.none ((Keeps.refl _ _).alloc (.cells #[.int .i64 p, .int .i64 q] 24)))
          obtain ⟨w3, hw3⟩ : ∃ w3, w2.alloc (.cells #[.int .i64 p, .int .i64 q] 24) = w3 := ⟨_, rfl⟩
          rw [hw3] at tp HX
          clear hgc hD1 hD2 hc1 hc2 k2
          clear x0 x1 lx y0 y1 ly z0 z1 lz
          obtain ⟨x0, x1, _, _, lx⟩ := two_cells HX.out.x
          obtain ⟨y0, y1, _, _, ly⟩ := two_cells HX.out.y
          obtain ⟨z0, z1, _, _, lz⟩ := two_cells HX.out.z
          obtain ⟨p0, p1, _, _, lp⟩ := two_cells tp
          go_wp2_with fail
          clear hw3
          refine (HC1.out _).mono ?_
          rintro e2 w4 ⟨rfl, k4⟩
          replace HX := Lib.hid (HX.out.none k4)
          replace tp := k4.at tp fun h => h
          clear k4 p0 p1 lp HC1
          clear x0 x1 lx y0 y1 ly z0 z1 lz
          obtain ⟨x0, x1, _, _, lx⟩ := two_cells HX.out.x
          obtain ⟨y0, y1, _, _, ly⟩ := two_cells HX.out.y
          obtain ⟨z0, z1, _, _, lz⟩ := two_cells HX.out.z
          obtain ⟨p0, p1, _, _, lp⟩ := two_cells tp
          go_wp2_with fail
          refine (HC2.out _).mono ?_
          rintro e2 w5 ⟨rfl, k5⟩
          replace HX := Lib.hid (HX.out.none k5)
          replace tp := k5.at tp fun h => h
          clear k5 p0 p1 lp HC2
          clear x0 x1 lx y0 y1 ly z0 z1 lz
          obtain ⟨x0, x1, _, _, lx⟩ := two_cells HX.out.x
          obtain ⟨y0, y1, _, _, ly⟩ := two_cells HX.out.y
          obtain ⟨z0, z1, _, _, lz⟩ := two_cells HX.out.z
          obtain ⟨p0, p1, _, _, lp⟩ := two_cells tp
          have HTP := Lib.hid tp
          clear tp
          rcases HGC.out.face with ⟨hf1, hf2⟩ | ⟨hf1, hf2⟩
          · have hen : eqN p q 0 0 = true := (eqN_iff _ _ _ _).2 ⟨hf1, hf2⟩
            clear hf1 hf2
            go_wp2_with fail
            refine (norm_any e f _).mono ?_
            rintro e3 w6 ⟨rfl, k6⟩
            replace HX := Lib.hid (HX.out.none k6)
            have tp := k6.at HTP.out fun h => h
            clear k6 p0 p1 lp
            clear x0 x1 lx y0 y1 ly z0 z1 lz
            obtain ⟨x0, x1, _, _, lx⟩ := two_cells HX.out.x
            obtain ⟨y0, y1, _, _, ly⟩ := two_cells HX.out.y
            obtain ⟨z0, z1, _, _, lz⟩ := two_cells HX.out.z
            obtain ⟨p0, p1, _, _, lp⟩ := two_cells tp
            replace HTP := Lib.hid tp
            clear tp
            cases hrz : rightB e f with
            | false =>
              rw [if_neg (by simp)]
              clear hrz
              go_wp2_with fail
              refine (alive04_any' _).mono ?_
              rintro e9 w9 ⟨rfl, k9⟩
              replace HX := Lib.hid (HX.out.none k9)
              clear k9
              go_wp2
              go_ret
              exact ⟨rfl, HX.out.keeps⟩
            | true =>
              rw [if_pos rfl]
              have dz : decide (e * e + f * f < 0) = false := decide_eq_false (by have h1 := z_sq e; have h2 := z_sq f; omega)
              obtain ⟨D3, hD3, hc3⟩ := divides_any e f a b hrz HRA.out
              obtain ⟨D4, hD4, hc4⟩ := divides_any e f c d hrz HRC.out
              obtain ⟨D5, hD5, hc5⟩ := divides_any e f p q hrz HGC.out.right
              have HC3 := Lib.hid hc3
              have HC4 := Lib.hid hc4
              have HC5 := Lib.hid hc5
              have HIMP := Lib.hid (show D3 = true → D4 = true → D5 = true from fun h3 h4 => hD5.2 (HGC.out.all e f (hD3.1 h3) (hD4.1 h4)))
              clear hrz hD3 hD4 hD5 hc3 hc4 hc5
              go_wp2_with fail
              refine (HC3.out _).mono ?_
              rintro e4 w7 ⟨rfl, k7⟩
              replace HX := Lib.hid (HX.out.none k7)
              have tp := k7.at HTP.out fun h => h
              clear k7 p0 p1 lp
              clear x0 x1 lx y0 y1 ly z0 z1 lz
              obtain ⟨x0, x1, _, _, lx⟩ := two_cells HX.out.x
              obtain ⟨y0, y1, _, _, ly⟩ := two_cells HX.out.y
              obtain ⟨z0, z1, _, _, lz⟩ := two_cells HX.out.z
              obtain ⟨p0, p1, _, _, lp⟩ := two_cells tp
              replace HTP := Lib.hid tp
              clear tp HC3
              cases D3 with
              | false =>
                go_wp2_with fail
                refine (alive04_any' _).mono ?_
                rintro e9 w9 ⟨rfl, k9⟩
                replace HX := Lib.hid (HX.out.none k9)
                clear k9
                go_wp2
                go_ret
                exact ⟨rfl, HX.out.keeps⟩
              | true =>
                go_wp2_with fail
                refine (HC4.out _).mono ?_
                rintro e5 w8 ⟨rfl, k8⟩
                replace HX := Lib.hid (HX.out.none k8)
                have tp := k8.at HTP.out fun h => h
                clear k8 p0 p1 lp
                clear x0 x1 lx y0 y1 ly z0 z1 lz
                obtain ⟨x0, x1, _, _, lx⟩ := two_cells HX.out.x
                obtain ⟨y0, y1, _, _, ly⟩ := two_cells HX.out.y
                obtain ⟨z0, z1, _, _, lz⟩ := two_cells HX.out.z
                obtain ⟨p0, p1, _, _, lp⟩ := two_cells tp
                replace HTP := Lib.hid tp
                clear tp HC4
                cases D4 with
                | false =>
                  go_wp2_with fail
                  refine (alive04_any' _).mono ?_
                  rintro e9 w9 ⟨rfl, k9⟩
                  replace HX := Lib.hid (HX.out.none k9)
                  clear k9
                  go_wp2
                  go_ret
                  exact ⟨rfl, HX.out.keeps⟩
                | true =>
                  have e5 : D5 = true := by first | exact HIMP.out (by first | rfl | trivial) (by first | rfl | trivial) | exact HIMP.out (by first | rfl | trivial) | exact HIMP.out
                  subst e5
                  go_wp2_with fail
                  refine (HC5.out _).mono ?_
                  rintro e6 w10 ⟨rfl, k10⟩
                  replace HX := Lib.hid (HX.out.none k10)
                  clear k10
                  go_wp2_with fail
                  refine (alive04_any' _).mono ?_
                  rintro e9 w9 ⟨rfl, k9⟩
                  replace HX := Lib.hid (HX.out.none k9)
                  clear k9
                  go_wp2
                  go_ret
                  exact ⟨rfl, HX.out.keeps⟩
          · have hen : eqN p q 0 0 = false := by
              cases h : eqN p q 0 0 with
              | false => rfl
              | true => have := ((eqN_iff _ _ _ _).1 h).1; omega
            have dp : decide (p ≤ 0) = false := decide_eq_false (by omega)
            have dq : decide (q < 0) = false := decide_eq_false (by omega)
            clear hf1 hf2
            go_wp2_with fail
            refine (norm_any e f _).mono ?_
            rintro e3 w6 ⟨rfl, k6⟩
            replace HX := Lib.hid (HX.out.none k6)
            have tp := k6.at HTP.out fun h => h
            clear k6 p0 p1 lp
            clear x0 x1 lx y0 y1 ly z0 z1 lz
            obtain ⟨x0, x1, _, _, lx⟩ := two_cells HX.out.x
            obtain ⟨y0, y1, _, _, ly⟩ := two_cells HX.out.y
            obtain ⟨z0, z1, _, _, lz⟩ := two_cells HX.out.z
            obtain ⟨p0, p1, _, _, lp⟩ := two_cells tp
            replace HTP := Lib.hid tp
            clear tp
            cases hrz : rightB e f with
            | false =>
              rw [if_neg (by simp)]
              clear hrz
              go_wp2_with fail
              refine (alive04_any' _).mono ?_
              rintro e9 w9 ⟨rfl, k9⟩
              replace HX := Lib.hid (HX.out.none k9)
              clear k9
              go_wp2
              go_ret
              exact ⟨rfl, HX.out.keeps⟩
            | true =>
              rw [if_pos rfl]
              have dz : decide (e * e + f * f < 0) = false := decide_eq_false (by have h1 := z_sq e; have h2 := z_sq f; omega)
              obtain ⟨D3, hD3, hc3⟩ := divides_any e f a b hrz HRA.out
              obtain ⟨D4, hD4, hc4⟩ := divides_any e f c d hrz HRC.out
              obtain ⟨D5, hD5, hc5⟩ := divides_any e f p q hrz HGC.out.right
              have HC3 := Lib.hid hc3
              have HC4 := Lib.hid hc4
              have HC5 := Lib.hid hc5
              have HIMP := Lib.hid (show D3 = true → D4 = true → D5 = true from fun h3 h4 => hD5.2 (HGC.out.all e f (hD3.1 h3) (hD4.1 h4)))
              clear hrz hD3 hD4 hD5 hc3 hc4 hc5
              go_wp2_with fail
              refine (HC3.out _).mono ?_
              rintro e4 w7 ⟨rfl, k7⟩
              replace HX := Lib.hid (HX.out.none k7)
              have tp := k7.at HTP.out fun h => h
              clear k7 p0 p1 lp
              clear x0 x1 lx y0 y1 ly z0 z1 lz
              obtain ⟨x0, x1, _, _, lx⟩ := two_cells HX.out.x
              obtain ⟨y0, y1, _, _, ly⟩ := two_cells HX.out.y
              obtain ⟨z0, z1, _, _, lz⟩ := two_cells HX.out.z
              obtain ⟨p0, p1, _, _, lp⟩ := two_cells tp
              replace HTP := Lib.hid tp
              clear tp HC3
              cases D3 with
              | false =>
                go_wp2_with fail
                refine (alive04_any' _).mono ?_
                rintro e9 w9 ⟨rfl, k9⟩
                replace HX := Lib.hid (HX.out.none k9)
                clear k9
                go_wp2
                go_ret
                exact ⟨rfl, HX.out.keeps⟩
              | true =>
                go_wp2_with fail
                refine (HC4.out _).mono ?_
                rintro e5 w8 ⟨rfl, k8⟩
                replace HX := Lib.hid (HX.out.none k8)
                have tp := k8.at HTP.out fun h => h
                clear k8 p0 p1 lp
                clear x0 x1 lx y0 y1 ly z0 z1 lz
                obtain ⟨x0, x1, _, _, lx⟩ := two_cells HX.out.x
                obtain ⟨y0, y1, _, _, ly⟩ := two_cells HX.out.y
                obtain ⟨z0, z1, _, _, lz⟩ := two_cells HX.out.z
                obtain ⟨p0, p1, _, _, lp⟩ := two_cells tp
                replace HTP := Lib.hid tp
                clear tp HC4
                cases D4 with
                | false =>
                  go_wp2_with fail
                  refine (alive04_any' _).mono ?_
                  rintro e9 w9 ⟨rfl, k9⟩
                  replace HX := Lib.hid (HX.out.none k9)
                  clear k9
                  go_wp2
                  go_ret
                  exact ⟨rfl, HX.out.keeps⟩
                | true =>
                  have e5 : D5 = true := by first | exact HIMP.out (by first | rfl | trivial) (by first | rfl | trivial) | exact HIMP.out (by first | rfl | trivial) | exact HIMP.out
                  subst e5
                  go_wp2_with fail
                  refine (HC5.out _).mono ?_
                  rintro e6 w10 ⟨rfl, k10⟩
                  replace HX := Lib.hid (HX.out.none k10)
                  clear k10
                  go_wp2_with fail
                  refine (alive04_any' _).mono ?_
                  rintro e9 w9 ⟨rfl, k9⟩
                  replace HX := Lib.hid (HX.out.none k9)
                  clear k9
                  go_wp2
                  go_ret
                  exact ⟨rfl, HX.out.keeps⟩
      · have HNB2 := Lib.hid hb
        have HNB := Lib.hid (show ¬ (rightB a b && rightB c d) = true by rw [Bool.and_eq_true]; exact hb)
        by_cases hra : rightB a b = true
        · have HRA := Lib.hid hra
          have HNC := Lib.hid (show ¬ rightB c d = true from fun h => hb ⟨hra, h⟩)
          clear hb hra
          obtain ⟨x0, x1, _, _, lx⟩ := two_cells HX.out.x
          obtain ⟨y0, y1, _, _, ly⟩ := two_cells HX.out.y
          obtain ⟨z0, z1, _, _, lz⟩ := two_cells HX.out.z
          go_wp2_with fail
          refine (gdiv_bad a b c d _ HBAD.out).mono ?_
          rintro e1 w2 ⟨rfl, k2⟩
          replace HX := Lib.hid ((HX.out.none k2).none (two_heap w2 (.cells #[.int .i64 0, .int .i64 0] 24) (.cells #[.int .i64 0, .int .i64 0] 24)).2.2)
          clear k2
          clear x0 x1 lx y0 y1 ly z0 z1 lz
          obtain ⟨x0, x1, _, _, lx⟩ := two_cells HX.out.x
          obtain ⟨y0, y1, _, _, ly⟩ := two_cells HX.out.y
          obtain ⟨z0, z1, _, _, lz⟩ := two_cells HX.out.z
          go_wp2_with fail
          refine (gmul_any a b c d _).mono ?_
          rintro e1 w2 ⟨rfl, k2⟩
          rw [if_neg HNB.out]
          replace HX := Lib.hid (HX.out.none k2)
          have tp := heap_new w2 (.cells #[.int .i64 0, .int .i64 0] 24)
          replace HX := Lib.hid (HX.out.none ((Keeps.refl _ _).alloc (.cells #[.int .i64 0, .int .i64 0] 24)))
          clear x0 x1 lx y0 y1 ly z0 z1 lz
          obtain ⟨x0, x1, _, _, lx⟩ := two_cells HX.out.x
          obtain ⟨y0, y1, _, _, ly⟩ := two_cells HX.out.y
          obtain ⟨p0, p1, _, _, lp⟩ := two_cells tp
          have HS := Lib.hid (show ∀ w', Keeps (fun _ => False) (w2.alloc (.cells #[.int .i64 0, .int .i64 0] 24)) w' → w'.cell? ⟨w2.heap.size, 0, none⟩ = some (.int .i64 0) ∧ w'.cell? ⟨w2.heap.size, 1, none⟩ = some (.int .i64 0) ∧ w'.cell? ⟨X, 0, none⟩ = some (.int .i64 a) ∧ w'.cell? ⟨X, 1, none⟩ = some (.int .i64 b) ∧ w'.cell? ⟨Y, 0, none⟩ = some (.int .i64 c) ∧ w'.cell? ⟨Y, 1, none⟩ = some (.int .i64 d) from fun w' hw => ⟨(hw.none.cell (p := ⟨_, _, none⟩) lp).trans p0, (hw.none.cell (p := ⟨_, _, none⟩) lp).trans p1, (hw.none.cell (p := ⟨_, _, none⟩) lx).trans x0, (hw.none.cell (p := ⟨_, _, none⟩) lx).trans x1, (hw.none.cell (p := ⟨_, _, none⟩) ly).trans y0, (hw.none.cell (p := ⟨_, _, none⟩) ly).trans y1⟩)
          have HK0 := Lib.hid (show Keeps (fun _ => False) (w2.alloc (.cells #[.int .i64 0, .int .i64 0] 24)) (w2.alloc (.cells #[.int .i64 0, .int .i64 0] 24)).drew from (Keeps.refl _ _).drew)
          clear k2 tp
          go_wp2_with fail
          try clear hw3
          clear x0 x1 y0 y1 p0 p1
          refine wp_region_noPanic ?_
          refine wp_region_held_drew (S := (fun w' => w'.cell? ⟨w2.heap.size, 0, none⟩ = some (.int .i64 0) ∧ w'.cell? ⟨w2.heap.size, 1, none⟩ = some (.int .i64 0) ∧ w'.cell? ⟨X, 0, none⟩ = some (.int .i64 a) ∧ w'.cell? ⟨X, 1, none⟩ = some (.int .i64 b) ∧ w'.cell? ⟨Y, 0, none⟩ = some (.int .i64 c) ∧ w'.cell? ⟨Y, 1, none⟩ = some (.int .i64 d))) (by kernel_rfl) ?_ (fun hHeld => ?_)
          · exact HS.out _ HK0.out
          refine wpAnyH_take (i := 0) (v := ?_) rfl (by kernel_rfl) (by kernel_rfl) (by kernel_rfl) (fun _ _ _ h => h) (Or.inl ⟨by kernel_rfl, ?_⟩) (by assumption) ?_
          rotate_left
          · (intro w hSw; (try dsimp only at hSw); go_simp; try with_reducible rfl)
          simp only [Act.put, List.getElem_toArray, List.getElem_cons_zero, List.getElem_cons_succ, List.setIfInBounds_toArray, List.set_cons_zero, List.set_cons_succ]
          refine wpAnyH_take (i := 1) (v := ?_) rfl (by kernel_rfl) (by kernel_rfl) (by kernel_rfl) (fun _ _ _ h => h) (Or.inl ⟨by kernel_rfl, ?_⟩) (by assumption) ?_
          rotate_left
          · (intro w hSw; (try dsimp only at hSw); go_simp; try with_reducible rfl)
          simp only [Act.put, List.getElem_toArray, List.getElem_cons_zero, List.getElem_cons_succ, List.setIfInBounds_toArray, List.set_cons_zero, List.set_cons_succ]
          refine wpAnyH_take (i := 2) (v := undef) rfl (by kernel_rfl) (by kernel_rfl) (by kernel_rfl) (fun _ _ _ h => h) (Or.inr ⟨by rfl, rfl⟩) (by assumption) ?_
          simp only [Act.put, List.getElem_toArray, List.getElem_cons_zero, List.getElem_cons_succ, List.setIfInBounds_toArray, List.set_cons_zero, List.set_cons_succ]
          refine wpAnyH_take (i := 3) (v := undef) rfl (by kernel_rfl) (by kernel_rfl) (by kernel_rfl) (fun _ _ _ h => h) (Or.inr ⟨by rfl, rfl⟩) (by assumption) ?_
          simp only [Act.put, List.getElem_toArray, List.getElem_cons_zero, List.getElem_cons_succ, List.setIfInBounds_toArray, List.set_cons_zero, List.set_cons_succ]
          refine wpAnyH_take (i := 4) (v := undef) rfl (by kernel_rfl) (by kernel_rfl) (by kernel_rfl) (fun _ _ _ h => h) (Or.inr ⟨by rfl, rfl⟩) (by assumption) ?_
          simp only [Act.put, List.getElem_toArray, List.getElem_cons_zero, List.getElem_cons_succ, List.setIfInBounds_toArray, List.set_cons_zero, List.set_cons_succ]
          refine wpAnyH_take (i := 5) (v := undef) rfl (by kernel_rfl) (by kernel_rfl) (by kernel_rfl) (fun _ _ _ h => h) (Or.inr ⟨by rfl, rfl⟩) (by assumption) ?_
          simp only [Act.put, List.getElem_toArray, List.getElem_cons_zero, List.getElem_cons_succ, List.setIfInBounds_toArray, List.set_cons_zero, List.set_cons_succ]
          refine wpAnyH_take (i := 6) (v := undef) rfl (by kernel_rfl) (by kernel_rfl) (by kernel_rfl) (fun _ _ _ h => h) (Or.inr ⟨by rfl, rfl⟩) (by assumption) ?_
          simp only [Act.put, List.getElem_toArray, List.getElem_cons_zero, List.getElem_cons_succ, List.setIfInBounds_toArray, List.set_cons_zero, List.set_cons_succ]
          refine wpAnyH_take (i := 7) (v := undef) rfl (by kernel_rfl) (by kernel_rfl) (by kernel_rfl) (fun _ _ _ h => h) (Or.inr ⟨by rfl, rfl⟩) (by assumption) ?_
          simp only [Act.put, List.getElem_toArray, List.getElem_cons_zero, List.getElem_cons_succ, List.setIfInBounds_toArray, List.set_cons_zero, List.set_cons_succ]
          refine wpAnyH_take (i := 8) (v := undef) rfl (by kernel_rfl) (by kernel_rfl) (by kernel_rfl) (fun _ _ _ h => h) (Or.inr ⟨by rfl, rfl⟩) (by assumption) ?_
          simp only [Act.put, List.getElem_toArray, List.getElem_cons_zero, List.getElem_cons_succ, List.setIfInBounds_toArray, List.set_cons_zero, List.set_cons_succ]
          refine wpAnyH_take (i := 9) (v := undef) rfl (by kernel_rfl) (by kernel_rfl) (by kernel_rfl) (fun _ _ _ h => h) (Or.inr ⟨by rfl, rfl⟩) (by assumption) ?_
          simp only [Act.put, List.getElem_toArray, List.getElem_cons_zero, List.getElem_cons_succ, List.setIfInBounds_toArray, List.set_cons_zero, List.set_cons_succ]
          refine wpAnyH_take (i := 10) (v := ?_) rfl (by kernel_rfl) (by kernel_rfl) (by kernel_rfl) (fun _ _ _ h => h) (Or.inl ⟨by kernel_rfl, ?_⟩) (by assumption) ?_
          rotate_left
          · (intro w hSw; (try dsimp only at hSw); go_simp; try with_reducible rfl)
          simp only [Act.put, List.getElem_toArray, List.getElem_cons_zero, List.getElem_cons_succ, List.setIfInBounds_toArray, List.set_cons_zero, List.set_cons_succ]
          refine wpAnyH_done (by kernel_rfl) ?_ _
          refine NoPanic.normal ?_
          replace HX := Lib.hid (HX.out.none HK0.out)
          clear HS HK0 lp lx ly
          obtain ⟨x0, x1, _, _, lx⟩ := two_cells HX.out.x
          obtain ⟨y0, y1, _, _, ly⟩ := two_cells HX.out.y
          obtain ⟨z0, z1, _, _, lz⟩ := two_cells HX.out.z
          go_wp2_with fail
          refine (gturn_any a b 4 _ (by decide)).mono ?_
          rintro e1 w2 ⟨rfl, k2⟩
          rw [if_pos HRA.out, show turnN (turns 4) (a, b) = (a, b) from rfl]
          replace HX := Lib.hid ((HX.out.none k2).none ((Keeps.refl _ _).alloc (.cells #[.int .i64 a, .int .i64 b] 24)))
          have he := (eqN_iff a b a b).2 ⟨rfl, rfl⟩
          clear k2
          clear x0 x1 lx y0 y1 ly z0 z1 lz
          obtain ⟨x0, x1, _, _, lx⟩ := two_cells HX.out.x
          obtain ⟨y0, y1, _, _, ly⟩ := two_cells HX.out.y
          obtain ⟨z0, z1, _, _, lz⟩ := two_cells HX.out.z
          go_wp2_with fail
          refine (gcd_bad a b c d _ HNB2.out).mono ?_
          rintro e1 w2 ⟨rfl, k2⟩
          replace HX := Lib.hid ((HX.out.none k2).none ((Keeps.refl _ _).alloc (.cells #[.int .i64 0, .int .i64 0] 24)))
          clear k2
          clear x0 x1 lx y0 y1 ly z0 z1 lz
          obtain ⟨x0, x1, _, _, lx⟩ := two_cells HX.out.x
          obtain ⟨y0, y1, _, _, ly⟩ := two_cells HX.out.y
          obtain ⟨z0, z1, _, _, lz⟩ := two_cells HX.out.z
          go_wp2_with fail
          refine (norm_any a b _).mono ?_
          rintro e2 w3 ⟨rfl, k3⟩
          rw [if_pos HRA.out]
          replace HX := Lib.hid (HX.out.none k3)
          have dn : decide (a * a + b * b < 0) = false := decide_eq_false (by have h1 := z_sq a; have h2 := z_sq b; omega)
          clear k3
          clear x0 x1 lx y0 y1 ly z0 z1 lz
          obtain ⟨x0, x1, _, _, lx⟩ := two_cells HX.out.x
          obtain ⟨y0, y1, _, _, ly⟩ := two_cells HX.out.y
          obtain ⟨z0, z1, _, _, lz⟩ := two_cells HX.out.z
          go_wp2_with fail
          refine (norm_any c d _).mono ?_
          rintro e2 w4 ⟨rfl, k4⟩
          rw [if_neg HNC.out]
          replace HX := Lib.hid (HX.out.none k4)
          clear k4
          go_wp2_with fail
          refine (alive04_any' _).mono ?_
          rintro e9 w9 ⟨rfl, k9⟩
          replace HX := Lib.hid (HX.out.none k9)
          clear k9
          go_wp2
          go_ret
          exact ⟨rfl, HX.out.keeps⟩
        · have HNA := Lib.hid hra
          clear hb hra
          obtain ⟨x0, x1, _, _, lx⟩ := two_cells HX.out.x
          obtain ⟨y0, y1, _, _, ly⟩ := two_cells HX.out.y
          obtain ⟨z0, z1, _, _, lz⟩ := two_cells HX.out.z
          go_wp2_with fail
          refine (gdiv_bad a b c d _ HBAD.out).mono ?_
          rintro e1 w2 ⟨rfl, k2⟩
          replace HX := Lib.hid ((HX.out.none k2).none (two_heap w2 (.cells #[.int .i64 0, .int .i64 0] 24) (.cells #[.int .i64 0, .int .i64 0] 24)).2.2)
          clear k2
          clear x0 x1 lx y0 y1 ly z0 z1 lz
          obtain ⟨x0, x1, _, _, lx⟩ := two_cells HX.out.x
          obtain ⟨y0, y1, _, _, ly⟩ := two_cells HX.out.y
          obtain ⟨z0, z1, _, _, lz⟩ := two_cells HX.out.z
          go_wp2_with fail
          refine (gmul_any a b c d _).mono ?_
          rintro e1 w2 ⟨rfl, k2⟩
          rw [if_neg HNB.out]
          replace HX := Lib.hid (HX.out.none k2)
          have tp := heap_new w2 (.cells #[.int .i64 0, .int .i64 0] 24)
          replace HX := Lib.hid (HX.out.none ((Keeps.refl _ _).alloc (.cells #[.int .i64 0, .int .i64 0] 24)))
          clear x0 x1 lx y0 y1 ly z0 z1 lz
          obtain ⟨x0, x1, _, _, lx⟩ := two_cells HX.out.x
          obtain ⟨y0, y1, _, _, ly⟩ := two_cells HX.out.y
          obtain ⟨p0, p1, _, _, lp⟩ := two_cells tp
          have HS := Lib.hid (show ∀ w', Keeps (fun _ => False) (w2.alloc (.cells #[.int .i64 0, .int .i64 0] 24)) w' → w'.cell? ⟨w2.heap.size, 0, none⟩ = some (.int .i64 0) ∧ w'.cell? ⟨w2.heap.size, 1, none⟩ = some (.int .i64 0) ∧ w'.cell? ⟨X, 0, none⟩ = some (.int .i64 a) ∧ w'.cell? ⟨X, 1, none⟩ = some (.int .i64 b) ∧ w'.cell? ⟨Y, 0, none⟩ = some (.int .i64 c) ∧ w'.cell? ⟨Y, 1, none⟩ = some (.int .i64 d) from fun w' hw => ⟨(hw.none.cell (p := ⟨_, _, none⟩) lp).trans p0, (hw.none.cell (p := ⟨_, _, none⟩) lp).trans p1, (hw.none.cell (p := ⟨_, _, none⟩) lx).trans x0, (hw.none.cell (p := ⟨_, _, none⟩) lx).trans x1, (hw.none.cell (p := ⟨_, _, none⟩) ly).trans y0, (hw.none.cell (p := ⟨_, _, none⟩) ly).trans y1⟩)
          have HK0 := Lib.hid (show Keeps (fun _ => False) (w2.alloc (.cells #[.int .i64 0, .int .i64 0] 24)) (w2.alloc (.cells #[.int .i64 0, .int .i64 0] 24)).drew from (Keeps.refl _ _).drew)
          clear k2 tp
          go_wp2_with fail
          try clear hw3
          clear x0 x1 y0 y1 p0 p1
          refine wp_region_noPanic ?_
          refine wp_region_held_drew (S := (fun w' => w'.cell? ⟨w2.heap.size, 0, none⟩ = some (.int .i64 0) ∧ w'.cell? ⟨w2.heap.size, 1, none⟩ = some (.int .i64 0) ∧ w'.cell? ⟨X, 0, none⟩ = some (.int .i64 a) ∧ w'.cell? ⟨X, 1, none⟩ = some (.int .i64 b) ∧ w'.cell? ⟨Y, 0, none⟩ = some (.int .i64 c) ∧ w'.cell? ⟨Y, 1, none⟩ = some (.int .i64 d))) (by kernel_rfl) ?_ (fun hHeld => ?_)
          · exact HS.out _ HK0.out
          refine wpAnyH_take (i := 0) (v := ?_) rfl (by kernel_rfl) (by kernel_rfl) (by kernel_rfl) (fun _ _ _ h => h) (Or.inl ⟨by kernel_rfl, ?_⟩) (by assumption) ?_
          rotate_left
          · (intro w hSw; (try dsimp only at hSw); go_simp; try with_reducible rfl)
          simp only [Act.put, List.getElem_toArray, List.getElem_cons_zero, List.getElem_cons_succ, List.setIfInBounds_toArray, List.set_cons_zero, List.set_cons_succ]
          refine wpAnyH_take (i := 1) (v := ?_) rfl (by kernel_rfl) (by kernel_rfl) (by kernel_rfl) (fun _ _ _ h => h) (Or.inl ⟨by kernel_rfl, ?_⟩) (by assumption) ?_
          rotate_left
          · (intro w hSw; (try dsimp only at hSw); go_simp; try with_reducible rfl)
          simp only [Act.put, List.getElem_toArray, List.getElem_cons_zero, List.getElem_cons_succ, List.setIfInBounds_toArray, List.set_cons_zero, List.set_cons_succ]
          refine wpAnyH_take (i := 2) (v := undef) rfl (by kernel_rfl) (by kernel_rfl) (by kernel_rfl) (fun _ _ _ h => h) (Or.inr ⟨by rfl, rfl⟩) (by assumption) ?_
          simp only [Act.put, List.getElem_toArray, List.getElem_cons_zero, List.getElem_cons_succ, List.setIfInBounds_toArray, List.set_cons_zero, List.set_cons_succ]
          refine wpAnyH_take (i := 3) (v := undef) rfl (by kernel_rfl) (by kernel_rfl) (by kernel_rfl) (fun _ _ _ h => h) (Or.inr ⟨by rfl, rfl⟩) (by assumption) ?_
          simp only [Act.put, List.getElem_toArray, List.getElem_cons_zero, List.getElem_cons_succ, List.setIfInBounds_toArray, List.set_cons_zero, List.set_cons_succ]
          refine wpAnyH_take (i := 4) (v := undef) rfl (by kernel_rfl) (by kernel_rfl) (by kernel_rfl) (fun _ _ _ h => h) (Or.inr ⟨by rfl, rfl⟩) (by assumption) ?_
          simp only [Act.put, List.getElem_toArray, List.getElem_cons_zero, List.getElem_cons_succ, List.setIfInBounds_toArray, List.set_cons_zero, List.set_cons_succ]
          refine wpAnyH_take (i := 5) (v := undef) rfl (by kernel_rfl) (by kernel_rfl) (by kernel_rfl) (fun _ _ _ h => h) (Or.inr ⟨by rfl, rfl⟩) (by assumption) ?_
          simp only [Act.put, List.getElem_toArray, List.getElem_cons_zero, List.getElem_cons_succ, List.setIfInBounds_toArray, List.set_cons_zero, List.set_cons_succ]
          refine wpAnyH_take (i := 6) (v := undef) rfl (by kernel_rfl) (by kernel_rfl) (by kernel_rfl) (fun _ _ _ h => h) (Or.inr ⟨by rfl, rfl⟩) (by assumption) ?_
          simp only [Act.put, List.getElem_toArray, List.getElem_cons_zero, List.getElem_cons_succ, List.setIfInBounds_toArray, List.set_cons_zero, List.set_cons_succ]
          refine wpAnyH_take (i := 7) (v := undef) rfl (by kernel_rfl) (by kernel_rfl) (by kernel_rfl) (fun _ _ _ h => h) (Or.inr ⟨by rfl, rfl⟩) (by assumption) ?_
          simp only [Act.put, List.getElem_toArray, List.getElem_cons_zero, List.getElem_cons_succ, List.setIfInBounds_toArray, List.set_cons_zero, List.set_cons_succ]
          refine wpAnyH_take (i := 8) (v := undef) rfl (by kernel_rfl) (by kernel_rfl) (by kernel_rfl) (fun _ _ _ h => h) (Or.inr ⟨by rfl, rfl⟩) (by assumption) ?_
          simp only [Act.put, List.getElem_toArray, List.getElem_cons_zero, List.getElem_cons_succ, List.setIfInBounds_toArray, List.set_cons_zero, List.set_cons_succ]
          refine wpAnyH_take (i := 9) (v := undef) rfl (by kernel_rfl) (by kernel_rfl) (by kernel_rfl) (fun _ _ _ h => h) (Or.inr ⟨by rfl, rfl⟩) (by assumption) ?_
          simp only [Act.put, List.getElem_toArray, List.getElem_cons_zero, List.getElem_cons_succ, List.setIfInBounds_toArray, List.set_cons_zero, List.set_cons_succ]
          refine wpAnyH_take (i := 10) (v := ?_) rfl (by kernel_rfl) (by kernel_rfl) (by kernel_rfl) (fun _ _ _ h => h) (Or.inl ⟨by kernel_rfl, ?_⟩) (by assumption) ?_
          rotate_left
          · (intro w hSw; (try dsimp only at hSw); go_simp; try with_reducible rfl)
          simp only [Act.put, List.getElem_toArray, List.getElem_cons_zero, List.getElem_cons_succ, List.setIfInBounds_toArray, List.set_cons_zero, List.set_cons_succ]
          refine wpAnyH_done (by kernel_rfl) ?_ _
          refine NoPanic.normal ?_
          replace HX := Lib.hid (HX.out.none HK0.out)
          clear HS HK0 lp lx ly
          obtain ⟨x0, x1, _, _, lx⟩ := two_cells HX.out.x
          obtain ⟨y0, y1, _, _, ly⟩ := two_cells HX.out.y
          obtain ⟨z0, z1, _, _, lz⟩ := two_cells HX.out.z
          go_wp2_with fail
          refine (gturn_any a b 4 _ (by decide)).mono ?_
          rintro e1 w2 ⟨rfl, k2⟩
          rw [if_neg HNA.out]
          replace HX := Lib.hid ((HX.out.none k2).none ((Keeps.refl _ _).alloc (.cells #[.int .i64 0, .int .i64 0] 24)))
          have he := (eqN_iff a b a b).2 ⟨rfl, rfl⟩
          clear k2
          clear x0 x1 lx y0 y1 ly z0 z1 lz
          obtain ⟨x0, x1, _, _, lx⟩ := two_cells HX.out.x
          obtain ⟨y0, y1, _, _, ly⟩ := two_cells HX.out.y
          obtain ⟨z0, z1, _, _, lz⟩ := two_cells HX.out.z
          go_wp2_with fail
          refine (gcd_bad a b c d _ HNB2.out).mono ?_
          rintro e1 w2 ⟨rfl, k2⟩
          replace HX := Lib.hid ((HX.out.none k2).none ((Keeps.refl _ _).alloc (.cells #[.int .i64 0, .int .i64 0] 24)))
          clear k2
          clear x0 x1 lx y0 y1 ly z0 z1 lz
          obtain ⟨x0, x1, _, _, lx⟩ := two_cells HX.out.x
          obtain ⟨y0, y1, _, _, ly⟩ := two_cells HX.out.y
          obtain ⟨z0, z1, _, _, lz⟩ := two_cells HX.out.z
          go_wp2_with fail
          refine (norm_any a b _).mono ?_
          rintro e2 w3 ⟨rfl, k3⟩
          rw [if_neg HNA.out]
          replace HX := Lib.hid (HX.out.none k3)
          clear k3
          go_wp2_with fail
          refine (alive04_any' _).mono ?_
          rintro e9 w9 ⟨rfl, k9⟩
          replace HX := Lib.hid (HX.out.none k9)
          clear k9
          go_wp2
          go_ret
          exact ⟨rfl, HX.out.keeps⟩
  clear hK
  go_region
  all_goals
    first
      | exact REST _ _ _ _ ⟨(six _ _ _ _ _ _ _).2.2.2, (six _ _ _ _ _ _ _).1, (six _ _ _ _ _ _ _).2.1, (six _ _ _ _ _ _ _).2.2.1⟩
      | exact REST _ _ _ _ ⟨(six _ _ _ _ _ _ _).2.2.2, (six _ _ _ _ _ _ _).1, (six _ _ _ _ _ _ _).2.2.1, (six _ _ _ _ _ _ _).2.1⟩
      | exact REST _ _ _ _ ⟨(six _ _ _ _ _ _ _).2.2.2, (six _ _ _ _ _ _ _).2.1, (six _ _ _ _ _ _ _).1, (six _ _ _ _ _ _ _).2.2.1⟩
      | exact REST _ _ _ _ ⟨(six _ _ _ _ _ _ _).2.2.2, (six _ _ _ _ _ _ _).2.1, (six _ _ _ _ _ _ _).2.2.1, (six _ _ _ _ _ _ _).1⟩
      | exact REST _ _ _ _ ⟨(six _ _ _ _ _ _ _).2.2.2, (six _ _ _ _ _ _ _).2.2.1, (six _ _ _ _ _ _ _).1, (six _ _ _ _ _ _ _).2.1⟩
      | exact REST _ _ _ _ ⟨(six _ _ _ _ _ _ _).2.2.2, (six _ _ _ _ _ _ _).2.2.1, (six _ _ _ _ _ _ _).2.1, (six _ _ _ _ _ _ _).1⟩
end Go.Proofs.Ytccjbgjemfcedab
