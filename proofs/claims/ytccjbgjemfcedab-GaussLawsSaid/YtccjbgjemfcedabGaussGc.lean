import Derived.Test.YtccjbgjemfcedabGaussQt
namespace Go.Proofs.Ytccjbgjemfcedab
open Go.ChangeShapes Go.WideShapes Go.ChangeAt Go.RowKit
set_option linter.unusedVariables false
set_option linter.unusedSimpArgs false
attribute [local go_sem ↓ 2000] eqn
/-- (p, q) is a greatest common divisor of (a, b) and (c, d) that faces right, or up and right. -/
structure IsGcd (a b c d p q : Int) : Prop where
  right : rightB p q = true
  one : Dvd p q a b
  two : Dvd p q c d
  all : ∀ x y, Dvd x y a b → Dvd x y c d → Dvd x y p q
  face : (p = 0 ∧ q = 0) ∨ (0 < p ∧ 0 ≤ q)
theorem Boxes.turn {w w1 : World} {a b c d r s : Int} (h : Boxes w w1 a b c d) :
    Boxes w ((((w1.setCell ⟨w.heap.size, 0, Option.none⟩ (.int .i64 c)).setCell ⟨w.heap.size, 1, Option.none⟩ (.int .i64 d)).setCell ⟨w.heap.size + 1, 0, Option.none⟩ (.int .i64 r)).setCell ⟨w.heap.size + 1, 1, Option.none⟩ (.int .i64 s)) c d r s := by
  refine ⟨?_, ?_, ?_, ?_⟩
  · exact (((h.keeps.setCell (.inr (by simp)) _).setCell (.inr (by simp)) _).setCell (.inr (by simp)) _).setCell (.inr (by simp)) _
  · exact heap_other (heap_other (heap_set (heap_set h.one 0 _) 1 _) (by show w.heap.size ≠ w.heap.size + 1; omega) _) (by show w.heap.size ≠ w.heap.size + 1; omega) _
  · exact heap_set (heap_set (heap_other (heap_other h.two (by show w.heap.size + 1 ≠ w.heap.size; omega) _) (by show w.heap.size + 1 ≠ w.heap.size; omega) _) 0 _) 1 _
  · exact heap_other (heap_other (heap_other (heap_other h.res (by show w.heap.size + 1 + 1 ≠ w.heap.size; omega) _) (by show w.heap.size + 1 + 1 ≠ w.heap.size; omega) _) (by show w.heap.size + 1 + 1 ≠ w.heap.size + 1; omega) _) (by show w.heap.size + 1 + 1 ≠ w.heap.size + 1; omega) _
set_option maxHeartbeats 1000000 in
theorem gcd_bad (a b c d : Int) (w : World) (h : ¬ (rightB a b = true ∧ rightB c d = true)) :
    Calls Try.prog 10 #[.agg #[.int .i64 a, .int .i64 b], .agg #[.int .i64 c, .int .i64 d]] w fun e w' => e = .returned (.tuple #[.agg #[.int .i64 0, .int .i64 0], .bool false]) ∧ Keeps (fun _ => False) w w' := by
  have H0 := Lib.hid (Boxes.new w a b c d)
  cases e1 : rightB a b with
  | false =>
    have E1 := Lib.hid e1
    clear h e1
    go_enter Try.func10, Try.ntmps10
    go_wp2_with fail
    go_step3
    go_wp2_with fail
    refine (right_any _ _ _).mono ?_
    rintro e w1 ⟨rfl, k1⟩
    rw [E1.out]
    have H1 := Lib.hid (H0.out.none k1)
    obtain ⟨z0, z1, g0, g1, l3⟩ := two_cells H1.out.res
    clear k1 H0
    go_wp2
    try rw [Exit.noGoto_ret]
    try simp only [Exit.jump]
    have hr := heap_set (heap_set H1.out.res 0 (.int .i64 0)) 1 (.int .i64 0)
    have y0 := cell_of hr 0
    have y1 := cell_of hr 1
    refine bodyPost_ret (v := .tuple #[.agg #[.int .i64 0, .int .i64 0], .bool false]) ?_ rfl ⟨rfl, (H1.out.keeps.setCell (p := ⟨w.heap.size + 1 + 1, 0, none⟩) (.inr (by show w.heap.size ≤ w.heap.size + 1 + 1; omega)) _).setCell (p := ⟨w.heap.size + 1 + 1, 1, none⟩) (.inr (by show w.heap.size ≤ w.heap.size + 1 + 1; omega)) _⟩
    simp [results, Try.results10, go_sem, y0, y1]
  | true =>
    have E1 := Lib.hid e1
    have E2 := Lib.hid (show rightB c d = false by
      cases e2 : rightB c d with
      | false => rfl
      | true => exact absurd ⟨e1, e2⟩ h)
    clear h e1
    go_enter Try.func10, Try.ntmps10
    go_wp2_with fail
    go_step3
    go_wp2_with fail
    refine (right_any _ _ _).mono ?_
    rintro e w1 ⟨rfl, k1⟩
    rw [E1.out]
    have H1 := Lib.hid (H0.out.none k1)
    obtain ⟨y0, y1, _, _, l2⟩ := two_cells H1.out.two
    clear k1 H0
    go_wp2_with fail
    refine (right_any _ _ _).mono ?_
    rintro e w2 ⟨rfl, k2⟩
    rw [E2.out]
    have H2 := Lib.hid (H1.out.none k2)
    clear k2 H1 y0 y1 l2
    obtain ⟨z0, z1, g0, g1, l3⟩ := two_cells H2.out.res
    go_wp2
    try rw [Exit.noGoto_ret]
    try simp only [Exit.jump]
    have hr := heap_set (heap_set H2.out.res 0 (.int .i64 0)) 1 (.int .i64 0)
    have y0 := cell_of hr 0
    have y1 := cell_of hr 1
    refine bodyPost_ret (v := .tuple #[.agg #[.int .i64 0, .int .i64 0], .bool false]) ?_ rfl ⟨rfl, (H2.out.keeps.setCell (p := ⟨w.heap.size + 1 + 1, 0, none⟩) (.inr (by show w.heap.size ≤ w.heap.size + 1 + 1; omega)) _).setCell (p := ⟨w.heap.size + 1 + 1, 1, none⟩) (.inr (by show w.heap.size ≤ w.heap.size + 1 + 1; omega)) _⟩
    simp [results, Try.results10, go_sem, y0, y1]
set_option maxRecDepth 20000 in
set_option maxHeartbeats 2000000 in
theorem gcd_good (a b c d : Int) (w : World) (h1 : rightB a b = true) (h2 : rightB c d = true) :
    Calls Try.prog 10 #[.agg #[.int .i64 a, .int .i64 b], .agg #[.int .i64 c, .int .i64 d]] w fun e w' => ∃ p q : Int, e = .returned (.tuple #[.agg #[.int .i64 p, .int .i64 q], .bool true]) ∧ IsGcd a b c d p q ∧ Keeps (fun _ => False) w w' := by
  have H0 := Lib.hid (Boxes.new w a b c d)
  have E1 := Lib.hid h1
  have E2 := Lib.hid h2
  clear h1 h2
  go_enter Try.func10, Try.ntmps10
  go_wp2_with fail
  refine wp_scope_ghost 0 (fun m a' w' => ∃ (e f g i : Int) (u6 u7 u8 u9 u10 u11 u12 u13 u14 u15 u16 u17 u18 u19 u20 u21 u22 u23 u24 u25 u26 u27 u28 u29 u30 u31 : Value), a' = { tmps := #[.agg #[.int .i64 a, .int .i64 b], .agg #[.int .i64 c, .int .i64 d], .pointer (some ⟨w.heap.size, 0, none⟩), .pointer (some ⟨w.heap.size + 1, 0, none⟩), .pointer (some ⟨w.heap.size + 1 + 1, 0, none⟩), .bool false, u6, u7, u8, u9, u10, u11, u12, u13, u14, u15, u16, u17, u18, u19, u20, u21, u22, u23, u24, u25, u26, u27, u28, u29, u30, u31], defers := [] } ∧ Boxes w w' e f g i ∧ rightB e f = true ∧ rightB g i = true ∧ (∀ x y, (Dvd x y e f ∧ Dvd x y g i) ↔ (Dvd x y a b ∧ Dvd x y c d)) ∧ (g * g + i * i).toNat = m) rfl ?_ ?_
  · rintro m a' w' ⟨e, f, g, i, u6, u7, u8, u9, u10, u11, u12, u13, u14, u15, u16, u17, u18, u19, u20, u21, u22, u23, u24, u25, u26, u27, u28, u29, u30, u31, rfl, hB, hr1, hr2, hdv, hm⟩
    have HB := Lib.hid hB
    obtain ⟨x0, x1, xf0, xf1, l1⟩ := two_cells hB.one
    obtain ⟨y0, y1, yf0, yf1, l2⟩ := two_cells hB.two
    obtain ⟨z0, z1, zf0, zf1, l3⟩ := two_cells hB.res
    by_cases hz : g = 0 ∧ i = 0
    · obtain ⟨rfl, rfl⟩ := hz
      have he : eqN 0 0 0 0 = true := rfl
      have HF := Lib.hid (And.intro hr1 hdv)
      by_cases hz2 : e = 0 ∧ f = 0
      · obtain ⟨rfl, rfl⟩ := hz2
        clear hB hr1 hr2 hdv hm
        go_wp2_with fail
        refine (quarter_zero _).mono ?_
        rintro e1 w2 ⟨rfl, k2⟩
        have H2 := Lib.hid (HB.out.none k2)
        obtain ⟨z0, z1, zf0, zf1, l3⟩ := two_cells H2.out.res
        clear k2
        go_wp2
        try rw [Exit.noGoto_ret]
        try simp only [Exit.jump]
        have hr := heap_set (heap_set H2.out.res 0 (.int .i64 0)) 1 (.int .i64 0)
        have q0 := cell_of hr 0
        have q1 := cell_of hr 1
        refine bodyPost_ret (v := .tuple #[.agg #[.int .i64 0, .int .i64 0], .bool true]) ?_ rfl ⟨0, 0, rfl, ⟨by decide, ((HF.out.2 0 0).1 ⟨dvd_zero _ _, dvd_zero _ _⟩).1, ((HF.out.2 0 0).1 ⟨dvd_zero _ _, dvd_zero _ _⟩).2, fun x y _ _ => dvd_zero _ _, .inl ⟨rfl, rfl⟩⟩, (H2.out.keeps.setCell (p := ⟨w.heap.size + 1 + 1, 0, none⟩) (.inr (by show w.heap.size ≤ w.heap.size + 1 + 1; omega)) _).setCell (p := ⟨w.heap.size + 1 + 1, 1, none⟩) (.inr (by show w.heap.size ≤ w.heap.size + 1 + 1; omega)) _⟩
        simp [results, Try.results10, go_sem, q0, q1]
      · have HQ := Lib.hid (fun w => quarter_walk e f w hr1 hz2)
        clear hB hr1 hr2 hdv hm hz2
        go_wp2_with fail
        refine (HQ.out _).mono ?_
        rintro e1 w2 ⟨p, q, rfl, hq1, hq2, hq3, hq4, hq5, k2⟩
        have H2 := Lib.hid (HB.out.none k2)
        have HG := Lib.hid (show IsGcd a b c d p q from ⟨hq1, ((HF.out.2 p q).1 ⟨hq2, dvd_zero _ _⟩).1, ((HF.out.2 p q).1 ⟨hq2, dvd_zero _ _⟩).2, fun x y h1 h2 => dvd_trans ((HF.out.2 x y).2 ⟨h1, h2⟩).1 hq3, .inr ⟨hq4, hq5⟩⟩)
        obtain ⟨z0, z1, zf0, zf1, l3⟩ := two_cells H2.out.res
        clear k2 hq1 hq2 hq3 hq4 hq5
        go_wp2
        try rw [Exit.noGoto_ret]
        try simp only [Exit.jump]
        have hr := heap_set (heap_set H2.out.res 0 (.int .i64 p)) 1 (.int .i64 q)
        have q0 := cell_of hr 0
        have q1 := cell_of hr 1
        refine bodyPost_ret (v := .tuple #[.agg #[.int .i64 p, .int .i64 q], .bool true]) ?_ rfl ⟨p, q, rfl, HG.out, (H2.out.keeps.setCell (p := ⟨w.heap.size + 1 + 1, 0, none⟩) (.inr (by show w.heap.size ≤ w.heap.size + 1 + 1; omega)) _).setCell (p := ⟨w.heap.size + 1 + 1, 1, none⟩) (.inr (by show w.heap.size ≤ w.heap.size + 1 + 1; omega)) _⟩
        simp [results, Try.results10, go_sem, q0, q1]
    · have he : eqN g i 0 0 = false := decide_eq_false hz
      obtain ⟨p, q, r, s, hdiv, hq1, hq2, hq3, hq4, hq5⟩ := gdivs e f g i hr1 hr2 hz
      have HD := Lib.hid hdiv
      have HF := Lib.hid (And.intro hr2 (And.intro hq4 (And.intro (fun x y => (dvd_step (x := x) (y := y) hq1 hq2).symm.trans (hdv x y)) (And.intro hq3 (And.intro hz hm)))))
      clear hB hr1 hr2 hdv hm hdiv hq1 hq2 hq3 hq4 hq5 hz
      go_wp2_with fail
      refine (HD.out _).mono ?_
      rintro e1 w2 ⟨rfl, k2⟩
      obtain ⟨w4, hw4⟩ : ∃ w4, (w2.alloc (.cells #[.int .i64 p, .int .i64 q] 24)).alloc (.cells #[.int .i64 r, .int .i64 s] 24) = w4 := ⟨_, rfl⟩
      have hB4 : Boxes w w4 e f g i := by rw [← hw4]; exact (HB.out.none k2).none (((Keeps.refl _ _).alloc _).alloc _)
      have hr4 : w4.heap[w2.heap.size + 1]? = some (.cells #[.int .i64 r, .int .i64 s] 24 (0, 0)) := by
        rw [← hw4]
        have := heap_new (w2.alloc (.cells #[.int .i64 p, .int .i64 q] 24)) (.cells #[.int .i64 r, .int .i64 s] 24)
        simpa using this
      obtain ⟨x0', x1', xf0', xf1', l1'⟩ := two_cells hB4.one
      obtain ⟨y0', y1', yf0', yf1', l2'⟩ := two_cells hB4.two
      obtain ⟨v0, v1, _, _, l4⟩ := two_cells hr4
      have HB4 := Lib.hid hB4
      have hsz := lt_of (HB.out.none k2).res
      have ne3 : ¬ w2.heap.size + 1 = w.heap.size := by omega
      have ne4 : ¬ w2.heap.size + 1 = w.heap.size + 1 := by omega
      have ne5 : ¬ w.heap.size = w2.heap.size + 1 := by omega
      have ne6 : ¬ w2.heap.size = w.heap.size := by omega
      have ne1 : ¬ w.heap.size = w.heap.size + 1 := by omega
      have ne2 : ¬ w.heap.size + 1 = w.heap.size := by omega
      clear hB4 hr4 k2 HB x0 x1 xf0 xf1 l1 y0 y1 yf0 yf1 l2 z0 z1 zf0 zf1 l3
      go_wp2_with fail
      try clear hw4
      go_region
      all_goals
        go_wp2
        go_step3
        refine ⟨rfl, (r * r + s * s).toNat, ?_, g, i, r, s, _, _, _, _, _, _, _, _, _, _, _, _, _, _, _, _, _, _, _, _, _, _, _, _, _, _, rfl, ?_, HF.out.1, HF.out.2.1, HF.out.2.2.1, rfl⟩
        · have h3 := HF.out.2.2.2.1
          have h5 := HF.out.2.2.2.2.2
          have hg0 := z_sq g
          have hi0 := z_sq i
          have hr0 := z_sq r
          have hs0 := z_sq s
          have hpos : 0 < g * g + i * i := by
            rcases z_lt 0 (g * g + i * i) with h | h
            · exact h
            · exact absurd ⟨z_sq_zero (by omega), z_sq_zero (by omega)⟩ HF.out.2.2.2.2.1
          omega
        · exact (HB4.out.turn (r := r) (s := s)).none (Keeps.refl _ _).drew
  · intro hpass
    have HP := Lib.hid hpass
    clear hpass
    go_wp2_with fail
    refine (right_any _ _ _).mono ?_
    rintro e w1 ⟨rfl, k1⟩
    rw [E1.out]
    have H1 := Lib.hid (H0.out.none k1)
    obtain ⟨y0, y1, _, _, l2⟩ := two_cells H1.out.two
    clear k1 H0
    go_wp2_with fail
    refine (right_any _ _ _).mono ?_
    rintro e w2 ⟨rfl, k2⟩
    rw [E2.out]
    have H2 := Lib.hid (H1.out.none k2)
    clear k2 H1 y0 y1 l2
    go_wp2_with fail
    go_step3
    rename_i K hK
    exact hK _ _ (HP.out _ _ _ ⟨a, b, c, d, _, _, _, _, _, _, _, _, _, _, _, _, _, _, _, _, _, _, _, _, _, _, _, _, _, _, rfl, H2.out, E1.out, E2.out, fun x y => Iff.rfl, rfl⟩)
end Go.Proofs.Ytccjbgjemfcedab
