import Derived.Test.YtccjbgjemfcedabGaussGc
namespace Go.Proofs.Ytccjbgjemfcedab
open Go.ChangeShapes Go.WideShapes Go.ChangeAt Go.RowKit
set_option linter.unusedVariables false
set_option linter.unusedSimpArgs false
attribute [local go_sem ↓ 2000] eqn
theorem eqN_iff (a b c d : Int) : eqN a b c d = true ↔ a = c ∧ b = d := by simp [eqN]
theorem gmul_point' (w : World) :
    Calls Try.prog 8 #[.agg #[.int .i64 1, .int .i64 2], .agg #[.int .i64 3, .int .i64 (-1)]] w fun e w' => e = .returned (.tuple #[.agg #[.int .i64 5, .int .i64 5], .bool true]) ∧ Keeps (fun _ => False) w w' := by
  refine (gmul_any 1 2 3 (-1) w).mono ?_
  rintro e w' ⟨rfl, k⟩
  exact ⟨rfl, k⟩
theorem gdiv_point' (w : World) :
    Calls Try.prog 6 #[.agg #[.int .i64 5, .int .i64 3], .agg #[.int .i64 2, .int .i64 1]] w fun e w' => e = .returned (.tuple #[.agg #[.int .i64 3, .int .i64 0], .agg #[.int .i64 (-1), .int .i64 0], .bool true]) ∧ Keeps (fun _ => False) w w' :=
  gdiv_of 5 3 2 1 5 13 1 3 0 (-1) 0 w (by decide) (by decide) (by decide) (by decide) (by decide) (by decide) (by decide) (by decide) (by decide) (by decide) (by decide) (by decide) (by decide) (by decide) (by decide) (by decide) (by decide) (by decide) (by decide)
set_option maxHeartbeats 1000000 in
theorem alive04_any' (w : World) :
    Calls Try.prog 11 #[] w fun e w' => e = .returned (.bool true) ∧ Keeps (fun _ => False) w w' := by
  have e1 : eqN 5 5 5 5 = true := rfl
  have e2 : eqN 3 0 3 0 = true := rfl
  have e3 : eqN (-1) 0 (-1) 0 = true := rfl
  go_enter Try.func11, Try.ntmps11
  go_wp2_with fail
  refine (gmul_point' _).mono ?_
  rintro e w1 ⟨rfl, k1⟩
  go_wp2_with fail
  refine (gdiv_point' _).mono ?_
  rintro e w2 ⟨rfl, k2⟩
  have K := Lib.hid ((k1.alloc (.cells #[.int .i64 5, .int .i64 5] 24)).trans k2)
  obtain ⟨h1, h2, _, _, l1⟩ := two_cells (k2.at (heap_new w1 (.cells #[.int .i64 5, .int .i64 5] 24)) fun h => h)
  clear k1 k2
  go_wp2
  go_ret
  exact ⟨rfl, (K.out.alloc _).alloc _⟩
set_option maxHeartbeats 1000000 in
theorem divides_any (c d a b : Int) (h1 : rightB c d = true) (h2 : rightB a b = true) : ∃ D : Bool, (D = true ↔ Dvd c d a b) ∧
    ∀ w, Calls Try.prog 12 #[.agg #[.int .i64 c, .int .i64 d], .agg #[.int .i64 a, .int .i64 b]] w fun e w' => e = .returned (.bool D) ∧ Keeps (fun _ => False) w w' := by
  by_cases hz : c = 0 ∧ d = 0
  · obtain ⟨rfl, rfl⟩ := hz
    refine ⟨eqN a b 0 0, ?_, fun w => ?_⟩
    · rw [eqN_iff]
      constructor
      · rintro ⟨rfl, rfl⟩; exact dvd_zero _ _
      · rintro ⟨k, l, h3, h4⟩; simp at h3 h4; exact ⟨h3, h4⟩
    · have he : eqN 0 0 0 0 = true := rfl
      clear h1 h2
      go_enter Try.func12, Try.ntmps12
      go_wp2
      go_ret
      exact ⟨rfl, ((Keeps.refl _ _).alloc _).alloc _⟩
  · obtain ⟨p, q, r, s, hdiv, hq1, hq2, hq3, hq4, hq5⟩ := gdivs a b c d h2 h1 hz
    have he : eqN c d 0 0 = false := by
      cases h : eqN c d 0 0 with
      | false => rfl
      | true => exact absurd ((eqN_iff _ _ _ _).1 h) hz
    refine ⟨eqN r s 0 0, ?_, fun w => ?_⟩
    · rw [eqN_iff]
      constructor
      · rintro ⟨rfl, rfl⟩; exact dvd_of_rest hq1 hq2
      · intro hd
        have hpos : 0 < c * c + d * d := by
          have h3 := z_sq c
          have h4 := z_sq d
          rcases z_lt 0 (c * c + d * d) with h | h
          · exact h
          · exact absurd ⟨z_sq_zero (by omega), z_sq_zero (by omega)⟩ hz
        have := z_exact hd rfl hpos (p := p) (q := q) (by rw [hq1, hq2]; exact hq3)
        rw [hq1, hq2] at this
        exact this
    · have HD := Lib.hid hdiv
      clear hdiv hq1 hq2 hq3 hq4 hq5 hz h1 h2
      go_enter Try.func12, Try.ntmps12
      go_wp2_with fail
      refine (HD.out _).mono ?_
      rintro e w2 ⟨rfl, k2⟩
      have HK := Lib.hid (((((Keeps.refl (fun _ => False) w).alloc (.cells #[.int .i64 c, .int .i64 d] 24)).alloc (.cells #[.int .i64 a, .int .i64 b] 24)).trans k2))
      clear k2
      go_wp2
      go_ret
      exact ⟨rfl, (HK.out.alloc _).alloc _⟩
end Go.Proofs.Ytccjbgjemfcedab
