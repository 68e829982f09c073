import Derived.Test.YtlpnobpgphmngaaGaussReckons
import Derived.Deep.RegionHeld3
namespace Go.Proofs.Ytlpnobpgphmngaa
open Go.ChangeShapes Go.WideShapes Go.ChangeAt Go.RowKit
set_option linter.unusedVariables false
set_option linter.unusedSimpArgs false
theorem pair_add (a b c d : Int) : ∃ (p q : Int) (r : Bool), (∀ w, Calls Try.prog 31 #[.agg #[.int .i64 a, .int .i64 b], .agg #[.int .i64 c, .int .i64 d]] w fun e w' => e = .returned (.tuple #[.agg #[.int .i64 p, .int .i64 q], .bool r]) ∧ Keeps (fun _ => False) w w') ∧
    (∀ w, Calls Try.prog 32 #[.agg #[.int .i64 a, .int .i64 b], .agg #[.int .i64 c, .int .i64 d]] w fun e w' => e = .returned (.tuple #[.agg #[.int .i64 p, .int .i64 q], .bool r]) ∧ Keeps (fun _ => False) w w') := by
  refine ⟨if ((rightB a b && rightB c d) && rightB (a + c) (b + d)) then a + c else 0, if ((rightB a b && rightB c d) && rightB (a + c) (b + d)) then b + d else 0, ((rightB a b && rightB c d) && rightB (a + c) (b + d)), fun w => (gadd_three a b c d w).mono fun e w' h => ?_, fun w => (radd_any a b c d w).mono fun e w' h => ?_⟩
  · obtain ⟨p, q, r, he, hr, hp, hq, hk⟩ := h
    subst hr; subst hp; subst hq
    exact ⟨he, hk⟩
  · obtain ⟨p, q, r, he, hr, hp, hq, hk⟩ := h
    subst hr; subst hp; subst hq
    exact ⟨he, hk⟩
theorem pair_mul (a b c d : Int) : ∃ (p q : Int) (r : Bool), (∀ w, Calls Try.prog 33 #[.agg #[.int .i64 a, .int .i64 b], .agg #[.int .i64 c, .int .i64 d]] w fun e w' => e = .returned (.tuple #[.agg #[.int .i64 p, .int .i64 q], .bool r]) ∧ Keeps (fun _ => False) w w') ∧
    (∀ w, Calls Try.prog 34 #[.agg #[.int .i64 a, .int .i64 b], .agg #[.int .i64 c, .int .i64 d]] w fun e w' => e = .returned (.tuple #[.agg #[.int .i64 p, .int .i64 q], .bool r]) ∧ Keeps (fun _ => False) w w') := by
  refine ⟨if ((rightB a b && rightB c d) && rightB (a * c - b * d) (a * d + b * c)) then a * c - b * d else 0, if ((rightB a b && rightB c d) && rightB (a * c - b * d) (a * d + b * c)) then a * d + b * c else 0, ((rightB a b && rightB c d) && rightB (a * c - b * d) (a * d + b * c)), fun w => (gmul_any a b c d w).mono fun e w' h => ?_, fun w => (rmul_any a b c d w).mono fun e w' h => ?_⟩
  · obtain ⟨he, hk⟩ := h
    refine ⟨?_, hk⟩
    rw [he]
    unfold toldA toldB
    cases rightB a b && rightB c d
    · simp
    · cases rightB (a * c - b * d) (a * d + b * c) <;> simp
  · obtain ⟨p, q, r, he, hr, hp, hq, hk⟩ := h
    subst hr; subst hp; subst hq
    exact ⟨he, hk⟩
theorem pair_turn (a b k : Int) (hk : -9223372036854775808 ≤ k ∧ k ≤ 9223372036854775807) : ∃ (p q : Int) (r : Bool), (∀ w, Calls Try.prog 35 #[.agg #[.int .i64 a, .int .i64 b], .int .i64 k] w fun e w' => e = .returned (.tuple #[.agg #[.int .i64 p, .int .i64 q], .bool r]) ∧ Keeps (fun _ => False) w w') ∧
    (∀ w, Calls Try.prog 36 #[.agg #[.int .i64 a, .int .i64 b], .int .i64 k] w fun e w' => e = .returned (.tuple #[.agg #[.int .i64 p, .int .i64 q], .bool r]) ∧ Keeps (fun _ => False) w w') := by
  cases h : rightB a b
  · exact ⟨0, 0, false, fun w => gturn_no a b k w h, fun w => rturn_no a b k w h⟩
  · exact ⟨_, _, true, fun w => gturn_yes a b k w h hk, fun w => rturn_yes a b k w h⟩
theorem pair_conj (a b : Int) : ∃ (p q : Int) (r : Bool), (∀ w, Calls Try.prog 37 #[.agg #[.int .i64 a, .int .i64 b]] w fun e w' => e = .returned (.tuple #[.agg #[.int .i64 p, .int .i64 q], .bool r]) ∧ Keeps (fun _ => False) w w') ∧
    (∀ w, Calls Try.prog 38 #[.agg #[.int .i64 a, .int .i64 b]] w fun e w' => e = .returned (.tuple #[.agg #[.int .i64 p, .int .i64 q], .bool r]) ∧ Keeps (fun _ => False) w w') := by
  cases h : rightB a b
  · exact ⟨0, 0, false, fun w => gconj_no a b w h, fun w => by have := rconj_any a b w; rw [h] at this; exact this⟩
  · exact ⟨_, _, true, fun w => gconj_yes a b w h, fun w => by have := rconj_any a b w; rw [h] at this; exact this⟩
theorem pair_sum (n : Nat) (F G : Nat → Int) (hn : n ≤ 9223372036854775807) : ∃ (p q : Int) (r : Bool), (∀ w l cap, RowP w l n F G → Calls Try.prog 39 #[.slice l n cap] w fun e w' => e = .returned (.tuple #[.agg #[.int .i64 p, .int .i64 q], .bool r]) ∧ Keeps (fun _ => False) w w') ∧
    (∀ w l cap, RowP w l n F G → Calls Try.prog 40 #[.slice l n cap] w fun e w' => e = .returned (.tuple #[.agg #[.int .i64 p, .int .i64 q], .bool r]) ∧ Keeps (fun _ => False) w w') := by
  cases h : sumS F G n with
  | none => exact ⟨0, 0, false, fun w l cap hr => by have := gsum_any l n cap F G w hn hr; rw [h] at this; exact this, fun w l cap hr => by have := rsum_any l n cap F G w hn hr; rw [h] at this; exact this⟩
  | some pq => exact ⟨pq.1, pq.2, true, fun w l cap hr => by have := gsum_any l n cap F G w hn hr; rw [h] at this; exact this, fun w l cap hr => by have := rsum_any l n cap F G w hn hr; rw [h] at this; exact this⟩
theorem pair_norm (a b : Int) : ∃ z : Int, (∀ w, Calls Try.prog 42 #[.agg #[.int .i64 a, .int .i64 b]] w fun e w' => e = .returned (.int .i64 z) ∧ Keeps (fun _ => False) w w') ∧ (∀ w, Calls Try.prog 43 #[.agg #[.int .i64 a, .int .i64 b]] w fun e w' => e = .returned (.int .i64 z) ∧ Keeps (fun _ => False) w w') :=
  ⟨_, fun w => norm_any a b w, fun w => rnorm_any a b w⟩
end Go.Proofs.Ytlpnobpgphmngaa
