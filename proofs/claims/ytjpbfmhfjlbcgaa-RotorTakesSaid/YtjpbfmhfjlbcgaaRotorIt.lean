import Derived.Test.YtjpbfmhfjlbcgaaRotorG
import Derived.Test.YtjpbfmhfjlbcgaaOrbit
namespace Go.Proofs.Ytjpbfmhfjlbcgaa
open Go.ChangeShapes Go.WideShapes Go.ChangeAt Go.RowKit
set_option linter.unusedVariables false
/-- The place of a point among the p times p. -/
theorem idx_inj {p : Int} {z z' : Int × Int} (hp : 0 < p) (h : InP p z) (h' : InP p z') (he : z.1.toNat * p.toNat + z.2.toNat = z'.1.toNat * p.toNat + z'.2.toNat) : z = z' := by
  obtain ⟨⟨a1, a2⟩, a3, a4⟩ := h
  obtain ⟨⟨b1, b2⟩, b3, b4⟩ := h'
  have hP : 0 < p.toNat := by omega
  have m1 : (z.1.toNat * p.toNat + z.2.toNat) / p.toNat = z.1.toNat := by
    rw [Nat.mul_comm, Nat.mul_add_div hP, Nat.div_eq_of_lt (by omega), Nat.add_zero]
  have m2 : (z'.1.toNat * p.toNat + z'.2.toNat) / p.toNat = z'.1.toNat := by
    rw [Nat.mul_comm, Nat.mul_add_div hP, Nat.div_eq_of_lt (by omega), Nat.add_zero]
  have e1 : z.1.toNat = z'.1.toNat := by rw [← m1, ← m2, he]
  have e2 : z.2.toNat = z'.2.toNat := by rw [e1] at he; omega
  exact Prod.ext (by omega) (by omega)
theorem it_orbit (p : Int) (F : Mv) (z : Int × Int) (hp : 0 < p) (hz : InP p z) :
    ∃ T L, 0 < L ∧ T + L ≤ p.toNat * p.toNat ∧ ∀ i j, F.it p i z = F.it p j z ↔ (i = j ∨ (T ≤ i ∧ T ≤ j) ∧ i % L = j % L) := by
  refine orbit (fun i => F.it p i z) (fun i j s h => ?_) (p.toNat * p.toNat) ?_
  · show F.it p (i + s) z = F.it p (j + s) z
    rw [Nat.add_comm i s, Nat.add_comm j s, Mv.it_add, Mv.it_add]
    exact congrArg _ h
  · obtain ⟨i, j, hij, hj, he⟩ := pigeon (p.toNat * p.toNat) (fun k => (F.it p k z).1.toNat * p.toNat + (F.it p k z).2.toNat) (fun k _ => by
      obtain ⟨⟨a1, a2⟩, a3, a4⟩ := Mv.it_in p F k z hp hz
      show (F.it p k z).1.toNat * p.toNat + (F.it p k z).2.toNat < p.toNat * p.toNat
      have h1 : (F.it p k z).1.toNat + 1 ≤ p.toNat := by omega
      have h2 := Nat.mul_le_mul_right p.toNat h1
      rw [Nat.add_mul, Nat.one_mul] at h2
      omega)
    exact ⟨i, j, hij, hj, idx_inj hp (Mv.it_in p F i z hp hz) (Mv.it_in p F j z hp hz) he⟩
end Go.Proofs.Ytjpbfmhfjlbcgaa
