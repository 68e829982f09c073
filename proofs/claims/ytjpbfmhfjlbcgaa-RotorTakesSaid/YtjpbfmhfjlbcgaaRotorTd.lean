import Derived.Test.YtjpbfmhfjlbcgaaRotorTc
namespace Go.Proofs.Ytjpbfmhfjlbcgaa
open Go.ChangeShapes Go.WideShapes Go.ChangeAt Go.RowKit
set_option linter.unusedVariables false
set_option linter.unusedSimpArgs false
theorem decode_pair {u v u' v' N : Int} (hv : 0 ≤ v ∧ v < N) (hv' : 0 ≤ v' ∧ v' < N) (h : u * N + v = u' * N + v') : u = u' ∧ v = v' := by
  have e1 : (u * N + v) % N = v := by rw [Int.add_comm, Int.add_mul_emod_self_right]; exact Int.emod_eq_of_lt hv.1 hv.2
  have e2 : (u' * N + v') % N = v' := by rw [Int.add_comm, Int.add_mul_emod_self_right]; exact Int.emod_eq_of_lt hv'.1 hv'.2
  rw [h, e2] at e1
  subst e1
  refine ⟨?_, rfl⟩
  have h2 : u * N = u' * N := by omega
  exact Int.eq_of_mul_eq_mul_right (by omega) h2
theorem fcycle_any (x y a b c d p : Int) (T L : Nat) (w : World) (hL : 0 < L) (hTL : T + L ≤ 1000000000) (h : rightR x y a b c d p = true)
    (horb : ∀ i j, Mv.it p ⟨a, b, c, d⟩ i (x, y) = Mv.it p ⟨a, b, c, d⟩ j (x, y) ↔ (i = j ∨ (T ≤ i ∧ T ≤ j) ∧ i % L = j % L)) :
    Calls Try.prog 18 #[.agg (rCells x y a b c d p)] w fun e w' => e = .returned (.tuple #[.int .i64 (T : Int), .int .i64 (L : Int), .bool true]) ∧ Keeps (fun _ => False) w w' := by
  obtain ⟨⟨hp1, hp2⟩, hx, hy, ha, hb, hc, hd⟩ := rightR_bds h
  obtain ⟨N, rfl⟩ : ∃ N : Nat, p = (N : Int) := ⟨p.toNat, by omega⟩
  have hi := fun i => Mv.it_in N ⟨a, b, c, d⟩ i (x, y) (by omega) ⟨hx, hy⟩
  have hr := fun i => rightR_it h i
  have hnx : ∀ j w, Calls Try.prog 9 #[.agg (rCells (Mv.it N ⟨a, b, c, d⟩ j (x, y)).1 (Mv.it N ⟨a, b, c, d⟩ j (x, y)).2 a b c d N)] w fun e w' => e = .returned (.tuple #[.agg (rCells (Mv.it N ⟨a, b, c, d⟩ (j + 1) (x, y)).1 (Mv.it N ⟨a, b, c, d⟩ (j + 1) (x, y)).2 a b c d N), .bool true]) ∧ Keeps (fun _ => False) w w' := fun j w => fnext_yes _ _ a b c d N w (hr j)
  obtain ⟨Z, hZ⟩ : ∃ Z : Nat → Int × Int, Z = fun i => Mv.it N ⟨a, b, c, d⟩ i (x, y) := ⟨_, rfl⟩
  have hZn : ∀ i, Mv.it N ⟨a, b, c, d⟩ i (x, y) = Z i := fun i => by rw [hZ]
  have hZ0 : Z 0 = (x, y) := by rw [hZ]; rfl
  clear hZ
  simp only [hZn] at horb hi hr hnx
  have hpos : ∀ j, 0 ≤ (Z j).1 * (N : Int) ∧ (Z j).1 * (N : Int) ≤ 1000000 := fun j => mul_lim (by have := (hi j).1; omega) ⟨by omega, by omega⟩
  have hup : ∀ j, (Z j).1 * (N : Int) + (Z j).2 < (N : Int) * (N : Int) := fun j => by
    have h1 := (hi j).1
    have h2 := (hi j).2
    have h3 := Int.mul_le_mul_of_nonneg_right (show (Z j).1 + 1 ≤ (N : Int) by omega) (show (0 : Int) ≤ (N : Int) by omega)
    rw [Int.add_mul, Int.one_mul] at h3
    omega
  have hdec : ∀ i j, ((Z i).1 * (N : Int) + (Z i).2).toNat = ((Z j).1 * (N : Int) + (Z j).2).toNat → Z i = Z j := fun i j e => by
    have h1 := (hi i).2
    have h2 := (hi j).2
    have h3 := hpos i
    have h4 := hpos j
    obtain ⟨e1, e2⟩ := decode_pair h1 h2 (show (Z i).1 * (N : Int) + (Z i).2 = (Z j).1 * (N : Int) + (Z j).2 by omega)
    exact Prod.ext e1 e2
  refine fcycle_words x y a b c d N T L w (by omega) hL hTL h Z hZ0 hr hnx (fun j => ((Z j).1 * (N : Int) + (Z j).2).toNat) (fun j => ?_) (fun j => ?_) (fun j hj k hk e => ?_) ?_ hpos
  · have h1 := hpos j
    have h2 := (hi j).2
    omega
  · have h1 := hup j
    have h3 := hpos j
    have h2 := (hi j).2
    rw [← Int.natCast_mul] at h1
    show ((Z j).1 * (N : Int) + (Z j).2).toNat < N * N
    omega
  · rcases (horb k j).1 (hdec k j e) with h1 | ⟨⟨h1, h2⟩, h3⟩
    · omega
    · have h4 : j = k + (j - k) := by omega
      have h5 : (j - k) % L = 0 := (Nat.sub_mod_eq_zero_of_mod_eq h3.symm)
      rw [Nat.mod_eq_of_lt (by omega)] at h5
      omega
  · show ((Z (T + L)).1 * (N : Int) + (Z (T + L)).2).toNat = ((Z T).1 * (N : Int) + (Z T).2).toNat
    rw [(horb (T + L) T).2 (.inr ⟨⟨by omega, by omega⟩, by simp⟩)]
end Go.Proofs.Ytjpbfmhfjlbcgaa
