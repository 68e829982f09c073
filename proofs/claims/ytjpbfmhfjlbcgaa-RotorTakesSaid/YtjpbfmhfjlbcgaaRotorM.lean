import Derived.WalkKit
namespace Go.Proofs.Ytjpbfmhfjlbcgaa
set_option linter.unusedVariables false
/-- A move of the plane: z becomes z times (a, b), plus (c, d), modulo p. -/
structure Mv where
  a : Int
  b : Int
  c : Int
  d : Int
def Mv.ap (p : Int) (m : Mv) (z : Int × Int) : Int × Int := ((z.1 * m.a - z.2 * m.b + m.c) % p, (z.1 * m.b + z.2 * m.a + m.d) % p)
def Mv.after (p : Int) (m f : Mv) : Mv := ⟨(f.a * m.a - f.b * m.b) % p, (f.a * m.b + f.b * m.a) % p, (f.c * m.a - f.d * m.b + m.c) % p, (f.c * m.b + f.d * m.a + m.d) % p⟩
theorem emod_same {A B p : Int} (K : Int) (h : A = B + p * K) : A % p = B % p := by rw [h, Int.add_mul_emod_self_left]
theorem poly_one (x y a b c a' b' c' d' d p k1 k2 k3 k5 k6 : Int) : x * (a' * a - b' * b - p * k1) - y * (a' * b + b' * a - p * k2) + (c' * a - d' * b + c - p * k3) = (x * a' - y * b' + c' - p * k5) * a - (x * b' + y * a' + d' - p * k6) * b + c + p * (k5 * a - k6 * b - x * k1 + y * k2 - k3) := by grind
theorem poly_two (x y a b d a' b' c' d' p k1 k2 k4 k5 k6 : Int) : x * (a' * b + b' * a - p * k2) + y * (a' * a - b' * b - p * k1) + (c' * b + d' * a + d - p * k4) = (x * a' - y * b' + c' - p * k5) * b + (x * b' + y * a' + d' - p * k6) * a + d + p * (k5 * b + k6 * a - x * k2 - y * k1 - k4) := by grind
theorem emod_eq_sub (n p : Int) : n % p = n - p * (n / p) := by
  have := Int.mul_ediv_add_emod n p
  omega
theorem Mv.after_ap (p : Int) (m f : Mv) (z : Int × Int) : (m.after p f).ap p z = m.ap p (f.ap p z) := by
  obtain ⟨x, y⟩ := z
  obtain ⟨a, b, c, d⟩ := m
  obtain ⟨a', b', c', d'⟩ := f
  simp only [Mv.ap, Mv.after]
  rw [emod_eq_sub (a' * a - b' * b) p, emod_eq_sub (a' * b + b' * a) p, emod_eq_sub (c' * a - d' * b + c) p, emod_eq_sub (c' * b + d' * a + d) p, emod_eq_sub (x * a' - y * b' + c') p, emod_eq_sub (x * b' + y * a' + d') p]
  refine Prod.ext ?_ ?_
  · exact emod_same _ (poly_one x y a b c a' b' c' d' d p _ _ _ _ _)
  · exact emod_same _ (poly_two x y a b d a' b' c' d' p _ _ _ _ _)
/-- A move, n times. -/
def Mv.it (p : Int) (m : Mv) : Nat → Int × Int → Int × Int
  | 0, z => z
  | n + 1, z => m.ap p (m.it p n z)
theorem Mv.it_ap (p : Int) (m : Mv) (n : Nat) (z : Int × Int) : m.it p n (m.ap p z) = m.ap p (m.it p n z) := by
  induction n with
  | zero => rfl
  | succ n ih => rw [Mv.it, Mv.it, ih]
theorem Mv.it_twice (p : Int) (m : Mv) (n : Nat) (z : Int × Int) : (m.after p m).it p n z = m.it p (2 * n) z := by
  induction n with
  | zero => rfl
  | succ n ih =>
    rw [Mv.it, ih, Mv.after_ap, show 2 * (n + 1) = 2 * n + 1 + 1 by omega, Mv.it, Mv.it]
def InP (p : Int) (z : Int × Int) : Prop := (0 ≤ z.1 ∧ z.1 < p) ∧ (0 ≤ z.2 ∧ z.2 < p)
theorem Mv.ap_in (p : Int) (m : Mv) (z : Int × Int) (hp : 0 < p) : InP p (m.ap p z) :=
  ⟨⟨Int.emod_nonneg _ (by omega), Int.emod_lt_of_pos _ hp⟩, ⟨Int.emod_nonneg _ (by omega), Int.emod_lt_of_pos _ hp⟩⟩
theorem Mv.it_in (p : Int) (m : Mv) (n : Nat) (z : Int × Int) (hp : 0 < p) (hz : InP p z) : InP p (m.it p n z) := by
  cases n with
  | zero => exact hz
  | succ n => exact Mv.ap_in p m _ hp
structure Mv.In (m : Mv) : Prop where
  a : 0 ≤ m.a ∧ m.a ≤ 1000
  b : 0 ≤ m.b ∧ m.b ≤ 1000
  c : 0 ≤ m.c ∧ m.c ≤ 1000
  d : 0 ≤ m.d ∧ m.d ≤ 1000
theorem emod_lim (n p : Int) (hp : 0 < p ∧ p ≤ 1000) : 0 ≤ n % p ∧ n % p ≤ 1000 := by
  have h1 := Int.emod_nonneg n (show p ≠ 0 by omega)
  have h2 := Int.emod_lt_of_pos n hp.1
  omega
theorem Mv.after_in (p : Int) (m f : Mv) (hp : 0 < p ∧ p ≤ 1000) : (m.after p f).In := ⟨emod_lim _ p hp, emod_lim _ p hp, emod_lim _ p hp, emod_lim _ p hp⟩
def Mv.one : Mv := ⟨1, 0, 0, 0⟩
theorem Mv.one_ap (p : Int) (z : Int × Int) (hz : InP p z) : Mv.one.ap p z = z := by
  obtain ⟨x, y⟩ := z
  obtain ⟨⟨h1, h2⟩, h3, h4⟩ := hz
  simp only [Mv.ap, Mv.one, Int.mul_one, Int.mul_zero, Int.sub_zero, Int.add_zero, Int.zero_add]
  exact Prod.ext (Int.emod_eq_of_lt h1 h2) (Int.emod_eq_of_lt h3 h4)
/-- The loop's step: the moves of an odd and of an even number of turns. -/
theorem Mv.odd (p : Int) (T A : Mv) (m : Nat) (z : Int × Int) (h : m % 2 = 1) : (T.after p T).it p (m / 2) ((T.after p A).ap p z) = T.it p m (A.ap p z) := by
  rw [Mv.it_twice, Mv.after_ap, Mv.it_ap]
  show T.it p (2 * (m / 2) + 1) (A.ap p z) = _
  rw [show 2 * (m / 2) + 1 = m by omega]
theorem Mv.even (p : Int) (T A : Mv) (m : Nat) (z : Int × Int) (h : m % 2 = 0) : (T.after p T).it p (m / 2) (A.ap p z) = T.it p m (A.ap p z) := by
  rw [Mv.it_twice, show 2 * (m / 2) = m by omega]
/-- May a rotor be? -/
def rightR (x y a b c d p : Int) : Bool := decide ((2 ≤ p ∧ p ≤ 1000) ∧ (0 ≤ x ∧ x < p) ∧ (0 ≤ y ∧ y < p) ∧ (0 ≤ a ∧ a < p) ∧ (0 ≤ b ∧ b < p) ∧ (0 ≤ c ∧ c < p) ∧ (0 ≤ d ∧ d < p))
theorem rightR_bds {x y a b c d p : Int} (h : rightR x y a b c d p = true) : (2 ≤ p ∧ p ≤ 1000) ∧ (0 ≤ x ∧ x < p) ∧ (0 ≤ y ∧ y < p) ∧ (0 ≤ a ∧ a < p) ∧ (0 ≤ b ∧ b < p) ∧ (0 ≤ c ∧ c < p) ∧ (0 ≤ d ∧ d < p) := of_decide_eq_true h
end Go.Proofs.Ytjpbfmhfjlbcgaa
