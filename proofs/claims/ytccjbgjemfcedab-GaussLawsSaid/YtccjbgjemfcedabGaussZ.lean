namespace Go.Proofs.Ytccjbgjemfcedab
set_option linter.unusedVariables false
theorem z_id1 (a b c d : Int) : (a * c - b * -d) * (a * c - b * -d) + (a * -d + b * c) * (a * -d + b * c) = (a * a + b * b) * (c * c + d * d) := by grind
theorem z_id2 (a b c d p q : Int) : ((a - (p * c - q * d)) * (a - (p * c - q * d)) + (b - (p * d + q * c)) * (b - (p * d + q * c))) * (c * c + d * d) =
    ((a * c - b * -d) - p * (c * c + d * d)) * ((a * c - b * -d) - p * (c * c + d * d)) + ((a * -d + b * c) - q * (c * c + d * d)) * ((a * -d + b * c) - q * (c * c + d * d)) := by grind
theorem z_id3 (k l c d : Int) : (k * c - l * d) * (k * c - l * d) + (k * d + l * c) * (k * d + l * c) = (k * k + l * l) * (c * c + d * d) := by grind
theorem z_lin1 (k l p q c d : Int) : (k * c - l * d) - (p * c - q * d) = (k - p) * c - (l - q) * d := by grind
theorem z_lin2 (k l p q c d : Int) : (k * d + l * c) - (p * d + q * c) = (k - p) * d + (l - q) * c := by grind
theorem z_lt (a b : Int) : a < b ∨ b ≤ a := by omega
theorem z_sq (x : Int) : 0 ≤ x * x := by
  rcases Int.le_total 0 x with h | h
  · exact Int.mul_nonneg h h
  · exact Int.mul_nonneg_of_nonpos_of_nonpos h h
theorem z_sq_zero {x : Int} (h : x * x = 0) : x = 0 := by
  rcases Int.mul_eq_zero.1 h with h | h <;> exact h
theorem z_sq_pos {x : Int} (h : x ≠ 0) : 1 ≤ x * x := by
  have := z_sq x
  have : x * x ≠ 0 := fun e => h (z_sq_zero e)
  omega
theorem z_abs {x y : Int} (hy : 0 ≤ y) (h : x * x ≤ y * y) : -y ≤ x ∧ x ≤ y := by
  have key : ∀ t : Int, t * t ≤ y * y → t ≤ y := by
    intro t ht
    rcases z_lt y t with h1 | h1
    · have h2 : y * y < t * t := Int.lt_of_le_of_lt (Int.mul_le_mul_of_nonneg_left (Int.le_of_lt h1) hy) (Int.mul_lt_mul_of_pos_right h1 (by omega))
      omega
    · exact h1
  have h1 := key x h
  have h2 := key (-x) (by rw [Int.neg_mul_neg]; exact h)
  omega
theorem z_sq_le {x M : Int} (h : -M ≤ x ∧ x ≤ M) : x * x ≤ M * M := by
  rcases Int.le_total 0 x with h1 | h1
  · exact Int.mul_le_mul h.2 h.2 h1 (by omega)
  · have := Int.mul_le_mul (a := -x) (b := -x) (c := M) (d := M) (by omega) (by omega) (by omega) (by omega)
    have e : -x * -x = x * x := Int.neg_mul_neg x x
    omega
/-- The half of a whole, squared, twice. -/
theorem z_half {u N : Int} (h1 : -N ≤ 2 * u) (h2 : 2 * u ≤ N) : 4 * (u * u) ≤ N * N := by
  have := z_sq_le (x := 2 * u) (M := N) ⟨h1, h2⟩
  have e : 2 * u * (2 * u) = 4 * (u * u) := by grind
  omega
theorem z_round (P N p : Int) (hN : 0 < N) (hp : (2 * P + N) / (2 * N) = p) : -N ≤ 2 * (P - p * N) ∧ 2 * (P - p * N) ≤ N := by
  have h1 := Int.mul_ediv_self_le (x := 2 * P + N) (k := 2 * N) (by omega)
  have h2 := Int.lt_mul_ediv_self_add (x := 2 * P + N) (k := 2 * N) (by omega)
  rw [hp] at h1 h2
  have e : 2 * N * p = 2 * (p * N) := by grind
  rw [e] at h1 h2
  omega
theorem z_quo {P N p M : Int} (hN : 0 < N) (hM : 0 ≤ M) (hP : -(M * N) ≤ P ∧ P ≤ M * N) (hp : (2 * P + N) / (2 * N) = p) : -M ≤ p ∧ p ≤ M := by
  obtain ⟨h1, h2⟩ := z_round P N p hN hp
  constructor
  · rcases z_lt p (-M) with h | h
    · exfalso
      have : (p + M + 1) * N ≤ 0 := Int.mul_nonpos_of_nonpos_of_nonneg (by omega) (by omega)
      have e : (p + M + 1) * N = p * N + M * N + N := by grind
      omega
    · exact h
  · rcases z_lt M p with h | h
    · exfalso
      have : 0 ≤ (p - M - 1) * N := Int.mul_nonneg (by omega) (by omega)
      have e : (p - M - 1) * N = p * N - M * N - N := by grind
      omega
    · exact h
def inR (a : Int) : Prop := -1048576 ≤ a ∧ a ≤ 1048576
theorem z_dot {a b c d : Int} (ha : inR a) (hb : inR b) (hc : inR c) (hd : inR d) (hn : ¬ (c = 0 ∧ d = 0)) :
    0 < c * c + d * d ∧ c * c + d * d ≤ 2199023255552 ∧ (-(1048576 * (c * c + d * d)) ≤ a * c - b * -d ∧ a * c - b * -d ≤ 1048576 * (c * c + d * d)) ∧ (-(1048576 * (c * c + d * d)) ≤ a * -d + b * c ∧ a * -d + b * c ≤ 1048576 * (c * c + d * d)) := by
  have sc := z_sq c
  have sd := z_sq d
  have hpos : 0 < c * c + d * d := by
    rcases z_lt 0 (c * c + d * d) with h | h
    · exact h
    · exact absurd ⟨z_sq_zero (by omega), z_sq_zero (by omega)⟩ hn
  have bc := z_sq_le hc
  have bd := z_sq_le hd
  have ba := z_sq_le ha
  have bb := z_sq_le hb
  refine ⟨hpos, by omega, ?_⟩
  have hid := z_id1 a b c d
  have s1 := z_sq (a * c - b * -d)
  have s2 := z_sq (a * -d + b * c)
  rcases z_lt (c * c + d * d) 2 with h1 | h2
  · have hcd : (c = 0 ∧ (d = 1 ∨ d = -1)) ∨ (d = 0 ∧ (c = 1 ∨ c = -1)) := by
      have h3 : -1 ≤ c ∧ c ≤ 1 := z_abs (by omega) (by omega)
      have h4 : -1 ≤ d ∧ d ≤ 1 := z_abs (by omega) (by omega)
      have h5 : c = -1 ∨ c = 0 ∨ c = 1 := by omega
      have h6 : d = -1 ∨ d = 0 ∨ d = 1 := by omega
      rcases h5 with rfl | rfl | rfl <;> rcases h6 with rfl | rfl | rfl <;> simp at h1 hpos ⊢
    unfold inR at ha hb
    rcases hcd with ⟨rfl, rfl | rfl⟩ | ⟨rfl, rfl | rfl⟩ <;> constructor <;> omega
  · have hle : (a * a + b * b) * (c * c + d * d) ≤ (1048576 * (c * c + d * d)) * (1048576 * (c * c + d * d)) := by
      generalize c * c + d * d = N at *
      have e : (1048576 * N) * (1048576 * N) = (1099511627776 * N) * N := by grind
      rw [e]
      exact Int.mul_le_mul_of_nonneg_right (by omega) (by omega)
    have hnn : 0 ≤ 1048576 * (c * c + d * d) := by omega
    exact ⟨z_abs hnn (by omega), z_abs hnn (by omega)⟩
/-- What a division of numbers in range gives. -/
theorem z_div {a b c d N P Q p q : Int} (ha : inR a) (hb : inR b) (hc : inR c) (hd : inR d) (hn : ¬ (c = 0 ∧ d = 0)) (hN : c * c + d * d = N) (hP : a * c - b * -d = P) (hQ : a * -d + b * c = Q)
    (hp : (2 * P + N) / (2 * N) = p) (hq : (2 * Q + N) / (2 * N) = q) :
    0 < N ∧ N ≤ 2199023255552 ∧ P.natAbs ≤ 4398046511104 ∧ Q.natAbs ≤ 4398046511104 ∧ inR p ∧ inR q ∧ 2 * ((a - (p * c - q * d)) * (a - (p * c - q * d)) + (b - (p * d + q * c)) * (b - (p * d + q * c))) ≤ N ∧ inR (a - (p * c - q * d)) ∧ inR (b - (p * d + q * c)) := by
  obtain ⟨h1, h2, h3, h4⟩ := z_dot ha hb hc hd hn
  have hid := z_id2 a b c d p q
  have hid1 := z_id1 a b c d
  have ba := z_sq_le ha
  have bb := z_sq_le hb
  rw [hN, hP, hQ] at hid
  rw [hN, hP, hQ] at hid1
  rw [hN] at h1 h2 h3 h4
  rw [hP] at h3
  rw [hQ] at h4
  have hp' := z_quo h1 (by omega) h3 hp
  have hq' := z_quo h1 (by omega) h4 hq
  obtain ⟨u1, u2⟩ := z_round P N p h1 hp
  obtain ⟨v1, v2⟩ := z_round Q N q h1 hq
  have hu := z_half u1 u2
  have hv := z_half v1 v2
  generalize P - p * N = u at *
  generalize Q - q * N = v at *
  generalize hr : a - (p * c - q * d) = r at *
  generalize hs : b - (p * d + q * c) = s at *
  have hrs : 2 * (r * r + s * s) ≤ N := by
    rcases z_lt N (2 * (r * r + s * s)) with h | h
    · exfalso
      have h9 : (N + 1) * N ≤ 2 * (r * r + s * s) * N := Int.mul_le_mul_of_nonneg_right (by omega) (by omega)
      have e1 : 2 * (r * r + s * s) * N = 2 * ((r * r + s * s) * N) := by grind
      have e2 : (N + 1) * N = N * N + N := by grind
      omega
    · exact h
  have sr := z_sq r
  have ss := z_sq s
  have bP : P.natAbs ≤ 4398046511104 := by
    have hPP : -2199023255552 ≤ P ∧ P ≤ 2199023255552 := by
      refine z_abs (by omega) ?_
      have hQ2 := z_sq Q
      have : (a * a + b * b) * N ≤ 2199023255552 * 2199023255552 := Int.mul_le_mul (by omega) h2 (by omega) (by omega)
      omega
    omega
  have bQ : Q.natAbs ≤ 4398046511104 := by
    have hPP : -2199023255552 ≤ Q ∧ Q ≤ 2199023255552 := by
      refine z_abs (by omega) ?_
      have hQ2 := z_sq P
      have : (a * a + b * b) * N ≤ 2199023255552 * 2199023255552 := Int.mul_le_mul (by omega) h2 (by omega) (by omega)
      omega
    omega
  exact ⟨h1, h2, bP, bQ, hp', hq', hrs, z_abs (by omega) (by omega), z_abs (by omega) (by omega)⟩
/-- c + di divides a + bi. -/
def Dvd (c d a b : Int) : Prop := ∃ k l : Int, a = k * c - l * d ∧ b = k * d + l * c
theorem z_exact {a b c d p q N : Int} (h : Dvd c d a b) (hN : c * c + d * d = N) (h0 : 0 < N)
    (hr : 2 * ((a - (p * c - q * d)) * (a - (p * c - q * d)) + (b - (p * d + q * c)) * (b - (p * d + q * c))) ≤ N) : a - (p * c - q * d) = 0 ∧ b - (p * d + q * c) = 0 := by
  obtain ⟨k, l, rfl, rfl⟩ := h
  rw [z_lin1, z_lin2] at hr ⊢
  have hid := z_id3 (k - p) (l - q) c d
  rw [hid, hN] at hr
  have s1 := z_sq (k - p)
  have s2 := z_sq (l - q)
  have hz : (k - p) * (k - p) + (l - q) * (l - q) = 0 := by
    rcases z_lt 0 ((k - p) * (k - p) + (l - q) * (l - q)) with h | h
    · exfalso
      have : 1 * N ≤ ((k - p) * (k - p) + (l - q) * (l - q)) * N := Int.mul_le_mul_of_nonneg_right (by omega) (by omega)
      omega
    · omega
  have e1 := z_sq_zero (show (k - p) * (k - p) = 0 by omega)
  have e2 := z_sq_zero (show (l - q) * (l - q) = 0 by omega)
  rw [e1, e2]
  simp
theorem dvd_of_rest {a b c d p q : Int} (h1 : a - (p * c - q * d) = 0) (h2 : b - (p * d + q * c) = 0) : Dvd c d a b := ⟨p, q, by omega, by omega⟩
theorem dvd_refl (a b : Int) : Dvd a b a b := ⟨1, 0, by simp, by simp⟩
theorem dvd_zero (a b : Int) : Dvd a b 0 0 := ⟨0, 0, by simp, by simp⟩
theorem dvd_trans {a b c d e f : Int} (h1 : Dvd a b c d) (h2 : Dvd c d e f) : Dvd a b e f := by
  obtain ⟨k, l, rfl, rfl⟩ := h1
  obtain ⟨m, n, rfl, rfl⟩ := h2
  exact ⟨m * k - n * l, m * l + n * k, by grind, by grind⟩
/-- The common divisors of a, b are those of b and the rest. -/
theorem dvd_step {x y a b c d p q r s : Int} (hr : a - (p * c - q * d) = r) (hs : b - (p * d + q * c) = s) : (Dvd x y a b ∧ Dvd x y c d) ↔ (Dvd x y c d ∧ Dvd x y r s) := by
  constructor
  · rintro ⟨⟨k, l, rfl, rfl⟩, ⟨m, n, rfl, rfl⟩⟩
    refine ⟨⟨m, n, rfl, rfl⟩, ⟨k - (p * m - q * n), l - (p * n + q * m), ?_, ?_⟩⟩
    · rw [← hr]; grind
    · rw [← hs]; grind
  · rintro ⟨⟨m, n, rfl, rfl⟩, ⟨k, l, h1, h2⟩⟩
    refine ⟨⟨k + (p * m - q * n), l + (p * n + q * m), ?_, ?_⟩, ⟨m, n, rfl, rfl⟩⟩
    · have : a = r + (p * (m * x - n * y) - q * (m * y + n * x)) := by omega
      rw [this, h1]; grind
    · have : b = s + (p * (m * y + n * x) + q * (m * x - n * y)) := by omega
      rw [this, h2]; grind
theorem dvd_turn (a b : Int) : Dvd a b (-b) a ∧ Dvd (-b) a a b := ⟨⟨0, 1, by simp, by simp⟩, ⟨0, -1, by simp, by simp⟩⟩
theorem z_norms (a b c d : Int) : (a * c - b * d) * (a * c - b * d) + (a * d + b * c) * (a * d + b * c) = (a * a + b * b) * (c * c + d * d) := by grind
end Go.Proofs.Ytccjbgjemfcedab
