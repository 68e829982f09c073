namespace Go.Proofs.Ytjpbfmhfjlbcgaa
set_option linter.unusedVariables false
/-- More letters than holes: two share one. -/
theorem pigeon : ∀ (N : Nat) (f : Nat → Nat), (∀ k, k ≤ N → f k < N) → ∃ i j, i < j ∧ j ≤ N ∧ f i = f j
  | 0, f, h => by have := h 0 (Nat.le_refl _); omega
  | N + 1, f, h => by
    by_cases hx : ∃ i, i ≤ N ∧ f i = f (N + 1)
    · obtain ⟨i, hi, he⟩ := hx
      exact ⟨i, N + 1, by omega, Nat.le_refl _, he⟩
    · have hne : ∀ i, i ≤ N → f i ≠ f (N + 1) := fun i hi he => hx ⟨i, hi, he⟩
      have hv := h (N + 1) (Nat.le_refl _)
      obtain ⟨i, j, hij, hj, he⟩ := pigeon N (fun k => if f (N + 1) < f k then f k - 1 else f k) (fun k hk => by
        have h1 := h k (by omega)
        have h2 := hne k hk
        show (if f (N + 1) < f k then f k - 1 else f k) < N
        split <;> omega)
      refine ⟨i, j, hij, by omega, ?_⟩
      have h1 := hne i (by omega)
      have h2 := hne j hj
      have he' : (if f (N + 1) < f i then f i - 1 else f i) = (if f (N + 1) < f j then f j - 1 else f j) := he
      split at he' <;> split at he' <;> omega
theorem least_nat {p : Nat → Prop} (h : ∃ m, p m) : ∃ m, p m ∧ ∀ k, p k → m ≤ k := by
  obtain ⟨m, hm⟩ := h
  induction m using Nat.strongRecOn with
  | _ m ih =>
    by_cases h : ∃ k, k < m ∧ p k
    · obtain ⟨k, hk, hp⟩ := h
      exact ih k hk hp
    · exact ⟨m, hm, fun k hk => by
        rcases Nat.lt_or_ge k m with h1 | h1
        · exact absurd ⟨k, h1, hk⟩ h
        · exact h1⟩
/-- An orbit that comes back: its tail and its loop. -/
theorem orbit {α : Type} (z : Nat → α) (hs : ∀ i j s, z i = z j → z (i + s) = z (j + s)) (N : Nat) (hN : ∃ i j, i < j ∧ j ≤ N ∧ z i = z j) :
    ∃ T L, 0 < L ∧ T + L ≤ N ∧ ∀ i j, z i = z j ↔ (i = j ∨ (T ≤ i ∧ T ≤ j) ∧ i % L = j % L) := by
  obtain ⟨i0, j0, hij, hj, he⟩ := hN
  obtain ⟨T, ⟨jT, hjT, heT⟩, hmin⟩ := least_nat (p := fun i => ∃ j, i < j ∧ z i = z j) ⟨i0, j0, hij, he⟩
  obtain ⟨L, ⟨hL0, hL⟩, hLmin⟩ := least_nat (p := fun d => 0 < d ∧ z T = z (T + d)) ⟨jT - T, by omega, by rw [show T + (jT - T) = jT by omega]; exact heT⟩
  have per : ∀ k i, T ≤ i → z (i + k * L) = z i := by
    intro k
    induction k with
    | zero => intro i _; rw [Nat.zero_mul, Nat.add_zero]
    | succ k ih =>
      intro i hi
      rw [Nat.succ_mul, ← Nat.add_assoc]
      have h1 := hs T (T + L) (i - T + k * L) hL
      rw [show T + (i - T + k * L) = i + k * L by omega, show T + L + (i - T + k * L) = i + k * L + L by omega] at h1
      rw [← h1]
      exact ih i hi
  -- whoever is met again lies behind the tail, and what is between is a number of loops
  have back : ∀ i d, 0 < d → z i = z (i + d) → T ≤ i ∧ z T = z (T + d) := by
    intro i d hd h
    have hT : T ≤ i := hmin i ⟨i + d, by omega, h⟩
    refine ⟨hT, ?_⟩
    have h1 : T + i * L ≥ i := by have := Nat.mul_le_mul_left i hL0; omega
    have h2 := hs i (i + d) (T + i * L - i) h
    rw [show i + (T + i * L - i) = T + i * L by omega, show i + d + (T + i * L - i) = T + d + i * L by omega, per i T (Nat.le_refl _), per i (T + d) (by omega)] at h2
    exact h2
  have loops : ∀ d, z T = z (T + d) → d % L = 0 := by
    intro d h
    have h1 : T + d = T + d % L + (d / L) * L := by have := Nat.div_add_mod d L; rw [Nat.mul_comm] at this; omega
    rw [h1, per (d / L) (T + d % L) (by omega)] at h
    rcases Nat.eq_zero_or_pos (d % L) with c | c
    · exact c
    · have h3 := hLmin (d % L) ⟨c, h⟩
      have h4 := Nat.mod_lt d hL0
      omega
  refine ⟨T, L, hL0, ?_, fun i j => ⟨fun h => ?_, ?_⟩⟩
  · have h1 := back i0 (j0 - i0) (by omega) (by rw [show i0 + (j0 - i0) = j0 by omega]; exact he)
    have h2 := hLmin (j0 - i0) ⟨by omega, h1.2⟩
    have h3 := h1.1
    omega
  · rcases Nat.lt_trichotomy i j with c | c | c
    · obtain ⟨h1, h2⟩ := back i (j - i) (by omega) (by rw [show i + (j - i) = j by omega]; exact h)
      have h3 := loops _ h2
      refine .inr ⟨⟨h1, by omega⟩, ?_⟩
      have : j = i + (j - i) := by omega
      rw [this, Nat.add_mod, h3, Nat.add_zero, Nat.mod_mod]
    · exact .inl c
    · obtain ⟨h1, h2⟩ := back j (i - j) (by omega) (by rw [show j + (i - j) = i by omega]; exact h.symm)
      have h3 := loops _ h2
      refine .inr ⟨⟨by omega, h1⟩, ?_⟩
      have : i = j + (i - j) := by omega
      rw [this, Nat.add_mod, h3, Nat.add_zero, Nat.mod_mod]
  · rintro (h | ⟨⟨h1, h2⟩, h3⟩)
    · rw [h]
    · rcases Nat.le_total i j with c | c
      · have h4 : (j - i) % L = 0 := Nat.sub_mod_eq_zero_of_mod_eq h3.symm
        have h5 : j = i + ((j - i) / L) * L := by have := Nat.div_add_mod (j - i) L; rw [Nat.mul_comm] at this; omega
        rw [h5, per _ i h1]
      · have h4 : (i - j) % L = 0 := Nat.sub_mod_eq_zero_of_mod_eq h3
        have h5 : i = j + ((i - j) / L) * L := by have := Nat.div_add_mod (i - j) L; rw [Nat.mul_comm] at this; omega
        rw [h5, per _ j h2]
end Go.Proofs.Ytjpbfmhfjlbcgaa
