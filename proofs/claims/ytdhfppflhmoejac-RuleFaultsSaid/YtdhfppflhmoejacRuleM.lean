import Derived.Test.YtdhfppflhmoejacRuleD
import Derived.Test.YtdhfppflhmoejacRuleL
namespace Go.Proofs.Ytdhfppflhmoejac
open Go.ChangeShapes Go.WideShapes Go.ChangeAt Go.RowKit
set_option linter.unusedVariables false
set_option linter.unusedSimpArgs false
theorem firstF_ifs (c : CfD) (x k o : Int) (v : Nat → Int) : firstF c x k o v = if chk1 c x = true then 1 else if chk2 x k = true then 11 else if chk3 k = true then 1 else if chk4 c k o = true then 4 else if chk5 k v = true then 2 else if chk6 c x k = true then 10 else objectF c x k o := by
  unfold firstF pickF whenF
  cases chk1 c x <;> cases chk2 x k <;> cases chk3 k <;> cases chk4 c k o <;> cases chk5 k v <;> cases chk6 c x k <;> simp
theorem objectF_range (c : CfD) (x k o : Int) : objectF c x k o = 0 ∨ objectF c x k o = 4 ∨ objectF c x k o = 12 ∨ objectF c x k o = 10 := by
  unfold objectF whenF
  repeat' split
  all_goals simp
theorem firstF_range (c : CfD) (x k o : Int) (v : Nat → Int) : firstF c x k o v = 0 ∨ firstF c x k o v = 1 ∨ firstF c x k o v = 11 ∨ firstF c x k o v = 4 ∨ firstF c x k o v = 2 ∨ firstF c x k o v = 12 ∨ firstF c x k o v = 10 := by
  rw [firstF_ifs]
  have h := objectF_range c x k o
  repeat' split
  all_goals omega
theorem own_of_right {c : CfD} (h : (badOf c).1 = 0) (i : Nat) (hi : i < c.nO) : objF c (c.ob i) = 0 := by
  have h4 : (bad4 c).1 = 0 := by
    have hz := badOf_zero c h
    unfold badOf at hz
    by_cases h1 : (bad1 c).1 = 0
    · by_cases h2 : (bad2 c).1 = 0
      · by_cases h3 : (bad3 c).1 = 0
        · rw [if_pos h1, if_pos h2, if_pos h3] at hz
          rw [hz]
        · rw [if_pos h1, if_pos h2, if_neg h3] at hz
          exact absurd (by rw [hz]) h3
      · rw [if_pos h1, if_neg h2] at hz
        exact absurd (by rw [hz]) h2
    · rw [if_neg h1] at hz
      exact absurd (by rw [hz]) h1
  unfold bad4 eachV at h4
  cases hf : firstN (fun i => objF c (c.ob i)) c.nO with
  | none => exact firstN_none hf i hi
  | some j =>
    rw [hf] at h4
    exact absurd h4 (firstN_some hf).2.1
theorem objF_zero {c : CfD} {o : Nat → Int} (h : objF c o = 0) : (1 ≤ o 0 ∧ o 0 ≤ 4) ∧ ownF c o = true := by
  unfold objF at h
  by_cases h1 : o 0 < 1 ∨ 4 < o 0
  · rw [if_pos h1] at h; exact absurd h (by decide)
  rw [if_neg h1] at h
  by_cases h2 : o 0 = 1 ∧ roomB (o 1) = false
  · rw [if_pos h2] at h; exact absurd h (by decide)
  rw [if_neg h2] at h
  by_cases h3 : rightS o = false
  · rw [if_pos h3] at h; exact absurd h (by decide)
  rw [if_neg h3] at h
  by_cases h4 : ownF c o = false
  · rw [if_pos h4] at h; exact absurd h (by decide)
  exact ⟨by omega, by simpa using h4⟩
theorem rule_law (c : CfD) (x k o : Int) (v : Nat → Int) (h : firstF c x k o v = 10) : k = 11 ∨ blocksF k = true ∨ ∃ i : Nat, o = (i : Int) ∧ i < c.nO ∧ ((k = 1 ∨ k = 3) ∧ x ≠ c.ob i 4 ∧ firstF c (c.ob i 4) k o v = 0 ∨ (k = 2 ∨ k = 4) ∧ x ≠ c.ob i 5 ∧ firstF c (c.ob i 5) k o v = 0) := by
  by_cases hk : k = 11
  · exact .inl hk
  by_cases hb : blocksF k = true
  · exact .inr (.inl hb)
  have hb' : blocksF k = false := by simpa using hb
  refine .inr (.inr ?_)
  rw [firstF_ifs] at h
  have h6 : ∀ y, chk6 c y k = false := fun y => by unfold chk6; simp [hk]
  have h2 : ∀ y, chk2 y k = false := fun y => by unfold chk2; simp [hb']
  cases h1 : chk1 c x
  case true => rw [h1] at h; simp at h
  cases h3 : chk3 k
  case true => rw [h1, h2, h3] at h; simp at h
  cases h4 : chk4 c k o
  case true => rw [h1, h2, h3, h4] at h; simp at h
  cases h5 : chk5 k v
  case true => rw [h1, h2, h3, h4, h5] at h; simp at h
  rw [h1, h2, h3, h4, h5, h6] at h
  simp only [Bool.false_eq_true, if_false] at h
  have hbad : (badOf c).1 = 0 := by
    unfold chk1 at h1
    simp at h1
    exact h1.1
  have hfin : ∀ y, hasF c y = true → objectF c y k o = 0 → firstF c y k o v = 0 := fun y hy ho => by
    rw [firstF_ifs, h2, h3, h4, h5, h6, ho]
    have : chk1 c y = false := by unfold chk1; simp [hbad, hy]
    rw [this]
    simp
  have hob : ∀ y, objectF c y k o = if needL k = [] then 0 else if o < 0 ∨ (c.nO : Int) ≤ o then 4 else if (needL k).contains (c.ob o.toNat 0) = false then 12 else if k = 1 ∨ k = 14 ∨ k = 3 then whenF (y != c.ob o.toNat 4) 10 else if k = 2 ∨ k = 15 ∨ k = 4 then whenF (y != c.ob o.toNat 5) 10 else 0 := fun y => rfl
  have hox := h
  rw [hob] at h
  by_cases g1 : needL k = []
  · rw [if_pos g1] at h; exact absurd h (by decide)
  rw [if_neg g1] at h
  by_cases g2 : o < 0 ∨ (c.nO : Int) ≤ o
  · rw [if_pos g2] at h; exact absurd h (by decide)
  rw [if_neg g2] at h
  by_cases g3 : (needL k).contains (c.ob o.toNat 0) = false
  · rw [if_pos g3] at h; exact absurd h (by decide)
  rw [if_neg g3] at h
  obtain ⟨i, rfl⟩ : ∃ i : Nat, o = (i : Int) := ⟨o.toNat, by omega⟩
  have hi : i < c.nO := by omega
  rw [Int.toNat_natCast] at h g3
  have hown := (objF_zero (own_of_right hbad i hi)).2
  unfold ownF at hown
  rw [Bool.and_eq_true] at hown
  refine ⟨i, rfl, hi, ?_⟩
  by_cases g4 : k = 1 ∨ k = 14 ∨ k = 3
  · rw [if_pos g4] at h
    have hne : x ≠ c.ob i 4 := by
      intro e
      rw [e] at h
      simp [whenF] at h
    have h14 : k ≠ 14 := by rintro rfl; exact absurd hb' (by decide)
    refine .inl ⟨by omega, hne, hfin _ ?_ ?_⟩
    · have hk4 : c.ob i 0 ≠ 4 := by
        intro e
        rcases (by omega : k = 1 ∨ k = 3) with rfl | rfl <;> simp [needL, e] at g3
      rw [if_neg hk4] at hown
      exact hown.1
    · rw [hob, if_neg g1, if_neg g2]
      rw [Int.toNat_natCast, if_neg g3, if_pos g4]
      simp [whenF]
  · rw [if_neg g4] at h
    by_cases g5 : k = 2 ∨ k = 15 ∨ k = 4
    · rw [if_pos g5] at h
      have hne : x ≠ c.ob i 5 := by
        intro e
        rw [e] at h
        simp [whenF] at h
      have h15 : k ≠ 15 := by rintro rfl; exact absurd hb' (by decide)
      refine .inr ⟨by omega, hne, hfin _ ?_ ?_⟩
      · have hk4 : c.ob i 0 = 1 ∨ c.ob i 0 = 2 := by
          rcases (by omega : k = 2 ∨ k = 4) with rfl | rfl <;> simp [needL] at g3 <;> omega
        rw [if_pos hk4] at hown
        exact hown.2
      · rw [hob, if_neg g1, if_neg g2]
        rw [Int.toNat_natCast, if_neg g3, if_neg g4, if_pos g5]
        simp [whenF]
    · rw [if_neg g5] at h
      exact absurd h (by decide)
end Go.Proofs.Ytdhfppflhmoejac
