import Derived.Test.YtohajfkekkelhaaDoorCertB
namespace Go.Proofs.YtohajfkekkelhaaDoor
set_option linter.unusedVariables false
set_option linter.unusedSimpArgs false
/-- What the closure remembers behind the calls of a part of an order. -/
def lastG (L : List OpX) : List Nat → Int
  | [] => -1
  | i :: t => nextP L (lastG L t) i
/-- It is the one of them that began last (the part is told backwards). -/
theorem lastG_max (L : List OpX) : ∀ (t : List Nat), (t = [] ∧ lastG L t = -1) ∨ ∃ p : Nat, lastG L t = (p : Int) ∧ p ∈ t ∧ ∀ q, q ∈ t → (getX L q) 15 ≤ (getX L p) 15
  | [] => .inl ⟨rfl, rfl⟩
  | i :: t => by
    refine .inr ?_
    rcases lastG_max L t with ⟨rfl, h⟩ | ⟨p, h, hp, hq⟩
    · refine ⟨i, ?_, List.mem_cons_self, fun q hq => ?_⟩
      · show nextP L (lastG L []) i = _
        exact if_pos (by show (-1 : Int) < 0; omega)
      · rcases List.mem_cons.1 hq with rfl | hq
        · exact Int.le_refl _
        · cases hq
    · have e : lastG L (i :: t) = if (getX L p) 15 < (getX L i) 15 then (i : Int) else (p : Int) := by
        show nextP L (lastG L t) i = _
        unfold nextP
        rw [h, if_neg (by omega)]
        rfl
      by_cases hg : (getX L p) 15 < (getX L i) 15
      · rw [if_pos hg] at e
        refine ⟨i, e, List.mem_cons_self, fun q hq' => ?_⟩
        rcases List.mem_cons.1 hq' with rfl | hq'
        · exact Int.le_refl _
        · have := hq q hq'; omega
      · rw [if_neg hg] at e
        refine ⟨p, e, List.mem_cons_of_mem _ hp, fun q hq' => ?_⟩
        rcases List.mem_cons.1 hq' with rfl | hq'
        · omega
        · exact hq q hq'
/-- **Late: before one of those ahead.** -/
theorem late_any_of (L : List OpX) (t : List Nat) (i : Nat) : lateP L (lastG L t) i = t.any fun q => befP (getX L i) (getX L q) := by
  rcases lastG_max L t with ⟨rfl, h⟩ | ⟨p, h, hp, hq⟩
  · rw [h]
    rfl
  · unfold lateP
    rw [h, if_neg (by omega), show ((p : Int)).toNat = p from rfl]
    cases hb : befP (getX L i) (getX L p) with
    | true => exact (List.any_eq_true.2 ⟨p, hp, hb⟩).symm
    | false =>
      refine (List.any_eq_false.2 fun q hq' hbq => ?_).symm
      have hm := hq q hq'
      unfold befP at hb hbq
      simp only [Bool.and_eq_true, decide_eq_true_eq] at hbq
      rw [decide_eq_true hbq.1, Bool.true_and] at hb
      have hb := of_decide_eq_false hb
      omega
theorem lastG_in (L : List OpX) (t : List Nat) (n : Nat) (h : ∀ q, q ∈ t → q < n) : lastG L t = -1 ∨ ∃ p : Nat, lastG L t = (p : Int) ∧ p < n := by
  rcases lastG_max L t with ⟨_, e⟩ | ⟨p, e, hp, _⟩
  · exact .inl e
  · exact .inr ⟨p, e, h p hp⟩
end Go.Proofs.YtohajfkekkelhaaDoor
