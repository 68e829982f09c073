import Derived.Test.YtkhmfjfclpehfaaGreatAgain
namespace Go
section
variable {P : Program} {a : Act} {w : World} {Q : Exit → Act → World → Prop}
theorem least_of {p : Nat → Prop} (h : ∃ m, p m) : ∃ m, p m ∧ ∀ k, p k → m ≤ k := by
  obtain ⟨m, hm⟩ := h
  induction m using Nat.strongRecOn with
  | _ m ih =>
    by_cases h : ∃ k, k < m ∧ p k
    · obtain ⟨k, hk, hp⟩ := h
      exact ih k hk hp
    · exact ⟨m, hm, fun k hk => by
        rcases Nat.lt_or_ge k m with h1 | h1
        · exact absurd ⟨k, h1, hk⟩ h
        · exact h1⟩
open Classical in
/-- A scope in which the run jumps back to one label; what goes down at each pass stands in no slot. -/
theorem wp_scope_ghost {c rest : Code} (l : Nat) (J : Nat → Act → World → Prop) (hf : findLabel c l = some (Code.skip.seq rest))
    (pass : ∀ m a w, J m a w → rest.wp P (Exit.jump l (fun a' w' => ∃ m', m' < m ∧ J m' a' w') Q) a w)
    (first : (∀ m a w, J m a w → rest.wp P (Exit.jump l (fun a' w' => ∃ m', J m' a' w') Q) a w) → c.wp P (Exit.jump l (fun a' w' => ∃ m', J m' a' w') Q) a w) : (Code.scope c).wp P Q a w := by
  refine wp_scope_again l (fun a w => ∃ m, J m a w) (fun a w => if h : ∃ m, J m a w then Classical.choose (least_of h) else 0) hf ?_ ?_
  · intro a w h
    have hs := Classical.choose_spec (least_of h)
    have e : (if h : ∃ m, J m a w then Classical.choose (least_of h) else 0) = Classical.choose (least_of h) := dif_pos h
    refine wp_mono (pass _ a w hs.1) fun x a' w' hq => Exit.jump_mono (fun a' w' hj => ?_) hq
    obtain ⟨m', hm', hJ⟩ := hj
    refine ⟨⟨m', hJ⟩, ?_⟩
    show (if h : ∃ m, J m a' w' then Classical.choose (least_of h) else 0) < (if h : ∃ m, J m a w then Classical.choose (least_of h) else 0)
    rw [e, dif_pos ⟨m', hJ⟩]
    have := (Classical.choose_spec (least_of (p := fun m => J m a' w') ⟨m', hJ⟩)).2 m' hJ
    omega
  · intro h
    exact first fun m a w hJ => wp_mono (pass_all pass m a w hJ) fun _ _ _ hq => hq
where
  pass_all {rest : Code} {l : Nat} {J : Nat → Act → World → Prop} (pass : ∀ m a w, J m a w → rest.wp P (Exit.jump l (fun a' w' => ∃ m', m' < m ∧ J m' a' w') Q) a w) (m : Nat) (a : Act) (w : World) (h : J m a w) :
      rest.wp P (Exit.jump l (fun a' w' => ∃ m', J m' a' w') Q) a w :=
    wp_mono (pass m a w h) fun _ _ _ hq => Exit.jump_mono (fun _ _ ⟨m', _, hJ⟩ => ⟨m', hJ⟩) hq
end
end Go
