import Derived.WalkKit
import Derived.ScopeJumps
import Derived.WalkMore
import Derived.Test.YtdnppkihpddlhaaRows
namespace Go.Proofs.Ytdnppkihpddlhaa
open Go
section
variable {P : Program} {Q : Exit → Act → World → Prop}
/-- A scope in which at most n jumps are still made: at each the walk goes on behind its label. -/
def ScopeN (P : Program) (c : Code) (Q : Exit → Act → World → Prop) : Nat → Exit → Act → World → Prop
  | n, .goto l, a, w => match n with
    | 0 => False
    | m + 1 => ∃ rest, findLabel c l = some rest ∧ rest.wp P (ScopeN P c Q m) a w
  | _, e, a, w => Q e a w
theorem scopeN_pass {c : Code} : ∀ (n : Nat) (rest : Code) (a : Act) (w : World), rest.wp P (ScopeN P c Q n) a w → ∀ b k cs, ∃ e a' w', Q e a' w' ∧ Arrives P (lone (b.at a (.code rest :: .inScope c :: k)) cs w) b k cs e a' w' := by
  intro n
  induction n with
  | zero =>
    intro rest a w h b k cs
    obtain ⟨e, a₁, w₁, hq, harr⟩ := h b (.inScope c :: k) cs
    cases e with
    | normal => exact ⟨.normal, a₁, w₁, hq, Steps.trans harr (.one step_inScope)⟩
    | exit id => exact ⟨.exit id, a₁, w₁, hq, fun k' hk => harr k' (by simp [exitTo, hk])⟩
    | goto l' => exact hq.elim
    | ret => exact ⟨_, a₁, w₁, hq, harr⟩
    | panic ch => exact ⟨_, a₁, w₁, hq, harr⟩
    | outgrown => exact ⟨_, a₁, w₁, hq, harr⟩
  | succ n ih =>
    intro rest a w h b k cs
    obtain ⟨e, a₁, w₁, hq, harr⟩ := h b (.inScope c :: k) cs
    cases e with
    | normal => exact ⟨.normal, a₁, w₁, hq, Steps.trans harr (.one step_inScope)⟩
    | exit id => exact ⟨.exit id, a₁, w₁, hq, fun k' hk => harr k' (by simp [exitTo, hk])⟩
    | goto l' =>
      obtain ⟨rest', hf, h'⟩ := hq
      have hg : gotoIn l' (.inScope c :: k) = some (.code rest' :: .inScope c :: k) := by simp [gotoIn, hf]
      obtain ⟨e₂, a₂, w₂, hq₂, harr₂⟩ := ih rest' a₁ w₁ h' b k cs
      exact ⟨e₂, a₂, w₂, hq₂, .of_steps (harr _ hg) harr₂⟩
    | ret => exact ⟨_, a₁, w₁, hq, harr⟩
    | panic ch => exact ⟨_, a₁, w₁, hq, harr⟩
    | outgrown => exact ⟨_, a₁, w₁, hq, harr⟩
theorem wp_scope_n {c : Code} (n : Nat) {a : Act} {w : World} (h : c.wp P (ScopeN P c Q n) a w) : (Code.scope c).wp P Q a w := by
  intro b k cs
  obtain ⟨e, a₁, w₁, hq, harr⟩ := scopeN_pass n c a w h b k cs
  exact ⟨e, a₁, w₁, hq, .of_steps (.one step_scope) harr⟩
theorem scopeN_ret {c : Code} {a : Act} {w : World} (n : Nat) (h : Q .ret a w) : ScopeN P c Q n .ret a w := by cases n <;> exact h
theorem scopeN_normal {c : Code} {a : Act} {w : World} (n : Nat) (h : Q .normal a w) : ScopeN P c Q n .normal a w := by cases n <;> exact h
theorem scopeN_goto {c rest : Code} {m l : Nat} {a : Act} {w : World} (h : findLabel c l = some rest) (h2 : rest.wp P (ScopeN P c Q m) a w) : ScopeN P c Q (m + 1) (.goto l) a w := ⟨rest, h, h2⟩
end
end Go.Proofs.Ytdnppkihpddlhaa
