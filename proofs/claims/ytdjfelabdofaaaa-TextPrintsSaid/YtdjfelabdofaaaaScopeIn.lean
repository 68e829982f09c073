import Derived.Test.YtdjfelabdofaaaaGhost
import Derived.ControlIn
import Derived.CallsIn
import Derived.TacticsInMore
namespace Go
section
variable {P : Program} {a : Act} {w : World} {Q : Exit → Act → World → Prop}
/-- XGhost's law inside the wide fence. -/
theorem wpIn_scope_ghost {n : Nat} {c rest : Code} (l : Nat) (J : Nat → Act → World → Prop) (hf : findLabel c l = some (Code.skip.seq rest))
    (pass : ∀ m a w, J m a w → rest.wpIn Fence.wide n P (Exit.jump l (fun a' w' => ∃ m', m' < m ∧ J m' a' w') Q) a w)
    (first : (∀ m a w, J m a w → rest.wpIn Fence.wide n P (Exit.jump l (fun a' w' => ∃ m', J m' a' w') Q) a w) → c.wpIn Fence.wide n P (Exit.jump l (fun a' w' => ∃ m', J m' a' w') Q) a w) : (Code.scope c).wpIn Fence.wide n P Q a w :=
  wpIn_wide.2 (wp_scope_ghost l J hf (fun m a w h => wpIn_wide.1 (pass m a w h)) fun h => wpIn_wide.1 (first fun m a w hj => wpIn_wide.2 (h m a w hj)))
end
end Go
