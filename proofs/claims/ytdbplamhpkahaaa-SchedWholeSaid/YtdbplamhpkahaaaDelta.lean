import Derived.Test.YtdbplamhpkahaaaRows
import Derived.Test.YtdbplamhpkahaaaKeep
import Derived.Test.YtdbplamhpkahaaaRet
import Derived.Test.YtdbplamhpkahaaaGhost
import Derived.ProofKit
import Derived.OpenShut
import Derived.WalkLawsBesides
import Derived.WalkSpells
import Derived.Lib.Hide
import Derived.Deep.QuietTactic
import Derived.BigQuiet
import Derived.BigRegion
namespace Go.Proofs.Ytdbplamhpkahaaa
open Go.ChangeShapes Go.WideShapes Go.ChangeAt Go.RowKit
set_option linter.unusedVariables false
/-- A node: its block, its task, its ticks behind the node ahead. -/
structure Nd where
  g : Nat
  t : Int
  x : Nat
def ptrOf (L : List Nd) (i : Nat) : Option Addr := (L[i]?).map fun nd => ⟨nd.g, 0, none⟩
theorem ptrOf_some {L : List Nd} {i : Nat} {nd : Nd} (h : L[i]? = some nd) : ptrOf L i = some ⟨nd.g, 0, none⟩ := by simp [ptrOf, h]
theorem ptrOf_none {L : List Nd} {i : Nat} (h : L.length ≤ i) : ptrOf L i = none := by simp [ptrOf, h]
/-- Block D: a delta list of these nodes. -/
structure IsDelta (w : World) (D : Nat) (L : List Nd) : Prop where
  head : w.heap[D]? = some (.cells #[.pointer (ptrOf L 0)] 48 (0, 0))
  node : ∀ (i : Nat) (nd : Nd), L[i]? = some nd → w.heap[nd.g]? = some (.cells #[.int .i64 nd.t, .int .u32 (nd.x : Int), .pointer (ptrOf L (i + 1))] 112 (0, 0))
  inj : ∀ (i j : Nat) (a b : Nd), L[i]? = some a → L[j]? = some b → a.g = b.g → i = j
section
variable {w w' : World} {D : Nat} {L : List Nd}
theorem IsDelta.keeps {S : Nat → Prop} (h : IsDelta w D L) (hk : Keeps S w w') (hD : ¬ S D) (hN : ∀ (i : Nat) (nd : Nd), L[i]? = some nd → ¬ S nd.g) : IsDelta w' D L :=
  ⟨hk.at h.head hD, fun i nd hi => hk.at (h.node i nd hi) (hN i nd hi), h.inj⟩
theorem IsDelta.none (h : IsDelta w D L) (hk : Keeps (fun _ => False) w w') : IsDelta w' D L := h.keeps hk (fun h => h) fun _ _ _ h => h
theorem IsDelta.lt (h : IsDelta w D L) : D < w.heap.size := lt_of h.head
theorem IsDelta.ne (h : IsDelta w D L) {i : Nat} {nd : Nd} (hi : L[i]? = some nd) : nd.g ≠ D := by
  intro e
  have h1 := h.node i nd hi
  rw [e, h.head] at h1
  injection h1 with h1
  injection h1 with _ h1
  exact absurd h1 (by decide)
end
/-- The ticks of the first k nodes, together. -/
def sumX (L : List Nd) : Nat → Nat
  | 0 => 0
  | k + 1 => sumX L k + (match L[k]? with | some nd => nd.x | none => 0)
theorem sumX_succ {L : List Nd} {k : Nat} {nd : Nd} (h : L[k]? = some nd) : sumX L (k + 1) = sumX L k + nd.x := by simp [sumX, h]
theorem sumX_mono (L : List Nd) {i j : Nat} (h : i ≤ j) : sumX L i ≤ sumX L j := by
  induction h with
  | refl => exact Nat.le_refl _
  | step _ ih => exact Nat.le_trans ih (Nat.le_add_right _ _)
/-- Left's closure adds the ticks of a node. -/
theorem leftf_any (g bx x s : Nat) (t : Int) (p : Option Addr) (E : TypeId) (w : World) (hn : w.heap[g]? = some (.cells #[.int .i64 t, .int .u32 (x : Int), .pointer p] 112 (0, 0))) (hb : w.heap[bx]? = some (.cells #[.int .u32 (s : Int)] E (0, 0))) (hs : s + x < 4294967296) :
    Calls Try.prog 71 #[.pointer (some ⟨g, 0, none⟩), .pointer (some ⟨bx, 0, none⟩)] w fun e w' => e = .returned (.int .u32 ((s + x : Nat) : Int)) ∧ w'.heap[bx]? = some (.cells #[.int .u32 ((s + x : Nat) : Int)] E (0, 0)) ∧ Keeps (fun k => k = bx) w w' := by
  have c0 : w.cell? ⟨bx, 0, none⟩ = some (.int .u32 (s : Int)) := cell_of hb 0
  have f0 : w.frozen? ⟨bx, 0, none⟩ = false := free_of hb 0
  have c1 : w.cell? ⟨g, 1, none⟩ = some (.int .u32 (x : Int)) := cell_of hn 1
  have lb := lt_of hb
  have ln := lt_of hn
  have hwr : ((s : Int) + (x : Int)) % 4294967296 = (s : Int) + x := by omega
  have HB := Lib.hid hb
  clear hb hn
  go_enter Try.func71, Try.ntmps71
  go_wp2_with fail
  go_region
  all_goals
    go_wp2
    go_ret
    exact ⟨rfl, heap_drew (heap_set HB.out 0 _), ((Keeps.refl (fun k => k = bx) w).setCell (p := ⟨bx, 0, none⟩) (.inl rfl) _).drew⟩
end Go.Proofs.Ytdbplamhpkahaaa
