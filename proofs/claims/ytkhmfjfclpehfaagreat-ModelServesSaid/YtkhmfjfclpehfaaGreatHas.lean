import Derived.Test.YtkhmfjfclpehfaaGreatKeep
import Derived.Lib.Hide
namespace Go.Proofs.YtkhmfjfclpehfaaGreat
open Go.RowKit
set_option linter.unusedVariables false
/-- wr is w but for new blocks, and these blocks hold these objects. -/
structure Has (w wr : World) (L : List (Nat × Obj)) : Prop where
  keeps : Keeps (fun _ => False) w wr
  all : ∀ x, x ∈ L → wr.heap[x.1]? = some x.2
theorem Has.start (w : World) : Has w w [] := ⟨Keeps.refl _ _, fun x hx => by cases hx⟩
theorem Has.none {w w1 w2 : World} {L : List (Nat × Obj)} (h : Has w w1 L) (k : Keeps (fun _ => False) w1 w2) : Has w w2 L :=
  ⟨h.keeps.trans k, fun x hx => k.at (h.all x hx) fun h => h⟩
theorem Has.alloc {w w1 : World} {L : List (Nat × Obj)} (h : Has w w1 L) (o : Obj) : Has w (w1.alloc o) ((w1.heap.size, o) :: L) :=
  ⟨h.keeps.alloc o, fun x hx => by
    rcases List.mem_cons.1 hx with rfl | hx
    · exact heap_new w1 o
    · exact heap_old (h.all x hx) o⟩
theorem Has.drew {w w1 : World} {L : List (Nat × Obj)} (h : Has w w1 L) : Has w w1.drew L := ⟨h.keeps.drew, h.all⟩
theorem Has.old {w w1 : World} {L : List (Nat × Obj)} (h : Has w w1 L) {b : Nat} {o : Obj} (hb : w.heap[b]? = some o) : Has w w1 ((b, o) :: L) :=
  ⟨h.keeps, fun x hx => by
    rcases List.mem_cons.1 hx with rfl | hx
    · exact h.keeps.at hb fun h => h
    · exact h.all x hx⟩
theorem Has.eq {w w1 : World} {L M : List (Nat × Obj)} (h : Has w w1 L) (e : L = M) : Has w w1 M := e ▸ h
theorem Has.sub {w w1 : World} {L M : List (Nat × Obj)} (h : Has w w1 L) (e : ∀ x, x ∈ M → x ∈ L) : Has w w1 M := ⟨h.keeps, fun x hx => h.all x (e x hx)⟩
theorem Has.hd {w w1 : World} {L : List (Nat × Obj)} {b : Nat} {o : Obj} (h : Has w w1 ((b, o) :: L)) : w1.heap[b]? = some o := h.all (b, o) (.head _)
theorem Has.tl {w w1 : World} {L : List (Nat × Obj)} {x : Nat × Obj} (h : Has w w1 (x :: L)) : Has w w1 L := ⟨h.keeps, fun y hy => h.all y (.tail _ hy)⟩
/-- The k-th of them. -/
theorem Has.at {w w1 : World} {L : List (Nat × Obj)} (h : Has w w1 L) (k : Nat) {b : Nat} {o : Obj} (e : L[k]? = some (b, o)) : w1.heap[b]? = some o := h.all (b, o) (List.mem_of_getElem? e)
end Go.Proofs.YtkhmfjfclpehfaaGreat
