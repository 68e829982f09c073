import Derived.Test.YtfniicgfnlklbabDeltaRefE
namespace Go.Proofs.Ytfniicgfnlklbab
open Go.ChangeShapes Go.WideShapes Go.ChangeAt Go.RowKit
set_option linter.unusedVariables false
theorem own_differ {w : World} {b1 b2 : Nat} {e1 e2 : TypeId} {s1 s2 n1 n2 : Nat} {v1 v2 : Value} {xs1 xs2 : List Value} (h1 : w.ownsRow b1 e1 s1 v1 n1 xs1) (h2 : w.ownsRow b2 e2 s2 v2 n2 xs2) (hne : e1 ≠ e2) : v1.ownBlock = none ∨ v1.ownBlock ≠ v2.ownBlock := by
  rcases h2.2 with ⟨rfl, _⟩ | ⟨g', cap, cur, rfl, _, hh, _⟩
  · cases hv : v1.ownBlock with
    | none => exact .inl rfl
    | some g => exact .inr (by simp [Value.ownBlock])
  · exact .inr (own_apart h1 hh hne)
theorem own_set {w : World} {base : Nat} {e t : TypeId} {size n g : Nat} {v : Value} {xs : List Value} {cs : Array Value} (h : w.ownsRow base e size v n xs) (hg : w.heap[g]? = some (.cells cs t (0, 0))) (hne : e ≠ t) (i : Nat) (u : Value) : (w.setCell ⟨g, i, none⟩ u).ownsRow base e size v n xs := by
  refine ⟨h.1, ?_⟩
  rcases h.2 with h2 | ⟨g', cap, cur, rfl, hb, hh, h3⟩
  · exact .inl h2
  · refine .inr ⟨g', cap, cur, rfl, hb, heap_other hh (fun e2 => ?_) _, h3⟩
    have e3 : g' = g := e2
    subst e3
    rw [hg] at hh
    injection hh with hh
    injection hh with _ ht
    exact hne ht.symm
/-- Of the first k waits: the tasks that had one tick left. -/
def outT (P : Nat → Int) (X : Nat → Nat) : Nat → List Int
  | 0 => []
  | k + 1 => if X k = 1 then outT P X k ++ [P k] else outT P X k
/-- Of the first k waits: those that stay, with one tick less. -/
def keepT (P : Nat → Int) (X : Nat → Nat) : Nat → List (Int × Nat)
  | 0 => []
  | k + 1 => if X k = 1 then keepT P X k else keepT P X k ++ [(P k, X k - 1)]
theorem outT_le (P : Nat → Int) (X : Nat → Nat) (k : Nat) : (outT P X k).length ≤ k := by
  induction k with
  | zero => exact Nat.le_refl _
  | succ k ih =>
    rw [outT]
    split
    · rw [List.length_append]; exact Nat.succ_le_succ ih
    · omega
theorem keepT_le (P : Nat → Int) (X : Nat → Nat) (k : Nat) : (keepT P X k).length ≤ k := by
  induction k with
  | zero => exact Nat.le_refl _
  | succ k ih =>
    rw [keepT]
    split
    · omega
    · rw [List.length_append]; exact Nat.succ_le_succ ih
def intsL (L : List Int) : List Value := L.map fun x => .int .i64 x
def flatL : List (Int × Nat) → List Value
  | [] => []
  | p :: r => .int .i64 p.1 :: .int .u64 (p.2 : Int) :: flatL r
theorem flatL_snoc (L : List (Int × Nat)) (p : Int × Nat) : flatL (L ++ [p]) = flatL L ++ [.int .i64 p.1, .int .u64 (p.2 : Int)] := by
  induction L with
  | nil => rfl
  | cons q r ih => simp [flatL, ih]
theorem intsL_snoc (L : List Int) (x : Int) : intsL (L ++ [x]) = intsL L ++ [.int .i64 x] := by simp [intsL]
/-- The list's functions. -/
def pL (L : List (Int × Nat)) (i : Nat) : Int := match L[i]? with | some p => p.1 | none => 0
def xL (L : List (Int × Nat)) (i : Nat) : Nat := match L[i]? with | some p => p.2 | none => 0
theorem flatL_eq (L : List (Int × Nat)) : ∀ n, n ≤ L.length → flatL (L.take n) = flatW (pL L) (xL L) n
  | 0, _ => by simp [flatL, flatW]
  | n + 1, h => by
    have hg := List.getElem?_eq_getElem (show n < L.length by omega)
    rw [flatW, ← flatL_eq L n (by omega), List.take_add_one, hg]
    simp only [Option.toList, flatL_snoc, pL, xL, hg]
theorem flatL_all (L : List (Int × Nat)) : flatL L = flatW (pL L) (xL L) L.length := by
  have := flatL_eq L L.length (Nat.le_refl _)
  rwa [List.take_length] at this
/-- The worlds of the reference's Tick, behind k rounds. -/
structure RTk (wo wr : World) (a : Option Addr) (n c : Nat) (P : Nat → Int) (X : Nat → Nat) (k : Nat) (out va : Value) : Prop where
  below : Below wo.heap.size wo wr
  box : wr.heap[wo.heap.size]? = some (.cells #[.slice a n c] 30 (0, 0))
  res : wr.heap[wo.heap.size + 1]? = some (.cells #[.slice none 0 0] 30 (0, 0))
  rest : wr.heap[wo.heap.size + 1 + 1]? = some (.cells #[va] 30 (0, 0))
  own : wr.ownsRow wo.heap.size 58 2 va (keepT P X k).length (flatL (keepT P X k))
  outo : wr.ownsRow wo.heap.size 3 1 out (outT P X k).length (intsL (outT P X k))
section
variable {wo wr w2 : World} {a : Option Addr} {n c k : Nat} {P : Nat → Int} {X : Nat → Nat} {out va : Value}
theorem RTk.alloc (h : RTk wo wr a n c P X k out va) (o : Obj) : RTk wo (wr.alloc o) a n c P X k out va :=
  ⟨h.below.alloc h.below.size o, heap_old h.box o, heap_old h.res o, heap_old h.rest o, h.own.alloc o, h.outo.alloc o⟩
theorem RTk.tell (h : RTk wo wr a n c P X k out va) {out2 : Value} (hg : wr.grownBy w2 out.ownBlock) (ho : w2.ownsRow wo.heap.size 3 1 out2 ((outT P X k).length + 1) (intsL (outT P X k) ++ [.int .i64 (P k)])) (hx : X k = 1) : RTk wo w2 a n c P X (k + 1) out2 va := by
  have e1 : outT P X (k + 1) = outT P X k ++ [P k] := by rw [outT, if_pos hx]
  have e2 : keepT P X (k + 1) = keepT P X k := by rw [keepT, if_pos hx]
  refine ⟨h.below.grown hg h.below.size fun q hq => (h.outo.lt q hq).1, grown_cells hg h.box (own_apart h.outo h.box (by decide)), grown_cells hg h.res (own_apart h.outo h.res (by decide)), grown_cells hg h.rest (own_apart h.outo h.rest (by decide)), ?_, ?_⟩
  · rw [e2]
    exact h.own.kept hg (own_differ h.own h.outo (by decide))
  · rw [e1, intsL_snoc, List.length_append]
    exact ho
theorem RTk.keep (h : RTk wo wr a n c P X k out va) {va2 : Value} (hg : wr.grownBy w2 va.ownBlock) (ho : w2.ownsRow wo.heap.size 58 2 va2 ((keepT P X k).length + 1) (flatL (keepT P X k) ++ [.int .i64 (P k), .int .u64 ((X k - 1 : Nat) : Int)])) (hx : X k ≠ 1) : RTk wo (w2.setCell ⟨wo.heap.size + 1 + 1, 0, none⟩ va2) a n c P X (k + 1) out va2 := by
  have e1 : outT P X (k + 1) = outT P X k := by rw [outT, if_neg hx]
  have e2 : keepT P X (k + 1) = keepT P X k ++ [(P k, X k - 1)] := by rw [keepT, if_neg hx]
  have hr := grown_cells hg h.rest (own_apart h.own h.rest (by decide))
  have hb := h.below.grown hg h.below.size fun q hq => (h.own.lt q hq).1
  refine ⟨((Keeps.ofBelow hb).setCell (p := ⟨wo.heap.size + 1 + 1, 0, none⟩) (.inr (show wo.heap.size ≤ wo.heap.size + 1 + 1 by omega)) va2).none, heap_other (grown_cells hg h.box (own_apart h.own h.box (by decide))) (show wo.heap.size ≠ wo.heap.size + 1 + 1 by omega) _, heap_other (grown_cells hg h.res (own_apart h.own h.res (by decide))) (show wo.heap.size + 1 ≠ wo.heap.size + 1 + 1 by omega) _, heap_set hr 0 va2, ?_, ?_⟩
  · rw [e2, flatL_snoc, List.length_append]
    exact own_set ho hr (by decide) 0 va2
  · rw [e1]
    exact own_set (h.outo.kept hg (own_differ h.outo h.own (by decide))) hr (by decide) 0 va2
end
end Go.Proofs.Ytfniicgfnlklbab
