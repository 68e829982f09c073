import Derived.Test.YtdnppkihpddlhaaKeep
import Derived.Deep.MidRow
import Derived.WalkKit
import Derived.ProofKit
import Derived.OpenShut
import Derived.Below
namespace Go.Proofs.Ytdnppkihpddlhaa
open Go.ChangeShapes Go.WideShapes Go.ChangeAt Go.RowKit
set_option linter.unusedVariables false
set_option linter.unusedSimpArgs false
/-- Cells written one behind the other. -/
def setsA (cur : Array Value) (o : Nat) : List Value → Array Value
  | [] => cur
  | v :: t => setsA (cur.setIfInBounds o v) (o + 1) t
theorem setsA_size : ∀ (vs : List Value) (cur : Array Value) (o : Nat), (setsA cur o vs).size = cur.size
  | [], _, _ => rfl
  | v :: t, cur, o => by
    show (setsA (cur.setIfInBounds o v) (o + 1) t).size = _
    rw [setsA_size t, Array.size_setIfInBounds]
theorem setsA_out : ∀ (vs : List Value) (cur : Array Value) (o j : Nat), j < o ∨ o + vs.length ≤ j → (setsA cur o vs)[j]? = cur[j]?
  | [], _, _, _, _ => rfl
  | v :: t, cur, o, j, h => by
    show (setsA (cur.setIfInBounds o v) (o + 1) t)[j]? = _
    simp at h
    rw [setsA_out t _ _ _ (by omega), Array.getElem?_setIfInBounds_ne (by omega)]
theorem setsA_in : ∀ (vs : List Value) (cur : Array Value) (o j : Nat) (v : Value), o + vs.length ≤ cur.size → vs[j]? = some v → (setsA cur o vs)[o + j]? = some v
  | [], _, _, j, _, _, h => by cases j <;> cases h
  | x :: t, cur, o, 0, v, hs, h => by
    cases h
    show (setsA (cur.setIfInBounds o x) (o + 1) t)[o + 0]? = _
    simp at hs
    rw [setsA_out t _ _ _ (by omega)]
    exact Array.getElem?_setIfInBounds_self_of_lt (by omega)
  | x :: t, cur, o, j + 1, v, hs, h => by
    show (setsA (cur.setIfInBounds o x) (o + 1) t)[o + (j + 1)]? = _
    simp at hs
    rw [show o + (j + 1) = o + 1 + j by omega]
    exact setsA_in t _ _ j v (by rw [Array.size_setIfInBounds]; omega) h
theorem heap_sets : ∀ (vs : List Value) (o : Nat) (w : World) (b : Nat) (cur : Array Value) (T : TypeId) (fr : Nat × Nat), w.heap[b]? = some (.cells cur T fr) → (w.setCells b o vs).heap[b]? = some (.cells (setsA cur o vs) T fr)
  | [], _, _, _, _, _, _, h => h
  | v :: t, o, w, b, cur, T, fr, h => by
    rw [World.setCells]
    exact heap_sets t (o + 1) _ b _ T fr (heap_set h o v)
theorem Keeps.sets {S : Nat → Prop} {w0 : World} {b : Nat} (hs : S b ∨ w0.heap.size ≤ b) : ∀ (vs : List Value) (o : Nat) (w : World), Keeps S w0 w → Keeps S w0 (w.setCells b o vs)
  | [], _, _, h => h
  | v :: t, o, w, h => by
    rw [World.setCells]
    exact Keeps.sets hs t (o + 1) _ (h.setCell (p := ⟨b, o, Option.none⟩) hs v)
theorem there_of {w : World} {b : Nat} {cur : Array Value} {T : TypeId} (h : w.heap[b]? = some (.cells cur T (0, 0))) (o n : Nat) (hn : o + n ≤ cur.size) : w.there b o n := fun j hj =>
  ⟨by rw [cell_of h (o + j), Array.getElem?_eq_getElem (by omega)]; rfl, free_of h (o + j)⟩
theorem range_below {w w' : World} {B b o : Nat} {cs : List Value} (h : w.rangeAt b o cs) (hb : Below B w w') (hB : b < B) : w'.rangeAt b o cs := fun j v hv => (hb.cell (p := ⟨b, o + j, none⟩) hB).trans (h j v hv)
theorem range_keeps {w w' : World} {b o : Nat} {cs : List Value} (h : w.rangeAt b o cs) (hk : Keeps (fun _ => False) w w') (hl : b < w.heap.size) : w'.rangeAt b o cs := range_below h hk.none hl
end Go.Proofs.Ytdnppkihpddlhaa
