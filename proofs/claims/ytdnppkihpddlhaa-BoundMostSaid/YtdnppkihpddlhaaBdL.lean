import Derived.Test.YtdnppkihpddlhaaBdK
namespace Go.Proofs.Ytdnppkihpddlhaa
open Go.ChangeShapes Go.WideShapes Go.ChangeAt Go.RowKit
set_option linter.unusedVariables false
set_option linter.unusedSimpArgs false
/-- A register's routine, cell by cell. -/
@[reducible] def foC (p : Nat → Int) (st o1 o2 o3 s0 s1 : Int) (W : Nat → Int) (at' f : Int) (V : Nat → Int) : Array Value := #[.int .i64 (p 0), .int .i64 (p 1), .int .i64 (p 2), .int .i64 (p 3), .int .i64 (p 4), .int .i64 st, .int .i64 o1, .int .i64 o2, .int .u32 o3, .int .u32 s0, .int .u32 s1, .int .u32 (W 0), .int .u32 (W 1), .int .u32 (W 2), .int .u32 (W 3), .int .i64 at', .int .i64 f, .int .u32 (V 0), .int .u32 (V 1), .int .u32 (V 2), .int .u32 (V 3)]
def IsFo (w : World) (b : Nat) (T : TypeId) (p : Nat → Int) (st at' f : Int) : Prop := ∃ (o1 o2 o3 s0 s1 : Int) (W V : Nat → Int), w.heap[b]? = some (.cells (foC p st o1 o2 o3 s0 s1 W at' f V) T (0, 0))
theorem IsFo.none {w w' : World} {b : Nat} {T : TypeId} {p : Nat → Int} {st at' f : Int} (h : IsFo w b T p st at' f) (k : Keeps (fun _ => False) w w') : IsFo w' b T p st at' f := by
  obtain ⟨o1, o2, o3, s0, s1, W, V, h⟩ := h
  exact ⟨o1, o2, o3, s0, s1, W, V, k.at h fun h => h⟩
theorem IsFo.stAt {w : World} {b : Nat} {T : TypeId} {p : Nat → Int} {st at' f : Int} (h : IsFo w b T p st at' f) : StAt w b 16 st f := by
  obtain ⟨o1, o2, o3, s0, s1, W, V, h⟩ := h
  exact ⟨cell_of h 5, ⟨o1, o2, o3, cell_of h 6, cell_of h 7, cell_of h 8⟩, ⟨V 0, V 1, V 2, V 3, cell_of h 16, cell_of h 17, cell_of h 18, cell_of h 19, cell_of h 20⟩, lt_of h⟩
def FoQ (w : World) (b : Nat) (T : TypeId) (p : Nat → Int) (st at' f : Int) (e : Ending) (w' : World) : Prop := e = .returned (.tuple #[]) ∧ IsFo w' b T p st at' f ∧ Keeps (fun X => X = b) w w'
theorem fword_at (p : Nat → Int) (st o1 o2 o3 s0 s1 : Int) (W : Nat → Int) (at' f : Int) (V : Nat → Int) (a : Nat) (ha : a < 4) : (foC p st o1 o2 o3 s0 s1 W at' f V)[11 + a]? = some (.int .u32 (W a)) := by
  rcases (by omega : a = 0 ∨ a = 1 ∨ a = 2 ∨ a = 3) with rfl | rfl | rfl | rfl <;> rfl
theorem fword_set (p : Nat → Int) (st o1 o2 o3 s0 s1 : Int) (W : Nat → Int) (at' f : Int) (V : Nat → Int) (a : Nat) (ha : a < 4) (g : Int) : (foC p st o1 o2 o3 s0 s1 W at' f V).setIfInBounds (11 + a) (.int .u32 g) = foC p st o1 o2 o3 s0 s1 (fun i => if i = a then g else W i) at' f V := by
  rcases (by omega : a = 0 ∨ a = 1 ∨ a = 2 ∨ a = 3) with rfl | rfl | rfl | rfl <;> rfl
theorem setsC_get : ∀ (l : List (Nat × Value)) (cs : Array Value) (i : Nat), (∀ x, x ∈ l → x.1 ≠ i) → (setsC cs l)[i]? = cs[i]?
  | [], _, _, _ => rfl
  | (j, v) :: t, cs, i, h => by
    show (setsC (cs.setIfInBounds j v) t)[i]? = _
    rw [setsC_get t _ i fun x hx => h x (.tail _ hx), Array.getElem?_setIfInBounds_ne (h _ (.head _))]
/-- A register's place. -/
structure FoOk (p : Nat → Int) : Prop where
  ok : PlOk p
  k : p 0 = 2
  w : 1 ≤ p 3 ∧ p 3 ≤ 4
end Go.Proofs.Ytdnppkihpddlhaa
