import Derived.Test.YtdnppkihpddlhaaBdC
import Derived.Deep.RegionLaw
import Derived.Deep.RegionHeld3
import Derived.BigRegion
import Derived.Laws.Rows
namespace Go.Proofs.Ytdnppkihpddlhaa
open Go.ChangeShapes Go.WideShapes Go.ChangeAt Go.RowKit
set_option linter.unusedVariables false
set_option linter.unusedSimpArgs false
/-- Cells of one block, set one behind the other. -/
def setsL (w : World) (b : Nat) : List (Nat × Value) → World
  | [] => w
  | (i, v) :: t => setsL (w.setCell ⟨b, i, none⟩ v) b t
def setsC (cs : Array Value) : List (Nat × Value) → Array Value
  | [] => cs
  | (i, v) :: t => setsC (cs.setIfInBounds i v) t
theorem setsL_heap : ∀ (l : List (Nat × Value)) {w : World} {b : Nat} {cs : Array Value} {T : TypeId}, w.heap[b]? = some (.cells cs T (0, 0)) → (setsL w b l).heap[b]? = some (.cells (setsC cs l) T (0, 0))
  | [], _, _, _, _, h => h
  | (i, v) :: t, _, _, _, _, h => setsL_heap t (heap_set h i v)
theorem setsL_keep : ∀ (l : List (Nat × Value)) (w : World) (b : Nat), Keeps (fun X => X = b) w (setsL w b l)
  | [], w, b => Keeps.refl _ w
  | (i, v) :: t, w, b => ((Keeps.refl (fun X => X = b) w).setCell (p := ⟨b, i, none⟩) (.inl rfl) v).trans (setsL_keep t _ b)
/-- A place that may be. -/
structure PlOk (p : Nat → Int) : Prop where
  r : rightS (oOf p) = true
  a : 0 ≤ p 1 ∧ p 1 ≤ 1000000
/-- What a method makes of its block. -/
def SetQ (w : World) (b : Nat) (T : TypeId) (cs : Array Value) (l : List (Nat × Value)) (e : Ending) (w' : World) : Prop := e = .returned (.tuple #[]) ∧ w'.heap[b]? = some (.cells (setsC cs l) T (0, 0)) ∧ Keeps (fun X => X = b) w w'
theorem old_cell {w : World} {b n : Nat} {T : TypeId} {cs : Array Value} (h : w.heap[b]? = some (.cells cs T (0, 0))) (hs : n ≤ cs.size) (i : Nat) (hi : i < n) : ∃ u, w.cell? ⟨b, i, none⟩ = some u := ⟨cs[i], (cell_of h i).trans (Array.getElem?_eq_getElem (by omega))⟩
/-- A place in a block. -/
structure PlAt (w : World) (b : Nat) (p : Nat → Int) : Prop where
  c0 : w.cell? ⟨b, 0, none⟩ = some (.int .i64 (p 0))
  c1 : w.cell? ⟨b, 1, none⟩ = some (.int .i64 (p 1))
  c2 : w.cell? ⟨b, 2, none⟩ = some (.int .i64 (p 2))
  c3 : w.cell? ⟨b, 3, none⟩ = some (.int .i64 (p 3))
  c4 : w.cell? ⟨b, 4, none⟩ = some (.int .i64 (p 4))
  lt : b < w.heap.size
theorem PlAt.none {w w' : World} {b : Nat} {p : Nat → Int} (h : PlAt w b p) (k : Keeps (fun _ => False) w w') : PlAt w' b p :=
  ⟨(k.none.cell (p := ⟨b, 0, Option.none⟩) h.lt).trans h.c0, (k.none.cell (p := ⟨b, 1, Option.none⟩) h.lt).trans h.c1, (k.none.cell (p := ⟨b, 2, Option.none⟩) h.lt).trans h.c2, (k.none.cell (p := ⟨b, 3, Option.none⟩) h.lt).trans h.c3, (k.none.cell (p := ⟨b, 4, Option.none⟩) h.lt).trans h.c4, Nat.lt_of_lt_of_le h.lt k.size⟩
set_option maxHeartbeats 2000000 in
theorem rg_end (w : World) (b : Nat) (T : TypeId) (cs : Array Value) (g : Int) (hb : w.heap[b]? = some (.cells cs T (0, 0))) (hs : 20 ≤ cs.size) :
    Calls Try.prog 37 #[.pointer (some ⟨b, 0, none⟩), .int .i64 g] w (SetQ w b T cs [(5, .int .i64 5), (6, .int .i64 0), (7, .int .i64 0), (8, .int .u32 0), (15, .int .i64 g), (16, .int .u32 0), (17, .int .u32 0), (18, .int .u32 0), (19, .int .u32 0)]) := by
  obtain ⟨u5, c5⟩ := old_cell hb hs 5 (by omega)
  have f5 := free_of hb 5
  obtain ⟨u6, c6⟩ := old_cell hb hs 6 (by omega)
  have f6 := free_of hb 6
  obtain ⟨u7, c7⟩ := old_cell hb hs 7 (by omega)
  have f7 := free_of hb 7
  obtain ⟨u8, c8⟩ := old_cell hb hs 8 (by omega)
  have f8 := free_of hb 8
  obtain ⟨u15, c15⟩ := old_cell hb hs 15 (by omega)
  have f15 := free_of hb 15
  obtain ⟨u16, c16⟩ := old_cell hb hs 16 (by omega)
  have f16 := free_of hb 16
  obtain ⟨u17, c17⟩ := old_cell hb hs 17 (by omega)
  have f17 := free_of hb 17
  obtain ⟨u18, c18⟩ := old_cell hb hs 18 (by omega)
  have f18 := free_of hb 18
  obtain ⟨u19, c19⟩ := old_cell hb hs 19 (by omega)
  have f19 := free_of hb 19
  have lb := lt_of hb
  have HB := Lib.hid hb
  clear hb
  go_enter Try.func37, Try.ntmps37
  go_wp2_with fail
  go_end0
  exact ⟨rfl, setsL_heap [(5, .int .i64 5), (6, .int .i64 0), (7, .int .i64 0), (8, .int .u32 0), (15, .int .i64 g), (16, .int .u32 0), (17, .int .u32 0), (18, .int .u32 0), (19, .int .u32 0)] HB.out, setsL_keep [(5, .int .i64 5), (6, .int .i64 0), (7, .int .i64 0), (8, .int .u32 0), (15, .int .i64 g), (16, .int .u32 0), (17, .int .u32 0), (18, .int .u32 0), (19, .int .u32 0)] w b⟩
set_option maxHeartbeats 2000000 in
theorem rg_load (w : World) (b : Nat) (T : TypeId) (cs : Array Value) (s a : Int) (hb : w.heap[b]? = some (.cells cs T (0, 0))) (hs : 20 ≤ cs.size) :
    Calls Try.prog 38 #[.pointer (some ⟨b, 0, none⟩), .int .i64 s, .int .i64 a] w (SetQ w b T cs [(5, .int .i64 s), (6, .int .i64 1), (7, .int .i64 a), (8, .int .u32 0)]) := by
  obtain ⟨u5, c5⟩ := old_cell hb hs 5 (by omega)
  have f5 := free_of hb 5
  obtain ⟨u6, c6⟩ := old_cell hb hs 6 (by omega)
  have f6 := free_of hb 6
  obtain ⟨u7, c7⟩ := old_cell hb hs 7 (by omega)
  have f7 := free_of hb 7
  obtain ⟨u8, c8⟩ := old_cell hb hs 8 (by omega)
  have f8 := free_of hb 8
  have lb := lt_of hb
  have HB := Lib.hid hb
  clear hb
  go_enter Try.func38, Try.ntmps38
  go_wp2_with fail
  go_end0
  exact ⟨rfl, setsL_heap [(5, .int .i64 s), (6, .int .i64 1), (7, .int .i64 a), (8, .int .u32 0)] HB.out, setsL_keep [(5, .int .i64 s), (6, .int .i64 1), (7, .int .i64 a), (8, .int .u32 0)] w b⟩
set_option maxHeartbeats 2000000 in
theorem rg_store (w : World) (b : Nat) (T : TypeId) (cs : Array Value) (s a v : Int) (hb : w.heap[b]? = some (.cells cs T (0, 0))) (hs : 20 ≤ cs.size) :
    Calls Try.prog 74 #[.pointer (some ⟨b, 0, none⟩), .int .i64 s, .int .i64 a, .int .u32 v] w (SetQ w b T cs [(5, .int .i64 s), (6, .int .i64 2), (7, .int .i64 a), (8, .int .u32 v)]) := by
  obtain ⟨u5, c5⟩ := old_cell hb hs 5 (by omega)
  have f5 := free_of hb 5
  obtain ⟨u6, c6⟩ := old_cell hb hs 6 (by omega)
  have f6 := free_of hb 6
  obtain ⟨u7, c7⟩ := old_cell hb hs 7 (by omega)
  have f7 := free_of hb 7
  obtain ⟨u8, c8⟩ := old_cell hb hs 8 (by omega)
  have f8 := free_of hb 8
  have lb := lt_of hb
  have HB := Lib.hid hb
  clear hb
  go_enter Try.func74, Try.ntmps74
  go_wp2_with fail
  go_end0
  exact ⟨rfl, setsL_heap [(5, .int .i64 s), (6, .int .i64 2), (7, .int .i64 a), (8, .int .u32 v)] HB.out, setsL_keep [(5, .int .i64 s), (6, .int .i64 2), (7, .int .i64 a), (8, .int .u32 v)] w b⟩
set_option maxHeartbeats 2000000 in
theorem fo_end (w : World) (b : Nat) (T : TypeId) (cs : Array Value) (g : Int) (hb : w.heap[b]? = some (.cells cs T (0, 0))) (hs : 21 ≤ cs.size) :
    Calls Try.prog 39 #[.pointer (some ⟨b, 0, none⟩), .int .i64 g] w (SetQ w b T cs [(5, .int .i64 7), (6, .int .i64 0), (7, .int .i64 0), (8, .int .u32 0), (16, .int .i64 g), (17, .int .u32 0), (18, .int .u32 0), (19, .int .u32 0), (20, .int .u32 0)]) := by
  obtain ⟨u5, c5⟩ := old_cell hb hs 5 (by omega)
  have f5 := free_of hb 5
  obtain ⟨u6, c6⟩ := old_cell hb hs 6 (by omega)
  have f6 := free_of hb 6
  obtain ⟨u7, c7⟩ := old_cell hb hs 7 (by omega)
  have f7 := free_of hb 7
  obtain ⟨u8, c8⟩ := old_cell hb hs 8 (by omega)
  have f8 := free_of hb 8
  obtain ⟨u16, c16⟩ := old_cell hb hs 16 (by omega)
  have f16 := free_of hb 16
  obtain ⟨u17, c17⟩ := old_cell hb hs 17 (by omega)
  have f17 := free_of hb 17
  obtain ⟨u18, c18⟩ := old_cell hb hs 18 (by omega)
  have f18 := free_of hb 18
  obtain ⟨u19, c19⟩ := old_cell hb hs 19 (by omega)
  have f19 := free_of hb 19
  obtain ⟨u20, c20⟩ := old_cell hb hs 20 (by omega)
  have f20 := free_of hb 20
  have lb := lt_of hb
  have HB := Lib.hid hb
  clear hb
  go_enter Try.func39, Try.ntmps39
  go_wp2_with fail
  go_end0
  exact ⟨rfl, setsL_heap [(5, .int .i64 7), (6, .int .i64 0), (7, .int .i64 0), (8, .int .u32 0), (16, .int .i64 g), (17, .int .u32 0), (18, .int .u32 0), (19, .int .u32 0), (20, .int .u32 0)] HB.out, setsL_keep [(5, .int .i64 7), (6, .int .i64 0), (7, .int .i64 0), (8, .int .u32 0), (16, .int .i64 g), (17, .int .u32 0), (18, .int .u32 0), (19, .int .u32 0), (20, .int .u32 0)] w b⟩
set_option maxHeartbeats 2000000 in
theorem lk_end (w : World) (b : Nat) (T : TypeId) (cs : Array Value) (g : Int) (hb : w.heap[b]? = some (.cells cs T (0, 0))) (hs : 20 ≤ cs.size) :
    Calls Try.prog 41 #[.pointer (some ⟨b, 0, none⟩), .int .i64 g] w (SetQ w b T cs [(5, .int .i64 5), (6, .int .i64 0), (7, .int .i64 0), (8, .int .u32 0), (15, .int .i64 g), (16, .int .u32 0), (17, .int .u32 0), (18, .int .u32 0), (19, .int .u32 0)]) := by
  obtain ⟨u5, c5⟩ := old_cell hb hs 5 (by omega)
  have f5 := free_of hb 5
  obtain ⟨u6, c6⟩ := old_cell hb hs 6 (by omega)
  have f6 := free_of hb 6
  obtain ⟨u7, c7⟩ := old_cell hb hs 7 (by omega)
  have f7 := free_of hb 7
  obtain ⟨u8, c8⟩ := old_cell hb hs 8 (by omega)
  have f8 := free_of hb 8
  obtain ⟨u15, c15⟩ := old_cell hb hs 15 (by omega)
  have f15 := free_of hb 15
  obtain ⟨u16, c16⟩ := old_cell hb hs 16 (by omega)
  have f16 := free_of hb 16
  obtain ⟨u17, c17⟩ := old_cell hb hs 17 (by omega)
  have f17 := free_of hb 17
  obtain ⟨u18, c18⟩ := old_cell hb hs 18 (by omega)
  have f18 := free_of hb 18
  obtain ⟨u19, c19⟩ := old_cell hb hs 19 (by omega)
  have f19 := free_of hb 19
  have lb := lt_of hb
  have HB := Lib.hid hb
  clear hb
  go_enter Try.func41, Try.ntmps41
  go_wp2_with fail
  go_end0
  exact ⟨rfl, setsL_heap [(5, .int .i64 5), (6, .int .i64 0), (7, .int .i64 0), (8, .int .u32 0), (15, .int .i64 g), (16, .int .u32 0), (17, .int .u32 0), (18, .int .u32 0), (19, .int .u32 0)] HB.out, setsL_keep [(5, .int .i64 5), (6, .int .i64 0), (7, .int .i64 0), (8, .int .u32 0), (15, .int .i64 g), (16, .int .u32 0), (17, .int .u32 0), (18, .int .u32 0), (19, .int .u32 0)] w b⟩
set_option maxHeartbeats 2000000 in
theorem lk_load (w : World) (b : Nat) (T : TypeId) (cs : Array Value) (s a : Int) (hb : w.heap[b]? = some (.cells cs T (0, 0))) (hs : 20 ≤ cs.size) :
    Calls Try.prog 42 #[.pointer (some ⟨b, 0, none⟩), .int .i64 s, .int .i64 a] w (SetQ w b T cs [(5, .int .i64 s), (6, .int .i64 1), (7, .int .i64 a), (8, .int .u32 0)]) := by
  obtain ⟨u5, c5⟩ := old_cell hb hs 5 (by omega)
  have f5 := free_of hb 5
  obtain ⟨u6, c6⟩ := old_cell hb hs 6 (by omega)
  have f6 := free_of hb 6
  obtain ⟨u7, c7⟩ := old_cell hb hs 7 (by omega)
  have f7 := free_of hb 7
  obtain ⟨u8, c8⟩ := old_cell hb hs 8 (by omega)
  have f8 := free_of hb 8
  have lb := lt_of hb
  have HB := Lib.hid hb
  clear hb
  go_enter Try.func42, Try.ntmps42
  go_wp2_with fail
  go_end0
  exact ⟨rfl, setsL_heap [(5, .int .i64 s), (6, .int .i64 1), (7, .int .i64 a), (8, .int .u32 0)] HB.out, setsL_keep [(5, .int .i64 s), (6, .int .i64 1), (7, .int .i64 a), (8, .int .u32 0)] w b⟩
set_option maxHeartbeats 2000000 in
theorem lk_store (w : World) (b : Nat) (T : TypeId) (cs : Array Value) (s a v : Int) (hb : w.heap[b]? = some (.cells cs T (0, 0))) (hs : 20 ≤ cs.size) :
    Calls Try.prog 99 #[.pointer (some ⟨b, 0, none⟩), .int .i64 s, .int .i64 a, .int .u32 v] w (SetQ w b T cs [(5, .int .i64 s), (6, .int .i64 2), (7, .int .i64 a), (8, .int .u32 v)]) := by
  obtain ⟨u5, c5⟩ := old_cell hb hs 5 (by omega)
  have f5 := free_of hb 5
  obtain ⟨u6, c6⟩ := old_cell hb hs 6 (by omega)
  have f6 := free_of hb 6
  obtain ⟨u7, c7⟩ := old_cell hb hs 7 (by omega)
  have f7 := free_of hb 7
  obtain ⟨u8, c8⟩ := old_cell hb hs 8 (by omega)
  have f8 := free_of hb 8
  have lb := lt_of hb
  have HB := Lib.hid hb
  clear hb
  go_enter Try.func99, Try.ntmps99
  go_wp2_with fail
  go_end0
  exact ⟨rfl, setsL_heap [(5, .int .i64 s), (6, .int .i64 2), (7, .int .i64 a), (8, .int .u32 v)] HB.out, setsL_keep [(5, .int .i64 s), (6, .int .i64 2), (7, .int .i64 a), (8, .int .u32 v)] w b⟩
def SomeQ (w : World) (e : Ending) (w' : World) : Prop := (∃ x, e = .returned (.int .i64 x)) ∧ Keeps (fun _ => False) w w'
set_option maxHeartbeats 2000000 in
theorem rg_counter (w : World) (b : Nat) (p : Nat → Int) (part : Int) (h : PlAt w b p) (hp : PlOk p) (hpart : 1 ≤ part ∧ part ≤ 8) :
    Calls Try.prog 72 #[.pointer (some ⟨b, 0, none⟩), .int .i64 part] w (SomeQ w) := by
  obtain ⟨c0, c1, c2, c3, c4, lb⟩ := h
  have HC := Lib.hid (fun W => cell_some p part 0 0 W hp.r hp.a hpart)
  clear hp hpart
  go_enter Try.func72, Try.ntmps72
  go_wp2_with fail
  refine (HC.out _).mono ?_
  rintro e1 w1 ⟨⟨x, rfl, _⟩, k1⟩
  have HK := Lib.hid k1
  clear k1 c0 c1 c2 c3 c4
  go_wp2_with fail
  go_ret
  exact ⟨⟨_, rfl⟩, HK.out⟩
set_option maxHeartbeats 2000000 in
theorem lk_counter (w : World) (b : Nat) (p : Nat → Int) (h : PlAt w b p) (hp : PlOk p) :
    Calls Try.prog 43 #[.pointer (some ⟨b, 0, none⟩)] w (SomeQ w) := by
  obtain ⟨c0, c1, c2, c3, c4, lb⟩ := h
  have HC := Lib.hid (fun W => cell_some p 7 0 0 W hp.r hp.a (by omega))
  clear hp
  go_enter Try.func43, Try.ntmps43
  go_wp2_with fail
  refine (HC.out _).mono ?_
  rintro e1 w1 ⟨⟨x, rfl, _⟩, k1⟩
  have HK := Lib.hid k1
  clear k1 c0 c1 c2 c3 c4
  go_wp2_with fail
  go_ret
  exact ⟨⟨_, rfl⟩, HK.out⟩
end Go.Proofs.Ytdnppkihpddlhaa
