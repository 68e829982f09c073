import Derived.Test.YtohajfkekkelhaaDoorSpecP
import Derived.Laws.MakeOwn
namespace Go.Proofs.YtohajfkekkelhaaDoor
open Go.ChangeShapes Go.WideShapes Go.ChangeAt Go.RowKit
set_option linter.unusedVariables false
set_option linter.unusedSimpArgs false
abbrev ObjX := (Nat → Int) × (Nat → Int)
@[reducible] def objL (p : ObjX) : List Value := [.int .i64 (p.1 0), .int .i64 (p.1 1), .int .i64 (p.1 2), .int .i64 (p.1 3), .int .i64 (p.1 4), .int .i64 (p.1 5), .int .u32 (p.2 0), .int .u32 (p.2 1), .int .u32 (p.2 2), .int .u32 (p.2 3)]
/-- Objects as an argument. -/
structure ObjsArg (w : World) (a : Option Addr) (n : Nat) (O : List ObjX) : Prop where
  len : O.length = n
  ok : ∀ p, p ∈ O → ObjOk p
  lies : 0 < n → ∃ b off, a = some ⟨b, off, none⟩ ∧ b < w.heap.size ∧ ∀ k p, O[k]? = some p → w.rangeAt b (off + k * 10) (objL p)
theorem ObjsArg.below {w w' : World} {a : Option Addr} {n : Nat} {O : List ObjX} (h : ObjsArg w a n O) (hb : Below w.heap.size w w') : ObjsArg w' a n O :=
  ⟨h.len, h.ok, fun hn => by
    obtain ⟨b, off, e, hl, hc⟩ := h.lies hn
    exact ⟨b, off, e, Nat.lt_of_lt_of_le hl hb.size, fun k x hk => range_below (hc k x hk) hb hl⟩⟩
set_option maxRecDepth 100000 in
theorem obj_reads {w : World} {cs : List Value} (h : Reads Tryd.prog w 49 cs) : ∃ p : ObjX, cs = objL p ∧ ObjOk p := by
  obtain ⟨hl, _⟩ := h.struct Tryd.underlying49
  have hc : Tryd.prog.cellsOf 49 = 10 := by kernel_rfl
  have hi : Tryd.prog.cellsOf 3 = 1 := by kernel_rfl
  have hu : Tryd.prog.cellsOf 39 = 1 := by kernel_rfl
  have hv : Tryd.prog.cellsOf 41 = 4 := by kernel_rfl
  rw [hc] at hl
  match cs, hl with
  | [a0, a1, a2, a3, a4, a5, a6, a7, a8, a9], _ =>
    obtain ⟨x0, e0, b0⟩ := (h.field Tryd.underlying49 0 3 0 1 rfl hi).int Tryd.underlying3
    obtain ⟨x1, e1, b1⟩ := (h.field Tryd.underlying49 1 3 1 1 rfl hi).int Tryd.underlying3
    obtain ⟨x2, e2, b2⟩ := (h.field Tryd.underlying49 2 3 2 1 rfl hi).int Tryd.underlying3
    obtain ⟨x3, e3, b3⟩ := (h.field Tryd.underlying49 3 3 3 1 rfl hi).int Tryd.underlying3
    obtain ⟨x4, e4, b4⟩ := (h.field Tryd.underlying49 4 3 4 1 rfl hi).int Tryd.underlying3
    obtain ⟨x5, e5, b5⟩ := (h.field Tryd.underlying49 5 3 5 1 rfl hi).int Tryd.underlying3
    have hV := ((h.field Tryd.underlying49 6 41 6 4 rfl hv).array Tryd.underlying41).2
    rw [hu] at hV
    obtain ⟨x6, e6, b6⟩ := (hV 0 (by omega)).int Tryd.underlying39
    obtain ⟨x7, e7, b7⟩ := (hV 1 (by omega)).int Tryd.underlying39
    obtain ⟨x8, e8, b8⟩ := (hV 2 (by omega)).int Tryd.underlying39
    obtain ⟨x9, e9, b9⟩ := (hV 3 (by omega)).int Tryd.underlying39
    simp at e0 e1 e2 e3 e4 e5 e6 e7 e8 e9
    subst e0 e1 e2 e3 e4 e5 e6 e7 e8 e9
    refine ⟨(fun j => [x0, x1, x2, x3, x4, x5].getD j 0, fun j => [x6, x7, x8, x9].getD j 0), rfl, ⟨fun j hj => ?_, fun j hj => ?_⟩⟩
    · unfold i64B
      rcases (show j = 0 ∨ j = 1 ∨ j = 2 ∨ j = 3 ∨ j = 4 ∨ j = 5 by omega) with rfl | rfl | rfl | rfl | rfl | rfl
      · exact bounds_i64 b0
      · exact bounds_i64 b1
      · exact bounds_i64 b2
      · exact bounds_i64 b3
      · exact bounds_i64 b4
      · exact bounds_i64 b5
    · unfold u32B
      rcases (show j = 0 ∨ j = 1 ∨ j = 2 ∨ j = 3 by omega) with rfl | rfl | rfl | rfl
      · exact bounds_u32 b6
      · exact bounds_u32 b7
      · exact bounds_u32 b8
      · exact bounds_u32 b9
theorem objs_open {w : World} {cs : List Value} (h : Reads Tryd.prog w 22 cs) : ∃ (a : Option Addr) (n c : Nat) (O : List ObjX), cs = [.slice a n c] ∧ n ≤ maxLen ∧ ObjsArg w a n O := by
  obtain ⟨a, n, c, e, hl, hm, r⟩ := h.rows Tryd.underlying22 (n := 10) (by kernel_rfl) (by omega)
  rcases Nat.eq_zero_or_pos n with rfl | hp
  · exact ⟨a, 0, c, [], e, by omega, rfl, fun x hx => by (cases hx), fun h => by omega⟩
  · obtain ⟨b, off, rfl, hb, hr⟩ := r hp
    haveI : Inhabited ObjX := ⟨(fun _ => 0, fun _ => 0)⟩
    obtain ⟨F, hF⟩ := Deep.choose_lt (n := n) (p := fun i (x : ObjX) => ObjOk x ∧ w.rangeAt b (off + i * 10) (objL x)) (fun i hi => by
      obtain ⟨cs', hl17, hc, hrd⟩ := hr i hi
      obtain ⟨x, rfl, hx⟩ := obj_reads hrd
      refine ⟨x, hx, fun j v hj => ?_⟩
      have hj10 : j < 10 := by
        rcases Nat.lt_or_ge j 10 with h | h
        · exact h
        · rw [List.getElem?_eq_none (by show 10 ≤ j; exact h)] at hj; cases hj
      rw [hc j hj10]
      exact hj)
    refine ⟨_, n, c, (List.range n).map F, e, by omega, by simp, fun x hx => ?_, fun _ => ⟨b, off, rfl, hb, fun i x hi => ?_⟩⟩
    · obtain ⟨i, hi, rfl⟩ := List.mem_map.1 hx
      exact (hF i (List.mem_range.1 hi)).1
    · rw [List.getElem?_map] at hi
      obtain ⟨j, hj, rfl⟩ := Option.map_eq_some_iff.1 hi
      have hin : i < n := by
        rcases Nat.lt_or_ge i n with h | h
        · exact h
        · rw [List.getElem?_eq_none (by simpa using h)] at hj; cases hj
      rw [List.getElem?_range hin] at hj
      obtain rfl := Option.some.inj hj
      exact (hF _ hin).2
/-- Cells written one behind the other. -/
def setsA (cur : Array Value) (o : Nat) : List Value → Array Value
  | [] => cur
  | v :: t => setsA (cur.setIfInBounds o v) (o + 1) t
theorem setsA_size : ∀ (vs : List Value) (cur : Array Value) (o : Nat), (setsA cur o vs).size = cur.size
  | [], _, _ => rfl
  | v :: t, cur, o => by
    show (setsA (cur.setIfInBounds o v) (o + 1) t).size = _
    rw [setsA_size t, Array.size_setIfInBounds]
theorem setsA_out : ∀ (vs : List Value) (cur : Array Value) (o j : Nat), j < o ∨ o + vs.length ≤ j → (setsA cur o vs)[j]? = cur[j]?
  | [], _, _, _, _ => rfl
  | v :: t, cur, o, j, h => by
    show (setsA (cur.setIfInBounds o v) (o + 1) t)[j]? = _
    simp at h
    rw [setsA_out t _ _ _ (by omega), Array.getElem?_setIfInBounds_ne (by omega)]
theorem setsA_in : ∀ (vs : List Value) (cur : Array Value) (o j : Nat) (v : Value), o + vs.length ≤ cur.size → vs[j]? = some v → (setsA cur o vs)[o + j]? = some v
  | [], _, _, j, _, _, h => by cases j <;> cases h
  | x :: t, cur, o, 0, v, hs, h => by
    cases h
    show (setsA (cur.setIfInBounds o x) (o + 1) t)[o + 0]? = _
    simp at hs
    rw [setsA_out t _ _ _ (by omega)]
    exact Array.getElem?_setIfInBounds_self_of_lt (by omega)
  | x :: t, cur, o, j + 1, v, hs, h => by
    show (setsA (cur.setIfInBounds o x) (o + 1) t)[o + (j + 1)]? = _
    simp at hs
    rw [show o + (j + 1) = o + 1 + j by omega]
    exact setsA_in t _ _ j v (by rw [Array.size_setIfInBounds]; omega) h
theorem heap_sets : ∀ (vs : List Value) (o : Nat) (w : World) (b : Nat) (cur : Array Value) (T : TypeId) (fr : Nat × Nat), w.heap[b]? = some (.cells cur T fr) → (w.setCells b o vs).heap[b]? = some (.cells (setsA cur o vs) T fr)
  | [], _, _, _, _, _, _, h => h
  | v :: t, o, w, b, cur, T, fr, h => by
    rw [World.setCells]
    exact heap_sets t (o + 1) _ b _ T fr (heap_set h o v)
theorem Keeps.sets {S : Nat → Prop} {w0 : World} {b : Nat} (hs : S b ∨ w0.heap.size ≤ b) : ∀ (vs : List Value) (o : Nat) (w : World), Keeps S w0 w → Keeps S w0 (w.setCells b o vs)
  | [], _, _, h => h
  | v :: t, o, w, h => by
    rw [World.setCells]
    exact Keeps.sets hs t (o + 1) _ (h.setCell (p := ⟨b, o, Option.none⟩) hs v)
theorem there_of {w : World} {b : Nat} {cur : Array Value} {T : TypeId} (h : w.heap[b]? = some (.cells cur T (0, 0))) (o n : Nat) (hn : o + n ≤ cur.size) : w.there b o n := fun j hj =>
  ⟨by rw [cell_of h (o + j), Array.getElem?_eq_getElem (by omega)]; rfl, free_of h (o + j)⟩
end Go.Proofs.YtohajfkekkelhaaDoor
