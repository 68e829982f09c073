import Derived.Test.YtkhmfjfclpehfaaGreatSpecB
import Derived.Test.YtkhmfjfclpehfaaGreatHas
import Derived.Test.YtkhmfjfclpehfaaGreatObj
namespace Go.Proofs.YtkhmfjfclpehfaaGreat
open Go.ChangeShapes Go.WideShapes Go.ChangeAt Go.RowKit
set_option linter.unusedVariables false
set_option linter.unusedSimpArgs false
/-- A value: four words. -/
structure W4 where
  a : Int
  b : Int
  c : Int
  d : Int
@[reducible] def W4.l (v : W4) : List Value := [.int .u32 v.a, .int .u32 v.b, .int .u32 v.c, .int .u32 v.d]
@[reducible] def W4.cells (v : W4) : Array Value := #[.int .u32 v.a, .int .u32 v.b, .int .u32 v.c, .int .u32 v.d]
def W4.zero : W4 := ⟨0, 0, 0, 0⟩
structure W4.Ok (v : W4) : Prop where
  a : u32B v.a
  b : u32B v.b
  c : u32B v.c
  d : u32B v.d
theorem W4.zero_ok : W4.zero.Ok := ⟨⟨by decide, by decide⟩, ⟨by decide, by decide⟩, ⟨by decide, by decide⟩, ⟨by decide, by decide⟩⟩
/-- Only its first words. -/
def W4.clip (v : W4) (m : Nat) : W4 := ⟨clipP m 0 v.a, clipP m 1 v.b, clipP m 2 v.c, clipP m 3 v.d⟩
theorem clipP_ok (m j : Nat) (x : Int) (h : u32B x) : u32B (clipP m j x) := by
  unfold clipP
  by_cases q : m ≤ j
  · rw [if_pos q]; exact ⟨by decide, by decide⟩
  · rw [if_neg q]; exact h
theorem W4.Ok.clip {v : W4} (h : v.Ok) (m : Nat) : (v.clip m).Ok := ⟨clipP_ok m 0 _ h.a, clipP_ok m 1 _ h.b, clipP_ok m 2 _ h.c, clipP_ok m 3 _ h.d⟩
def W4.eq (v u : W4) : Bool := eq4 v.a v.b v.c v.d u.a u.b u.c u.d
/-- A result: a fault and a value. -/
structure ResD where
  f : Int
  v : W4
@[reducible] def ResD.cells (r : ResD) : Array Value := #[.int .i64 r.f, .int .u32 r.v.a, .int .u32 r.v.b, .int .u32 r.v.c, .int .u32 r.v.d]
def ResD.eq (r s : ResD) : Bool := (r.f == s.f) && r.v.eq s.v
/-- An object, and what it has. -/
structure ItemD where
  o : Nat → Int
  oi : Nat → Int
  row : List W4
  v : W4
structure ItemD.Ok (x : ItemD) : Prop where
  o : ∀ j, j < 6 → i64B (x.o j)
  oi : ∀ j, j < 4 → u32B (x.oi j)
  row : ∀ v, v ∈ x.row → v.Ok
  v : x.v.Ok
  len : x.row.length ≤ 64
@[reducible] def ItemD.l (x : ItemD) (a : Option Addr) (n c : Nat) : List Value := [.int .i64 (x.o 0), .int .i64 (x.o 1), .int .i64 (x.o 2), .int .i64 (x.o 3), .int .i64 (x.o 4), .int .i64 (x.o 5), .int .u32 (x.oi 0), .int .u32 (x.oi 1), .int .u32 (x.oi 2), .int .u32 (x.oi 3), .slice a n c, .int .u32 x.v.a, .int .u32 x.v.b, .int .u32 x.v.c, .int .u32 x.v.d]
/-- Values one behind the other. -/
def RowIn (w : World) (a : Option Addr) (R : List W4) : Prop := 0 < R.length → ∃ b off, a = some ⟨b, off, none⟩ ∧ b < w.heap.size ∧ ∀ k x, R[k]? = some x → w.rangeAt b (off + k * 4) x.l
theorem RowIn.below {w w' : World} {a : Option Addr} {R : List W4} (h : RowIn w a R) (hb : Below w.heap.size w w') : RowIn w' a R := fun hn => by
  obtain ⟨b, off, e, hl, hc⟩ := h hn
  exact ⟨b, off, e, Nat.lt_of_lt_of_le hl hb.size, fun k x hk => range_below (hc k x hk) hb hl⟩
/-- The cells of an item within those of a block. -/
def CurAt (cur : Array Value) (o : Nat) (L : List Value) : Prop := ∀ j v, L[j]? = some v → cur[o + j]? = some v
/-- An item in memory. -/
def ItemAt (w : World) (g o : Nat) (x : ItemD) : Prop := ∃ a c, w.rangeAt g o (x.l a x.row.length c) ∧ x.row.length ≤ c ∧ c ≤ maxLen ∧ (a = none → c = 0) ∧ RowIn w a x.row
theorem ItemAt.below {w w' : World} {B g o : Nat} {x : ItemD} (h : ItemAt w g o x) (hb : Below w.heap.size w w') (hg : g < w.heap.size) : ItemAt w' g o x := by
  obtain ⟨a, c, h1, h2, h3, h4, h5⟩ := h
  exact ⟨a, c, range_below h1 hb hg, h2, h3, h4, h5.below hb⟩
/-- A state in memory: items one behind the other, from a block's head on. -/
structure StateAt (w : World) (g : Nat) (L : List ItemD) : Prop where
  lt : g < w.heap.size
  at' : ∀ k x, L[k]? = some x → ItemAt w g (k * 15) x
theorem StateAt.below {w w' : World} {g : Nat} {L : List ItemD} (h : StateAt w g L) (hb : Below w.heap.size w w') : StateAt w' g L :=
  ⟨Nat.lt_of_lt_of_le h.lt hb.size, fun k x hk => (h.at' k x hk).below (B := 0) hb h.lt⟩
/-- An item in a block of its own, that may be written. -/
structure ItemW (w : World) (g o : Nat) (cur : Array Value) (x : ItemD) (a : Option Addr) (c : Nat) : Prop where
  cur : CurAt cur o (x.l a x.row.length c)
  le : x.row.length ≤ c
  max : c ≤ maxLen
  nil : a = none → c = 0
  row : RowIn w a x.row
  apart : 0 < x.row.length → ∀ b off, a = some ⟨b, off, none⟩ → b ≠ g
theorem ItemW.at' {w : World} {g o : Nat} {T : TypeId} {cur : Array Value} {x : ItemD} {a : Option Addr} {c : Nat} (h : ItemW w g o cur x a c) (hb : w.heap[g]? = some (.cells cur T (0, 0))) : ItemAt w g o x :=
  ⟨a, c, fun j v hv => (cell_of hb (o + j)).trans (h.cur j v hv), h.le, h.max, h.nil, h.row⟩
theorem ItemW.fifteen {w : World} {g o : Nat} {T : TypeId} {cur : Array Value} {x : ItemD} {a : Option Addr} {c : Nat} (h : ItemW w g o cur x a c) (hb : w.heap[g]? = some (.cells cur T (0, 0))) : w.rangeAt g o (x.l a x.row.length c) := fun j v hv => (cell_of hb (o + j)).trans (h.cur j v hv)
theorem ItemW.keeps {w w' : World} {g o : Nat} {cur cur' : Array Value} {x : ItemD} {a : Option Addr} {c : Nat} (h : ItemW w g o cur x a c) (hk : Keeps (fun j => j = g) w w') (hc : ∀ j, o ≤ j → j < o + 15 → cur'[j]? = cur[j]?) : ItemW w' g o cur' x a c := by
  refine ⟨fun j v hj => ?_, h.le, h.max, h.nil, fun hn => ?_, h.apart⟩
  · have hj15 : j < 15 := by
      rcases Nat.lt_or_ge j 15 with h1 | h1
      · exact h1
      · rw [List.getElem?_eq_none (by show 15 ≤ j; exact h1)] at hj; cases hj
    rw [hc (o + j) (by omega) (by omega)]
    exact h.cur j v hj
  · obtain ⟨b, off, e, hl, hr⟩ := h.row hn
    have hne := h.apart hn b off e
    refine ⟨b, off, e, Nat.lt_of_lt_of_le hl hk.size, fun k v hv j u hu => ?_⟩
    rw [World.cell?_of_block (a := ⟨b, off + k * 4 + j, none⟩) (hk.block b hl hne)]
    exact hr k v hv j u hu
/-- A store into the first block that is new. -/
theorem Keeps.setNew {S : Nat → Prop} {a w : World} (h : Keeps S a w) (j : Nat) {u : Value} : Keeps S a (w.setCell ⟨a.heap.size, j, Option.none⟩ u) := h.setCell (.inr (Nat.le_refl _)) u
def kindP (o : Nat → Int) : Int := if rightS o = true then o 0 else 0
end Go.Proofs.YtkhmfjfclpehfaaGreat
