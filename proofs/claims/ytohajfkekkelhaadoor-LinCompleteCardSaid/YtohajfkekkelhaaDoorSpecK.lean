import Derived.Test.YtohajfkekkelhaaDoorSpecE
import Derived.Test.YtohajfkekkelhaaDoorSpecI
import Derived.Test.YtohajfkekkelhaaDoorSpecJ
namespace Go.Proofs.YtohajfkekkelhaaDoor
open Go.ChangeShapes Go.WideShapes Go.ChangeAt Go.RowKit
set_option linter.unusedVariables false
set_option linter.unusedSimpArgs false
theorem doRing_any (w : World) (g o : Nat) (cur : Array Value) (x : ItemD) (a : Option Addr) (c : Nat) (v : W4) (k : Int) (m : Nat) (hb : w.heap[g]? = some (.cells cur 75 (0, 0))) (hx : ItemW w g o cur x a c) (hm : x.o 2 = (m : Int)) (hm1 : m ≤ 1000) (hn : x.row.length ≤ 64) :
    Calls Tryd.prog 49 #[.pointer (some ⟨g, o, none⟩), .int .i64 k, .agg v.cells] w fun e w' => e = .returned (.agg (ringP x k v m).2.cells) ∧ Became w w' g o 75 cur a x.row (ringP x k v m).1 := by
  by_cases h1 : k = 1
  · subst h1
    by_cases h2 : x.o 1 ≤ (x.row.length : Int)
    · rw [show ringP x 1 v m = (x, res0 6) by unfold ringP; rw [if_pos (beq_self_eq_true (1 : Int)), if_pos h2]]
      exact doRing_not w g o cur x a c v 1 6 hb hx (.inl ⟨rfl, h2, rfl⟩)
    · rw [show ringP x 1 v m = ({x with row := x.row ++ [v.clip m]}, res0 0) by unfold ringP; rw [if_pos (beq_self_eq_true (1 : Int)), if_neg h2]]
      exact doRing_send w g o cur x a c v m hb hx hm hm1 hn h2
  · have e1 : (k == 1) = false := by simpa using h1
    by_cases h2 : k = 2
    · subst h2
      have hcase : x.row = [] ∨ ∃ y t, x.row = y :: t := by
        cases x.row with
        | nil => exact .inl rfl
        | cons y t => exact .inr ⟨y, t, rfl⟩
      rcases hcase with hr | ⟨y, t, hr⟩
      · rw [show ringP x 2 v m = (x, res0 7) by unfold ringP; rw [if_neg (by decide), if_pos (beq_self_eq_true (2 : Int)), hr]]
        exact doRing_not w g o cur x a c v 2 7 hb hx (.inr (.inl ⟨rfl, hr, rfl⟩))
      · rw [show ringP x 2 v m = ({x with row := t}, ⟨0, y⟩) by unfold ringP; rw [if_neg (by decide), if_pos (beq_self_eq_true (2 : Int)), hr]]
        exact doRing_recv w g o cur x a c v hb hx y t hr hn
    · have e2 : (k == 2) = false := by simpa using h2
      rw [show ringP x k v m = (x, res0 12) by unfold ringP; rw [e1, e2]; rfl]
      exact doRing_not w g o cur x a c v k 12 hb hx (.inr (.inr ⟨e1, e2, rfl⟩))
/-- A call to an item. -/
def stepP (x : ItemD) (k : Int) (v : W4) : ItemD × ResD :=
  if kindP x.o = 1 then ringP x k v (x.o 2).toNat
  else if kindP x.o = 2 ∨ kindP x.o = 3 then valueP x k v (x.o 2).toNat
  else if kindP x.o = 4 then flagsP x x.v.a.toNat k v.a.toNat
  else (x, res0 12)
/-- A call done at once. -/
def doP (L : List ItemD) (k obj : Int) (v : W4) : List ItemD × ResD :=
  if knownP (plainP k) = false then (L, res0 1)
  else if obj < 0 ∨ (L.length : Int) ≤ obj then (L, res0 4)
  else match L[obj.toNat]? with
    | none => (L, res0 4)
    | some x => (L.set obj.toNat (stepP x (plainP k) v).1, (stepP x (plainP k) v).2)
/-- An item has become another one within its state; a block that was new at the start may have been written. -/
theorem state_set {w w' w'' : World} {g i B A : Nat} {T : TypeId} {cur : Array Value} {L : List ItemD} {x x' : ItemD} {a : Option Addr} {c : Nat} (hall : ∀ k y, L[k]? = some y → ∃ a c, ItemW w g (k * 15) cur y a c ∧ (0 < y.row.length → ∀ b off, a = some ⟨b, off, none⟩ → b < B))
    (hi : L[i]? = some x) (hx : ItemW w g (i * 15) cur x a c) (hxb : 0 < x.row.length → ∀ b off, a = some ⟨b, off, none⟩ → b < B) (hbc : Became w w' g (i * 15) T cur a x.row x')
    (hk : Keeps (fun j => j = A) w' w'') (hA1 : B ≤ A) (hA2 : A < w.heap.size) (hg : A ≠ g) (hBg : B ≤ g) (hgw : g < w.heap.size) : StateAt w'' g (L.set i x') := by
  obtain ⟨cur', a', c', hb', hsz, hout, hw', hkk, hnew⟩ := hbc
  have hg' : w''.heap[g]? = some (.cells cur' T (0, 0)) := hk.at hb' (by omega)
  refine ⟨lt_of hg', fun k y hy => ?_⟩
  by_cases e : k = i
  · subst e
    rw [List.getElem?_set_self (List.getElem?_eq_some_iff.1 hi).1] at hy
    obtain rfl := Option.some.inj hy
    refine ⟨a', c', fun j v hv => (cell_of hg' (k * 15 + j)).trans (hw'.cur j v hv), hw'.le, hw'.max, hw'.nil, fun hn => ?_⟩
    obtain ⟨b, off, e1, hl, hr⟩ := hw'.row hn
    have hbA : b ≠ A := by
      rcases hnew with h | h
      · rw [h.1] at e1
        have := hxb (by rw [← h.2]; exact hn) b off e1
        omega
      · have := h b off e1; omega
    refine ⟨b, off, e1, Nat.lt_of_lt_of_le hl hk.size, fun q v hv j u hu => ?_⟩
    rw [World.cell?_of_block (a := ⟨b, off + q * 4 + j, none⟩) (hk.block b hl hbA)]
    exact hr q v hv j u hu
  · rw [List.getElem?_set_ne (by omega)] at hy
    obtain ⟨a1, c1, h1, h1b⟩ := hall k y hy
    have h2 := h1.keeps (w' := w') (cur' := cur') hkk fun j hj1 hj2 => hout j (by omega)
    refine ⟨a1, c1, fun j v hv => (cell_of hg' (k * 15 + j)).trans (h2.cur j v hv), h2.le, h2.max, h2.nil, fun hn => ?_⟩
    obtain ⟨b, off, e1, hl, hr⟩ := h2.row hn
    have := h1b hn b off e1
    refine ⟨b, off, e1, Nat.lt_of_lt_of_le hl hk.size, fun q v hv j u hu => ?_⟩
    rw [World.cell?_of_block (a := ⟨b, off + q * 4 + j, none⟩) (hk.block b hl (by omega))]
    exact hr q v hv j u hu
/-- A state as it was; a block that was new at the start may have been written. -/
theorem state_kept {w w'' : World} {g B A : Nat} {T : TypeId} {cur : Array Value} {L : List ItemD} (hall : ∀ k y, L[k]? = some y → ∃ a c, ItemW w g (k * 15) cur y a c ∧ (0 < y.row.length → ∀ b off, a = some ⟨b, off, none⟩ → b < B)) (hb : w.heap[g]? = some (.cells cur T (0, 0)))
    (hk : Keeps (fun j => j = A) w w'') (hA1 : B ≤ A) (hg : A ≠ g) : StateAt w'' g L := by
  have hg' : w''.heap[g]? = some (.cells cur T (0, 0)) := hk.at hb (by omega)
  refine ⟨lt_of hg', fun k y hy => ?_⟩
  obtain ⟨a1, c1, h2, h1b⟩ := hall k y hy
  refine ⟨a1, c1, fun j v hv => (cell_of hg' (k * 15 + j)).trans (h2.cur j v hv), h2.le, h2.max, h2.nil, fun hn => ?_⟩
  obtain ⟨b, off, e1, hl, hr⟩ := h2.row hn
  have := h1b hn b off e1
  refine ⟨b, off, e1, Nat.lt_of_lt_of_le hl hk.size, fun q v hv j u hu => ?_⟩
  rw [World.cell?_of_block (a := ⟨b, off + q * 4 + j, none⟩) (hk.block b hl (by omega))]
  exact hr q v hv j u hu
end Go.Proofs.YtohajfkekkelhaaDoor
