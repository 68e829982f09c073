import Derived.Test.YtkhmfjfclpehfaaGreatRows
import Derived.Test.YtkhmfjfclpehfaaGreatKeep
import Derived.Test.YtkhmfjfclpehfaaGreatOpen
import Derived.Laws.AppendOwn
namespace Go.Proofs.YtkhmfjfclpehfaaGreat
open Go.ChangeShapes Go.WideShapes Go.ChangeAt Go.RowKit
set_option linter.unusedVariables false
/-- A slice of n numbers, of which F tells. -/
def Row (w : World) (a : Option Addr) (n : Nat) (F : Nat → Int) : Prop := 0 < n → ∃ b off, a = some ⟨b, off, none⟩ ∧ b < w.heap.size ∧ ∀ i, i < n → w.cell? ⟨b, off + i, none⟩ = some (.int .i64 (F i))
theorem Row.below {w w' : World} {a : Option Addr} {n : Nat} {F : Nat → Int} (h : Row w a n F) (hk : Below w.heap.size w w') : Row w' a n F := by
  intro hn
  obtain ⟨b, off, ha, hb, hc⟩ := h hn
  exact ⟨b, off, ha, Nat.lt_of_lt_of_le hb hk.size, fun i hi => (hk.cell (p := ⟨b, off + i, none⟩) hb).trans (hc i hi)⟩
set_option maxRecDepth 100000 in
/-- A slice of numbers, read. -/
theorem row_of {H : Type} {enc : TypeId × Value → H} {W : World} {base : Nat} {v : Value} {d : DataW H} {p : List MemPlace}
    (k : Value.okWide Tryz.prog W .any base 33 v) (h : DataW.Trod enc Tryz.prog W 0 (fun _ => true) true 33 v d p) :
    ∃ (a : Option Addr) (n cap : Nat) (F : Nat → Int), v = .slice a n cap ∧ n ≤ maxLen ∧ Row W a n F ∧ ∀ i, i < n → (Lit.int .i64 (F i)).wf = true := by
  obtain ⟨a0, n0, c0, rfl⟩ := okWide_slice Tryz.underlying33 k
  obtain ⟨a, n, c, e, hl, hm, r⟩ := (reads_of h).rows Tryz.underlying33 (n := 1) (by kernel_rfl) (by omega)
  simp [Value.cells] at e
  obtain ⟨rfl, rfl, rfl⟩ := e
  rcases Nat.eq_zero_or_pos n0 with rfl | hp
  · exact ⟨a0, 0, c0, fun _ => 0, rfl, by omega, fun h => by omega, fun i hi => by omega⟩
  · obtain ⟨b, off, rfl, hb, hr⟩ := r hp
    obtain ⟨F, hF⟩ := Deep.choose_lt (n := n0) (p := fun i (x : Int) => W.cell? ⟨b, off + i, none⟩ = some (.int .i64 x) ∧ (Lit.int .i64 x).wf = true) (fun i hi => by
      obtain ⟨cs', _, hc, hrd⟩ := hr i hi
      obtain ⟨x, rfl, hx⟩ := hrd.int Tryz.underlying3
      have := hc 0 (by omega)
      simp at this
      exact ⟨x, this, hx⟩)
    exact ⟨_, n0, c0, F, rfl, by omega, fun _ => ⟨b, off, rfl, hb, fun i hi => (hF i hi).1⟩, fun i hi => (hF i hi).2⟩
theorem Row.keeps {S : Nat → Prop} {w w' : World} {a : Option Addr} {n : Nat} {F : Nat → Int} (h : Row w a n F) (hk : Keeps S w w') (hs : ∀ b off, a = some ⟨b, off, none⟩ → ¬ S b) : Row w' a n F := by
  intro hn
  obtain ⟨b, off, ha, hb, hc⟩ := h hn
  exact ⟨b, off, ha, Nat.lt_of_lt_of_le hb hk.size, fun i hi => (World.cell?_of_block (w := w) (hk.block b hb (hs b off ha))).trans (hc i hi)⟩
theorem Row.none {w w' : World} {a : Option Addr} {n : Nat} {F : Nat → Int} (h : Row w a n F) (hk : Keeps (fun _ => False) w w') : Row w' a n F := h.keeps hk fun _ _ _ h => h
theorem Keeps.ofBelow {w w' : World} (h : Below w.heap.size w w') : Keeps (fun _ => False) w w' := ⟨h.os, h.tape, h.output, h.size, fun k hk _ => h.block k hk⟩
theorem new_one (w : World) (x : Value) (E : TypeId) : ∀ (j : Nat) (u : Value), [x][j]? = some u → (w.alloc (.cells #[x] E)).cell? ((⟨w.heap.size, 0, Option.none⟩ : Addr).add j) = some u := by
  intro j u h
  rcases j with _ | j
  · have e : (⟨w.heap.size, 0, Option.none⟩ : Addr).add 0 = ⟨w.heap.size, 0, Option.none⟩ := by simp [Addr.add]
    rw [e, World.cell?_alloc_at _ _ _ _ rfl]
    simpa using h
  · simp at h
/-- The numbers as cells. -/
def nums (F : Nat → Int) (n : Nat) : List Value := (List.range n).map fun i => Value.int .i64 (F i)
theorem nums_len (F : Nat → Int) (n : Nat) : (nums F n).length = n := by simp [nums]
theorem nums_get (F : Nat → Int) (n i : Nat) (h : i < n) : (nums F n)[i]? = some (.int .i64 (F i)) := by simp [nums, h]
theorem Row.ofOwn {w : World} {B n : Nat} {E : TypeId} {v : Value} {F : Nat → Int} (h : w.ownsRow B E 1 v n (nums F n)) : ∃ a cap, v = .slice a n cap ∧ Row w a n F := by
  obtain ⟨h1, h | ⟨g, cap, cur, rfl, hg, hb, hc1, hc2, hs, ht⟩⟩ := h
  · exact ⟨Option.none, 0, by rw [h.1, h.2], fun hp => by omega⟩
  · refine ⟨_, cap, rfl, fun hp => ⟨g, 0, rfl, lt_of hb, fun i hi => ?_⟩⟩
    have e : w.cell? ⟨g, 0 + i, Option.none⟩ = cur[i]? := by simp [World.cell?, hb]
    have e2 : (cur.toList.take (n * 1))[i]? = (nums F n)[i]? := by rw [ht]
    rw [List.getElem?_take, if_pos (by omega), nums_get F n i hi] at e2
    rw [e]
    simpa using e2
theorem made_none (w : World) (B : Nat) (E : TypeId) (hB : B ≤ w.heap.size) : (w.alloc (.cells #[] E)).ownsRow B E 1 (.slice (some ⟨w.heap.size, 0, Option.none⟩) 0 0) 0 [] :=
  ⟨rfl, .inr ⟨w.heap.size, 0, #[], rfl, hB, heap_new _ _, Nat.le_refl _, by unfold maxLen; omega, rfl, rfl⟩⟩
theorem Row.cells {w : World} {b off n : Nat} {F : Nat → Int} (hc : ∀ i, i < n → w.cell? ⟨b, off + i, Option.none⟩ = some (.int .i64 (F i))) : ∀ (j : Nat) (u : Value), (nums F n)[j]? = some u → w.cell? ((⟨b, off, Option.none⟩ : Addr).add j) = some u := by
  intro j u hj
  have hjn : j < n := by
    rcases Nat.lt_or_ge j n with h1 | h1
    · exact h1
    · rw [List.getElem?_eq_none (by rw [nums_len]; exact h1)] at hj; cases hj
  rw [nums_get F n j hjn] at hj
  have e : ((⟨b, off, Option.none⟩ : Addr).add j) = ⟨b, off + j, Option.none⟩ := by
    simp only [Addr.add]
    by_cases h : j = 0 <;> simp [h]
  rw [e, hc j hjn, ← Option.some.inj hj]
end Go.Proofs.YtkhmfjfclpehfaaGreat
