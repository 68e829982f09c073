import Derived.WalkKit
import Derived.ProofKit
import Derived.OpenShut
import Derived.ChangeArms
import Derived.Deep.Slices
namespace Go.Proofs.YtkhmfjfclpehfaaGreat
open Go.ChangeShapes Go.WideShapes Go.ChangeAt Go.RowKit

/-- The cells read as data of the type. -/
def Reads (P : Program) (w : World) (t : TypeId) (cs : List Value) : Prop :=
  ∃ (H : Type) (enc : TypeId × Value → H) (fuel : Nat) (x : DataW H × List MemPlace), DataW.trod enc P w 0 (fun _ => true) true fuel t cs = some x

variable {P : Program} {w : World} {t : TypeId} {cs : List Value}

theorem reads_of {H : Type} {enc : TypeId × Value → H} {v : Value} {d : DataW H} {p : List MemPlace} (h : DataW.Trod enc P w 0 (fun _ => true) true t v d p) : Reads P w t v.cells.toList := by
  obtain ⟨fuel, hf⟩ := h
  exact ⟨H, enc, fuel, _, hf⟩
theorem Reads.int {k : IntKind} (h : Reads P w t cs) (ht : P.underlying t = some (.int k)) : ∃ n, cs = [.int k n] ∧ (Lit.int k n).wf = true := by
  obtain ⟨H, enc, fuel, x, hf⟩ := h
  obtain ⟨n, h, _, hw⟩ := DataW.trod_int ht hf
  exact ⟨n, h, hw⟩
theorem Reads.bool (h : Reads P w t cs) (ht : P.underlying t = some .bool) : ∃ b, cs = [.bool b] := by
  obtain ⟨H, enc, fuel, x, hf⟩ := h
  obtain ⟨n, h, _⟩ := DataW.trod_bool ht hf
  exact ⟨n, h⟩
theorem Reads.string (h : Reads P w t cs) (ht : P.underlying t = some .string) : ∃ s, cs = [.string s] ∧ s.size ≤ maxLen := by
  obtain ⟨H, enc, fuel, x, hf⟩ := h
  obtain ⟨s, h, _, hs⟩ := DataW.trod_string ht hf
  exact ⟨s, h, hs⟩
theorem Reads.struct {fs : Array Field} (h : Reads P w t cs) (ht : P.underlying t = some (.struct fs)) :
    cs.length = P.cellsOf t ∧ ∀ (i : Nat) (f : Field), fs[i]? = some f → Reads P w f.type ((cs.drop f.offset).take (P.cellsOf f.type)) := by
  obtain ⟨H, enc, fuel, x, hf⟩ := h
  obtain ⟨xs, n, _, _, hl, hlen, h⟩ := DataW.trod_struct ht hf
  refine ⟨hl, fun i f hi => ?_⟩
  have hlt : i < fs.size := by
    rcases Nat.lt_or_ge i fs.size with h1 | h1
    · exact h1
    · rw [Array.getElem?_eq_none h1] at hi; cases hi
  have := h i f hi
  rw [List.getElem?_eq_getElem (by omega)] at this
  exact ⟨H, enc, n, _, this⟩
/-- A field of a struct, by its number: its type u, its place o, its size k. -/
theorem Reads.field {fs : Array Field} (h : Reads P w t cs) (ht : P.underlying t = some (.struct fs)) (i : Nat) (u o k : Nat) (hi : (fs[i]?).map (fun f => (f.type, f.offset)) = some (u, o)) (hk : P.cellsOf u = k) :
    Reads P w u ((cs.drop o).take k) := by
  cases hf : fs[i]? with
  | none => rw [hf] at hi; cases hi
  | some f =>
    rw [hf] at hi
    simp at hi
    obtain ⟨rfl, rfl⟩ := hi
    have := (h.struct ht).2 i f hf
    rw [hk] at this
    exact this
theorem Reads.array {n : Nat} {e : TypeId} (h : Reads P w t cs) (ht : P.underlying t = some (.array n e)) :
    cs.length = P.cellsOf t ∧ ∀ i, i < n → Reads P w e ((cs.drop (i * P.cellsOf e)).take (P.cellsOf e)) := by
  obtain ⟨H, enc, fuel, x, hf⟩ := h
  obtain ⟨xs, m, _, _, hl, hlen, h⟩ := DataW.trod_array ht hf
  refine ⟨hl, fun i hi => ?_⟩
  have := h i hi
  rw [List.getElem?_eq_getElem (by omega)] at this
  exact ⟨H, enc, m, _, this⟩
/-- A slice: nil, or so many elements, each of which reads, at its place. -/
theorem Reads.slice {e : TypeId} (h : Reads P w t cs) (ht : P.underlying t = some (.slice e)) :
    ∃ (a : Option Addr) (len cap : Nat), cs = [.slice a len cap] ∧ len ≤ cap ∧ cap ≤ maxLen ∧
      ∀ i, i < len → ∃ a', a = some a' ∧ ∃ cs', w.cells? 0 (a'.add (i * P.cellsOf e)) (P.cellsOf e) = some cs' ∧ Reads P w e cs' := by
  obtain ⟨H, enc, fuel, x, hf⟩ := h
  rcases Deep.open_slice ht hf with ⟨h, _⟩ | ⟨a, len, cap, m, n, D, Pl, h, _, hl, hm, hmm, _, hc⟩
  · exact ⟨none, 0, 0, h, by omega, by unfold maxLen; omega, fun i hi => by omega⟩
  · refine ⟨some a, len, cap, h, hl, hm, fun i hi => ⟨a, rfl, ?_⟩⟩
    simp only [if_true] at hmm
    obtain ⟨cs', h1, h2⟩ := hc i (by omega)
    exact ⟨cs', h1, ⟨H, enc, n, _, h2⟩⟩

theorem spot_none {a : Addr} {v : Value} (h : w.cell? a = some v) : a = ⟨a.block, a.off, none⟩ ∧ a.block < w.heap.size := by
  unfold World.cell? at h
  split at h
  · rename_i c _ _ e
    split at h
    · cases h
    · rename_i hs
      refine ⟨?_, ?_⟩
      · cases a with
        | mk b o s => cases s with
          | none => rfl
          | some _ => simp at hs
      · rcases Nat.lt_or_ge a.block w.heap.size with h1 | h1
        · exact h1
        · rw [Array.getElem?_eq_none h1] at e; cases e
  · cases h
/-- The same, cell by cell. -/
theorem Reads.rows {e : TypeId} {n : Nat} (h : Reads P w t cs) (ht : P.underlying t = some (.slice e)) (hn : P.cellsOf e = n) (hpos : 0 < n) :
    ∃ (a : Option Addr) (len cap : Nat), cs = [.slice a len cap] ∧ len ≤ cap ∧ cap ≤ maxLen ∧
      (0 < len → ∃ b off, a = some ⟨b, off, none⟩ ∧ b < w.heap.size ∧ ∀ i, i < len → ∃ cs', cs'.length = n ∧ (∀ j, j < n → w.cell? ⟨b, off + i * n + j, none⟩ = cs'[j]?) ∧ Reads P w e cs') := by
  obtain ⟨a, len, cap, hc, hl, hm, hi⟩ := h.slice ht
  refine ⟨a, len, cap, hc, hl, hm, fun hlen => ?_⟩
  obtain ⟨a', rfl, cs0, h0, _⟩ := hi 0 hlen
  rw [hn] at h0
  obtain ⟨_, l0, c0⟩ := World.cells?_some h0
  have hx := c0 0 (by omega)
  rw [List.getElem?_eq_getElem (by omega)] at hx
  have hz : (a'.add (0 * n)).add 0 = a' := by simp [Addr.add]
  rw [hz] at hx
  obtain ⟨hsp, hlt⟩ := spot_none hx
  refine ⟨a'.block, a'.off, by rw [← hsp], hlt, fun i hil => ?_⟩
  obtain ⟨a2, e2, cs', h1, h2⟩ := hi i hil
  cases e2
  rw [hn] at h1
  obtain ⟨_, l1, c1⟩ := World.cells?_some h1
  refine ⟨cs', l1, fun j hj => ?_, h2⟩
  rw [← c1 j hj]
  congr 1
  rw [hsp]
  simp only [Addr.add]
  by_cases h1 : i * n = 0 <;> by_cases h2 : j = 0 <;> simp [h1, h2]
end Go.Proofs.YtkhmfjfclpehfaaGreat
