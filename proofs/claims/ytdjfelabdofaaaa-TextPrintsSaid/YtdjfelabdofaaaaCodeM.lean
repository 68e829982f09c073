import Derived.Test.YtdjfelabdofaaaaCodeK
namespace Go.Proofs.Ytdjfelabdofaaaa
open Go.ChangeShapes Go.WideShapes Go.ChangeAt Go.RowKit
set_option linter.unusedVariables false
set_option linter.unusedSimpArgs false
set_option maxRecDepth 100000
theorem call_reads {w : World} {cs : List Value} (h : Reads Try.prog w 81 cs) : ∃ c : CallD, cs = cellsC c ∧ c.Ok := by
  obtain ⟨hl, _⟩ := h.struct Try.underlying81
  have hc : Try.prog.cellsOf 81 = 7 := by kernel_rfl
  have hi : Try.prog.cellsOf 3 = 1 := by kernel_rfl
  have hu : Try.prog.cellsOf 55 = 1 := by kernel_rfl
  have hv : Try.prog.cellsOf 57 = 4 := by kernel_rfl
  rw [hc] at hl
  match cs, hl with
  | [a0, a1, a2, a3, a4, a5, a6], _ =>
    obtain ⟨k, e0, b0⟩ := (h.field Try.underlying81 0 3 0 1 rfl hi).int Try.underlying3
    obtain ⟨o, e1, b1⟩ := (h.field Try.underlying81 1 3 1 1 rfl hi).int Try.underlying3
    have h2 := ((h.field Try.underlying81 2 57 2 4 rfl hv).array Try.underlying57).2
    rw [hu] at h2
    obtain ⟨v0, e2, b2⟩ := (h2 0 (by omega)).int Try.underlying55
    obtain ⟨v1, e3, b3⟩ := (h2 1 (by omega)).int Try.underlying55
    obtain ⟨v2, e4, b4⟩ := (h2 2 (by omega)).int Try.underlying55
    obtain ⟨v3, e5, b5⟩ := (h2 3 (by omega)).int Try.underlying55
    obtain ⟨n, e6, b6⟩ := (h.field Try.underlying81 3 55 6 1 rfl hu).int Try.underlying55
    simp at e0 e1 e2 e3 e4 e5 e6
    subst e0 e1 e2 e3 e4 e5 e6
    exact ⟨⟨k, o, v0, v1, v2, v3, n⟩, rfl, ⟨bounds_i64 b0, bounds_i64 b1, bounds_u32 b2, bounds_u32 b3, bounds_u32 b4, bounds_u32 b5, bounds_u32 b6⟩⟩
theorem call_open {H : Type} {enc : TypeId × Value → H} {W : World} {r : Reach} {base : Nat} {v : Value} {d : DataW H} {p : List MemPlace}
    (k : Value.okWide Try.prog W r base 81 v) (h : DataW.Trod enc Try.prog W 0 (fun _ => true) true 81 v d p) : ∃ c : CallD, v = .agg (callC c) ∧ c.Ok := by
  obtain ⟨cs, rfl, _⟩ := okWide_struct Try.underlying81 k
  obtain ⟨c, hcs, hc⟩ := call_reads (reads_of h)
  refine ⟨c, ?_, hc⟩
  congr 1
  have : cs.toList = cellsC c := by simpa [Value.cells] using hcs
  cases cs
  exact congrArg Array.mk this
theorem calls_open {w : World} {cs : List Value} (h : Reads Try.prog w 40 cs) :
    ∃ (a : Option Addr) (n c : Nat) (L : List CallD), cs = [.slice a n c] ∧ n ≤ maxLen ∧ L.length = n ∧ (∀ x, x ∈ L → x.Ok) ∧ (0 < n → ∃ b off, a = some ⟨b, off, none⟩ ∧ b < w.heap.size ∧ ∀ j v, (flatC L)[j]? = some v → w.cell? ⟨b, off + j, none⟩ = some v) := by
  obtain ⟨a, n, c, e, hl, hm, r⟩ := h.rows Try.underlying40 (n := 7) (by kernel_rfl) (by omega)
  rcases Nat.eq_zero_or_pos n with rfl | hp
  · exact ⟨a, 0, c, [], e, by omega, rfl, fun x hx => by (cases hx), fun h => by omega⟩
  · obtain ⟨b, off, rfl, hb, hr⟩ := r hp
    haveI : Inhabited CallD := ⟨zeroC⟩
    obtain ⟨F, hF⟩ := Deep.choose_lt (n := n) (p := fun i (x : CallD) => x.Ok ∧ ∀ j v, (cellsC x)[j]? = some v → w.cell? ⟨b, off + i * 7 + j, none⟩ = some v) (fun i hi => by
      obtain ⟨cs', hl7, hc, hrd⟩ := hr i hi
      obtain ⟨x, rfl, hx⟩ := call_reads hrd
      refine ⟨x, hx, fun j v hj => ?_⟩
      have hj7 : j < 7 := by
        rcases Nat.lt_or_ge j 7 with h | h
        · exact h
        · rw [List.getElem?_eq_none (by show 7 ≤ j; exact h)] at hj; cases hj
      rw [hc j hj7]
      exact hj)
    refine ⟨_, n, c, (List.range n).map F, e, by omega, by simp, fun x hx => ?_, fun _ => ⟨b, off, rfl, hb, fun j v hj => ?_⟩⟩
    · obtain ⟨i, hi, rfl⟩ := List.mem_map.1 hx
      exact (hF i (List.mem_range.1 hi)).1
    · have hjl : j < n * 7 := by
        rcases Nat.lt_or_ge j (n * 7) with h | h
        · exact h
        · rw [List.getElem?_eq_none (by rw [flatC_len]; simpa using h)] at hj; cases hj
      have hd : j = j / 7 * 7 + j % 7 := by omega
      have hq : j / 7 < n := by omega
      obtain ⟨u, hu⟩ : ∃ u, (cellsC (F (j / 7)))[j % 7]? = some u := ⟨_, List.getElem?_eq_getElem (by show j % 7 < 7; omega)⟩
      have h1 := flatC_at ((List.range n).map F) (j / 7) (F (j / 7)) (j % 7) u (by rw [List.getElem?_map, List.getElem?_range hq]; rfl) hu
      rw [← hd, hj] at h1
      obtain rfl := Option.some.inj h1
      have h2 := (hF (j / 7) hq).2 (j % 7) v hu
      rw [Nat.add_assoc, ← hd] at h2
      exact h2
end Go.Proofs.Ytdjfelabdofaaaa
