import Derived.Test.YtfniicgfnlklbacQuP
import Derived.Test.YtfniicgfnlklbacOpen
namespace Go.Proofs.Ytfniicgfnlklbac
open Go.ChangeShapes Go.WideShapes Go.ChangeAt Go.RowKit
set_option linter.unusedVariables false
/-- The steps that are given. -/
def Steps25 (w : World) (a : Option Addr) (n : Nat) (G : Nat → Bool) (V : Nat → QN) : Prop := 0 < n → ∃ b off, a = some ⟨b, off, none⟩ ∧ b < w.heap.size ∧ ∀ i, i < n → w.cell? ⟨b, off + i * 5, none⟩ = some (.bool (G i)) ∧ w.cell? ⟨b, off + i * 5 + 1, none⟩ = some (.int .i64 (V i).t) ∧ w.cell? ⟨b, off + i * 5 + 2, none⟩ = some (.int .i64 (V i).k) ∧ w.cell? ⟨b, off + i * 5 + 3, none⟩ = some (.int .i64 (V i).o) ∧ w.cell? ⟨b, off + i * 5 + 4, none⟩ = some (.int .u32 ((V i).m : Int))
theorem bounds_u32' {n : Int} (h : (Lit.int .u32 n).wf = true) : 0 ≤ n ∧ n < 4294967296 := by
  simp [Lit.wf, IntKind.min, IntKind.max, IntKind.signed, IntKind.bits] at h
  omega
set_option maxRecDepth 100000 in
theorem wait34_cells {w : World} {cs : List Value} (h : Reads Try.prog w 34 cs) :
    ∃ (t k o : Int) (m : Nat), cs = [.int .i64 t, .int .i64 k, .int .i64 o, .int .u32 (m : Int)] := by
  obtain ⟨hl, hf⟩ := h.struct Try.underlying34
  have hc : Try.prog.cellsOf 34 = 4 := by kernel_rfl
  have hi : Try.prog.cellsOf 3 = 1 := by kernel_rfl
  have hu : Try.prog.cellsOf 25 = 1 := by kernel_rfl
  rw [hc] at hl
  match cs, hl with
  | [v0, v1, v2, v3], _ =>
    obtain ⟨t, ht, _⟩ := (h.field Try.underlying34 0 3 0 1 rfl hi).int Try.underlying3
    obtain ⟨k, hk, _⟩ := (h.field Try.underlying34 1 3 1 1 rfl hi).int Try.underlying3
    obtain ⟨o, ho, _⟩ := (h.field Try.underlying34 2 3 2 1 rfl hi).int Try.underlying3
    obtain ⟨m, hm, hw⟩ := (h.field Try.underlying34 3 25 3 1 rfl hu).int Try.underlying25
    obtain ⟨y, rfl⟩ := Int.eq_ofNat_of_zero_le (bounds_u32' hw).1
    simp at ht hk ho hm
    exact ⟨t, k, o, y, by simp [ht, hk, ho, hm]⟩
set_option maxRecDepth 100000 in
theorem step25_cells {w : World} {cs : List Value} (h : Reads Try.prog w 36 cs) :
    ∃ (g : Bool) (t k o : Int) (m : Nat), cs = [.bool g, .int .i64 t, .int .i64 k, .int .i64 o, .int .u32 (m : Int)] := by
  obtain ⟨hl, hf⟩ := h.struct Try.underlying36
  have hc : Try.prog.cellsOf 36 = 5 := by kernel_rfl
  have hb : Try.prog.cellsOf 4 = 1 := by kernel_rfl
  have hw : Try.prog.cellsOf 34 = 4 := by kernel_rfl
  rw [hc] at hl
  match cs, hl with
  | [v0, v1, v2, v3, v4], _ =>
    obtain ⟨g, hg⟩ := (h.field Try.underlying36 0 4 0 1 rfl hb).bool Try.underlying4
    obtain ⟨t, k, o, m, hq⟩ := wait34_cells (h.field Try.underlying36 1 34 1 4 rfl hw)
    simp at hg hq
    exact ⟨g, t, k, o, m, by simp [hg, hq]⟩
set_option maxRecDepth 100000 in
theorem steps25_of {H : Type} {enc : TypeId × Value → H} {W : World} {base : Nat} {v : Value} {d : DataW H} {p : List MemPlace}
    (k0 : Value.okWide Try.prog W .any base 22 v) (h0 : DataW.Trod enc Try.prog W 0 (fun _ => true) true 22 v d p) :
    ∃ (a : Option Addr) (n c : Nat) (G : Nat → Bool) (V : Nat → QN), v = .slice a n c ∧ n ≤ maxLen ∧ Steps25 W a n G V := by
  obtain ⟨a0, n0, c0, rfl⟩ := okWide_slice Try.underlying22 k0
  obtain ⟨a, n, c, e, hl0, hm0, r0⟩ := (reads_of h0).rows Try.underlying22 (n := 5) (by kernel_rfl) (by omega)
  simp [Value.cells] at e
  obtain ⟨rfl, rfl, rfl⟩ := e
  rcases Nat.eq_zero_or_pos n0 with rfl | hp
  · exact ⟨a0, 0, c0, fun _ => false, fun _ => ⟨0, 0, 0, 0, 0⟩, rfl, by omega, fun h => by omega⟩
  · obtain ⟨b, off, rfl, hb, hr⟩ := r0 hp
    obtain ⟨F, hF⟩ := Deep.choose_lt (n := n0) (p := fun i (f : Bool × Int × Int × Int × Nat) => W.cell? ⟨b, off + i * 5, none⟩ = some (.bool f.1) ∧ W.cell? ⟨b, off + i * 5 + 1, none⟩ = some (.int .i64 f.2.1) ∧ W.cell? ⟨b, off + i * 5 + 2, none⟩ = some (.int .i64 f.2.2.1) ∧ W.cell? ⟨b, off + i * 5 + 3, none⟩ = some (.int .i64 f.2.2.2.1) ∧ W.cell? ⟨b, off + i * 5 + 4, none⟩ = some (.int .u32 (f.2.2.2.2 : Int))) (fun i hi => by
      obtain ⟨cs', _, hc, hrd⟩ := hr i hi
      obtain ⟨g, t, k, o, m, rfl⟩ := step25_cells hrd
      have c0 := hc 0 (by omega)
      have c1 := hc 1 (by omega)
      have c2 := hc 2 (by omega)
      have c3 := hc 3 (by omega)
      have c4 := hc 4 (by omega)
      simp at c0 c1 c2 c3 c4
      exact ⟨(g, t, k, o, m), c0, c1, c2, c3, c4⟩)
    exact ⟨_, n0, c0, fun i => (F i).1, fun i => ⟨0, (F i).2.1, (F i).2.2.1, (F i).2.2.2.1, (F i).2.2.2.2⟩, rfl, by omega, fun _ => ⟨b, off, rfl, hb, fun i hi => hF i hi⟩⟩
end Go.Proofs.Ytfniicgfnlklbac
