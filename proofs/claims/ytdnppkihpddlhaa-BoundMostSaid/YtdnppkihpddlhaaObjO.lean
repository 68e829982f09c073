import Derived.Test.YtdnppkihpddlhaaOpen
import Derived.Test.YtdnppkihpddlhaaObj
namespace Go.Proofs.Ytdnppkihpddlhaa
open Go.ChangeShapes Go.WideShapes Go.ChangeAt Go.RowKit
set_option linter.unusedVariables false
set_option maxRecDepth 100000 in
theorem object_cells {w : World} {cs : List Value} (h : Reads Try.prog w 26 cs) : ∃ o oi : Nat → Int, cs = [.int .i64 (o 0), .int .i64 (o 1), .int .i64 (o 2), .int .i64 (o 3), .int .i64 (o 4), .int .i64 (o 5), .int .u32 (oi 0), .int .u32 (oi 1), .int .u32 (oi 2), .int .u32 (oi 3)] ∧ ∀ j, j < 6 → -9223372036854775808 ≤ o j ∧ o j ≤ 9223372036854775807 := by
  obtain ⟨hl, hf⟩ := h.struct Try.underlying26
  have hc : Try.prog.cellsOf 26 = 10 := by kernel_rfl
  rw [hc] at hl
  match cs, hl with
  | [v0, v1, v2, v3, v4, v5, v6, v7, v8, v9], _ =>
    obtain ⟨p0, e0, h0⟩ := (h.field Try.underlying26 0 3 0 1 rfl (by kernel_rfl)).int Try.underlying3
    obtain ⟨p1, e1, h1⟩ := (h.field Try.underlying26 1 3 1 1 rfl (by kernel_rfl)).int Try.underlying3
    obtain ⟨p2, e2, h2⟩ := (h.field Try.underlying26 2 3 2 1 rfl (by kernel_rfl)).int Try.underlying3
    obtain ⟨p3, e3, h3⟩ := (h.field Try.underlying26 3 3 3 1 rfl (by kernel_rfl)).int Try.underlying3
    obtain ⟨p4, e4, h4⟩ := (h.field Try.underlying26 4 3 4 1 rfl (by kernel_rfl)).int Try.underlying3
    obtain ⟨p5, e5, h5⟩ := (h.field Try.underlying26 5 3 5 1 rfl (by kernel_rfl)).int Try.underlying3
    have hv := (h.field Try.underlying26 6 24 6 4 rfl (by kernel_rfl)).array Try.underlying24
    have hu : Try.prog.cellsOf 22 = 1 := by kernel_rfl
    obtain ⟨q0, f0, _⟩ := (hv.2 0 (by omega)).int Try.underlying22
    obtain ⟨q1, f1, _⟩ := (hv.2 1 (by omega)).int Try.underlying22
    obtain ⟨q2, f2, _⟩ := (hv.2 2 (by omega)).int Try.underlying22
    obtain ⟨q3, f3, _⟩ := (hv.2 3 (by omega)).int Try.underlying22
    rw [hu] at f0 f1 f2 f3
    simp at e0 e1 e2 e3 e4 e5 f0 f1 f2 f3
    refine ⟨fun j => match j with | 0 => p0 | 1 => p1 | 2 => p2 | 3 => p3 | 4 => p4 | _ => p5, fun j => match j with | 0 => q0 | 1 => q1 | 2 => q2 | _ => q3, by simp [e0, e1, e2, e3, e4, e5, f0, f1, f2, f3], fun j hj => ?_⟩
    have bd : ∀ q : Int, (Lit.int .i64 q).wf = true → -9223372036854775808 ≤ q ∧ q ≤ 9223372036854775807 := fun q hp => by simpa [Lit.wf, IntKind.min, IntKind.max, IntKind.signed, IntKind.bits] using hp
    rcases (by omega : j = 0 ∨ j = 1 ∨ j = 2 ∨ j = 3 ∨ j = 4 ∨ j = 5) with rfl | rfl | rfl | rfl | rfl | rfl
    · exact bd _ h0
    · exact bd _ h1
    · exact bd _ h2
    · exact bd _ h3
    · exact bd _ h4
    · exact bd _ h5
set_option maxRecDepth 100000 in
theorem call_cells {w : World} {cs : List Value} (h : Reads Try.prog w 28 cs) : ∃ (k o : Int) (v : Nat → Int) (n : Int), cs = [.int .i64 k, .int .i64 o, .int .u32 (v 0), .int .u32 (v 1), .int .u32 (v 2), .int .u32 (v 3), .int .u32 n] := by
  obtain ⟨hl, hf⟩ := h.struct Try.underlying28
  have hc : Try.prog.cellsOf 28 = 7 := by kernel_rfl
  rw [hc] at hl
  match cs, hl with
  | [v0, v1, v2, v3, v4, v5, v6], _ =>
    obtain ⟨k, e0, _⟩ := (h.field Try.underlying28 0 3 0 1 rfl (by kernel_rfl)).int Try.underlying3
    obtain ⟨o, e1, _⟩ := (h.field Try.underlying28 1 3 1 1 rfl (by kernel_rfl)).int Try.underlying3
    have hv := (h.field Try.underlying28 2 24 2 4 rfl (by kernel_rfl)).array Try.underlying24
    obtain ⟨n, e6, _⟩ := (h.field Try.underlying28 3 22 6 1 rfl (by kernel_rfl)).int Try.underlying22
    have hu : Try.prog.cellsOf 22 = 1 := by kernel_rfl
    obtain ⟨q0, f0, _⟩ := (hv.2 0 (by omega)).int Try.underlying22
    obtain ⟨q1, f1, _⟩ := (hv.2 1 (by omega)).int Try.underlying22
    obtain ⟨q2, f2, _⟩ := (hv.2 2 (by omega)).int Try.underlying22
    obtain ⟨q3, f3, _⟩ := (hv.2 3 (by omega)).int Try.underlying22
    rw [hu] at f0 f1 f2 f3
    simp at e0 e1 e6 f0 f1 f2 f3
    exact ⟨k, o, fun j => match j with | 0 => q0 | 1 => q1 | 2 => q2 | _ => q3, n, by simp [e0, e1, e6, f0, f1, f2, f3]⟩
end Go.Proofs.Ytdnppkihpddlhaa
