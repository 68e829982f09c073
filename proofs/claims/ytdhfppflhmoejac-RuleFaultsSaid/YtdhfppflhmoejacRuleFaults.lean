import Derived.Test.YtdhfppflhmoejacRuleN
namespace Go.Proofs.Ytdhfppflhmoejac
open Go.ChangeShapes Go.WideShapes Go.ChangeAt Go.RowKit
set_option linter.unusedVariables false
set_option maxRecDepth 100000 in
theorem call_cells {w : World} {cs : List Value} (h : Reads Try.prog w 59 cs) : ∃ (k o : Int) (v : Nat → Int) (n : Int), cs = [.int .i64 k, .int .i64 o, .int .u32 (v 0), .int .u32 (v 1), .int .u32 (v 2), .int .u32 (v 3), .int .u32 n] := by
  obtain ⟨hl, hf⟩ := h.struct Try.underlying59
  have hc : Try.prog.cellsOf 59 = 7 := by kernel_rfl
  rw [hc] at hl
  match cs, hl with
  | [v0, v1, v2, v3, v4, v5, v6], _ =>
    obtain ⟨k, e0, _⟩ := (h.field Try.underlying59 0 3 0 1 rfl (by kernel_rfl)).int Try.underlying3
    obtain ⟨o, e1, _⟩ := (h.field Try.underlying59 1 3 1 1 rfl (by kernel_rfl)).int Try.underlying3
    have hv := (h.field Try.underlying59 2 57 2 4 rfl (by kernel_rfl)).array Try.underlying57
    obtain ⟨n, e6, _⟩ := (h.field Try.underlying59 3 25 6 1 rfl (by kernel_rfl)).int Try.underlying25
    have hu : Try.prog.cellsOf 25 = 1 := by kernel_rfl
    obtain ⟨q0, f0, _⟩ := (hv.2 0 (by omega)).int Try.underlying25
    obtain ⟨q1, f1, _⟩ := (hv.2 1 (by omega)).int Try.underlying25
    obtain ⟨q2, f2, _⟩ := (hv.2 2 (by omega)).int Try.underlying25
    obtain ⟨q3, f3, _⟩ := (hv.2 3 (by omega)).int Try.underlying25
    rw [hu] at f0 f1 f2 f3
    simp at e0 e1 e6 f0 f1 f2 f3
    exact ⟨k, o, fun j => match j with | 0 => q0 | 1 => q1 | 2 => q2 | _ => q3, n, by simp [e0, e1, e6, f0, f1, f2, f3]⟩
set_option maxRecDepth 100000 in
theorem ruleFaults_walk {H : Type} {enc : TypeId × Value → H} (W : World) (base : Nat) {v0 v1 v2 : Value} {d0 d1 d2 : DataW H} {p0 p1 p2 : List MemPlace}
    (k0 : Value.okWide Try.prog W .any base 46 v0) (h0 : DataW.Trod enc Try.prog W 0 (fun _ => true) true 46 v0 d0 p0)
    (k1 : Value.okWide Try.prog W .any base 3 v1) (h1 : DataW.Trod enc Try.prog W 0 (fun _ => true) true 3 v1 d1 p1)
    (k2 : Value.okWide Try.prog W .any base 59 v2) (h2 : DataW.Trod enc Try.prog W 0 (fun _ => true) true 59 v2 d2 p2) :
    Calls Try.prog 5 #[v0, v1, v2] W fun e w' => e = .returned (.bool true) ∧ Below W.heap.size W w' := by
  obtain ⟨cs0, rfl, _⟩ := okWide_struct Try.underlying46 k0
  obtain ⟨x, rfl, _, _, wk⟩ := open_int Try.underlying3 k1 h1
  obtain ⟨cs2, rfl, _⟩ := okWide_struct Try.underlying59 k2
  obtain ⟨c, e0, hc, ho⟩ := cfg_of (reads_of h0)
  obtain ⟨k, o, v, n, e2⟩ := call_cells (reads_of h2)
  obtain rfl : cs0 = c.cells := by
    have : cs0.toList = c.cells.toList := by simpa [Value.cells] using e0
    exact Array.toList_inj.1 this
  obtain rfl : cs2 = callC k o v n := by
    have : cs2.toList = [.int .i64 k, .int .i64 o, .int .u32 (v 0), .int .u32 (v 1), .int .u32 (v 2), .int .u32 (v 3), .int .u32 n] := by simpa [Value.cells] using e2
    cases cs2; simp_all
  exact (faults_any c x k o v n W hc ho).mono fun e w' ⟨h1, h2⟩ => ⟨h1, h2.none⟩
end Go.Proofs.Ytdhfppflhmoejac
