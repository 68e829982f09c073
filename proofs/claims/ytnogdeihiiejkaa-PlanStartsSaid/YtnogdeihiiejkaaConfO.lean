import Derived.Test.YtnogdeihiiejkaaConfA
import Derived.Test.YtnogdeihiiejkaaOpen
namespace Go.Proofs.Ytnogdeihiiejkaa
open Go.ChangeShapes Go.WideShapes Go.ChangeAt Go.RowKit
set_option linter.unusedVariables false
set_option maxRecDepth 100000 in
theorem task_cells {w : World} {cs : List Value} (h : Reads Try.prog w 52 cs) : ∃ (p : Int) (b : Bool) (a : Option Addr) (n c : Nat), cs = [.int .i64 p, .bool b, .slice a n c] := by
  obtain ⟨hl, hf⟩ := h.struct Try.underlying52
  have hc : Try.prog.cellsOf 52 = 3 := by kernel_rfl
  rw [hc] at hl
  match cs, hl with
  | [v0, v1, v2], _ =>
    obtain ⟨p, e0, _⟩ := (h.field Try.underlying52 0 3 0 1 rfl (by kernel_rfl)).int Try.underlying3
    obtain ⟨b, e1⟩ := (h.field Try.underlying52 1 4 1 1 rfl (by kernel_rfl)).bool Try.underlying4
    obtain ⟨a, n, c, e2, _⟩ := (h.field Try.underlying52 2 50 2 1 rfl (by kernel_rfl)).slice Try.underlying50
    simp at e0 e1 e2
    exact ⟨p, b, a, n, c, by simp [e0, e1, e2]⟩
set_option maxRecDepth 100000 in
theorem level_cells {w : World} {cs : List Value} (h : Reads Try.prog w 54 cs) : ∃ (p : Int) (a : Option Addr) (n c : Nat), cs = [.int .i64 p, .slice a n c] ∧ (-9223372036854775808 ≤ p ∧ p ≤ 9223372036854775807) := by
  obtain ⟨hl, hf⟩ := h.struct Try.underlying54
  have hc : Try.prog.cellsOf 54 = 2 := by kernel_rfl
  rw [hc] at hl
  match cs, hl with
  | [v0, v1], _ =>
    obtain ⟨p, e0, hp⟩ := (h.field Try.underlying54 0 3 0 1 rfl (by kernel_rfl)).int Try.underlying3
    obtain ⟨a, n, c, e2, _⟩ := (h.field Try.underlying54 1 50 1 1 rfl (by kernel_rfl)).slice Try.underlying50
    simp at e0 e2
    exact ⟨p, a, n, c, by simp [e0, e2], by simpa [Lit.wf, IntKind.min, IntKind.max, IntKind.signed, IntKind.bits] using hp⟩
set_option maxRecDepth 100000 in
theorem object_cells {w : World} {cs : List Value} (h : Reads Try.prog w 49 cs) : ∃ o oi : Nat → Int, cs = [.int .i64 (o 0), .int .i64 (o 1), .int .i64 (o 2), .int .i64 (o 3), .int .i64 (o 4), .int .i64 (o 5), .int .u32 (oi 0), .int .u32 (oi 1), .int .u32 (oi 2), .int .u32 (oi 3)] ∧ ∀ j, j < 6 → -9223372036854775808 ≤ o j ∧ o j ≤ 9223372036854775807 := by
  obtain ⟨hl, hf⟩ := h.struct Try.underlying49
  have hc : Try.prog.cellsOf 49 = 10 := by kernel_rfl
  rw [hc] at hl
  match cs, hl with
  | [v0, v1, v2, v3, v4, v5, v6, v7, v8, v9], _ =>
    obtain ⟨p0, e0, h0⟩ := (h.field Try.underlying49 0 3 0 1 rfl (by kernel_rfl)).int Try.underlying3
    obtain ⟨p1, e1, h1⟩ := (h.field Try.underlying49 1 3 1 1 rfl (by kernel_rfl)).int Try.underlying3
    obtain ⟨p2, e2, h2⟩ := (h.field Try.underlying49 2 3 2 1 rfl (by kernel_rfl)).int Try.underlying3
    obtain ⟨p3, e3, h3⟩ := (h.field Try.underlying49 3 3 3 1 rfl (by kernel_rfl)).int Try.underlying3
    obtain ⟨p4, e4, h4⟩ := (h.field Try.underlying49 4 3 4 1 rfl (by kernel_rfl)).int Try.underlying3
    obtain ⟨p5, e5, h5⟩ := (h.field Try.underlying49 5 3 5 1 rfl (by kernel_rfl)).int Try.underlying3
    have hv := (h.field Try.underlying49 6 47 6 4 rfl (by kernel_rfl)).array Try.underlying47
    have hu : Try.prog.cellsOf 43 = 1 := by kernel_rfl
    obtain ⟨q0, f0, _⟩ := (hv.2 0 (by omega)).int Try.underlying43
    obtain ⟨q1, f1, _⟩ := (hv.2 1 (by omega)).int Try.underlying43
    obtain ⟨q2, f2, _⟩ := (hv.2 2 (by omega)).int Try.underlying43
    obtain ⟨q3, f3, _⟩ := (hv.2 3 (by omega)).int Try.underlying43
    rw [hu] at f0 f1 f2 f3
    simp at e0 e1 e2 e3 e4 e5 f0 f1 f2 f3
    refine ⟨fun j => match j with | 0 => p0 | 1 => p1 | 2 => p2 | 3 => p3 | 4 => p4 | _ => p5, fun j => match j with | 0 => q0 | 1 => q1 | 2 => q2 | _ => q3, by simp [e0, e1, e2, e3, e4, e5, f0, f1, f2, f3], fun j hj => ?_⟩
    have bd : ∀ q : Int, (Lit.int .i64 q).wf = true → -9223372036854775808 ≤ q ∧ q ≤ 9223372036854775807 := fun q hp => by simpa [Lit.wf, IntKind.min, IntKind.max, IntKind.signed, IntKind.bits] using hp
    rcases (by omega : j = 0 ∨ j = 1 ∨ j = 2 ∨ j = 3 ∨ j = 4 ∨ j = 5) with rfl | rfl | rfl | rfl | rfl | rfl
    · exact bd _ h0
    · exact bd _ h1
    · exact bd _ h2
    · exact bd _ h3
    · exact bd _ h4
    · exact bd _ h5
set_option maxRecDepth 100000 in
theorem cfg_of {w : World} {cs : List Value} (h : Reads Try.prog w 26 cs) : ∃ c : CfD, cs = c.cells.toList ∧ CfIn w c ∧ c.Ok := by
  obtain ⟨hl, hf⟩ := h.struct Try.underlying26
  have hc : Try.prog.cellsOf 26 = 4 := by kernel_rfl
  rw [hc] at hl
  match cs, hl with
  | [v0, v1, v2, v3], _ =>
    obtain ⟨ta, nT, tc, e0, lt1, lt2, rt⟩ := (h.field Try.underlying26 0 22 0 1 rfl (by kernel_rfl)).rows Try.underlying22 (n := 3) (by kernel_rfl) (by omega)
    obtain ⟨la, nL, lc, e1, ll1, ll2, rl⟩ := (h.field Try.underlying26 1 23 1 1 rfl (by kernel_rfl)).rows Try.underlying23 (n := 2) (by kernel_rfl) (by omega)
    obtain ⟨oa, nO, oc, e2, lo1, lo2, ro⟩ := (h.field Try.underlying26 2 24 2 1 rfl (by kernel_rfl)).rows Try.underlying24 (n := 10) (by kernel_rfl) (by omega)
    obtain ⟨tick, e3, ht⟩ := (h.field Try.underlying26 3 3 3 1 rfl (by kernel_rfl)).int Try.underlying3
    simp at e0 e1 e2 e3
    have hT : ∃ (tp : Nat → Int) (tb : Nat → Bool) (tl : Nat → Nat) (tca : Nat → Option Addr) (tcc : Nat → Nat), 0 < nT → ∃ b off, ta = some ⟨b, off, none⟩ ∧ b < w.heap.size ∧ ∀ i, i < nT → w.cell? ⟨b, off + i * 3, none⟩ = some (.int .i64 (tp i)) ∧ w.cell? ⟨b, off + i * 3 + 1, none⟩ = some (.bool (tb i)) ∧ w.cell? ⟨b, off + i * 3 + 2, none⟩ = some (.slice (tca i) (tl i) (tcc i)) := by
      by_cases hn : 0 < nT
      · obtain ⟨b, off, ha, hb, hr⟩ := rt hn
        obtain ⟨F, hF⟩ := Deep.choose_lt (n := nT) (p := fun i (x : Int × Bool × Option Addr × Nat × Nat) => w.cell? ⟨b, off + i * 3, none⟩ = some (.int .i64 x.1) ∧ w.cell? ⟨b, off + i * 3 + 1, none⟩ = some (.bool x.2.1) ∧ w.cell? ⟨b, off + i * 3 + 2, none⟩ = some (.slice x.2.2.1 x.2.2.2.1 x.2.2.2.2)) (fun i hi => by
          obtain ⟨cs', _, hcell, hrd⟩ := hr i hi
          obtain ⟨p, q, a, n, c, rfl⟩ := task_cells hrd
          exact ⟨(p, q, a, n, c), hcell 0 (by omega), hcell 1 (by omega), hcell 2 (by omega)⟩)
        exact ⟨fun i => (F i).1, fun i => (F i).2.1, fun i => (F i).2.2.2.1, fun i => (F i).2.2.1, fun i => (F i).2.2.2.2, fun _ => ⟨b, off, ha, hb, hF⟩⟩
      · exact ⟨fun _ => 0, fun _ => false, fun _ => 0, fun _ => none, fun _ => 0, fun h => absurd h hn⟩
    have hL : ∃ (lr : Nat → Int) (ll : Nat → Nat) (lca : Nat → Option Addr) (lcc : Nat → Nat), (∀ i, i < nL → -9223372036854775808 ≤ lr i ∧ lr i ≤ 9223372036854775807) ∧ (0 < nL → ∃ b off, la = some ⟨b, off, none⟩ ∧ b < w.heap.size ∧ ∀ i, i < nL → w.cell? ⟨b, off + i * 2, none⟩ = some (.int .i64 (lr i)) ∧ w.cell? ⟨b, off + i * 2 + 1, none⟩ = some (.slice (lca i) (ll i) (lcc i))) := by
      by_cases hn : 0 < nL
      · obtain ⟨b, off, ha, hb, hr⟩ := rl hn
        obtain ⟨F, hF⟩ := Deep.choose_lt (n := nL) (p := fun i (x : Int × Option Addr × Nat × Nat) => (-9223372036854775808 ≤ x.1 ∧ x.1 ≤ 9223372036854775807) ∧ w.cell? ⟨b, off + i * 2, none⟩ = some (.int .i64 x.1) ∧ w.cell? ⟨b, off + i * 2 + 1, none⟩ = some (.slice x.2.1 x.2.2.1 x.2.2.2)) (fun i hi => by
          obtain ⟨cs', _, hcell, hrd⟩ := hr i hi
          obtain ⟨p, a, n, c, rfl, hp⟩ := level_cells hrd
          exact ⟨(p, a, n, c), hp, hcell 0 (by omega), hcell 1 (by omega)⟩)
        exact ⟨fun i => (F i).1, fun i => (F i).2.2.1, fun i => (F i).2.1, fun i => (F i).2.2.2, fun i hi => (hF i hi).1, fun _ => ⟨b, off, ha, hb, fun i hi => (hF i hi).2⟩⟩
      · exact ⟨fun _ => 0, fun _ => 0, fun _ => none, fun _ => 0, fun i hi => by omega, fun h => absurd h hn⟩
    have hO : ∃ (ob oi : Nat → Nat → Int), (∀ i, i < nO → ∀ j, j < 6 → -9223372036854775808 ≤ ob i j ∧ ob i j ≤ 9223372036854775807) ∧ (0 < nO → ∃ b off, oa = some ⟨b, off, none⟩ ∧ b < w.heap.size ∧ ∀ i, i < nO → ∀ j, j < 10 → w.cell? ⟨b, off + i * 10 + j, none⟩ = (#[.int .i64 (ob i 0), .int .i64 (ob i 1), .int .i64 (ob i 2), .int .i64 (ob i 3), .int .i64 (ob i 4), .int .i64 (ob i 5), .int .u32 (oi i 0), .int .u32 (oi i 1), .int .u32 (oi i 2), .int .u32 (oi i 3)] : Array Value)[j]?) := by
      by_cases hn : 0 < nO
      · obtain ⟨b, off, ha, hb, hr⟩ := ro hn
        obtain ⟨F, hF⟩ := Deep.choose_lt (n := nO) (p := fun i (x : (Nat → Int) × (Nat → Int)) => (∀ j, j < 6 → -9223372036854775808 ≤ x.1 j ∧ x.1 j ≤ 9223372036854775807) ∧ ∀ j, j < 10 → w.cell? ⟨b, off + i * 10 + j, none⟩ = (#[.int .i64 (x.1 0), .int .i64 (x.1 1), .int .i64 (x.1 2), .int .i64 (x.1 3), .int .i64 (x.1 4), .int .i64 (x.1 5), .int .u32 (x.2 0), .int .u32 (x.2 1), .int .u32 (x.2 2), .int .u32 (x.2 3)] : Array Value)[j]?) (fun i hi => by
          obtain ⟨cs', _, hcell, hrd⟩ := hr i hi
          obtain ⟨o, oi, rfl, ho⟩ := object_cells hrd
          exact ⟨(o, oi), ho, fun j hj => (hcell j hj).trans (by simp)⟩)
        exact ⟨fun i => (F i).1, fun i => (F i).2, fun i hi => (hF i hi).1, fun _ => ⟨b, off, ha, hb, fun i hi => (hF i hi).2⟩⟩
      · exact ⟨fun _ _ => 0, fun _ _ => 0, fun i hi => by omega, fun h => absurd h hn⟩
    obtain ⟨tp, tb, tl, tca, tcc, hT⟩ := hT
    obtain ⟨lr, ll, lca, lcc, hLb, hL⟩ := hL
    obtain ⟨ob, oi, hOb, hO⟩ := hO
    refine ⟨⟨nT, nL, nO, tick, ta, la, oa, tc, lc, oc, tp, tb, tl, tca, tcc, lr, ll, lca, lcc, ob, oi⟩, by simp [e0, e1, e2, e3], ⟨hT, hL, hO⟩, ⟨by show nT ≤ maxLen; omega, by show nL ≤ maxLen; omega, by show nO ≤ maxLen; omega, ?_, hLb, hOb⟩⟩
    simpa [Lit.wf, IntKind.min, IntKind.max, IntKind.signed, IntKind.bits] using ht
end Go.Proofs.Ytnogdeihiiejkaa
