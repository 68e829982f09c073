import Derived.Test.YtdjfelabdofaaaaCfD
import Derived.Test.YtdjfelabdofaaaaOpen
import Derived.Test.YtdjfelabdofaaaaCodeM
namespace Go.Proofs.Ytdjfelabdofaaaa
open Go.ChangeShapes Go.WideShapes Go.ChangeAt Go.RowKit
set_option linter.unusedVariables false
/-- Where code lies: calls at a slice. -/
def CodeAt (w : World) (a : Option Addr) (n : Nat) (L : List CallD) : Prop := L.length = n ∧ (∀ x, x ∈ L → x.Ok) ∧ (0 < n → ∃ b off, a = some ⟨b, off, none⟩ ∧ b < w.heap.size ∧ ∀ j v, (flatC L)[j]? = some v → w.cell? ⟨b, off + j, none⟩ = some v)
theorem CodeAt.below {w w' : World} {a : Option Addr} {n : Nat} {L : List CallD} (h : CodeAt w a n L) (k : Below w.heap.size w w') : CodeAt w' a n L :=
  ⟨h.1, h.2.1, fun hn => by
    obtain ⟨b, off, e, hb, hc⟩ := h.2.2 hn
    exact ⟨b, off, e, Nat.lt_of_lt_of_le hb k.size, fun j v hj => (k.cell (p := ⟨b, off + j, Option.none⟩) hb).trans (hc j v hj)⟩⟩
theorem CodeAt.keeps {w w' : World} {a : Option Addr} {n : Nat} {L : List CallD} (h : CodeAt w a n L) (k : Keeps (fun _ => False) w w') : CodeAt w' a n L := h.below k.none
/-- A configuration with its texts of code. -/
structure TxIn (w : World) (c : CfD) (TC LC : Nat → List CallD) : Prop where
  cf : CfIn w c
  tc : ∀ i, i < c.nT → CodeAt w (c.tca i) (c.tl i) (TC i)
  lc : ∀ i, i < c.nL → CodeAt w (c.lca i) (c.ll i) (LC i)
theorem TxIn.keeps {w w' : World} {c : CfD} {TC LC : Nat → List CallD} (h : TxIn w c TC LC) (k : Keeps (fun _ => False) w w') : TxIn w' c TC LC :=
  ⟨h.cf.none k, fun i hi => (h.tc i hi).keeps k, fun i hi => (h.lc i hi).keeps k⟩
/-- Within the bounds of the machine. -/
structure TxOk (c : CfD) : Prop where
  ok : c.Ok
  tp : ∀ i, i < c.nT → -9223372036854775808 ≤ c.tp i ∧ c.tp i ≤ 9223372036854775807
  oi : ∀ i, i < c.nO → ∀ j, j < 4 → 0 ≤ c.oi i j ∧ c.oi i j ≤ 4294967295
set_option maxRecDepth 100000 in
theorem task_cellsT {w : World} {cs : List Value} (h : Reads Try.prog w 42 cs) : ∃ (p : Int) (b : Bool) (a : Option Addr) (n c : Nat) (L : List CallD), cs = [.int .i64 p, .bool b, .slice a n c] ∧ (-9223372036854775808 ≤ p ∧ p ≤ 9223372036854775807) ∧ CodeAt w a n L := by
  obtain ⟨hl, hf⟩ := h.struct Try.underlying42
  have hc : Try.prog.cellsOf 42 = 3 := by kernel_rfl
  rw [hc] at hl
  match cs, hl with
  | [v0, v1, v2], _ =>
    obtain ⟨p, e0, hp⟩ := (h.field Try.underlying42 0 3 0 1 rfl (by kernel_rfl)).int Try.underlying3
    obtain ⟨b, e1⟩ := (h.field Try.underlying42 1 4 1 1 rfl (by kernel_rfl)).bool Try.underlying4
    obtain ⟨a, n, c, L, e2, _, hl2, hok, hat⟩ := calls_open (h.field Try.underlying42 2 40 2 1 rfl (by kernel_rfl))
    simp at e0 e1 e2
    exact ⟨p, b, a, n, c, L, by simp [e0, e1, e2], bounds_i64 hp, hl2, hok, hat⟩
set_option maxRecDepth 100000 in
theorem level_cellsT {w : World} {cs : List Value} (h : Reads Try.prog w 44 cs) : ∃ (p : Int) (a : Option Addr) (n c : Nat) (L : List CallD), cs = [.int .i64 p, .slice a n c] ∧ (-9223372036854775808 ≤ p ∧ p ≤ 9223372036854775807) ∧ CodeAt w a n L := by
  obtain ⟨hl, hf⟩ := h.struct Try.underlying44
  have hc : Try.prog.cellsOf 44 = 2 := by kernel_rfl
  rw [hc] at hl
  match cs, hl with
  | [v0, v1], _ =>
    obtain ⟨p, e0, hp⟩ := (h.field Try.underlying44 0 3 0 1 rfl (by kernel_rfl)).int Try.underlying3
    obtain ⟨a, n, c, L, e2, _, hl2, hok, hat⟩ := calls_open (h.field Try.underlying44 1 40 1 1 rfl (by kernel_rfl))
    simp at e0 e2
    exact ⟨p, a, n, c, L, by simp [e0, e2], bounds_i64 hp, hl2, hok, hat⟩
set_option maxRecDepth 100000 in
theorem object_cellsT {w : World} {cs : List Value} (h : Reads Try.prog w 59 cs) : ∃ o oi : Nat → Int, cs = [.int .i64 (o 0), .int .i64 (o 1), .int .i64 (o 2), .int .i64 (o 3), .int .i64 (o 4), .int .i64 (o 5), .int .u32 (oi 0), .int .u32 (oi 1), .int .u32 (oi 2), .int .u32 (oi 3)] ∧ (∀ j, j < 6 → -9223372036854775808 ≤ o j ∧ o j ≤ 9223372036854775807) ∧ (∀ j, j < 4 → 0 ≤ oi j ∧ oi j ≤ 4294967295) := by
  obtain ⟨hl, hf⟩ := h.struct Try.underlying59
  have hc : Try.prog.cellsOf 59 = 10 := by kernel_rfl
  rw [hc] at hl
  match cs, hl with
  | [v0, v1, v2, v3, v4, v5, v6, v7, v8, v9], _ =>
    obtain ⟨p0, e0, h0⟩ := (h.field Try.underlying59 0 3 0 1 rfl (by kernel_rfl)).int Try.underlying3
    obtain ⟨p1, e1, h1⟩ := (h.field Try.underlying59 1 3 1 1 rfl (by kernel_rfl)).int Try.underlying3
    obtain ⟨p2, e2, h2⟩ := (h.field Try.underlying59 2 3 2 1 rfl (by kernel_rfl)).int Try.underlying3
    obtain ⟨p3, e3, h3⟩ := (h.field Try.underlying59 3 3 3 1 rfl (by kernel_rfl)).int Try.underlying3
    obtain ⟨p4, e4, h4⟩ := (h.field Try.underlying59 4 3 4 1 rfl (by kernel_rfl)).int Try.underlying3
    obtain ⟨p5, e5, h5⟩ := (h.field Try.underlying59 5 3 5 1 rfl (by kernel_rfl)).int Try.underlying3
    have hv := (h.field Try.underlying59 6 57 6 4 rfl (by kernel_rfl)).array Try.underlying57
    have hu : Try.prog.cellsOf 55 = 1 := by kernel_rfl
    obtain ⟨q0, f0, g0⟩ := (hv.2 0 (by omega)).int Try.underlying55
    obtain ⟨q1, f1, g1⟩ := (hv.2 1 (by omega)).int Try.underlying55
    obtain ⟨q2, f2, g2⟩ := (hv.2 2 (by omega)).int Try.underlying55
    obtain ⟨q3, f3, g3⟩ := (hv.2 3 (by omega)).int Try.underlying55
    rw [hu] at f0 f1 f2 f3
    simp at e0 e1 e2 e3 e4 e5 f0 f1 f2 f3
    refine ⟨fun j => match j with | 0 => p0 | 1 => p1 | 2 => p2 | 3 => p3 | 4 => p4 | _ => p5, fun j => match j with | 0 => q0 | 1 => q1 | 2 => q2 | _ => q3, by simp [e0, e1, e2, e3, e4, e5, f0, f1, f2, f3], fun j hj => ?_, fun j hj => ?_⟩
    · rcases (by omega : j = 0 ∨ j = 1 ∨ j = 2 ∨ j = 3 ∨ j = 4 ∨ j = 5) with rfl | rfl | rfl | rfl | rfl | rfl
      · exact bounds_i64 h0
      · exact bounds_i64 h1
      · exact bounds_i64 h2
      · exact bounds_i64 h3
      · exact bounds_i64 h4
      · exact bounds_i64 h5
    · rcases (by omega : j = 0 ∨ j = 1 ∨ j = 2 ∨ j = 3) with rfl | rfl | rfl | rfl
      · exact bounds_u32 g0
      · exact bounds_u32 g1
      · exact bounds_u32 g2
      · exact bounds_u32 g3
set_option maxRecDepth 100000 in
theorem txcfg_of {w : World} {cs : List Value} (h : Reads Try.prog w 26 cs) : ∃ (c : CfD) (TC LC : Nat → List CallD), cs = c.cells.toList ∧ TxIn w c TC LC ∧ TxOk c := by
  obtain ⟨hl, hf⟩ := h.struct Try.underlying26
  have hc : Try.prog.cellsOf 26 = 4 := by kernel_rfl
  rw [hc] at hl
  match cs, hl with
  | [v0, v1, v2, v3], _ =>
    obtain ⟨ta, nT, tc, e0, lt1, lt2, rt⟩ := (h.field Try.underlying26 0 22 0 1 rfl (by kernel_rfl)).rows Try.underlying22 (n := 3) (by kernel_rfl) (by omega)
    obtain ⟨la, nL, lc, e1, ll1, ll2, rl⟩ := (h.field Try.underlying26 1 23 1 1 rfl (by kernel_rfl)).rows Try.underlying23 (n := 2) (by kernel_rfl) (by omega)
    obtain ⟨oa, nO, oc, e2, lo1, lo2, ro⟩ := (h.field Try.underlying26 2 24 2 1 rfl (by kernel_rfl)).rows Try.underlying24 (n := 10) (by kernel_rfl) (by omega)
    obtain ⟨tick, e3, ht⟩ := (h.field Try.underlying26 3 3 3 1 rfl (by kernel_rfl)).int Try.underlying3
    simp at e0 e1 e2 e3
    have hT : ∃ (tp : Nat → Int) (tb : Nat → Bool) (tl : Nat → Nat) (tca : Nat → Option Addr) (tcc : Nat → Nat) (TC : Nat → List CallD), (∀ i, i < nT → (-9223372036854775808 ≤ tp i ∧ tp i ≤ 9223372036854775807) ∧ CodeAt w (tca i) (tl i) (TC i)) ∧ (0 < nT → ∃ b off, ta = some ⟨b, off, none⟩ ∧ b < w.heap.size ∧ ∀ i, i < nT → w.cell? ⟨b, off + i * 3, none⟩ = some (.int .i64 (tp i)) ∧ w.cell? ⟨b, off + i * 3 + 1, none⟩ = some (.bool (tb i)) ∧ w.cell? ⟨b, off + i * 3 + 2, none⟩ = some (.slice (tca i) (tl i) (tcc i))) := by
      by_cases hn : 0 < nT
      · obtain ⟨b, off, ha, hb, hr⟩ := rt hn
        obtain ⟨F, hF⟩ := Deep.choose_lt (n := nT) (p := fun i (x : Int × Bool × Option Addr × Nat × Nat × List CallD) => ((-9223372036854775808 ≤ x.1 ∧ x.1 ≤ 9223372036854775807) ∧ CodeAt w x.2.2.1 x.2.2.2.1 x.2.2.2.2.2) ∧ w.cell? ⟨b, off + i * 3, none⟩ = some (.int .i64 x.1) ∧ w.cell? ⟨b, off + i * 3 + 1, none⟩ = some (.bool x.2.1) ∧ w.cell? ⟨b, off + i * 3 + 2, none⟩ = some (.slice x.2.2.1 x.2.2.2.1 x.2.2.2.2.1)) (fun i hi => by
          obtain ⟨cs', _, hcell, hrd⟩ := hr i hi
          obtain ⟨p, q, a, n, c, L, rfl, hp, hat⟩ := task_cellsT hrd
          exact ⟨(p, q, a, n, c, L), ⟨hp, hat⟩, hcell 0 (by omega), hcell 1 (by omega), hcell 2 (by omega)⟩)
        exact ⟨fun i => (F i).1, fun i => (F i).2.1, fun i => (F i).2.2.2.1, fun i => (F i).2.2.1, fun i => (F i).2.2.2.2.1, fun i => (F i).2.2.2.2.2, fun i hi => (hF i hi).1, fun _ => ⟨b, off, ha, hb, fun i hi => (hF i hi).2⟩⟩
      · exact ⟨fun _ => 0, fun _ => false, fun _ => 0, fun _ => none, fun _ => 0, fun _ => [], fun i hi => by omega, fun h => absurd h hn⟩
    have hL : ∃ (lr : Nat → Int) (ll : Nat → Nat) (lca : Nat → Option Addr) (lcc : Nat → Nat) (LC : Nat → List CallD), (∀ i, i < nL → (-9223372036854775808 ≤ lr i ∧ lr i ≤ 9223372036854775807) ∧ CodeAt w (lca i) (ll i) (LC i)) ∧ (0 < nL → ∃ b off, la = some ⟨b, off, none⟩ ∧ b < w.heap.size ∧ ∀ i, i < nL → w.cell? ⟨b, off + i * 2, none⟩ = some (.int .i64 (lr i)) ∧ w.cell? ⟨b, off + i * 2 + 1, none⟩ = some (.slice (lca i) (ll i) (lcc i))) := by
      by_cases hn : 0 < nL
      · obtain ⟨b, off, ha, hb, hr⟩ := rl hn
        obtain ⟨F, hF⟩ := Deep.choose_lt (n := nL) (p := fun i (x : Int × Option Addr × Nat × Nat × List CallD) => ((-9223372036854775808 ≤ x.1 ∧ x.1 ≤ 9223372036854775807) ∧ CodeAt w x.2.1 x.2.2.1 x.2.2.2.2) ∧ w.cell? ⟨b, off + i * 2, none⟩ = some (.int .i64 x.1) ∧ w.cell? ⟨b, off + i * 2 + 1, none⟩ = some (.slice x.2.1 x.2.2.1 x.2.2.2.1)) (fun i hi => by
          obtain ⟨cs', _, hcell, hrd⟩ := hr i hi
          obtain ⟨p, a, n, c, L, rfl, hp, hat⟩ := level_cellsT hrd
          exact ⟨(p, a, n, c, L), ⟨hp, hat⟩, hcell 0 (by omega), hcell 1 (by omega)⟩)
        exact ⟨fun i => (F i).1, fun i => (F i).2.2.1, fun i => (F i).2.1, fun i => (F i).2.2.2.1, fun i => (F i).2.2.2.2, fun i hi => (hF i hi).1, fun _ => ⟨b, off, ha, hb, fun i hi => (hF i hi).2⟩⟩
      · exact ⟨fun _ => 0, fun _ => 0, fun _ => none, fun _ => 0, fun _ => [], fun i hi => by omega, fun h => absurd h hn⟩
    have hO : ∃ (ob oi : Nat → Nat → Int), (∀ i, i < nO → (∀ j, j < 6 → -9223372036854775808 ≤ ob i j ∧ ob i j ≤ 9223372036854775807) ∧ ∀ j, j < 4 → 0 ≤ oi i j ∧ oi i j ≤ 4294967295) ∧ (0 < nO → ∃ b off, oa = some ⟨b, off, none⟩ ∧ b < w.heap.size ∧ ∀ i, i < nO → ∀ j, j < 10 → w.cell? ⟨b, off + i * 10 + j, none⟩ = (#[.int .i64 (ob i 0), .int .i64 (ob i 1), .int .i64 (ob i 2), .int .i64 (ob i 3), .int .i64 (ob i 4), .int .i64 (ob i 5), .int .u32 (oi i 0), .int .u32 (oi i 1), .int .u32 (oi i 2), .int .u32 (oi i 3)] : Array Value)[j]?) := by
      by_cases hn : 0 < nO
      · obtain ⟨b, off, ha, hb, hr⟩ := ro hn
        obtain ⟨F, hF⟩ := Deep.choose_lt (n := nO) (p := fun i (x : (Nat → Int) × (Nat → Int)) => ((∀ j, j < 6 → -9223372036854775808 ≤ x.1 j ∧ x.1 j ≤ 9223372036854775807) ∧ ∀ j, j < 4 → 0 ≤ x.2 j ∧ x.2 j ≤ 4294967295) ∧ ∀ j, j < 10 → w.cell? ⟨b, off + i * 10 + j, none⟩ = (#[.int .i64 (x.1 0), .int .i64 (x.1 1), .int .i64 (x.1 2), .int .i64 (x.1 3), .int .i64 (x.1 4), .int .i64 (x.1 5), .int .u32 (x.2 0), .int .u32 (x.2 1), .int .u32 (x.2 2), .int .u32 (x.2 3)] : Array Value)[j]?) (fun i hi => by
          obtain ⟨cs', _, hcell, hrd⟩ := hr i hi
          obtain ⟨o, oi, rfl, ho, ho2⟩ := object_cellsT hrd
          exact ⟨(o, oi), ⟨ho, ho2⟩, fun j hj => (hcell j hj).trans (by simp)⟩)
        exact ⟨fun i => (F i).1, fun i => (F i).2, fun i hi => (hF i hi).1, fun _ => ⟨b, off, ha, hb, fun i hi => (hF i hi).2⟩⟩
      · exact ⟨fun _ _ => 0, fun _ _ => 0, fun i hi => by omega, fun h => absurd h hn⟩
    obtain ⟨tp, tb, tl, tca, tcc, TC, hTb, hT⟩ := hT
    obtain ⟨lr, ll, lca, lcc, LC, hLb, hL⟩ := hL
    obtain ⟨ob, oi, hOb, hO⟩ := hO
    refine ⟨⟨nT, nL, nO, tick, ta, la, oa, tc, lc, oc, tp, tb, tl, tca, tcc, lr, ll, lca, lcc, ob, oi⟩, TC, LC, by simp [e0, e1, e2, e3], ⟨⟨hT, hL, hO⟩, fun i hi => (hTb i hi).2, fun i hi => (hLb i hi).2⟩, ⟨⟨by show nT ≤ maxLen; omega, by show nL ≤ maxLen; omega, by show nO ≤ maxLen; omega, bounds_i64 ht, fun i hi => (hLb i hi).1, fun i hi => (hOb i hi).1⟩, fun i hi => (hTb i hi).1, fun i hi => (hOb i hi).2⟩⟩
end Go.Proofs.Ytdjfelabdofaaaa
