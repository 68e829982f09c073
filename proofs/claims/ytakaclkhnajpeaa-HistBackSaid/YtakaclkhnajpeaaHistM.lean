import Derived.Test.YtakaclkhnajpeaaHistK
import Derived.Test.YtakaclkhnajpeaaHistL
namespace Go.Proofs.Ytakaclkhnajpeaa
open Go.ChangeShapes Go.WideShapes Go.ChangeAt Go.RowKit
set_option linter.unusedVariables false
set_option linter.unusedSimpArgs false
theorem bef_self {x : OpX} (h : decide (x 15 ≤ x 16) = true) : befP x x = false := by
  have h := of_decide_eq_true h
  unfold befP
  rw [decide_eq_false (p := x 16 < x 15) (by omega), Bool.and_false]
theorem three_ways (x : OpX) : decide (x 14 = 1) = false ∨ (decide (x 14 = 1) = true ∧ decide (x 15 ≤ x 16) = false) ∨ (decide (x 14 = 1) = true ∧ decide (x 15 ≤ x 16) = true) := by
  cases decide (x 14 = 1) <;> cases decide (x 15 ≤ x 16) <;> simp
theorem bef_trans {x y z : OpX} (h1 : befP x y = true) (h2 : befP y z = true) (h3 : decide (y 15 ≤ y 16) = true) : befP x z = true := by
  unfold befP at *
  simp only [Bool.and_eq_true, decide_eq_true_eq] at *
  exact ⟨h1.1, by omega⟩
theorem held1 {w W : World} {b off i : Nat} {x : OpX} {d : Bool} (hd : decide (x 14 = 1) = d) (hb : Below w.heap.size w W) (hl : b < w.heap.size) (h : w.rangeAt b (off + i * 17) (opL x)) :
    W.rangeAt b (off + i * 17) (opL x) ∧ W.cell? ⟨b, off + i * 17 + 14, none⟩ = some (.bool d) ∧ W.cell? ⟨b, off + i * 17 + 16, none⟩ = some (.int .i64 (x 16)) ∧ W.cell? ⟨b, off + i * 17 + 15, none⟩ = some (.int .i64 (x 15)) := by
  have q := range_below h hb hl
  exact ⟨q, by rw [← hd]; exact q 14 _ rfl, q 16 _ rfl, q 15 _ rfl⟩
theorem held2 {w W : World} {b off i j k : Nat} {x y z : OpX} (hb : Below w.heap.size w W) (hl : b < w.heap.size) (h1 : w.rangeAt b (off + i * 17) (opL x)) (h2 : w.rangeAt b (off + j * 17) (opL y)) (h3 : w.rangeAt b (off + k * 17) (opL z)) :
    W.rangeAt b (off + i * 17) (opL x) ∧ W.rangeAt b (off + j * 17) (opL y) ∧ W.rangeAt b (off + k * 17) (opL z) ∧ W.cell? ⟨b, off + j * 17 + 16, none⟩ = some (.int .i64 (y 16)) ∧ W.cell? ⟨b, off + j * 17 + 15, none⟩ = some (.int .i64 (y 15)) := by
  have q := range_below h2 hb hl
  exact ⟨range_below h1 hb hl, q, range_below h3 hb hl, q 16 _ rfl, q 15 _ rfl⟩
set_option maxRecDepth 100000 in
set_option maxHeartbeats 1000000 in
theorem op_reads {w : World} {cs : List Value} (h : Reads Try.prog w 38 cs) : ∃ x : OpX, cs = opL x ∧ OpOk x := by
  obtain ⟨hl, _⟩ := h.struct Try.underlying38
  have hc : Try.prog.cellsOf 38 = 17 := by kernel_rfl
  have hi : Try.prog.cellsOf 3 = 1 := by kernel_rfl
  have hb : Try.prog.cellsOf 4 = 1 := by kernel_rfl
  have hu : Try.prog.cellsOf 30 = 1 := by kernel_rfl
  have hf : Try.prog.cellsOf 25 = 1 := by kernel_rfl
  have hv : Try.prog.cellsOf 32 = 4 := by kernel_rfl
  have h7 : Try.prog.cellsOf 34 = 7 := by kernel_rfl
  have h5 : Try.prog.cellsOf 36 = 5 := by kernel_rfl
  rw [hc] at hl
  match cs, hl with
  | [a0, a1, a2, a3, a4, a5, a6, a7, a8, a9, a10, a11, a12, a13, a14, a15, a16], _ =>
    have hC := h.field Try.underlying38 2 34 2 7 rfl h7
    have hR := h.field Try.underlying38 3 36 9 5 rfl h5
    obtain ⟨x0, e0, b0⟩ := (h.field Try.underlying38 0 3 0 1 rfl hi).int Try.underlying3
    obtain ⟨x1, e1, b1⟩ := (h.field Try.underlying38 1 3 1 1 rfl hi).int Try.underlying3
    obtain ⟨x2, e2, b2⟩ := (hC.field Try.underlying34 0 3 0 1 rfl hi).int Try.underlying3
    obtain ⟨x3, e3, b3⟩ := (hC.field Try.underlying34 1 3 1 1 rfl hi).int Try.underlying3
    have hV := ((hC.field Try.underlying34 2 32 2 4 rfl hv).array Try.underlying32).2
    rw [hu] at hV
    obtain ⟨x4, e4, b4⟩ := (hV 0 (by omega)).int Try.underlying30
    obtain ⟨x5, e5, b5⟩ := (hV 1 (by omega)).int Try.underlying30
    obtain ⟨x6, e6, b6⟩ := (hV 2 (by omega)).int Try.underlying30
    obtain ⟨x7, e7, b7⟩ := (hV 3 (by omega)).int Try.underlying30
    obtain ⟨x8, e8, b8⟩ := (hC.field Try.underlying34 3 30 6 1 rfl hu).int Try.underlying30
    obtain ⟨x9, e9, b9⟩ := (hR.field Try.underlying36 0 25 0 1 rfl hf).int Try.underlying25
    have hW := ((hR.field Try.underlying36 1 32 1 4 rfl hv).array Try.underlying32).2
    rw [hu] at hW
    obtain ⟨x10, e10, b10⟩ := (hW 0 (by omega)).int Try.underlying30
    obtain ⟨x11, e11, b11⟩ := (hW 1 (by omega)).int Try.underlying30
    obtain ⟨x12, e12, b12⟩ := (hW 2 (by omega)).int Try.underlying30
    obtain ⟨x13, e13, b13⟩ := (hW 3 (by omega)).int Try.underlying30
    obtain ⟨d, e14⟩ := (h.field Try.underlying38 4 4 14 1 rfl hb).bool Try.underlying4
    obtain ⟨x15, e15, b15⟩ := (h.field Try.underlying38 5 3 15 1 rfl hi).int Try.underlying3
    obtain ⟨x16, e16, b16⟩ := (h.field Try.underlying38 6 3 16 1 rfl hi).int Try.underlying3
    simp at e0 e1 e2 e3 e4 e5 e6 e7 e8 e9 e10 e11 e12 e13 e14 e15 e16
    subst e0 e1 e2 e3 e4 e5 e6 e7 e8 e9 e10 e11 e12 e13 e14 e15 e16
    replace b0 := bounds_i64 b0
    replace b1 := bounds_i64 b1
    replace b2 := bounds_i64 b2
    replace b3 := bounds_i64 b3
    replace b4 := bounds_u32 b4
    replace b5 := bounds_u32 b5
    replace b6 := bounds_u32 b6
    replace b7 := bounds_u32 b7
    replace b8 := bounds_u32 b8
    replace b9 := bounds_i64 b9
    replace b10 := bounds_u32 b10
    replace b11 := bounds_u32 b11
    replace b12 := bounds_u32 b12
    replace b13 := bounds_u32 b13
    replace b15 := bounds_i64 b15
    replace b16 := bounds_i64 b16
    refine ⟨fun j => [x0, x1, x2, x3, x4, x5, x6, x7, x8, x9, x10, x11, x12, x13, (if d then 1 else 0), x15, x16].getD j 0, ?_, ⟨fun j h1 h2 => ?_, fun j h1 h2 h3 => ?_, ?_⟩⟩
    · cases d <;> rfl
    · unfold i64B
      rcases (show j = 0 ∨ j = 1 ∨ j = 2 ∨ j = 3 ∨ j = 9 ∨ j = 15 ∨ j = 16 by omega) with rfl | rfl | rfl | rfl | rfl | rfl | rfl
      · exact b0
      · exact b1
      · exact b2
      · exact b3
      · exact b9
      · exact b15
      · exact b16
    · unfold u32B
      rcases (show j = 4 ∨ j = 5 ∨ j = 6 ∨ j = 7 ∨ j = 8 ∨ j = 10 ∨ j = 11 ∨ j = 12 ∨ j = 13 by omega) with rfl | rfl | rfl | rfl | rfl | rfl | rfl | rfl | rfl
      · exact b4
      · exact b5
      · exact b6
      · exact b7
      · exact b8
      · exact b10
      · exact b11
      · exact b12
      · exact b13
    · cases d
      · exact Or.inl rfl
      · exact Or.inr rfl
theorem hist_open {w : World} {cs : List Value} (h : Reads Try.prog w 22 cs) : ∃ (a : Option Addr) (n c : Nat) (L : List OpX), cs = [.slice a n c] ∧ n ≤ maxLen ∧ OpsArg w a n L := by
  obtain ⟨a, n, c, e, hl, hm, r⟩ := h.rows Try.underlying22 (n := 17) (by kernel_rfl) (by omega)
  rcases Nat.eq_zero_or_pos n with rfl | hp
  · exact ⟨a, 0, c, [], e, by omega, rfl, fun x hx => by (cases hx), fun h => by omega⟩
  · obtain ⟨b, off, rfl, hb, hr⟩ := r hp
    haveI : Inhabited OpX := ⟨fun _ => 0⟩
    obtain ⟨F, hF⟩ := Deep.choose_lt (n := n) (p := fun i (x : OpX) => OpOk x ∧ w.rangeAt b (off + i * 17) (opL x)) (fun i hi => by
      obtain ⟨cs', hl17, hc, hrd⟩ := hr i hi
      obtain ⟨x, rfl, hx⟩ := op_reads hrd
      refine ⟨x, hx, fun j v hj => ?_⟩
      have hj17 : j < 17 := by
        rcases Nat.lt_or_ge j 17 with h | h
        · exact h
        · rw [List.getElem?_eq_none (by show 17 ≤ j; exact h)] at hj; cases hj
      rw [hc j hj17]
      exact hj)
    refine ⟨_, n, c, (List.range n).map F, e, by omega, by simp, fun x hx => ?_, fun _ => ⟨b, off, rfl, hb, fun i x hi => ?_⟩⟩
    · obtain ⟨i, hi, rfl⟩ := List.mem_map.1 hx
      exact (hF i (List.mem_range.1 hi)).1
    · rw [List.getElem?_map] at hi
      obtain ⟨j, hj, rfl⟩ := Option.map_eq_some_iff.1 hi
      have hin : i < n := by
        rcases Nat.lt_or_ge i n with h | h
        · exact h
        · rw [List.getElem?_eq_none (by simpa using h)] at hj; cases hj
      rw [List.getElem?_range hin] at hj
      obtain rfl := Option.some.inj hj
      exact (hF _ hin).2
end Go.Proofs.Ytakaclkhnajpeaa
