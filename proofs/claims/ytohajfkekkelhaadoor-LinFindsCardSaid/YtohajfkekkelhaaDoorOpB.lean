import Derived.Test.YtohajfkekkelhaaDoorOpA
namespace Go.Proofs.YtohajfkekkelhaaDoor
open Go.ChangeShapes Go.WideShapes Go.ChangeAt Go.RowKit
set_option linter.unusedVariables false
set_option linter.unusedSimpArgs false
/-- Calls in memory. -/
def OpsIn (w : World) (g o : Nat) (L : List OpX) : Prop := ∀ k x, L[k]? = some x → w.rangeAt g (o + k * 17) (opL x)
theorem range_below {w w' : World} {B b o : Nat} {cs : List Value} (h : w.rangeAt b o cs) (hb : Below B w w') (hB : b < B) : w'.rangeAt b o cs := fun j v hv => (hb.cell (p := ⟨b, o + j, none⟩) hB).trans (h j v hv)
theorem range_keeps {w w' : World} {b o : Nat} {cs : List Value} (h : w.rangeAt b o cs) (hk : Keeps (fun _ => False) w w') (hl : b < w.heap.size) : w'.rangeAt b o cs := range_below h hk.none hl
theorem range_new (wr : World) (x : OpX) : (wr.alloc (.cells #[.int .i64 (x 0), .int .i64 (x 1), .int .i64 (x 2), .int .i64 (x 3), .int .u32 (x 4), .int .u32 (x 5), .int .u32 (x 6), .int .u32 (x 7), .int .u32 (x 8), .int .i64 (x 9), .int .u32 (x 10), .int .u32 (x 11), .int .u32 (x 12), .int .u32 (x 13), .bool (decide (x 14 = 1)), .int .i64 (x 15), .int .i64 (x 16)] 47)).rangeAt wr.heap.size 0 (opL x) := fun j v hv => by
  rw [cell_of (heap_new wr (.cells #[.int .i64 (x 0), .int .i64 (x 1), .int .i64 (x 2), .int .i64 (x 3), .int .u32 (x 4), .int .u32 (x 5), .int .u32 (x 6), .int .u32 (x 7), .int .u32 (x 8), .int .i64 (x 9), .int .u32 (x 10), .int .u32 (x 11), .int .u32 (x 12), .int .u32 (x 13), .bool (decide (x 14 = 1)), .int .i64 (x 15), .int .i64 (x 16)] 47)) (0 + j), show 0 + j = j by omega]
  simpa [opL] using hv
/-- A history as an argument. -/
structure OpsArg (w : World) (a : Option Addr) (n : Nat) (L : List OpX) : Prop where
  len : L.length = n
  ok : ∀ x, x ∈ L → OpOk x
  lies : 0 < n → ∃ b off, a = some ⟨b, off, none⟩ ∧ b < w.heap.size ∧ OpsIn w b off L
theorem OpsArg.below {w w' : World} {a : Option Addr} {n : Nat} {L : List OpX} (h : OpsArg w a n L) (hb : Below w.heap.size w w') : OpsArg w' a n L :=
  ⟨h.len, h.ok, fun hn => by
    obtain ⟨b, off, e, hl, hc⟩ := h.lies hn
    exact ⟨b, off, e, Nat.lt_of_lt_of_le hl hb.size, fun k x hk => range_below (hc k x hk) hb hl⟩⟩
set_option maxRecDepth 100000 in
set_option maxHeartbeats 1000000 in
theorem op_reads {w : World} {cs : List Value} (h : Reads Tryd.prog w 47 cs) : ∃ x : OpX, cs = opL x ∧ OpOk x := by
  obtain ⟨hl, _⟩ := h.struct Tryd.underlying47
  have hc : Tryd.prog.cellsOf 47 = 17 := by kernel_rfl
  have hi : Tryd.prog.cellsOf 3 = 1 := by kernel_rfl
  have hb : Tryd.prog.cellsOf 4 = 1 := by kernel_rfl
  have hu : Tryd.prog.cellsOf 39 = 1 := by kernel_rfl
  have hf : Tryd.prog.cellsOf 35 = 1 := by kernel_rfl
  have hv : Tryd.prog.cellsOf 41 = 4 := by kernel_rfl
  have h7 : Tryd.prog.cellsOf 43 = 7 := by kernel_rfl
  have h5 : Tryd.prog.cellsOf 45 = 5 := by kernel_rfl
  rw [hc] at hl
  match cs, hl with
  | [a0, a1, a2, a3, a4, a5, a6, a7, a8, a9, a10, a11, a12, a13, a14, a15, a16], _ =>
    have hC := h.field Tryd.underlying47 2 43 2 7 rfl h7
    have hR := h.field Tryd.underlying47 3 45 9 5 rfl h5
    obtain ⟨x0, e0, b0⟩ := (h.field Tryd.underlying47 0 3 0 1 rfl hi).int Tryd.underlying3
    obtain ⟨x1, e1, b1⟩ := (h.field Tryd.underlying47 1 3 1 1 rfl hi).int Tryd.underlying3
    obtain ⟨x2, e2, b2⟩ := (hC.field Tryd.underlying43 0 3 0 1 rfl hi).int Tryd.underlying3
    obtain ⟨x3, e3, b3⟩ := (hC.field Tryd.underlying43 1 3 1 1 rfl hi).int Tryd.underlying3
    have hV := ((hC.field Tryd.underlying43 2 41 2 4 rfl hv).array Tryd.underlying41).2
    rw [hu] at hV
    obtain ⟨x4, e4, b4⟩ := (hV 0 (by omega)).int Tryd.underlying39
    obtain ⟨x5, e5, b5⟩ := (hV 1 (by omega)).int Tryd.underlying39
    obtain ⟨x6, e6, b6⟩ := (hV 2 (by omega)).int Tryd.underlying39
    obtain ⟨x7, e7, b7⟩ := (hV 3 (by omega)).int Tryd.underlying39
    obtain ⟨x8, e8, b8⟩ := (hC.field Tryd.underlying43 3 39 6 1 rfl hu).int Tryd.underlying39
    obtain ⟨x9, e9, b9⟩ := (hR.field Tryd.underlying45 0 35 0 1 rfl hf).int Tryd.underlying35
    have hW := ((hR.field Tryd.underlying45 1 41 1 4 rfl hv).array Tryd.underlying41).2
    rw [hu] at hW
    obtain ⟨x10, e10, b10⟩ := (hW 0 (by omega)).int Tryd.underlying39
    obtain ⟨x11, e11, b11⟩ := (hW 1 (by omega)).int Tryd.underlying39
    obtain ⟨x12, e12, b12⟩ := (hW 2 (by omega)).int Tryd.underlying39
    obtain ⟨x13, e13, b13⟩ := (hW 3 (by omega)).int Tryd.underlying39
    obtain ⟨d, e14⟩ := (h.field Tryd.underlying47 4 4 14 1 rfl hb).bool Tryd.underlying4
    obtain ⟨x15, e15, b15⟩ := (h.field Tryd.underlying47 5 3 15 1 rfl hi).int Tryd.underlying3
    obtain ⟨x16, e16, b16⟩ := (h.field Tryd.underlying47 6 3 16 1 rfl hi).int Tryd.underlying3
    simp at e0 e1 e2 e3 e4 e5 e6 e7 e8 e9 e10 e11 e12 e13 e14 e15 e16
    subst e0 e1 e2 e3 e4 e5 e6 e7 e8 e9 e10 e11 e12 e13 e14 e15 e16
    replace b0 := bounds_i64 b0
    replace b1 := bounds_i64 b1
    replace b2 := bounds_i64 b2
    replace b3 := bounds_i64 b3
    replace b4 := bounds_u32 b4
    replace b5 := bounds_u32 b5
    replace b6 := bounds_u32 b6
    replace b7 := bounds_u32 b7
    replace b8 := bounds_u32 b8
    replace b9 := bounds_i64 b9
    replace b10 := bounds_u32 b10
    replace b11 := bounds_u32 b11
    replace b12 := bounds_u32 b12
    replace b13 := bounds_u32 b13
    replace b15 := bounds_i64 b15
    replace b16 := bounds_i64 b16
    refine ⟨fun j => [x0, x1, x2, x3, x4, x5, x6, x7, x8, x9, x10, x11, x12, x13, (if d then 1 else 0), x15, x16].getD j 0, ?_, ⟨fun j h1 h2 => ?_, fun j h1 h2 h3 => ?_, ?_⟩⟩
    · cases d <;> rfl
    · unfold i64B
      rcases (show j = 0 ∨ j = 1 ∨ j = 2 ∨ j = 3 ∨ j = 9 ∨ j = 15 ∨ j = 16 by omega) with rfl | rfl | rfl | rfl | rfl | rfl | rfl
      · exact b0
      · exact b1
      · exact b2
      · exact b3
      · exact b9
      · exact b15
      · exact b16
    · unfold u32B
      rcases (show j = 4 ∨ j = 5 ∨ j = 6 ∨ j = 7 ∨ j = 8 ∨ j = 10 ∨ j = 11 ∨ j = 12 ∨ j = 13 by omega) with rfl | rfl | rfl | rfl | rfl | rfl | rfl | rfl | rfl
      · exact b4
      · exact b5
      · exact b6
      · exact b7
      · exact b8
      · exact b10
      · exact b11
      · exact b12
      · exact b13
    · cases d
      · exact Or.inl rfl
      · exact Or.inr rfl
theorem hist_open {w : World} {cs : List Value} (h : Reads Tryd.prog w 23 cs) : ∃ (a : Option Addr) (n c : Nat) (L : List OpX), cs = [.slice a n c] ∧ n ≤ maxLen ∧ OpsArg w a n L := by
  obtain ⟨a, n, c, e, hl, hm, r⟩ := h.rows Tryd.underlying23 (n := 17) (by kernel_rfl) (by omega)
  rcases Nat.eq_zero_or_pos n with rfl | hp
  · exact ⟨a, 0, c, [], e, by omega, rfl, fun x hx => by (cases hx), fun h => by omega⟩
  · obtain ⟨b, off, rfl, hb, hr⟩ := r hp
    haveI : Inhabited OpX := ⟨fun _ => 0⟩
    obtain ⟨F, hF⟩ := Deep.choose_lt (n := n) (p := fun i (x : OpX) => OpOk x ∧ w.rangeAt b (off + i * 17) (opL x)) (fun i hi => by
      obtain ⟨cs', hl17, hc, hrd⟩ := hr i hi
      obtain ⟨x, rfl, hx⟩ := op_reads hrd
      refine ⟨x, hx, fun j v hj => ?_⟩
      have hj17 : j < 17 := by
        rcases Nat.lt_or_ge j 17 with h | h
        · exact h
        · rw [List.getElem?_eq_none (by show 17 ≤ j; exact h)] at hj; cases hj
      rw [hc j hj17]
      exact hj)
    refine ⟨_, n, c, (List.range n).map F, e, by omega, by simp, fun x hx => ?_, fun _ => ⟨b, off, rfl, hb, fun i x hi => ?_⟩⟩
    · obtain ⟨i, hi, rfl⟩ := List.mem_map.1 hx
      exact (hF i (List.mem_range.1 hi)).1
    · rw [List.getElem?_map] at hi
      obtain ⟨j, hj, rfl⟩ := Option.map_eq_some_iff.1 hi
      have hin : i < n := by
        rcases Nat.lt_or_ge i n with h | h
        · exact h
        · rw [List.getElem?_eq_none (by simpa using h)] at hj; cases hj
      rw [List.getElem?_range hin] at hj
      obtain rfl := Option.some.inj hj
      exact (hF _ hin).2
end Go.Proofs.YtohajfkekkelhaaDoor
