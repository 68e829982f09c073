import Derived.Test.YtakaclkhnajpeaaHistA
import Derived.Test.YtakaclkhnajpeaaNumA
import Derived.Test.YtakaclkhnajpeaaNumHa
import Derived.Test.YtakaclkhnajpeaaRowD
namespace Go.Proofs.Ytakaclkhnajpeaa
open Go.ChangeShapes Go.WideShapes Go.ChangeAt Go.RowKit
set_option linter.unusedVariables false
set_option linter.unusedSimpArgs false
def numsX (x : OpX) (m : Nat) : List Value := (List.range m).map fun j => .int .i64 (x j)
theorem numsX_snoc (x : OpX) (m : Nat) : numsX x (m + 1) = numsX x m ++ [.int .i64 (x m)] := by unfold numsX; rw [List.range_succ, List.map_append]; rfl
theorem numsX_at (x : OpX) (m j : Nat) (h : j < m) : (numsX x m)[j]? = some (.int .i64 (x j)) := by unfold numsX; rw [List.getElem?_map, List.getElem?_range h]; rfl
/-- The words of a call as strings, those ahead of k. -/
def strX (x : OpX) (k : Nat) : Array Value := ((List.range 17).map fun j => if j < k then Value.string (prnB (x j)) else .string ⟨#[]⟩).toArray
theorem strX_zero (x : OpX) : strX x 0 = madeCells #[.string ⟨#[]⟩] 17 := by kernel_rfl
theorem strX_step (x : OpX) (k : Nat) (h : k < 17) : strX x (k + 1) = (strX x k).setIfInBounds k (.string (prnB (x k))) := by
  rcases (show k = 0 ∨ k = 1 ∨ k = 2 ∨ k = 3 ∨ k = 4 ∨ k = 5 ∨ k = 6 ∨ k = 7 ∨ k = 8 ∨ k = 9 ∨ k = 10 ∨ k = 11 ∨ k = 12 ∨ k = 13 ∨ k = 14 ∨ k = 15 ∨ k = 16 by omega) with rfl | rfl | rfl | rfl | rfl | rfl | rfl | rfl | rfl | rfl | rfl | rfl | rfl | rfl | rfl | rfl | rfl <;> kernel_rfl
def wsX (x : OpX) : List ByteArray := (List.range 17).map fun j => prnB (x j)
theorem strX_all (x : OpX) : (strX x 17).toList = (wsX x).map Value.string := by kernel_rfl
theorem own_four (w : World) (B : Nat) (e : TypeId) (a b c d : Value) (hB : B ≤ w.heap.size) : (w.alloc (.cells #[a, b, c, d] e)).ownsRow B e 1 (.slice (some ⟨w.heap.size, 0, none⟩) 4 4) 4 [a, b, c, d] :=
  ⟨rfl, .inr ⟨w.heap.size, 4, #[a, b, c, d], rfl, hB, heap_new _ _, Nat.le_refl _, by unfold maxLen; omega, rfl, rfl⟩⟩
theorem make_words (w : World) : (Instr.makeSlice 43 (.int .i64 17) (.int .i64 17)).run Try.prog w = .ok (.slice (some ⟨w.heap.size, 0, none⟩) 17 17) (w.alloc (.cells (madeCells #[.string ⟨#[]⟩] 17) 9)) := by
  obtain ⟨i, hi, hz0, hz1, hz2⟩ := info_parts (show (Try.prog.info? 9).map (fun i => (i.zero, i.size, i.bytes)) = some (some (.string ⟨#[]⟩), 1, 16) by kernel_rfl)
  have h := run_make w 43 9 i (.string ⟨#[]⟩) Try.underlying43 hi hz0 .i64 .i64 17 17 (by omega) (by omega) (by rw [hz2]; omega) (by omega)
  rw [hz1] at h
  exact h
theorem ixV0 (w : World) (a b c d : Int) : (Instr.index 32 (.agg #[.int .u32 a, .int .u32 b, .int .u32 c, .int .u32 d]) (.int .i64 0)).run Try.prog w = .ok (.int .u32 a) w := by kernel_rfl
theorem ixV1 (w : World) (a b c d : Int) : (Instr.index 32 (.agg #[.int .u32 a, .int .u32 b, .int .u32 c, .int .u32 d]) (.int .i64 1)).run Try.prog w = .ok (.int .u32 b) w := by kernel_rfl
theorem ixV2 (w : World) (a b c d : Int) : (Instr.index 32 (.agg #[.int .u32 a, .int .u32 b, .int .u32 c, .int .u32 d]) (.int .i64 2)).run Try.prog w = .ok (.int .u32 c) w := by kernel_rfl
theorem ixV3 (w : World) (a b c d : Int) : (Instr.index 32 (.agg #[.int .u32 a, .int .u32 b, .int .u32 c, .int .u32 d]) (.int .i64 3)).run Try.prog w = .ok (.int .u32 d) w := by kernel_rfl
theorem ix_dummy : True := trivial
set_option maxRecDepth 100000 in
set_option maxHeartbeats 4000000 in
theorem wordsof_any (w : World) (x : OpX) (hx : OpOk x) :
    Calls Try.prog 14 #[.agg (opA x)] w fun e w' => ∃ g, e = .returned (.slice (some ⟨g, 0, none⟩) 17 17) ∧ w.heap.size ≤ g ∧ WordsAt w' g (wsX x) ∧ Below w.heap.size w w' := by
  obtain ⟨i0, hi, hz0, hz1, hz2⟩ := info_parts info_int
  have HU := Lib.hid hx.u
  have HD0 := Lib.hid hx.d
  have HI := Lib.hid (show ∀ j, j < 17 → -9223372036854775808 ≤ x j ∧ x j ≤ 9223372036854775807 from fun j hj => by
    by_cases h : j < 4 ∨ j = 9 ∨ 14 < j
    · exact hx.i j h hj
    · by_cases h14 : j = 14
      · subst h14
        rcases hx.d with q | q <;> omega
      · have q := hx.u j (by omega) (by omega) (by omega)
        unfold u32B at q
        omega)
  have u8 := hx.u 8 (by omega) (by omega) (by omega)
  unfold u32B at u8
  have hX : (opA x) = #[.int .i64 (x 0), .int .i64 (x 1), .int .i64 (x 2), .int .i64 (x 3), .int .u32 (x 4), .int .u32 (x 5), .int .u32 (x 6), .int .u32 (x 7), .int .u32 (x 8), .int .i64 (x 9), .int .u32 (x 10), .int .u32 (x 11), .int .u32 (x 12), .int .u32 (x 13), .bool (decide (x 14 = 1)), .int .i64 (x 15), .int .i64 (x 16)] := rfl
  have HBX := Lib.hid (heap_new w (.cells #[.int .i64 (x 0), .int .i64 (x 1), .int .i64 (x 2), .int .i64 (x 3), .int .u32 (x 4), .int .u32 (x 5), .int .u32 (x 6), .int .u32 (x 7), .int .u32 (x 8), .int .i64 (x 9), .int .u32 (x 10), .int .u32 (x 11), .int .u32 (x 12), .int .u32 (x 13), .bool (decide (x 14 = 1)), .int .i64 (x 15), .int .i64 (x 16)] 38))
  have HBW := Lib.hid ((Below.refl w.heap.size w).alloc (Nat.le_refl _) (.cells #[.int .i64 (x 0), .int .i64 (x 1), .int .i64 (x 2), .int .i64 (x 3), .int .u32 (x 4), .int .u32 (x 5), .int .u32 (x 6), .int .u32 (x 7), .int .u32 (x 8), .int .i64 (x 9), .int .u32 (x 10), .int .u32 (x 11), .int .u32 (x 12), .int .u32 (x 13), .bool (decide (x 14 = 1)), .int .i64 (x 15), .int .i64 (x 16)] 38))
  have HSZ := Lib.hid (show w.heap.size < (w.alloc (.cells #[.int .i64 (x 0), .int .i64 (x 1), .int .i64 (x 2), .int .i64 (x 3), .int .u32 (x 4), .int .u32 (x 5), .int .u32 (x 6), .int .u32 (x 7), .int .u32 (x 8), .int .i64 (x 9), .int .u32 (x 10), .int .u32 (x 11), .int .u32 (x 12), .int .u32 (x 13), .bool (decide (x 14 = 1)), .int .i64 (x 15), .int .i64 (x 16)] 38)).heap.size by simp)
  have e4 : numsX x 4 = [.int .i64 (x 0), .int .i64 (x 1), .int .i64 (x 2), .int .i64 (x 3)] := by kernel_rfl
  have HOF := Lib.hid (fun W B (h : B ≤ W.heap.size) => own_four W B 3 (.int .i64 (x 0)) (.int .i64 (x 1)) (.int .i64 (x 2)) (.int .i64 (x 3)) h)
  have E4 := Lib.hid e4
  have HSE := Lib.hid (show (w.alloc (.cells #[.int .i64 (x 0), .int .i64 (x 1), .int .i64 (x 2), .int .i64 (x 3), .int .u32 (x 4), .int .u32 (x 5), .int .u32 (x 6), .int .u32 (x 7), .int .u32 (x 8), .int .i64 (x 9), .int .u32 (x 10), .int .u32 (x 11), .int .u32 (x 12), .int .u32 (x 13), .bool (decide (x 14 = 1)), .int .i64 (x 15), .int .i64 (x 16)] 38)).heap.size = w.heap.size + 1 by simp)
  clear e4
  rw [hX]
  clear hX hx
  go_enter Try.func14, Try.ntmps14
  go_wp2_with fail
  have HW := Lib.hid (And.intro HSZ.out (And.intro HBX.out HBW.out))
  clear HSZ HBX HBW
  generalize (w.alloc (.cells #[.int .i64 (x 0), .int .i64 (x 1), .int .i64 (x 2), .int .i64 (x 3), .int .u32 (x 4), .int .u32 (x 5), .int .u32 (x 6), .int .u32 (x 7), .int .u32 (x 8), .int .i64 (x 9), .int .u32 (x 10), .int .u32 (x 11), .int .u32 (x 12), .int .u32 (x 13), .bool (decide (x 14 = 1)), .int .i64 (x 15), .int .i64 (x 16)] 38)) = W1 at *
  have HO := Lib.hid (show (W1.alloc (.cells #[.int .i64 (x 0), .int .i64 (x 1), .int .i64 (x 2), .int .i64 (x 3)] 3)).ownsRow W1.heap.size 3 1 (.slice (some ⟨w.heap.size + 1, 0, none⟩) 4 4) 4 (numsX x 4) by
    rw [E4.out, show w.heap.size + 1 = W1.heap.size from HSE.out.symm]
    exact HOF.out W1 W1.heap.size (Nat.le_refl _))
  have HB := Lib.hid ((Below.refl W1.heap.size W1).alloc (Nat.le_refl _) (.cells #[.int .i64 (x 0), .int .i64 (x 1), .int .i64 (x 2), .int .i64 (x 3)] 3))
  clear HOF
  go_loopw [3, 26] (fun v i wr => ∃ k : Nat, k ≤ 4 ∧ i = .int .i64 (k : Int) ∧ wr.ownsRow W1.heap.size 3 1 v (4 + k) (numsX x (4 + k)) ∧ Below W1.heap.size W1 wr) (fun _ i _ => 4 - (intOf i).toNat)
  case atStart => exact ⟨0, by omega, rfl, HO.out, HB.out⟩
  case round =>
    clear HO HB
    obtain ⟨k, hk, rfl, hown, hbw⟩ := hrel
    rcases (show k = 0 ∨ k = 1 ∨ k = 2 ∨ k = 3 ∨ k = 4 by omega) with rfl | rfl | rfl | rfl | rfl
    · have HO := Lib.hid (show wr.ownsRow W1.heap.size 3 1 _ 4 (numsX x 4) from hown)
      have HB := Lib.hid hbw
      have ixk := ixV0
      have yb := HU.out 4 (by omega) (by omega) (by omega)
      unfold u32B at yb
      clear hown hbw
      go_wp2_with (at_builtin; refine wpList_append_own _ rfl _ _ 68 rfl W1.heap.size 3 i0 _ 1 8 Try.underlying68 hi hz0 hz1 hz2 rfl (by decide) _ _ _ rfl (HO.out.alloc _) ⟨wr.heap.size, 0, none⟩ 1 1 [.int .i64 (x 4)] rfl rfl ?c1 ?c2 ?c3 ?c4 ?c5 ?_)
      case c1 => exact fun j u hj => by rw [Addr.add_mid, cell_of (heap_new wr (.cells #[.int .i64 (x 4)] 3)) (0 + j), show 0 + j = j by omega]; simpa using hj
      case c2 => intro u hu; simp at hu; subst hu; rfl
      case c3 => unfold maxLen; omega
      case c4 => omega
      case c5 => have := HB.out.size; simp; omega
      intro v' w4 hown' hgrow _
      obtain ⟨g', cap', rfl⟩ := ownsRow_succ hown'
      have HB' := Lib.hid ((HB.out.alloc HB.out.size _).grown hgrow (by have := HB.out.size; simp; omega) (fun j hj => (HO.out.lt j hj).1))
      have HO' := Lib.hid (show w4.ownsRow W1.heap.size 3 1 (.slice (some ⟨g', 0, none⟩) 5 cap') 5 (numsX x 5) from hown')
      clear hown' hgrow
      go_wp2_with fail
      go_roundw
      case rel => first | exact ⟨1, by omega, by first | rfl | go_num, HO'.out, HB'.out⟩ | exact ⟨_, _, _, _, _, _, _, _, _, _, _, ⟨1, by omega, by first | rfl | go_num, HO'.out, HB'.out⟩, rfl⟩
      case measure => simp [intOf]
    · have HO := Lib.hid (show wr.ownsRow W1.heap.size 3 1 _ 5 (numsX x 5) from hown)
      have HB := Lib.hid hbw
      have ixk := ixV1
      have yb := HU.out 5 (by omega) (by omega) (by omega)
      unfold u32B at yb
      clear hown hbw
      go_wp2_with (at_builtin; refine wpList_append_own _ rfl _ _ 68 rfl W1.heap.size 3 i0 _ 1 8 Try.underlying68 hi hz0 hz1 hz2 rfl (by decide) _ _ _ rfl (HO.out.alloc _) ⟨wr.heap.size, 0, none⟩ 1 1 [.int .i64 (x 5)] rfl rfl ?c1 ?c2 ?c3 ?c4 ?c5 ?_)
      case c1 => exact fun j u hj => by rw [Addr.add_mid, cell_of (heap_new wr (.cells #[.int .i64 (x 5)] 3)) (0 + j), show 0 + j = j by omega]; simpa using hj
      case c2 => intro u hu; simp at hu; subst hu; rfl
      case c3 => unfold maxLen; omega
      case c4 => omega
      case c5 => have := HB.out.size; simp; omega
      intro v' w4 hown' hgrow _
      obtain ⟨g', cap', rfl⟩ := ownsRow_succ hown'
      have HB' := Lib.hid ((HB.out.alloc HB.out.size _).grown hgrow (by have := HB.out.size; simp; omega) (fun j hj => (HO.out.lt j hj).1))
      have HO' := Lib.hid (show w4.ownsRow W1.heap.size 3 1 (.slice (some ⟨g', 0, none⟩) 6 cap') 6 (numsX x 6) from hown')
      clear hown' hgrow
      go_wp2_with fail
      go_roundw
      case rel => first | exact ⟨2, by omega, by first | rfl | go_num, HO'.out, HB'.out⟩ | exact ⟨_, _, _, _, _, _, _, _, _, _, _, ⟨2, by omega, by first | rfl | go_num, HO'.out, HB'.out⟩, rfl⟩
      case measure => simp [intOf]
    · have HO := Lib.hid (show wr.ownsRow W1.heap.size 3 1 _ 6 (numsX x 6) from hown)
      have HB := Lib.hid hbw
      have ixk := ixV2
      have yb := HU.out 6 (by omega) (by omega) (by omega)
      unfold u32B at yb
      clear hown hbw
      go_wp2_with (at_builtin; refine wpList_append_own _ rfl _ _ 68 rfl W1.heap.size 3 i0 _ 1 8 Try.underlying68 hi hz0 hz1 hz2 rfl (by decide) _ _ _ rfl (HO.out.alloc _) ⟨wr.heap.size, 0, none⟩ 1 1 [.int .i64 (x 6)] rfl rfl ?c1 ?c2 ?c3 ?c4 ?c5 ?_)
      case c1 => exact fun j u hj => by rw [Addr.add_mid, cell_of (heap_new wr (.cells #[.int .i64 (x 6)] 3)) (0 + j), show 0 + j = j by omega]; simpa using hj
      case c2 => intro u hu; simp at hu; subst hu; rfl
      case c3 => unfold maxLen; omega
      case c4 => omega
      case c5 => have := HB.out.size; simp; omega
      intro v' w4 hown' hgrow _
      obtain ⟨g', cap', rfl⟩ := ownsRow_succ hown'
      have HB' := Lib.hid ((HB.out.alloc HB.out.size _).grown hgrow (by have := HB.out.size; simp; omega) (fun j hj => (HO.out.lt j hj).1))
      have HO' := Lib.hid (show w4.ownsRow W1.heap.size 3 1 (.slice (some ⟨g', 0, none⟩) 7 cap') 7 (numsX x 7) from hown')
      clear hown' hgrow
      go_wp2_with fail
      go_roundw
      case rel => first | exact ⟨3, by omega, by first | rfl | go_num, HO'.out, HB'.out⟩ | exact ⟨_, _, _, _, _, _, _, _, _, _, _, ⟨3, by omega, by first | rfl | go_num, HO'.out, HB'.out⟩, rfl⟩
      case measure => simp [intOf]
    · have HO := Lib.hid (show wr.ownsRow W1.heap.size 3 1 _ 7 (numsX x 7) from hown)
      have HB := Lib.hid hbw
      have ixk := ixV3
      have yb := HU.out 7 (by omega) (by omega) (by omega)
      unfold u32B at yb
      clear hown hbw
      go_wp2_with (at_builtin; refine wpList_append_own _ rfl _ _ 68 rfl W1.heap.size 3 i0 _ 1 8 Try.underlying68 hi hz0 hz1 hz2 rfl (by decide) _ _ _ rfl (HO.out.alloc _) ⟨wr.heap.size, 0, none⟩ 1 1 [.int .i64 (x 7)] rfl rfl ?c1 ?c2 ?c3 ?c4 ?c5 ?_)
      case c1 => exact fun j u hj => by rw [Addr.add_mid, cell_of (heap_new wr (.cells #[.int .i64 (x 7)] 3)) (0 + j), show 0 + j = j by omega]; simpa using hj
      case c2 => intro u hu; simp at hu; subst hu; rfl
      case c3 => unfold maxLen; omega
      case c4 => omega
      case c5 => have := HB.out.size; simp; omega
      intro v' w4 hown' hgrow _
      obtain ⟨g', cap', rfl⟩ := ownsRow_succ hown'
      have HB' := Lib.hid ((HB.out.alloc HB.out.size _).grown hgrow (by have := HB.out.size; simp; omega) (fun j hj => (HO.out.lt j hj).1))
      have HO' := Lib.hid (show w4.ownsRow W1.heap.size 3 1 (.slice (some ⟨g', 0, none⟩) 8 cap') 8 (numsX x 8) from hown')
      clear hown' hgrow
      go_wp2_with fail
      go_roundw
      case rel => first | exact ⟨4, by omega, by first | rfl | go_num, HO'.out, HB'.out⟩ | exact ⟨_, _, _, _, _, _, _, _, _, _, _, ⟨4, by omega, by first | rfl | go_num, HO'.out, HB'.out⟩, rfl⟩
      case measure => simp [intOf]
    · have HO := Lib.hid (show wr.ownsRow W1.heap.size 3 1 _ 8 (numsX x 8) from hown)
      have HB := Lib.hid hbw
      clear hown hbw
      have b8 : wr.cell? ⟨w.heap.size, 8, none⟩ = some (.int .u32 (x 8)) := cell_of ((HB.out.block _ HW.out.1).trans HW.out.2.1) 8
      have b9 : wr.cell? ⟨w.heap.size, 9, none⟩ = some (.int .i64 (x 9)) := cell_of ((HB.out.block _ HW.out.1).trans HW.out.2.1) 9
      go_wp2_with (at_builtin; refine wpList_append_own _ rfl _ _ 68 rfl W1.heap.size 3 i0 _ 1 8 Try.underlying68 hi hz0 hz1 hz2 rfl (by decide) _ _ _ rfl (HO.out.alloc _) ⟨wr.heap.size, 0, none⟩ 2 2 [.int .i64 (x 8), .int .i64 (x 9)] rfl rfl ?c1 ?c2 ?c3 ?c4 ?c5 ?_)
      case c1 => exact fun j u hj => by rw [Addr.add_mid, cell_of (heap_new wr (.cells #[.int .i64 (x 8), .int .i64 (x 9)] 3)) (0 + j), show 0 + j = j by omega]; simpa using hj
      case c2 => intro u hu; simp at hu; rcases hu with rfl | rfl <;> rfl
      case c3 => unfold maxLen; omega
      case c4 => omega
      case c5 => have := HB.out.size; simp; omega
      intro v' w4 hown' hgrow _
      obtain ⟨g', cap', rfl⟩ := ownsRow_succ hown'
      have HB' := Lib.hid ((HB.out.alloc HB.out.size _).grown hgrow (by have := HB.out.size; simp; omega) (fun j hj => (HO.out.lt j hj).1))
      have HO' := Lib.hid (show w4.ownsRow W1.heap.size 3 1 (.slice (some ⟨g', 0, none⟩) 10 cap') 10 (numsX x 10) from hown')
      clear hown' hgrow
      replace HO := HO'
      replace HB := HB'
      clear HO' HB'
      have b10 : w4.cell? ⟨w.heap.size, 10, none⟩ = some (.int .u32 (x 10)) := cell_of ((HB.out.block _ HW.out.1).trans HW.out.2.1) 10
      have b11 : w4.cell? ⟨w.heap.size, 11, none⟩ = some (.int .u32 (x 11)) := cell_of ((HB.out.block _ HW.out.1).trans HW.out.2.1) 11
      have b12 : w4.cell? ⟨w.heap.size, 12, none⟩ = some (.int .u32 (x 12)) := cell_of ((HB.out.block _ HW.out.1).trans HW.out.2.1) 12
      have b13 : w4.cell? ⟨w.heap.size, 13, none⟩ = some (.int .u32 (x 13)) := cell_of ((HB.out.block _ HW.out.1).trans HW.out.2.1) 13
      clear b8 b9
      go_wp2_with fail
      go_loopw [3, 48] (fun v i wr => ∃ k : Nat, k ≤ 4 ∧ i = .int .i64 (k : Int) ∧ wr.ownsRow W1.heap.size 3 1 v (10 + k) (numsX x (10 + k)) ∧ Below W1.heap.size W1 wr) (fun _ i _ => 4 - (intOf i).toNat)
      case atStart => exact ⟨0, by omega, rfl, HO.out, HB.out⟩
      case round =>
        clear HO HB
        obtain ⟨k, hk, rfl, hown, hbw⟩ := hrel
        rcases (show k = 0 ∨ k = 1 ∨ k = 2 ∨ k = 3 ∨ k = 4 by omega) with rfl | rfl | rfl | rfl | rfl
        · have HO := Lib.hid (show wr.ownsRow W1.heap.size 3 1 _ 10 (numsX x 10) from hown)
          have HB := Lib.hid hbw
          have ixk := ixV0
          have yb := HU.out 10 (by omega) (by omega) (by omega)
          unfold u32B at yb
          clear hown hbw
          go_wp2_with (at_builtin; refine wpList_append_own _ rfl _ _ 68 rfl W1.heap.size 3 i0 _ 1 8 Try.underlying68 hi hz0 hz1 hz2 rfl (by decide) _ _ _ rfl (HO.out.alloc _) ⟨wr.heap.size, 0, none⟩ 1 1 [.int .i64 (x 10)] rfl rfl ?c1 ?c2 ?c3 ?c4 ?c5 ?_)
          case c1 => exact fun j u hj => by rw [Addr.add_mid, cell_of (heap_new wr (.cells #[.int .i64 (x 10)] 3)) (0 + j), show 0 + j = j by omega]; simpa using hj
          case c2 => intro u hu; simp at hu; subst hu; rfl
          case c3 => unfold maxLen; omega
          case c4 => omega
          case c5 => have := HB.out.size; simp; omega
          intro v' w4 hown' hgrow _
          obtain ⟨g', cap', rfl⟩ := ownsRow_succ hown'
          have HB' := Lib.hid ((HB.out.alloc HB.out.size _).grown hgrow (by have := HB.out.size; simp; omega) (fun j hj => (HO.out.lt j hj).1))
          have HO' := Lib.hid (show w4.ownsRow W1.heap.size 3 1 (.slice (some ⟨g', 0, none⟩) 11 cap') 11 (numsX x 11) from hown')
          clear hown' hgrow
          go_wp2_with fail
          go_roundw
          case rel => first | exact ⟨1, by omega, by first | rfl | go_num, HO'.out, HB'.out⟩ | exact ⟨_, _, _, _, _, _, _, _, _, _, _, ⟨1, by omega, by first | rfl | go_num, HO'.out, HB'.out⟩, rfl⟩
          case measure => simp [intOf]
        · have HO := Lib.hid (show wr.ownsRow W1.heap.size 3 1 _ 11 (numsX x 11) from hown)
          have HB := Lib.hid hbw
          have ixk := ixV1
          have yb := HU.out 11 (by omega) (by omega) (by omega)
          unfold u32B at yb
          clear hown hbw
          go_wp2_with (at_builtin; refine wpList_append_own _ rfl _ _ 68 rfl W1.heap.size 3 i0 _ 1 8 Try.underlying68 hi hz0 hz1 hz2 rfl (by decide) _ _ _ rfl (HO.out.alloc _) ⟨wr.heap.size, 0, none⟩ 1 1 [.int .i64 (x 11)] rfl rfl ?c1 ?c2 ?c3 ?c4 ?c5 ?_)
          case c1 => exact fun j u hj => by rw [Addr.add_mid, cell_of (heap_new wr (.cells #[.int .i64 (x 11)] 3)) (0 + j), show 0 + j = j by omega]; simpa using hj
          case c2 => intro u hu; simp at hu; subst hu; rfl
          case c3 => unfold maxLen; omega
          case c4 => omega
          case c5 => have := HB.out.size; simp; omega
          intro v' w4 hown' hgrow _
          obtain ⟨g', cap', rfl⟩ := ownsRow_succ hown'
          have HB' := Lib.hid ((HB.out.alloc HB.out.size _).grown hgrow (by have := HB.out.size; simp; omega) (fun j hj => (HO.out.lt j hj).1))
          have HO' := Lib.hid (show w4.ownsRow W1.heap.size 3 1 (.slice (some ⟨g', 0, none⟩) 12 cap') 12 (numsX x 12) from hown')
          clear hown' hgrow
          go_wp2_with fail
          go_roundw
          case rel => first | exact ⟨2, by omega, by first | rfl | go_num, HO'.out, HB'.out⟩ | exact ⟨_, _, _, _, _, _, _, _, _, _, _, ⟨2, by omega, by first | rfl | go_num, HO'.out, HB'.out⟩, rfl⟩
          case measure => simp [intOf]
        · have HO := Lib.hid (show wr.ownsRow W1.heap.size 3 1 _ 12 (numsX x 12) from hown)
          have HB := Lib.hid hbw
          have ixk := ixV2
          have yb := HU.out 12 (by omega) (by omega) (by omega)
          unfold u32B at yb
          clear hown hbw
          go_wp2_with (at_builtin; refine wpList_append_own _ rfl _ _ 68 rfl W1.heap.size 3 i0 _ 1 8 Try.underlying68 hi hz0 hz1 hz2 rfl (by decide) _ _ _ rfl (HO.out.alloc _) ⟨wr.heap.size, 0, none⟩ 1 1 [.int .i64 (x 12)] rfl rfl ?c1 ?c2 ?c3 ?c4 ?c5 ?_)
          case c1 => exact fun j u hj => by rw [Addr.add_mid, cell_of (heap_new wr (.cells #[.int .i64 (x 12)] 3)) (0 + j), show 0 + j = j by omega]; simpa using hj
          case c2 => intro u hu; simp at hu; subst hu; rfl
          case c3 => unfold maxLen; omega
          case c4 => omega
          case c5 => have := HB.out.size; simp; omega
          intro v' w4 hown' hgrow _
          obtain ⟨g', cap', rfl⟩ := ownsRow_succ hown'
          have HB' := Lib.hid ((HB.out.alloc HB.out.size _).grown hgrow (by have := HB.out.size; simp; omega) (fun j hj => (HO.out.lt j hj).1))
          have HO' := Lib.hid (show w4.ownsRow W1.heap.size 3 1 (.slice (some ⟨g', 0, none⟩) 13 cap') 13 (numsX x 13) from hown')
          clear hown' hgrow
          go_wp2_with fail
          go_roundw
          case rel => first | exact ⟨3, by omega, by first | rfl | go_num, HO'.out, HB'.out⟩ | exact ⟨_, _, _, _, _, _, _, _, _, _, _, ⟨3, by omega, by first | rfl | go_num, HO'.out, HB'.out⟩, rfl⟩
          case measure => simp [intOf]
        · have HO := Lib.hid (show wr.ownsRow W1.heap.size 3 1 _ 13 (numsX x 13) from hown)
          have HB := Lib.hid hbw
          have ixk := ixV3
          have yb := HU.out 13 (by omega) (by omega) (by omega)
          unfold u32B at yb
          clear hown hbw
          go_wp2_with (at_builtin; refine wpList_append_own _ rfl _ _ 68 rfl W1.heap.size 3 i0 _ 1 8 Try.underlying68 hi hz0 hz1 hz2 rfl (by decide) _ _ _ rfl (HO.out.alloc _) ⟨wr.heap.size, 0, none⟩ 1 1 [.int .i64 (x 13)] rfl rfl ?c1 ?c2 ?c3 ?c4 ?c5 ?_)
          case c1 => exact fun j u hj => by rw [Addr.add_mid, cell_of (heap_new wr (.cells #[.int .i64 (x 13)] 3)) (0 + j), show 0 + j = j by omega]; simpa using hj
          case c2 => intro u hu; simp at hu; subst hu; rfl
          case c3 => unfold maxLen; omega
          case c4 => omega
          case c5 => have := HB.out.size; simp; omega
          intro v' w4 hown' hgrow _
          obtain ⟨g', cap', rfl⟩ := ownsRow_succ hown'
          have HB' := Lib.hid ((HB.out.alloc HB.out.size _).grown hgrow (by have := HB.out.size; simp; omega) (fun j hj => (HO.out.lt j hj).1))
          have HO' := Lib.hid (show w4.ownsRow W1.heap.size 3 1 (.slice (some ⟨g', 0, none⟩) 14 cap') 14 (numsX x 14) from hown')
          clear hown' hgrow
          go_wp2_with fail
          go_roundw
          case rel => first | exact ⟨4, by omega, by first | rfl | go_num, HO'.out, HB'.out⟩ | exact ⟨_, _, _, _, _, _, _, _, _, _, _, ⟨4, by omega, by first | rfl | go_num, HO'.out, HB'.out⟩, rfl⟩
          case measure => simp [intOf]
        · have HO := Lib.hid (show wr.ownsRow W1.heap.size 3 1 _ 14 (numsX x 14) from hown)
          have HB := Lib.hid hbw
          clear hown hbw
          have b15 : wr.cell? ⟨w.heap.size, 15, none⟩ = some (.int .i64 (x 15)) := cell_of ((HB.out.block _ HW.out.1).trans HW.out.2.1) 15
          have b16 : wr.cell? ⟨w.heap.size, 16, none⟩ = some (.int .i64 (x 16)) := cell_of ((HB.out.block _ HW.out.1).trans HW.out.2.1) 16
          cases hd : decide (x 14 = 1) with
          | true =>
            have h14 : x 14 = 1 := of_decide_eq_true hd
            have b14 : wr.cell? ⟨w.heap.size, 14, none⟩ = some (.bool true) := by rw [← hd]; exact cell_of ((HB.out.block _ HW.out.1).trans HW.out.2.1) 14
            clear hd
            go_wp2_with (first | (at_builtin; refine wpList_append_own _ rfl _ _ 68 rfl W1.heap.size 3 i0 _ 1 8 Try.underlying68 hi hz0 hz1 hz2 rfl (by decide) _ _ _ rfl (HO.out.alloc _) ⟨wr.heap.size, 0, none⟩ 3 3 [.int .i64 1, .int .i64 (x 15), .int .i64 (x 16)] rfl rfl ?c1 ?c2 ?c3 ?c4 ?c5 ?_) | fail)
            case c1 => exact fun j u hj => by rw [Addr.add_mid, cell_of (heap_new wr (.cells #[.int .i64 1, .int .i64 (x 15), .int .i64 (x 16)] 3)) (0 + j), show 0 + j = j by omega]; simpa using hj
            case c2 => intro u hu; simp at hu; rcases hu with rfl | rfl | rfl <;> rfl
            case c3 => unfold maxLen; omega
            case c4 => omega
            case c5 => have := HB.out.size; simp; omega
            intro v' w4 hown' hgrow _
            obtain ⟨g', cap', rfl⟩ := ownsRow_succ hown'
            have HB' := Lib.hid ((HB.out.alloc HB.out.size _).grown hgrow (by have := HB.out.size; simp; omega) (fun j hj => (HO.out.lt j hj).1))
            have HO' := Lib.hid (show w4.ownsRow W1.heap.size 3 1 (.slice (some ⟨g', 0, none⟩) 17 cap') 17 (numsX x 17) by have e : numsX x 17 = numsX x 14 ++ [.int .i64 (x 14), .int .i64 (x 15), .int .i64 (x 16)] := (by kernel_rfl); rw [h14] at e; rw [e]; exact hown')
            clear hown' hgrow
            have hmk := make_words
            go_wp2_with fail
            have HG := Lib.hid (HO'.out.lt g' rfl)
            have HS0 := Lib.hid (And.intro (show (w4.alloc (.cells (madeCells #[.string ⟨#[]⟩] 17) 9)).heap[w4.heap.size]? = some (.cells (strX x 0) 9 (0, 0)) by rw [strX_zero]; exact heap_new w4 _) (HB'.out.alloc HB'.out.size (.cells (madeCells #[.string ⟨#[]⟩] 17) 9)))
            have HN := Lib.hid (fun j (hj : j < 17) => show w4.cell? ⟨g', j, none⟩ = some (.int .i64 (x j)) from by have q := HO'.out.cells (g := g') rfl j _ (numsX_at x 17 j hj); rw [Addr.add_mid, show 0 + j = j by omega] at q; exact q)
            obtain ⟨g, hg⟩ : ∃ g, g = w4.heap.size := ⟨_, rfl⟩
            have hwg : W1.heap.size ≤ g := by rw [hg]; exact HB'.out.size
            have HN2 := Lib.hid (show ∀ wr, Below g (w4.alloc (.cells (madeCells #[.string ⟨#[]⟩] 17) 9)) wr → ∀ j, j < 17 → wr.cell? ⟨g', j, none⟩ = some (.int .i64 (x j)) from fun wr hb j hj => by
              have hgl : g' < g := by rw [hg]; exact HG.out.2
              rw [hb.cell (p := ⟨g', j, none⟩) hgl]
              have e : (w4.alloc (.cells (madeCells #[.string ⟨#[]⟩] 17) 9)).cell? ⟨g', j, none⟩ = w4.cell? ⟨g', j, none⟩ := by
                unfold World.cell?
                rw [Below.heap_alloc _ _ _ HG.out.2]
              rw [e]
              exact HN.out j hj)
            rw [← hg] at HS0 ⊢
            generalize (w4.alloc (.cells (madeCells #[.string ⟨#[]⟩] 17) 9)) = W5 at *
            clear hg HO' HB' HN HG HO HB h14 b14 b15 b16 hmk
            go_loopw [72, 10, 11] (fun i _ _ wr => ∃ k : Nat, k ≤ 17 ∧ i = .int .i64 (k : Int) ∧ wr.heap[g]? = some (.cells (strX x k) 9 (0, 0)) ∧ Below g W5 wr) (fun i _ _ _ => 17 - (intOf i).toNat)
            case atStart => exact ⟨0, by omega, rfl, HS0.out.1, Below.refl _ _⟩
            case round =>
              obtain ⟨k, hk, rfl, hblk, hbel⟩ := hrel
              by_cases hlt : k < 17
              · have dk : decide (k < 17) = true := decide_eq_true hlt
                have dk' : decide ((k : Int) < 17) = true := decide_eq_true (by omega)
                have cn := HN2.out wr hbel k hlt
                have HB := Lib.hid (And.intro hblk hbel)
                have HP := Lib.hid (fun W => print_any W (x k) (HI.out k hlt))
                clear hblk hbel
                go_wp2_with fail
                refine (HP.out _).mono ?_
                rintro e6 w6 ⟨rfl, k6⟩
                have hb6 := k6.at HB.out.1 fun h => h
                have ff := free_of hb6 k
                obtain ⟨u, cu⟩ : ∃ u, w6.cell? ⟨g, k, none⟩ = some u := ⟨_, (cell_of hb6 k).trans (Array.getElem?_eq_getElem (by unfold strX; simp; omega))⟩
                have HB6 := Lib.hid (show (w6.setCell ⟨g, k, none⟩ (.string (prnB (x k)))).heap[g]? = some (.cells (strX x (k + 1)) 9 (0, 0)) ∧ Below g W5 (w6.setCell ⟨g, k, none⟩ (.string (prnB (x k)))) from
                  ⟨by rw [strX_step x k hlt]; exact heap_set hb6 k _, (HB.out.2.trans (k6.none.mono (by have := lt_of HB.out.1; omega))).setCell (p := ⟨g, k, none⟩) (Nat.le_refl _) _⟩)
                clear k6 hb6
                go_wp2_with fail
                go_roundw
                case rel => first | exact ⟨k + 1, by omega, by go_num, HB6.out.1, HB6.out.2⟩ | exact ⟨_, _, _, _, _, _, _, _, _, _, _, _, _, ⟨k + 1, by omega, by go_num, HB6.out.1, HB6.out.2⟩, rfl⟩
                case measure => simp [intOf]; omega
              · obtain rfl : k = 17 := by omega
                have HB := Lib.hid (And.intro hblk hbel)
                clear hblk hbel
                go_wp2_with fail
                go_ret
                have hww := HW.out.1
                exact ⟨g, rfl, by omega, ⟨_, HB.out.1, by rw [show (wsX x).length = 17 by simp [wsX]]; rw [List.take_of_length_le (by simp [strX])]; exact strX_all x⟩, HW.out.2.2.trans ((HS0.out.2.mono (by omega)).trans (HB.out.2.mono (by omega)))⟩
          | false =>
            have h14 : x 14 = 0 := HD0.out.resolve_right (of_decide_eq_false hd)
            have b14 : wr.cell? ⟨w.heap.size, 14, none⟩ = some (.bool false) := by rw [← hd]; exact cell_of ((HB.out.block _ HW.out.1).trans HW.out.2.1) 14
            clear hd
            go_wp2_with (first | (at_builtin; refine wpList_append_own _ rfl _ _ 68 rfl W1.heap.size 3 i0 _ 1 8 Try.underlying68 hi hz0 hz1 hz2 rfl (by decide) _ _ _ rfl (HO.out.alloc _) ⟨wr.heap.size, 0, none⟩ 3 3 [.int .i64 0, .int .i64 (x 15), .int .i64 (x 16)] rfl rfl ?c1 ?c2 ?c3 ?c4 ?c5 ?_) | fail)
            case c1 => exact fun j u hj => by rw [Addr.add_mid, cell_of (heap_new wr (.cells #[.int .i64 0, .int .i64 (x 15), .int .i64 (x 16)] 3)) (0 + j), show 0 + j = j by omega]; simpa using hj
            case c2 => intro u hu; simp at hu; rcases hu with rfl | rfl | rfl <;> rfl
            case c3 => unfold maxLen; omega
            case c4 => omega
            case c5 => have := HB.out.size; simp; omega
            intro v' w4 hown' hgrow _
            obtain ⟨g', cap', rfl⟩ := ownsRow_succ hown'
            have HB' := Lib.hid ((HB.out.alloc HB.out.size _).grown hgrow (by have := HB.out.size; simp; omega) (fun j hj => (HO.out.lt j hj).1))
            have HO' := Lib.hid (show w4.ownsRow W1.heap.size 3 1 (.slice (some ⟨g', 0, none⟩) 17 cap') 17 (numsX x 17) by have e : numsX x 17 = numsX x 14 ++ [.int .i64 (x 14), .int .i64 (x 15), .int .i64 (x 16)] := (by kernel_rfl); rw [h14] at e; rw [e]; exact hown')
            clear hown' hgrow
            have hmk := make_words
            go_wp2_with fail
            have HG := Lib.hid (HO'.out.lt g' rfl)
            have HS0 := Lib.hid (And.intro (show (w4.alloc (.cells (madeCells #[.string ⟨#[]⟩] 17) 9)).heap[w4.heap.size]? = some (.cells (strX x 0) 9 (0, 0)) by rw [strX_zero]; exact heap_new w4 _) (HB'.out.alloc HB'.out.size (.cells (madeCells #[.string ⟨#[]⟩] 17) 9)))
            have HN := Lib.hid (fun j (hj : j < 17) => show w4.cell? ⟨g', j, none⟩ = some (.int .i64 (x j)) from by have q := HO'.out.cells (g := g') rfl j _ (numsX_at x 17 j hj); rw [Addr.add_mid, show 0 + j = j by omega] at q; exact q)
            obtain ⟨g, hg⟩ : ∃ g, g = w4.heap.size := ⟨_, rfl⟩
            have hwg : W1.heap.size ≤ g := by rw [hg]; exact HB'.out.size
            have HN2 := Lib.hid (show ∀ wr, Below g (w4.alloc (.cells (madeCells #[.string ⟨#[]⟩] 17) 9)) wr → ∀ j, j < 17 → wr.cell? ⟨g', j, none⟩ = some (.int .i64 (x j)) from fun wr hb j hj => by
              have hgl : g' < g := by rw [hg]; exact HG.out.2
              rw [hb.cell (p := ⟨g', j, none⟩) hgl]
              have e : (w4.alloc (.cells (madeCells #[.string ⟨#[]⟩] 17) 9)).cell? ⟨g', j, none⟩ = w4.cell? ⟨g', j, none⟩ := by
                unfold World.cell?
                rw [Below.heap_alloc _ _ _ HG.out.2]
              rw [e]
              exact HN.out j hj)
            rw [← hg] at HS0 ⊢
            generalize (w4.alloc (.cells (madeCells #[.string ⟨#[]⟩] 17) 9)) = W5 at *
            clear hg HO' HB' HN HG HO HB h14 b14 b15 b16 hmk
            go_loopw [72, 10, 11] (fun i _ _ wr => ∃ k : Nat, k ≤ 17 ∧ i = .int .i64 (k : Int) ∧ wr.heap[g]? = some (.cells (strX x k) 9 (0, 0)) ∧ Below g W5 wr) (fun i _ _ _ => 17 - (intOf i).toNat)
            case atStart => exact ⟨0, by omega, rfl, HS0.out.1, Below.refl _ _⟩
            case round =>
              obtain ⟨k, hk, rfl, hblk, hbel⟩ := hrel
              by_cases hlt : k < 17
              · have dk : decide (k < 17) = true := decide_eq_true hlt
                have dk' : decide ((k : Int) < 17) = true := decide_eq_true (by omega)
                have cn := HN2.out wr hbel k hlt
                have HB := Lib.hid (And.intro hblk hbel)
                have HP := Lib.hid (fun W => print_any W (x k) (HI.out k hlt))
                clear hblk hbel
                go_wp2_with fail
                refine (HP.out _).mono ?_
                rintro e6 w6 ⟨rfl, k6⟩
                have hb6 := k6.at HB.out.1 fun h => h
                have ff := free_of hb6 k
                obtain ⟨u, cu⟩ : ∃ u, w6.cell? ⟨g, k, none⟩ = some u := ⟨_, (cell_of hb6 k).trans (Array.getElem?_eq_getElem (by unfold strX; simp; omega))⟩
                have HB6 := Lib.hid (show (w6.setCell ⟨g, k, none⟩ (.string (prnB (x k)))).heap[g]? = some (.cells (strX x (k + 1)) 9 (0, 0)) ∧ Below g W5 (w6.setCell ⟨g, k, none⟩ (.string (prnB (x k)))) from
                  ⟨by rw [strX_step x k hlt]; exact heap_set hb6 k _, (HB.out.2.trans (k6.none.mono (by have := lt_of HB.out.1; omega))).setCell (p := ⟨g, k, none⟩) (Nat.le_refl _) _⟩)
                clear k6 hb6
                go_wp2_with fail
                go_roundw
                case rel => first | exact ⟨k + 1, by omega, by go_num, HB6.out.1, HB6.out.2⟩ | exact ⟨_, _, _, _, _, _, _, _, _, _, _, _, _, ⟨k + 1, by omega, by go_num, HB6.out.1, HB6.out.2⟩, rfl⟩
                case measure => simp [intOf]; omega
              · obtain rfl : k = 17 := by omega
                have HB := Lib.hid (And.intro hblk hbel)
                clear hblk hbel
                go_wp2_with fail
                go_ret
                have hww := HW.out.1
                exact ⟨g, rfl, by omega, ⟨_, HB.out.1, by rw [show (wsX x).length = 17 by simp [wsX]]; rw [List.take_of_length_le (by simp [strX])]; exact strX_all x⟩, HW.out.2.2.trans ((HS0.out.2.mono (by omega)).trans (HB.out.2.mono (by omega)))⟩
end Go.Proofs.Ytakaclkhnajpeaa
