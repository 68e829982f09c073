import Derived.Test.YtilbendneahikaaRowG
namespace Go.Proofs.Ytilbendneahikaa
open Go.ChangeShapes Go.WideShapes Go.ChangeAt Go.RowKit
set_option linter.unusedVariables false
set_option linter.unusedSimpArgs false
def cellsW (l : List Int) : List Value := l.map fun n => Value.int .u32 n
theorem cellsW_snoc (l : List Int) (x : Int) : cellsW (l ++ [x]) = cellsW l ++ [.int .u32 x] := by simp [cellsW]
theorem info_w : (Try.prog.info? 26).map (fun i => (i.zero, i.size, i.bytes)) = some (some (.int .u32 0), 1, 4) := by kernel_rfl
/-- The words from k on. -/
def fromW (F : Nat → List UInt8) (n k : Nat) : List (List UInt8) := (List.range' k (n - k)).map F
theorem fromW_cons (F : Nat → List UInt8) {n k : Nat} (h : k < n) : fromW F n k = F k :: fromW F n (k + 1) := by
  unfold fromW
  rw [show n - k = (n - (k + 1)) + 1 by omega, List.range'_succ, List.map_cons]
theorem fromW_nil (F : Nat → List UInt8) {n k : Nat} (h : n ≤ k) : fromW F n k = [] := by
  unfold fromW
  rw [show n - k = 0 by omega]
  rfl
/-- What Numbers gives. -/
def NumsSays (w : World) (L : List (List UInt8)) (e : Ending) (w' : World) : Prop :=
  ∃ v, e = .returned (.tuple #[v, .int .i64 (splF 0 4294967295 L)]) ∧ w'.ownsRow w.heap.size 26 1 v (splN 0 4294967295 L).length (cellsW (splN 0 4294967295 L)) ∧ Below w.heap.size w w'
set_option maxRecDepth 20000 in
theorem numbers_none (w : World) (N : Int) (A : Option Addr) (n c : Nat) (at' : Int) (s : Nat) (hs : max at' 0 = (s : Int)) (hn : n ≤ maxLen) (hns : n ≤ s) :
    Calls Try.prog 24 #[.agg #[.int .i64 N, .slice A n c], .int .i64 at'] w fun e w' => e = .returned (.tuple #[.slice none 0 0, .int .i64 0]) ∧ Below w.heap.size w w' := by
  unfold maxLen at hn
  go_enter Try.func24, Try.ntmps24
  go_wp2_with fail
  obtain ⟨wo, hwo⟩ : ∃ wo : World, wo = w.alloc (.cells #[.int .i64 N, .slice A n c] 44) := ⟨_, rfl⟩
  have HK := Lib.hid (show Below w.heap.size w wo by rw [hwo]; exact (Below.refl _ w).alloc (Nat.le_refl _) _)
  have c0 : wo.cell? ⟨w.heap.size, 1, none⟩ = some (.slice A n c) := by rw [hwo, cell_of (heap_new w _) 1]; rfl
  rw [← hwo]
  clear hwo
  have hs' := Lib.hid hs
  clear hs
  have d1 : decide ((s : Int) < (n : Int)) = false := decide_eq_false (by omega)
  have d2 : decide (s < n) = false := decide_eq_false (by omega)
  go_loopw [6, 7] (fun v i wr => v = .slice none 0 0 ∧ i = .int .i64 (s : Int) ∧ wr = wo) (fun _ _ _ => 0)
  case atStart => exact ⟨rfl, rfl, rfl⟩
  case round =>
    obtain ⟨rfl, rfl, rfl⟩ := hrel
    go_wp2_with fail
    refine bodyPost_ret (v := .tuple #[.slice none 0 0, .int .i64 0]) (by simp [results, Try.results24, go_sem]) rfl ?_
    exact ⟨rfl, HK.out⟩
set_option maxRecDepth 100000 in
set_option maxHeartbeats 1000000 in
theorem numbers_some (w : World) (N : Int) (g o n c : Nat) (F : Nat → List UInt8) (at' : Int) (s : Nat) (hs : max at' 0 = (s : Int)) (hn : n ≤ 1000000) (hns : s < n) (hg : g < w.heap.size) (hc : ∀ i, i < n → w.cell? ⟨g, o + i, none⟩ = some (.string ⟨(F i).toArray⟩)) (hF : ∀ i, i < n → (F i).length < 1000000) :
    Calls Try.prog 24 #[.agg #[.int .i64 N, .slice (some ⟨g, o, none⟩) n c], .int .i64 at'] w (NumsSays w (fromW F n s)) := by
  obtain ⟨i0, hi, hz0, hz1, hz2⟩ := info_parts info_w
  have HI := Lib.hid (And.intro hi (And.intro hz0 (And.intro hz1 hz2)))
  have HC := Lib.hid hc
  have HF := Lib.hid hF
  clear hi hz0 hz1 hz2 hc hF
  go_enter Try.func24, Try.ntmps24
  go_wp2_with fail
  obtain ⟨wo, hwo⟩ : ∃ wo : World, wo = w.alloc (.cells #[.int .i64 N, .slice (some ⟨g, o, none⟩) n c] 44) := ⟨_, rfl⟩
  have HK := Lib.hid (show Below w.heap.size w wo by rw [hwo]; exact (Below.refl _ w).alloc (Nat.le_refl _) _)
  have HB0 := Lib.hid (show wo.heap[w.heap.size]? = some (.cells #[.int .i64 N, .slice (some ⟨g, o, none⟩) n c] 44 (0, 0)) by rw [hwo]; exact heap_new w _)
  have hzo : wo.heap.size = w.heap.size + 1 := by rw [hwo, World.size_alloc]
  have HZ := Lib.hid hzo
  rw [← hwo]
  clear hwo hzo
  clear hs
  go_loopw [6, 7] (fun v i wr => ∃ (k : Nat) (pre : List (List UInt8)), i = .int .i64 k ∧ s ≤ k ∧ k ≤ n ∧ fromW F n s = pre ++ fromW F n k ∧ (∀ p, p ∈ pre → (parP p 0 4294967295).2 = 0) ∧ pre.length ≤ k ∧ wr.ownsRow (w.heap.size + 1) 26 1 v pre.length (cellsW (pre.map (fun p => (parP p 0 4294967295).1))) ∧ Below (w.heap.size + 1) wo wr) (fun _ i _ => n - (intOf i).toNat)
  case atStart => exact ⟨s, [], rfl, Nat.le_refl _, by omega, rfl, (fun p hp => by cases hp), Nat.zero_le _, World.ownsRow_nil _ _ _ _, Below.refl _ _⟩
  case round =>
    obtain ⟨k, pre, rfl, hsk, hkn, hps, hall, hpk, hown, hB⟩ := hrel
    rename_i wr
    have hwz := hB.size
    have hwz1 : w.heap.size + 1 ≤ wr.heap.size := by have := HZ.out; omega
    have c1 : wr.cell? ⟨w.heap.size, 1, none⟩ = some (.slice (some ⟨g, o, none⟩) n c) := by
      rw [hB.cell (p := ⟨w.heap.size, 1, none⟩) (by show w.heap.size < w.heap.size + 1; omega), cell_of HB0.out 1]; rfl
    have HBw := Lib.hid (HK.out.trans (hB.mono (Nat.le_succ _)))
    have HR := Lib.hid (And.intro hps (And.intro hall (And.intro hown hB)))
    by_cases hlt : k < n
    · have c2 : wr.cell? ⟨g, o + k, none⟩ = some (.string ⟨(F k).toArray⟩) := (HBw.out.cell (p := ⟨g, o + k, none⟩) hg).trans (HC.out k hlt)
      have d1 : decide ((k : Int) < (n : Int)) = true := decide_eq_true (by omega)
      have d2 : decide (k < n) = true := decide_eq_true (by omega)
      have HW := Lib.hid (word_any wr (F k) (HF.out k hlt))
      have HP := Lib.hid (fromW_cons F hlt)
      clear hps hall hown hB
      generalize (⟨(F k).toArray⟩ : ByteArray) = B at *
      generalize hx : (parP (F k) 0 4294967295).1 = x at HW
      generalize hy : (parP (F k) 0 4294967295).2 = y at HW
      have HXY := Lib.hid (And.intro hx hy)
      clear hx hy
      go_wp2_with fail
      refine HW.out.mono ?_
      rintro e1 w1 ⟨rfl, k1⟩
      by_cases hy0 : y = 0
      · subst hy0
        have hwz2 := k1.size
        have hown : w1.ownsRow (w.heap.size + 1) 26 1 _ pre.length (cellsW (pre.map (fun p => (parP p 0 4294967295).1))) := row_keeps HR.out.2.2.1 k1
        have hB1 := HR.out.2.2.2.trans (k1.none.mono hwz1)
        have hpm : pre.length ≤ 1000000 := by omega
        clear k1
        obtain ⟨hi, hz0, hz1, hz2⟩ := HI.out
        go_wp2_with (at_builtin; refine wpList_append_own _ rfl _ _ 46 rfl (w.heap.size + 1) 26 i0 (.int .u32 0) 1 4 Try.underlying46 hi hz0 hz1 hz2 rfl (by decide) _ _ _ rfl (hown.alloc _) ⟨w1.heap.size, 0, none⟩ 1 1 [.int .u32 x] rfl rfl ?c1 ?c2 ?c3 ?c4 ?c5 ?_)
        case c1 => exact cell_one_new _ _ _
        case c2 => simp [Value.oneCell']
        case c3 => unfold maxLen; omega
        case c4 => omega
        case c5 => simp; omega
        intro v' w4 hown' hgrow _
        obtain ⟨g', cap', rfl⟩ := ownsRow_succ hown'
        have HWW := Lib.hid (And.intro hown' ((hB1.alloc (by omega) _).grown hgrow (by simp; omega) (fun j hj => (hown.lt j hj).1)))
        clear hown hown' hgrow hi hz0 hz1 hz2 hB1
        go_wp2_with fail
        go_roundw
        case rel =>
          refine ⟨k + 1, pre ++ [F k], by go_num, by omega, by omega, by rw [HR.out.1, HP.out]; simp, fun q hq => ?_, by rw [List.length_append, List.length_singleton]; omega, ?_, HWW.out.2⟩
          · rcases List.mem_append.1 hq with hq | hq
            · exact HR.out.2.1 q hq
            · simp at hq; subst hq; exact HXY.out.2
          · have h := HWW.out.1
            rw [List.length_append, List.map_append, show cellsW (List.map (fun p => (parP p 0 4294967295).1) pre ++ List.map (fun p => (parP p 0 4294967295).1) [F k]) = cellsW (List.map (fun p => (parP p 0 4294967295).1) pre) ++ [.int .u32 x] by rw [← HXY.out.1]; simp [cellsW]]
            exact h
        case measure => simp [intOf]; omega
      · have HF2 := Lib.hid (show splF 0 4294967295 (fromW F n s) = y from by
          rw [HR.out.1, HP.out, splF_pre (by rw [HXY.out.2]; exact hy0) HR.out.2.1]; exact HXY.out.2)
        have HNN := Lib.hid (show splN 0 4294967295 (fromW F n s) = [] from by unfold splN; rw [if_neg (by rw [HF2.out]; exact hy0)])
        have hy1 : (y == 0) = false := by simpa using hy0
        have hy2 : (y != 0) = true := by simp only [bne, hy1]; rfl
        have HB1 := Lib.hid (HBw.out.trans (k1.none.mono (by omega)))
        clear hy0 k1
        go_wp2_with fail
        refine bodyPost_ret (v := .tuple #[.slice none 0 0, .int .i64 y]) (by simp [results, Try.results24, go_sem]) rfl ?_
        exact ⟨_, by rw [HF2.out], by rw [HNN.out]; exact World.ownsRow_nil _ _ _ _, HB1.out⟩
    · obtain rfl : k = n := by omega
      have HL := Lib.hid (show fromW F k s = pre from by rw [HR.out.1, fromW_nil F (Nat.le_refl _), List.append_nil])
      have HF2 := Lib.hid (show splF 0 4294967295 (fromW F k s) = 0 from by rw [HL.out]; exact splF_all HR.out.2.1)
      have HNN := Lib.hid (show splN 0 4294967295 (fromW F k s) = pre.map (fun p => (parP p 0 4294967295).1) from by unfold splN; rw [if_pos HF2.out, HL.out])
      clear hps hall hown hB
      go_wp2_with fail
      refine bodyPost_ret (v := .tuple #[_, .int .i64 0]) (by simp [results, Try.results24, go_sem]; rfl) rfl ?_
      exact ⟨_, by rw [HF2.out], by rw [HNN.out, List.length_map]; exact HR.out.2.2.1.mono (Nat.le_succ _), HBw.out⟩
set_option maxRecDepth 20000 in
theorem rnumbers_none (w : World) (N : Int) (A : Option Addr) (n c : Nat) (at' : Int) (s : Nat) (hs : max at' 0 = (s : Int)) (hn : n ≤ maxLen) (hns : n ≤ s) :
    Calls Try.prog 25 #[.agg #[.int .i64 N, .slice A n c], .int .i64 at'] w fun e w' => e = .returned (.tuple #[.slice none 0 0, .int .i64 0]) ∧ Below w.heap.size w w' := by
  unfold maxLen at hn
  go_enter Try.func25, Try.ntmps25
  go_wp2_with fail
  obtain ⟨wo, hwo⟩ : ∃ wo : World, wo = w.alloc (.cells #[.int .i64 N, .slice A n c] 40) := ⟨_, rfl⟩
  have HK := Lib.hid (show Below w.heap.size w wo by rw [hwo]; exact (Below.refl _ w).alloc (Nat.le_refl _) _)
  have c0 : wo.cell? ⟨w.heap.size, 1, none⟩ = some (.slice A n c) := by rw [hwo, cell_of (heap_new w _) 1]; rfl
  rw [← hwo]
  clear hwo
  have hs' := Lib.hid hs
  clear hs
  have d1 : decide ((s : Int) < (n : Int)) = false := decide_eq_false (by omega)
  have d2 : decide (s < n) = false := decide_eq_false (by omega)
  go_loopw [6, 7] (fun v i wr => v = .slice none 0 0 ∧ i = .int .i64 (s : Int) ∧ wr = wo) (fun _ _ _ => 0)
  case atStart => exact ⟨rfl, rfl, rfl⟩
  case round =>
    obtain ⟨rfl, rfl, rfl⟩ := hrel
    go_wp2_with fail
    refine bodyPost_ret (v := .tuple #[.slice none 0 0, .int .i64 0]) (by simp [results, Try.results25, go_sem]) rfl ?_
    exact ⟨rfl, HK.out⟩
set_option maxRecDepth 100000 in
set_option maxHeartbeats 1000000 in
theorem rnumbers_some (w : World) (N : Int) (g o n c : Nat) (F : Nat → List UInt8) (at' : Int) (s : Nat) (hs : max at' 0 = (s : Int)) (hn : n ≤ 1000000) (hns : s < n) (hg : g < w.heap.size) (hc : ∀ i, i < n → w.cell? ⟨g, o + i, none⟩ = some (.string ⟨(F i).toArray⟩)) (hF : ∀ i, i < n → (F i).length < 1000000) :
    Calls Try.prog 25 #[.agg #[.int .i64 N, .slice (some ⟨g, o, none⟩) n c], .int .i64 at'] w (NumsSays w (fromW F n s)) := by
  obtain ⟨i0, hi, hz0, hz1, hz2⟩ := info_parts info_w
  have HI := Lib.hid (And.intro hi (And.intro hz0 (And.intro hz1 hz2)))
  have HC := Lib.hid hc
  have HF := Lib.hid hF
  clear hi hz0 hz1 hz2 hc hF
  go_enter Try.func25, Try.ntmps25
  go_wp2_with fail
  obtain ⟨wo, hwo⟩ : ∃ wo : World, wo = w.alloc (.cells #[.int .i64 N, .slice (some ⟨g, o, none⟩) n c] 40) := ⟨_, rfl⟩
  have HK := Lib.hid (show Below w.heap.size w wo by rw [hwo]; exact (Below.refl _ w).alloc (Nat.le_refl _) _)
  have HB0 := Lib.hid (show wo.heap[w.heap.size]? = some (.cells #[.int .i64 N, .slice (some ⟨g, o, none⟩) n c] 40 (0, 0)) by rw [hwo]; exact heap_new w _)
  have hzo : wo.heap.size = w.heap.size + 1 := by rw [hwo, World.size_alloc]
  have HZ := Lib.hid hzo
  rw [← hwo]
  clear hwo hzo
  clear hs
  go_loopw [6, 7] (fun v i wr => ∃ (k : Nat) (pre : List (List UInt8)), i = .int .i64 k ∧ s ≤ k ∧ k ≤ n ∧ fromW F n s = pre ++ fromW F n k ∧ (∀ p, p ∈ pre → (parP p 0 4294967295).2 = 0) ∧ pre.length ≤ k ∧ wr.ownsRow (w.heap.size + 1) 26 1 v pre.length (cellsW (pre.map (fun p => (parP p 0 4294967295).1))) ∧ Below (w.heap.size + 1) wo wr) (fun _ i _ => n - (intOf i).toNat)
  case atStart => exact ⟨s, [], rfl, Nat.le_refl _, by omega, rfl, (fun p hp => by cases hp), Nat.zero_le _, World.ownsRow_nil _ _ _ _, Below.refl _ _⟩
  case round =>
    obtain ⟨k, pre, rfl, hsk, hkn, hps, hall, hpk, hown, hB⟩ := hrel
    rename_i wr
    have hwz := hB.size
    have hwz1 : w.heap.size + 1 ≤ wr.heap.size := by have := HZ.out; omega
    have c1 : wr.cell? ⟨w.heap.size, 1, none⟩ = some (.slice (some ⟨g, o, none⟩) n c) := by
      rw [hB.cell (p := ⟨w.heap.size, 1, none⟩) (by show w.heap.size < w.heap.size + 1; omega), cell_of HB0.out 1]; rfl
    have HBw := Lib.hid (HK.out.trans (hB.mono (Nat.le_succ _)))
    have HR := Lib.hid (And.intro hps (And.intro hall (And.intro hown hB)))
    by_cases hlt : k < n
    · have c2 : wr.cell? ⟨g, o + k, none⟩ = some (.string ⟨(F k).toArray⟩) := (HBw.out.cell (p := ⟨g, o + k, none⟩) hg).trans (HC.out k hlt)
      have d1 : decide ((k : Int) < (n : Int)) = true := decide_eq_true (by omega)
      have d2 : decide (k < n) = true := decide_eq_true (by omega)
      have HW := Lib.hid (rword_any wr (F k) (HF.out k hlt))
      have HP := Lib.hid (fromW_cons F hlt)
      clear hps hall hown hB
      generalize (⟨(F k).toArray⟩ : ByteArray) = B at *
      generalize hx : (parP (F k) 0 4294967295).1 = x at HW
      generalize hy : (parP (F k) 0 4294967295).2 = y at HW
      have HXY := Lib.hid (And.intro hx hy)
      clear hx hy
      go_wp2_with fail
      refine HW.out.mono ?_
      rintro e1 w1 ⟨rfl, hw1⟩
      have k1 : Keeps (fun _ => False) wr w1 := by rw [hw1]; exact Keeps.refl _ _
      clear hw1
      by_cases hy0 : y = 0
      · subst hy0
        have hwz2 := k1.size
        have hown : w1.ownsRow (w.heap.size + 1) 26 1 _ pre.length (cellsW (pre.map (fun p => (parP p 0 4294967295).1))) := row_keeps HR.out.2.2.1 k1
        have hB1 := HR.out.2.2.2.trans (k1.none.mono hwz1)
        have hpm : pre.length ≤ 1000000 := by omega
        clear k1
        obtain ⟨hi, hz0, hz1, hz2⟩ := HI.out
        go_wp2_with (at_builtin; refine wpList_append_own _ rfl _ _ 46 rfl (w.heap.size + 1) 26 i0 (.int .u32 0) 1 4 Try.underlying46 hi hz0 hz1 hz2 rfl (by decide) _ _ _ rfl (hown.alloc _) ⟨w1.heap.size, 0, none⟩ 1 1 [.int .u32 x] rfl rfl ?c1 ?c2 ?c3 ?c4 ?c5 ?_)
        case c1 => exact cell_one_new _ _ _
        case c2 => simp [Value.oneCell']
        case c3 => unfold maxLen; omega
        case c4 => omega
        case c5 => simp; omega
        intro v' w4 hown' hgrow _
        obtain ⟨g', cap', rfl⟩ := ownsRow_succ hown'
        have HWW := Lib.hid (And.intro hown' ((hB1.alloc (by omega) _).grown hgrow (by simp; omega) (fun j hj => (hown.lt j hj).1)))
        clear hown hown' hgrow hi hz0 hz1 hz2 hB1
        go_wp2_with fail
        go_roundw
        case rel =>
          refine ⟨k + 1, pre ++ [F k], by go_num, by omega, by omega, by rw [HR.out.1, HP.out]; simp, fun q hq => ?_, by rw [List.length_append, List.length_singleton]; omega, ?_, HWW.out.2⟩
          · rcases List.mem_append.1 hq with hq | hq
            · exact HR.out.2.1 q hq
            · simp at hq; subst hq; exact HXY.out.2
          · have h := HWW.out.1
            rw [List.length_append, List.map_append, show cellsW (List.map (fun p => (parP p 0 4294967295).1) pre ++ List.map (fun p => (parP p 0 4294967295).1) [F k]) = cellsW (List.map (fun p => (parP p 0 4294967295).1) pre) ++ [.int .u32 x] by rw [← HXY.out.1]; simp [cellsW]]
            exact h
        case measure => simp [intOf]; omega
      · have HF2 := Lib.hid (show splF 0 4294967295 (fromW F n s) = y from by
          rw [HR.out.1, HP.out, splF_pre (by rw [HXY.out.2]; exact hy0) HR.out.2.1]; exact HXY.out.2)
        have HNN := Lib.hid (show splN 0 4294967295 (fromW F n s) = [] from by unfold splN; rw [if_neg (by rw [HF2.out]; exact hy0)])
        have hy1 : (y == 0) = false := by simpa using hy0
        have hy2 : (y != 0) = true := by simp only [bne, hy1]; rfl
        have HB1 := Lib.hid (HBw.out.trans (k1.none.mono (by omega)))
        clear hy0 k1
        go_wp2_with fail
        refine bodyPost_ret (v := .tuple #[.slice none 0 0, .int .i64 y]) (by simp [results, Try.results25, go_sem]) rfl ?_
        exact ⟨_, by rw [HF2.out], by rw [HNN.out]; exact World.ownsRow_nil _ _ _ _, HB1.out⟩
    · obtain rfl : k = n := by omega
      have HL := Lib.hid (show fromW F k s = pre from by rw [HR.out.1, fromW_nil F (Nat.le_refl _), List.append_nil])
      have HF2 := Lib.hid (show splF 0 4294967295 (fromW F k s) = 0 from by rw [HL.out]; exact splF_all HR.out.2.1)
      have HNN := Lib.hid (show splN 0 4294967295 (fromW F k s) = pre.map (fun p => (parP p 0 4294967295).1) from by unfold splN; rw [if_pos HF2.out, HL.out])
      clear hps hall hown hB
      go_wp2_with fail
      refine bodyPost_ret (v := .tuple #[_, .int .i64 0]) (by simp [results, Try.results25, go_sem]; rfl) rfl ?_
      exact ⟨_, by rw [HF2.out], by rw [HNN.out, List.length_map]; exact HR.out.2.2.1.mono (Nat.le_succ _), HBw.out⟩
end Go.Proofs.Ytilbendneahikaa
