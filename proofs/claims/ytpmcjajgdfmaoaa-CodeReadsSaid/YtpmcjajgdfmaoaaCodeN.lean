import Derived.Test.YtpmcjajgdfmaoaaCodeI
import Derived.Test.YtpmcjajgdfmaoaaCodeC
import Derived.Test.YtpmcjajgdfmaoaaNumF
namespace Go.Proofs.Ytpmcjajgdfmaoaa
open Go.ChangeShapes Go.WideShapes Go.ChangeAt Go.RowKit
set_option linter.unusedVariables false
set_option linter.unusedSimpArgs false
/-- The six numbers ahead of operand n. -/
def arrO (F : Nat → List UInt8) (n : Nat) : Array Value := #[.int .i64 (valO F n 1), .int .i64 (valO F n 2), .int .i64 (valO F n 3), .int .i64 (valO F n 4), .int .i64 (valO F n 5), .int .i64 (valO F n 6)]
theorem arrO_one (F : Nat → List UInt8) : arrO F 1 = #[.int .i64 0, .int .i64 0, .int .i64 0, .int .i64 0, .int .i64 0, .int .i64 0] := by simp [arrO, valO]
theorem arrO_step (F : Nat → List UInt8) (m : Nat) (h : m < 6) : arrO F (m + 2) = (arrO F (m + 1)).setIfInBounds m (.int .i64 (opP F (m + 1)).1) := by
  rcases (show m = 0 ∨ m = 1 ∨ m = 2 ∨ m = 3 ∨ m = 4 ∨ m = 5 by omega) with rfl | rfl | rfl | rfl | rfl | rfl <;> simp [arrO, valO]
theorem valO_bound (F : Nat → List UInt8) (n i : Nat) (hi : i ≠ 1) : 0 ≤ valO F n i ∧ valO F n i ≤ 4294967295 := by
  unfold valO
  split
  · exact (opP_bound F i).2 hi
  · omega
/-- What stands while the document's Parse reads operands. -/
structure PR (w wr : World) (N : Int) (A : Option Addr) (n c g m : Nat) (F : Nat → List UInt8) : Prop where
  row : wr.heap[w.heap.size]? = some (.cells #[.int .i64 N, .slice A n c] 36 (0, 0))
  res : wr.heap[w.heap.size + 1]? = some (.cells (callC zeroC) 26 (0, 0))
  arr : wr.heap[g]? = some (.cells (arrO F (m + 1)) 83 (0, 0))
  ng : w.heap.size + 2 ≤ g
  below : Below w.heap.size w wr
theorem PR.store {w wr : World} {N : Int} {A : Option Addr} {n c g m : Nat} {F : Nat → List UInt8} (h : PR w wr N A n c g m F) (hm : m < 6) : PR w (wr.setCell ⟨g, m, none⟩ (.int .i64 (opP F (m + 1)).1)) N A n c g (m + 1) F := by
  have hng := h.ng
  exact ⟨heap_other h.row (by show w.heap.size ≠ g; omega) _, heap_other h.res (by show w.heap.size + 1 ≠ g; omega) _, by rw [arrO_step F m hm]; exact heap_set h.arr m _, hng, h.below.setCell (p := ⟨g, m, none⟩) (by show w.heap.size ≤ g; omega) _⟩
set_option maxRecDepth 100000 in
set_option maxHeartbeats 4000000 in
theorem rparse_call (w : World) (N : Int) (A : Option Addr) (n c : Nat) (F : Nat → List UInt8) (hnm : n ≤ maxLen) (hr : StrRow w A n F) (hF : ∀ i, i < n → (F i).length ≤ 9223372036854775807) :
    Calls Try.prog 29 #[.agg #[.int .i64 N, .slice A n c]] w fun e w' => e = .returned (.tuple #[.agg (callC (parseC n F).1), .int .i64 (parseC n F).2]) ∧ Below w.heap.size w w' := by
  have hn63 : n ≤ 9223372036854775807 := by unfold maxLen at hnm; omega
  have HR := Lib.hid hr
  have HF := Lib.hid hF
  clear hr hF
  by_cases h0 : n = 0
  · subst h0
    have e : parseC 0 F = (zeroC, 4) := if_pos rfl
    rw [e]
    unfold zeroC callC
    clear e
    go_enter Try.func29, Try.ntmps29
    go_wp2_with fail
    refine bodyPost_ret (v := .tuple #[.agg #[.int .i64 0, .int .i64 0, .int .u32 0, .int .u32 0, .int .u32 0, .int .u32 0, .int .u32 0], .int .i64 4]) (by simp [results, Try.results29, go_sem]) rfl ?_
    exact ⟨rfl, ((Below.refl _ w).alloc (Nat.le_refl _) _).alloc (by simp) _⟩
  obtain ⟨ag, ao, rfl, hag, hac⟩ := HR.out (by omega)
  have d0 : ((n : Int) == 0) = false := by simpa using h0
  have d1 : decide (0 < n) = true := decide_eq_true (by omega)
  have hn1 : 1 ≤ n := by omega
  have ca : ∀ o1 o2, ((w.alloc o1).alloc o2).cell? ⟨ag, ao, none⟩ = some (.string ⟨(F 0).toArray⟩) := fun o1 o2 => by
    unfold World.cell?
    rw [Below.heap_alloc _ _ _ (by simp; omega), Below.heap_alloc _ _ _ hag]
    exact hac 0 (by omega)
  have HK := Lib.hid (fun w => rkind_any w (F 0) (HF.out 0 (by omega)))
  have HPC := Lib.hid (show parseC n F = if 7 < n then (zeroC, 3) else if (kindP (F 0)).2 = false then (zeroC, 3) else if opsF F (n - 1) 1 = 0 then (callO F n, 0) else (zeroC, opsF F (n - 1) 1) by unfold parseC; rw [if_neg h0])
  have HCO := Lib.hid (show callO F n = ⟨(kindP (F 0)).1, valO F n 1, valO F n 2, valO F n 3, valO F n 4, valO F n 5, valO F n 6⟩ from rfl)
  generalize hkk : (kindP (F 0)).1 = kk at HK HCO
  generalize hkb : (kindP (F 0)).2 = kb at HK HPC
  clear h0 hkk hkb
  generalize hfb : (⟨(F 0).toArray⟩ : ByteArray) = B0 at ca HK
  clear hfb
  go_enter Try.func29, Try.ntmps29
  go_wp2_with fail
  refine (HK.out _).mono ?_
  rintro e1 w1 ⟨rfl, k1⟩
  have hr1 := k1.at (heap_old (heap_new w (.cells #[.int .i64 N, .slice (some ⟨ag, ao, none⟩) n c] 36)) (.cells (callC zeroC) 26)) fun h => h
  have hr2 := k1.at (heap_new (w.alloc (.cells #[.int .i64 N, .slice (some ⟨ag, ao, none⟩) n c] 36)) (.cells (callC zeroC) 26)) fun h => h
  rw [World.size_alloc] at hr2
  have HB1 := Lib.hid (show Below w.heap.size w w1 from ((((Keeps.refl (fun _ => False) w).alloc (.cells #[.int .i64 N, .slice (some ⟨ag, ao, none⟩) n c] 36)).alloc (.cells (callC zeroC) 26)).trans k1).none)
  have hz1 : w.heap.size + 2 ≤ w1.heap.size := by have := lt_of hr2; omega
  have q0 : w1.cell? ⟨w.heap.size + 1, 0, none⟩ = some (.int .i64 0) := cell_of hr2 0
  have q1 : w1.cell? ⟨w.heap.size + 1, 1, none⟩ = some (.int .i64 0) := cell_of hr2 1
  have q2 : w1.cell? ⟨w.heap.size + 1, 2, none⟩ = some (.int .u32 0) := cell_of hr2 2
  have q3 : w1.cell? ⟨w.heap.size + 1, 3, none⟩ = some (.int .u32 0) := cell_of hr2 3
  have q4 : w1.cell? ⟨w.heap.size + 1, 4, none⟩ = some (.int .u32 0) := cell_of hr2 4
  have q5 : w1.cell? ⟨w.heap.size + 1, 5, none⟩ = some (.int .u32 0) := cell_of hr2 5
  have q6 : w1.cell? ⟨w.heap.size + 1, 6, none⟩ = some (.int .u32 0) := cell_of hr2 6
  have f0 := free_of hr2 0
  have f1 := free_of hr2 1
  have f2 := free_of hr2 2
  have f3 := free_of hr2 3
  have f4 := free_of hr2 4
  have f5 := free_of hr2 5
  have f6 := free_of hr2 6
  have HRR := Lib.hid (And.intro hr1 hr2)
  have c1 : w1.cell? ⟨w.heap.size, 1, none⟩ = some (.slice (some ⟨ag, ao, none⟩) n c) := cell_of hr1 1
  clear k1 hr1 hr2 ca
  cases kb with
  | false =>
    have HF2 := Lib.hid (show parseC n F = (zeroC, 3) by
      rw [HPC.out]
      split
      · rfl
      · exact if_pos rfl)
    clear hac d0
    go_wp2_with fail
    refine bodyPost_ret (v := .tuple #[.agg #[.int .i64 0, .int .i64 0, .int .u32 0, .int .u32 0, .int .u32 0, .int .u32 0, .int .u32 0], .int .i64 3]) (by simp [results, Try.results29, go_sem, q0, q1, q2, q3, q4, q5, q6]) rfl ?_
    exact ⟨by rw [HF2.out]; rfl, below_set7 HB1.out (by omega) _ _ _ _ _ _ _⟩
  | true =>
    by_cases h7 : 7 < n
    · have HF2 := Lib.hid (show parseC n F = (zeroC, 3) by rw [HPC.out, if_pos h7])
      have d7 : decide ((7 : Int) < (n : Int)) = true := decide_eq_true (by omega)
      clear hac d0 h7
      go_wp2_with fail
      refine bodyPost_ret (v := .tuple #[.agg #[.int .i64 0, .int .i64 0, .int .u32 0, .int .u32 0, .int .u32 0, .int .u32 0, .int .u32 0], .int .i64 3]) (by simp [results, Try.results29, go_sem, q0, q1, q2, q3, q4, q5, q6]) rfl ?_
      exact ⟨by rw [HF2.out]; rfl, below_set7 HB1.out (by omega) _ _ _ _ _ _ _⟩
    have d7 : decide ((7 : Int) < (n : Int)) = false := decide_eq_false (by omega)
    have hn7 : n ≤ 7 := by omega
    rw [if_neg h7, if_neg (by simp)] at HPC
    have HG := Lib.hid (show ∀ y, opsF F (n - 1) 1 = y → y ≠ 0 → parseC n F = (zeroC, y) from fun y h1 h2 => by rw [HPC.out, h1, if_neg h2])
    have HG0 := Lib.hid (show opsF F (n - 1) 1 = 0 → parseC n F = (callO F n, 0) from fun h1 => by rw [HPC.out, if_pos h1])
    have HP := Lib.hid (show PR w (w1.alloc (.cells #[.int .i64 0, .int .i64 0, .int .i64 0, .int .i64 0, .int .i64 0, .int .i64 0] 83)) N (some ⟨ag, ao, none⟩) n c w1.heap.size 0 F from
      ⟨heap_old HRR.out.1 _, heap_old HRR.out.2 _, by rw [arrO_one]; exact heap_new w1 _, hz1, HB1.out.alloc HB1.out.size _⟩)
    clear q0 q1 q2 q3 q4 q5 q6 f0 f1 f2 f3 f4 f5 f6 h7 HRR
    have HAC := Lib.hid hac
    clear hac
    go_wp2_with fail
    generalize (w1.alloc (.cells #[.int .i64 0, .int .i64 0, .int .i64 0, .int .i64 0, .int .i64 0, .int .i64 0] 83)) = w3 at *
    have HZ1 := Lib.hid hz1
    generalize w1.heap.size = g at *
    clear c1 HB1
    go_loopw [7, 8, 9, 10, 11] (fun i _ _ _ _ wr => ∃ m : Nat, m + 1 ≤ n ∧ i = .int .i64 ((m + 1 : Nat) : Int) ∧ OpsAt F n (m + 1) ∧ PR w wr N (some ⟨ag, ao, none⟩) n c g m F) (fun i _ _ _ _ _ => n - (intOf i).toNat)
    case atStart => exact ⟨0, hn1, rfl, rfl, HP.out⟩
    case round =>
      clear HP
      obtain ⟨m, hmn, rfl, hops, hpr⟩ := hrel
      have HP := Lib.hid hpr
      have HO := Lib.hid hops
      clear hpr hops
      have c0 : wr.cell? ⟨w.heap.size, 0, none⟩ = some (.int .i64 N) := cell_of HP.out.row 0
      have c1 : wr.cell? ⟨w.heap.size, 1, none⟩ = some (.slice (some ⟨ag, ao, none⟩) n c) := cell_of HP.out.row 1
      by_cases hlt : m + 1 < n
      · have dk : decide (m + 1 < n) = true := decide_eq_true hlt
        have dk' : decide (((m + 1 : Nat) : Int) < (n : Int)) = true := decide_eq_true (by omega)
        have hm6 : m < 6 := by omega
        have hsub : ((m + 1 : Nat) : Int) - 1 = (m : Int) := by omega
        have cw : wr.cell? ⟨ag, ao + (m + 1), none⟩ = some (.string ⟨(F (m + 1)).toArray⟩) := (HP.out.below.cell (p := ⟨ag, ao + (m + 1), none⟩) hag).trans (HAC.out (m + 1) hlt)
        have cg : wr.cell? ⟨g, m, none⟩ = some ((arrO F (m + 1))[m]'(by show m < 6; exact hm6)) := (cell_of HP.out.arr m).trans (Array.getElem?_eq_getElem (by show m < 6; exact hm6))
        have fg := free_of HP.out.arr m
        by_cases hm0 : m = 0
        · subst hm0
          have hop : parP (F (0 + 1)) (-2147483648) 2147483647 = opP F (0 + 1) := rfl
          have HPR := Lib.hid (fun W : World => rparse_big W (F (0 + 1)) (HF.out (0 + 1) (by omega)) (-2147483648) 2147483647)
          rw [hop] at HPR
          go_wp2_with fail
          refine (HPR.out _).mono ?_
          rintro e2 w2 ⟨rfl, hw2⟩
          have hw2' := hw2.symm
          subst hw2'
          by_cases hy0 : (opP F (0 + 1)).2 = 0
          · have hy1 : ((opP F (0 + 1)).2 == 0) = true := by rw [hy0]; rfl
            have hy2 : ((opP F (0 + 1)).2 != 0) = false := by rw [hy0]; rfl
            have HP2 := Lib.hid (HP.out.store (by omega))
            have HO2 := Lib.hid (OpsAt.next HO.out hlt hy0)
            rw [hy0] at *
            go_wp2_with fail
            go_roundw
            case rel => exact ⟨0 + 1, by omega, by go_num, HO2.out, HP2.out⟩
            case measure => simp [intOf]; omega
          · have HF2 := Lib.hid (show parseC n F = (zeroC, (opP F (0 + 1)).2) from HG.out _ (HO.out.bad hlt hy0) hy0)
            have hy1 : ((opP F (0 + 1)).2 == 0) = false := by simpa using hy0
            have hy2 : ((opP F (0 + 1)).2 != 0) = true := by simp only [bne, hy1]; rfl
            have q0 : wr.cell? ⟨w.heap.size + 1, 0, none⟩ = some (.int .i64 0) := cell_of HP.out.res 0
            have q1 : wr.cell? ⟨w.heap.size + 1, 1, none⟩ = some (.int .i64 0) := cell_of HP.out.res 1
            have q2 : wr.cell? ⟨w.heap.size + 1, 2, none⟩ = some (.int .u32 0) := cell_of HP.out.res 2
            have q3 : wr.cell? ⟨w.heap.size + 1, 3, none⟩ = some (.int .u32 0) := cell_of HP.out.res 3
            have q4 : wr.cell? ⟨w.heap.size + 1, 4, none⟩ = some (.int .u32 0) := cell_of HP.out.res 4
            have q5 : wr.cell? ⟨w.heap.size + 1, 5, none⟩ = some (.int .u32 0) := cell_of HP.out.res 5
            have q6 : wr.cell? ⟨w.heap.size + 1, 6, none⟩ = some (.int .u32 0) := cell_of HP.out.res 6
            have f0 := free_of HP.out.res 0
            have f1 := free_of HP.out.res 1
            have f2 := free_of HP.out.res 2
            have f3 := free_of HP.out.res 3
            have f4 := free_of HP.out.res 4
            have f5 := free_of HP.out.res 5
            have f6 := free_of HP.out.res 6
            generalize (opP F (0 + 1)).2 = y at *
            clear hy0
            go_wp2_with fail
            refine bodyPost_ret (v := .tuple #[.agg #[.int .i64 0, .int .i64 0, .int .u32 0, .int .u32 0, .int .u32 0, .int .u32 0, .int .u32 0], .int .i64 y]) (by simp [results, Try.results29, go_sem, q0, q1, q2, q3, q4, q5, q6]) rfl ?_
            exact ⟨by rw [HF2.out]; rfl, below_set7 HP.out.below (by omega) _ _ _ _ _ _ _⟩
        · have hop : parP (F (m + 1)) 0 4294967295 = opP F (m + 1) := by
            show _ = parP (F (m + 1)) (if m + 1 = 1 then -2147483648 else 0) (if m + 1 = 1 then 2147483647 else 4294967295)
            rw [if_neg (by omega), if_neg (by omega)]
          have d2 : (((m + 1 : Nat) : Int) == 1) = false := by simp; omega
          have d3 : (((m : Nat) : Int) + 1 == 1) = false := by simp; omega
          have HPR := Lib.hid (fun W : World => rparse_big W (F (m + 1)) (HF.out (m + 1) (by omega)) 0 4294967295)
          rw [hop] at HPR
          go_wp2_with fail
          refine (HPR.out _).mono ?_
          rintro e2 w2 ⟨rfl, hw2⟩
          have hw2' := hw2.symm
          subst hw2'
          by_cases hy0 : (opP F (m + 1)).2 = 0
          · have hy1 : ((opP F (m + 1)).2 == 0) = true := by rw [hy0]; rfl
            have hy2 : ((opP F (m + 1)).2 != 0) = false := by rw [hy0]; rfl
            have HP2 := Lib.hid (HP.out.store (by omega))
            have HO2 := Lib.hid (OpsAt.next HO.out hlt hy0)
            rw [hy0] at *
            go_wp2_with fail
            go_roundw
            case rel => exact ⟨m + 1, by omega, by go_num, HO2.out, HP2.out⟩
            case measure => simp [intOf]; omega
          · have HF2 := Lib.hid (show parseC n F = (zeroC, (opP F (m + 1)).2) from HG.out _ (HO.out.bad hlt hy0) hy0)
            have hy1 : ((opP F (m + 1)).2 == 0) = false := by simpa using hy0
            have hy2 : ((opP F (m + 1)).2 != 0) = true := by simp only [bne, hy1]; rfl
            have q0 : wr.cell? ⟨w.heap.size + 1, 0, none⟩ = some (.int .i64 0) := cell_of HP.out.res 0
            have q1 : wr.cell? ⟨w.heap.size + 1, 1, none⟩ = some (.int .i64 0) := cell_of HP.out.res 1
            have q2 : wr.cell? ⟨w.heap.size + 1, 2, none⟩ = some (.int .u32 0) := cell_of HP.out.res 2
            have q3 : wr.cell? ⟨w.heap.size + 1, 3, none⟩ = some (.int .u32 0) := cell_of HP.out.res 3
            have q4 : wr.cell? ⟨w.heap.size + 1, 4, none⟩ = some (.int .u32 0) := cell_of HP.out.res 4
            have q5 : wr.cell? ⟨w.heap.size + 1, 5, none⟩ = some (.int .u32 0) := cell_of HP.out.res 5
            have q6 : wr.cell? ⟨w.heap.size + 1, 6, none⟩ = some (.int .u32 0) := cell_of HP.out.res 6
            have f0 := free_of HP.out.res 0
            have f1 := free_of HP.out.res 1
            have f2 := free_of HP.out.res 2
            have f3 := free_of HP.out.res 3
            have f4 := free_of HP.out.res 4
            have f5 := free_of HP.out.res 5
            have f6 := free_of HP.out.res 6
            generalize (opP F (m + 1)).2 = y at *
            clear hy0
            go_wp2_with fail
            refine bodyPost_ret (v := .tuple #[.agg #[.int .i64 0, .int .i64 0, .int .u32 0, .int .u32 0, .int .u32 0, .int .u32 0, .int .u32 0], .int .i64 y]) (by simp [results, Try.results29, go_sem, q0, q1, q2, q3, q4, q5, q6]) rfl ?_
            exact ⟨by rw [HF2.out]; rfl, below_set7 HP.out.below (by omega) _ _ _ _ _ _ _⟩
      · obtain rfl : n = m + 1 := by omega
        have HF2 := Lib.hid (show parseC (m + 1) F = (callO F (m + 1), 0) from HG0.out (by have h : opsF F (m + 1 - 1) 1 = opsF F (m + 1 - (m + 1)) (m + 1) := HO.out; rw [h, Nat.sub_self]; rfl))
        have dk : decide (m + 1 < m + 1) = false := decide_eq_false (by omega)
        rw [HCO.out] at HF2
        have b2 := valO_bound F (m + 1) 2 (by omega)
        have b3 := valO_bound F (m + 1) 3 (by omega)
        have b4 := valO_bound F (m + 1) 4 (by omega)
        have b5 := valO_bound F (m + 1) 5 (by omega)
        have b6 := valO_bound F (m + 1) 6 (by omega)
        have x0 : wr.cell? ⟨g, 0, none⟩ = some (.int .i64 (valO F (m + 1) 1)) := cell_of HP.out.arr 0
        have x1 : wr.cell? ⟨g, 1, none⟩ = some (.int .i64 (valO F (m + 1) 2)) := cell_of HP.out.arr 1
        have x2 : wr.cell? ⟨g, 2, none⟩ = some (.int .i64 (valO F (m + 1) 3)) := cell_of HP.out.arr 2
        have x3 : wr.cell? ⟨g, 3, none⟩ = some (.int .i64 (valO F (m + 1) 4)) := cell_of HP.out.arr 3
        have x4 : wr.cell? ⟨g, 4, none⟩ = some (.int .i64 (valO F (m + 1) 5)) := cell_of HP.out.arr 4
        have x5 : wr.cell? ⟨g, 5, none⟩ = some (.int .i64 (valO F (m + 1) 6)) := cell_of HP.out.arr 5
        generalize valO F (m + 1) 1 = a1 at HF2 x0
        generalize valO F (m + 1) 2 = a2 at HF2 x1 b2
        generalize valO F (m + 1) 3 = a3 at HF2 x2 b3
        generalize valO F (m + 1) 4 = a4 at HF2 x3 b4
        generalize valO F (m + 1) 5 = a5 at HF2 x4 b5
        generalize valO F (m + 1) 6 = a6 at HF2 x5 b6
        have q0 : wr.cell? ⟨w.heap.size + 1, 0, none⟩ = some (.int .i64 0) := cell_of HP.out.res 0
        have q1 : wr.cell? ⟨w.heap.size + 1, 1, none⟩ = some (.int .i64 0) := cell_of HP.out.res 1
        have q2 : wr.cell? ⟨w.heap.size + 1, 2, none⟩ = some (.int .u32 0) := cell_of HP.out.res 2
        have q3 : wr.cell? ⟨w.heap.size + 1, 3, none⟩ = some (.int .u32 0) := cell_of HP.out.res 3
        have q4 : wr.cell? ⟨w.heap.size + 1, 4, none⟩ = some (.int .u32 0) := cell_of HP.out.res 4
        have q5 : wr.cell? ⟨w.heap.size + 1, 5, none⟩ = some (.int .u32 0) := cell_of HP.out.res 5
        have q6 : wr.cell? ⟨w.heap.size + 1, 6, none⟩ = some (.int .u32 0) := cell_of HP.out.res 6
        have f0 := free_of HP.out.res 0
        have f1 := free_of HP.out.res 1
        have f2 := free_of HP.out.res 2
        have f3 := free_of HP.out.res 3
        have f4 := free_of HP.out.res 4
        have f5 := free_of HP.out.res 5
        have f6 := free_of HP.out.res 6
        go_wp2_with fail
        refine bodyPost_ret (v := .tuple #[.agg #[.int .i64 kk, .int .i64 a1, .int .u32 a2, .int .u32 a3, .int .u32 a4, .int .u32 a5, .int .u32 a6], .int .i64 0]) (by simp [results, Try.results29, go_sem, q0, q1, q2, q3, q4, q5, q6]) rfl ?_
        exact ⟨by rw [HF2.out]; rfl, below_set7 HP.out.below (by omega) _ _ _ _ _ _ _⟩
end Go.Proofs.Ytpmcjajgdfmaoaa
