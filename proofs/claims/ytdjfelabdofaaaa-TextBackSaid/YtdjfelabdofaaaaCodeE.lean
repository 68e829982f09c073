import Derived.Test.YtdjfelabdofaaaaCodeD
namespace Go.Proofs.Ytdjfelabdofaaaa
open Go.ChangeShapes Go.WideShapes Go.ChangeAt Go.RowKit
set_option linter.unusedVariables false
set_option linter.unusedSimpArgs false
theorem lits6 (c : CallD) : ∀ i, i < 6 → (#[.int .i64 c.o, .int .i64 c.v0, .int .i64 c.v1, .int .i64 c.v2, .int .i64 c.v3, .int .i64 c.n] : Array Value)[i]? = some (.int .i64 (numC c i))
  | 0, _ => rfl
  | 1, _ => rfl
  | 2, _ => rfl
  | 3, _ => rfl
  | 4, _ => rfl
  | 5, _ => rfl
  | i + 6, h => by omega
set_option maxRecDepth 100000 in
set_option maxHeartbeats 1000000 in
theorem numbers_of (w : World) (c : CallD) (hc : c.Ok) :
    Calls Try.prog 46 #[.agg (callC c)] w fun e w' => ∃ g, e = .returned (.slice (some ⟨g, 0, none⟩) 6 6) ∧ (∀ i, i < 6 → w'.cell? ⟨g, i, none⟩ = some (.int .i64 (numC c i))) ∧ g < w'.heap.size ∧ Keeps (fun _ => False) w w' := by
  have b0 := hc.v0; have b1 := hc.v1; have b2 := hc.v2; have b3 := hc.v3; have b4 := hc.n
  have HL := Lib.hid (lits6 c)
  clear hc
  unfold callC
  go_enter Try.func46, Try.ntmps46
  go_wp2_with fail
  go_ret
  refine ⟨_, rfl, fun i hi => ?_, ?_, ((Keeps.refl _ w).alloc _).alloc _⟩
  · exact (cell_of (by have h := heap_new (w.alloc (.cells #[.int .i64 c.k, .int .i64 c.o, .int .u32 c.v0, .int .u32 c.v1, .int .u32 c.v2, .int .u32 c.v3, .int .u32 c.n] 81)) (.cells #[.int .i64 c.o, .int .i64 c.v0, .int .i64 c.v1, .int .i64 c.v2, .int .i64 c.v3, .int .i64 c.n] 3); rw [World.size_alloc] at h; exact h) i).trans (HL.out i hi)
  · simp
/-- The word and the first k numbers behind it, a blank ahead of each. -/
def rowN (W : List UInt8) (F : Nat → Int) : Nat → List UInt8
  | 0 => W
  | k + 1 => rowN W F k ++ [32] ++ prnL (F k)
theorem rowN_join (W : List UInt8) (F : Nat → Int) : ∀ k, rowN W F (k + 1) = W ++ [32] ++ joinN [32] F (k + 1)
  | 0 => by show W ++ [32] ++ prnL (F 0) = _; rw [joinN_one]
  | k + 1 => by
    show rowN W F (k + 1) ++ [32] ++ prnL (F (k + 1)) = _
    rw [rowN_join W F k, joinN_more [32] F (k + 1) (by omega)]
    simp
theorem rowN_print (c : CallD) : rowN (wordK c.k) (numC c) (keepN (numC c) 6) = printC c := by
  unfold printC
  cases h : keepN (numC c) 6 with
  | zero => rw [if_pos rfl]; rfl
  | succ k => rw [if_neg (by omega), rowN_join]
theorem rowN_len (W : List UInt8) (F : Nat → Int) (hF : ∀ i, -9223372036854775808 ≤ F i ∧ F i ≤ 9223372036854775807) : ∀ k, (rowN W F k).length ≤ W.length + k * 22
  | 0 => by show W.length ≤ _; omega
  | k + 1 => by
    have h1 := rowN_len W F hF k
    have h2 := prnL_len (hF k)
    show (rowN W F k ++ [32] ++ prnL (F k)).length ≤ _
    rw [List.length_append, List.length_append, List.length_singleton, Nat.succ_mul]
    omega
set_option maxRecDepth 100000 in
set_option maxHeartbeats 1000000 in
theorem rprint_call (w : World) (c : CallD) (hc : c.Ok) :
    Calls Try.prog 34 #[.agg (callC c)] w fun e w' => e = .returned (.string ⟨(printC c).toArray⟩) ∧ Below w.heap.size w w' := by
  have HOk := Lib.hid hc
  have HNm := Lib.hid (fun w => numbers_of w c hc)
  have HW := Lib.hid (fun w => rword_of w c.k hc.k)
  have HWl := Lib.hid (wordK_len c.k hc.k)
  have HRP := Lib.hid (rowN_print c)
  have HRL := Lib.hid (rowN_len (wordK c.k) (numC c) (numC_ok hc))
  have HPp := Lib.hid (fun w i => rprint_any w (numC c i) (numC_ok hc i))
  have HPl := Lib.hid (fun i => prnL_len (numC_ok hc i))
  clear hc
  unfold callC at *
  go_enter Try.func34, Try.ntmps34
  go_wp2_with fail
  refine (HNm.out _).mono ?_
  rintro e1 w1 ⟨g, rfl, hcl, hg, k1⟩
  have HB0 := Lib.hid (k1.at (heap_new w (.cells #[.int .i64 c.k, .int .i64 c.o, .int .u32 c.v0, .int .u32 c.v1, .int .u32 c.v2, .int .u32 c.v3, .int .u32 c.n] 81)) fun h => h)
  have HK1 := Lib.hid (((Keeps.refl (fun _ => False) w).alloc (.cells #[.int .i64 c.k, .int .i64 c.o, .int .u32 c.v0, .int .u32 c.v1, .int .u32 c.v2, .int .u32 c.v3, .int .u32 c.n] 81)).trans k1)
  have HC := Lib.hid hcl
  have HG := Lib.hid hg
  clear hcl hg k1
  go_wp2_with fail
  go_loop [4] (fun v4 => ∃ m : Nat, m ≤ 6 ∧ v4 = .int .i64 (m : Int) ∧ keepN (numC c) 6 = keepN (numC c) m) (fun v4 => (intOf v4).toNat)
  case atStart => exact ⟨6, by omega, rfl, rfl⟩
  case round =>
    obtain ⟨m, hm, rfl, hkp⟩ := hrel
    have HKP := Lib.hid hkp
    clear hkp
    have REST : ∀ q, m = q → keepN (numC c) 6 = q → True := fun _ _ _ => trivial
    clear REST
    by_cases hz : ∃ j, m = j + 1 ∧ numC c j = 0
    · obtain ⟨j, rfl, hz⟩ := hz
      have hkj : keepN (numC c) (j + 1) = keepN (numC c) j := if_pos hz
      have HKJ := Lib.hid (HKP.out.trans hkj)
      have c0 := HC.out j (by omega)
      rw [hz] at c0
      clear hkj hz
      go_wp2_with fail
      go_round
      case rel => exact ⟨j, by omega, by go_num, HKJ.out⟩
      case measure => simp [intOf]
    · have hq : keepN (numC c) 6 = m := by
        rw [HKP.out]
        cases m with
        | zero => rfl
        | succ j => exact if_neg fun h => hz ⟨j, rfl, h⟩
      have HQ := Lib.hid hq
      have d0 : ∃ b : Bool, decide ((0 : Int) < (m : Int)) = b ∧ (b = true → ∃ j x, m = j + 1 ∧ (x == (0 : Int)) = false ∧ w1.cell? ⟨g, j, none⟩ = some (.int .i64 x)) := by
        cases m with
        | zero => exact ⟨false, rfl, fun h => by cases h⟩
        | succ j => exact ⟨true, decide_eq_true (by omega), fun _ => ⟨j, numC c j, rfl, by simpa using fun h => hz ⟨j, rfl, h⟩, HC.out j (by omega)⟩⟩
      clear hz hq
      obtain ⟨b, d0, d1⟩ := d0
      have c00 : w1.cell? ⟨w.heap.size, 0, none⟩ = some (.int .i64 c.k) := by rw [cell_of HB0.out 0]; rfl
      cases b with
      | false =>
        clear d1
        obtain rfl : m = 0 := by have := of_decide_eq_false d0; omega
        go_wp2_with fail
        refine (HW.out _).mono ?_
        rintro e2 w2 ⟨rfl, k2⟩
        have HB2 := Lib.hid (HK1.out.trans k2).none
        have HF := Lib.hid (show printC c = wordK c.k by rw [← HRP.out, HQ.out]; rfl)
        clear k2
        go_wp2_with fail
        go_loop [5, 6] (fun v5 v6 => v5 = .string ⟨(wordK c.k).toArray⟩ ∧ v6 = .int .i64 0) (fun _ _ => 0)
        case atStart => exact ⟨rfl, rfl⟩
        case round =>
          obtain ⟨rfl, rfl⟩ := hrel
          go_wp2_with fail
          go_ret
          exact ⟨by rw [HF.out]; rfl, HB2.out⟩
      | true =>
        obtain ⟨j, x, rfl, g0, c0⟩ := d1 rfl
        go_wp2_with fail
        refine (HW.out _).mono ?_
        rintro e2 w2 ⟨rfl, k2⟩
        have HB2 := Lib.hid (HK1.out.trans k2).none
        have HC2 := Lib.hid (fun i (hi : i < 6) => (k2.none.cell (p := ⟨g, i, none⟩) HG.out).trans (HC.out i hi))
        have HF := Lib.hid (show printC c = rowN (wordK c.k) (numC c) (j + 1) by rw [← HRP.out, HQ.out])
        clear k2 c0 c00 g0 d0
        go_wp2_with fail
        go_loop [5, 6] (fun v5 v6 => ∃ q : Nat, q ≤ j + 1 ∧ v6 = .int .i64 (q : Int) ∧ v5 = .string ⟨(rowN (wordK c.k) (numC c) q).toArray⟩) (fun _ v6 => j + 1 - (intOf v6).toNat)
        case atStart => exact ⟨0, by omega, rfl, rfl⟩
        case round =>
          obtain ⟨q, hq, rfl, rfl⟩ := hrel
          by_cases hlt : q < j + 1
          · have c1 := HC2.out q (by omega)
            have hl1 := HRL.out q
            have hl2 := HWl.out
            have hl3 := HPl.out q
            have hSz := str_size (rowN (wordK c.k) (numC c) q)
            have hPz := str_size (prnL (numC c q))
            have hPB : (⟨(prnL (numC c q)).toArray⟩ : ByteArray) = prnB (numC c q) := rfl
            have hTz := str_size (rowN (wordK c.k) (numC c) q ++ [32])
            rw [List.length_append, List.length_singleton] at hTz
            have hA1 := ByteArray.mk_append_mk (rowN (wordK c.k) (numC c) q) [32]
            have hA2 := ByteArray.mk_append_mk (rowN (wordK c.k) (numC c) q ++ [32]) (prnL (numC c q))
            have HU := Lib.hid (show rowN (wordK c.k) (numC c) (q + 1) = rowN (wordK c.k) (numC c) q ++ [32] ++ prnL (numC c q) from rfl)
            have HP1 := Lib.hid (HPp.out w2 q)
            rw [hPB] at hA2 hPz
            generalize (⟨(rowN (wordK c.k) (numC c) q).toArray⟩ : ByteArray) = S at *
            generalize (⟨(rowN (wordK c.k) (numC c) q ++ [32]).toArray⟩ : ByteArray) = T at *
            generalize prnB (numC c q) = PB at *
            have hb : q * 22 ≤ 132 := by have := Nat.mul_le_mul_right 22 (show q ≤ 6 by omega); omega
            have hS1 := run_string_add_sum (P := Try.prog) w2 S ⟨#[32]⟩ (by show S.size + 1 ≤ _; omega)
            have hS2 := run_string_add_sum (P := Try.prog) w2 T PB (by omega)
            rw [hA1] at hS1
            rw [hA2] at hS2
            have HV := Lib.hid (show (⟨(rowN (wordK c.k) (numC c) (q + 1)).toArray⟩ : ByteArray) = ⟨(rowN (wordK c.k) (numC c) q ++ [32] ++ prnL (numC c q)).toArray⟩ by rw [HU.out])
            generalize (⟨(rowN (wordK c.k) (numC c) q ++ [32] ++ prnL (numC c q)).toArray⟩ : ByteArray) = V at *
            generalize numC c q = nq at *
            clear hA1 hA2 hSz hTz hPz hPB hl1 hl2 hl3 hb
            go_wp2_with fail
            refine HP1.out.mono ?_
            rintro e3 w3 ⟨rfl, hw3⟩
            have hw3' := hw3.symm
            subst hw3'
            go_wp2_with fail
            go_round
            case rel => exact ⟨q + 1, by omega, by go_num, by rw [HV.out]⟩
            case measure => simp [intOf]; omega
          · obtain rfl : q = j + 1 := by omega
            go_wp2_with fail
            go_ret
            exact ⟨by rw [HF.out]; rfl, HB2.out⟩
end Go.Proofs.Ytdjfelabdofaaaa
