import Derived.Test.YtfniicgfnlklbaaRankP
namespace Go.Proofs.Ytfniicgfnlklbaa
open Go.ChangeShapes Go.WideShapes Go.ChangeAt Go.RowKit
set_option linter.unusedVariables false
set_option linter.unusedSimpArgs false
theorem rankRows_large (a : Option Addr) (n cap : Nat) (W : World) (hn : n ≤ maxLen) (h : 16 < n) :
    Calls Try.prog 5 #[.slice a n cap] W fun e w' => e = .returned (.bool true) ∧ Below W.heap.size W w' := by
  have d0 : decide ((16 : Int) < (n : Int)) = true := decide_eq_true (by omega)
  have d1 : decide (16 < n) = true := decide_eq_true h
  have HA := Lib.hid (alive23_any W)
  clear h
  go_enter Try.func5, Try.ntmps5
  go_wp2_with fail
  refine HA.out.mono ?_
  rintro e w' ⟨rfl, hk⟩
  go_wp2
  go_ret
  exact ⟨rfl, hk.none⟩
theorem or_bit (B p : Nat) (hB : B < 4294967296) (hp : p < 32) : bits .or .u32 (B : Int) ((2 : Int) ^ p % 4294967296) = ((setB B (p : Int) : Nat) : Int) := by
  have h2 : 2 ^ p < 2 ^ 32 := Nat.pow_lt_pow_right (by omega) hp
  have e : ((2 : Int) ^ p % 4294967296) = ((bitW (p : Int) : Nat) : Int) := by
    unfold bitW
    rw [if_pos ⟨by omega, by omega⟩, Int.toNat_natCast]
    have : ((2 ^ p : Nat) : Int) = (2 : Int) ^ p := by simp
    rw [← this]
    generalize 2 ^ p = N at h2
    omega
  rw [e]
  exact u32_or_nat _ _ hB (bitW_lt _)
set_option maxRecDepth 20000 in
set_option maxHeartbeats 2000000 in
theorem rankRows_plain (a : Option Addr) (n cap : Nat) (F : Nat → Int) (W : World) (hn : n ≤ 16) (hrow : Row W a n F) :
    Calls Try.prog 5 #[.slice a n cap] W fun e w' => e = .returned (.bool true) ∧ Below W.heap.size W w' := by
  obtain ⟨zs, hzb, hz⟩ := rk_fresh
  have H0 := Lib.hid (hz (W.alloc (.cells zs 32 (0, 0))) W.heap.size (heap_new _ _))
  have K0 := Lib.hid ((Keeps.refl (fun k => k = W.heap.size) W).alloc (.cells zs 32 (0, 0)))
  have HR := Lib.hid hrow
  have d0 : decide ((16 : Int) < (n : Int)) = false := decide_eq_false (by omega)
  have d1 : decide (16 < n) = false := decide_eq_false (by omega)
  clear hz hrow
  go_enter Try.func5, Try.ntmps5
  go_wp2_with fail
  go_loopw [4] (fun i wr => ∃ k : Nat, k ≤ n ∧ i = .int .i64 (k : Int) ∧ RkS wr W.heap.size (rowsOf F k) ∧ Keeps (fun k => k = W.heap.size) W wr) (fun i _ => n - (intOf i).toNat)
  case atStart => exact ⟨0, by omega, rfl, by rw [rowsOf_zero]; exact H0.out, K0.out⟩
  case round =>
    obtain ⟨k, hk, rfl, hS, hK⟩ := hrel
    by_cases hlt : k < n
    · obtain ⟨ab, off, rfl, hb, hc⟩ := (HR.out.below (hK.below (Nat.le_refl _) fun k _ h => by omega)) (by omega)
      have c1 := hc k hlt
      have HS := Lib.hid hS
      have HK := Lib.hid hK
      clear hS hK hc
      go_wp2_with fail
      refine (rks_add _ _ _ HS.out (k : Int) (F k)).mono ?_
      rintro e w2 ⟨rfl, hS2, hK2⟩
      rw [rowsOf_add F k (by omega)] at hS2
      have H2 := Lib.hid (And.intro hS2 (HK.out.trans hK2))
      clear hS2 hK2
      go_wp2_with fail
      go_roundw
      case rel => exact ⟨k + 1, by omega, by go_num, H2.out⟩
      case measure => simp [intOf]; omega
    · obtain rfl : k = n := by omega
      have HS := Lib.hid hS
      have HK := Lib.hid hK
      clear hS hK
      go_wp2_with fail
      refine (rks_list _ _ _ HS.out).mono ?_
      rintro e w2 ⟨v, rfl, hown, hk2⟩
      rw [ints_nums] at hown
      obtain ⟨la, lc, rfl, hrl⟩ := Row.ofOwn hown
      have hm : (listT (rowsOf F k)).length ≤ 512 := list_len _ HS.out.le
      have H2 := Lib.hid (And.intro hrl (And.intro (HS.out.keeps hk2 fun h => h) (HK.out.trans (hk2.mono fun z _ h => h.elim))))
      obtain ⟨m, hme⟩ : ∃ m, (listT (rowsOf F k)).length = m := ⟨_, rfl⟩
      rw [hme] at hm H2 ⊢
      have HME := Lib.hid hme
      clear hown hrl hk2 HS HK hme H0 K0 hzb hk hlt
      go_wp2_with fail
      go_loopw [6, 7] (fun z i wr => ∃ B j : Nat, j ≤ m ∧ z = .int .u32 (B : Int) ∧ i = .int .i64 (j : Int) ∧ B < 4294967296 ∧ (∀ q, q < 32 → B.testBit q = ((listT (rowsOf F k)).take j).any fun t => decide (F t = (q : Int))) ∧ Keeps (fun _ => False) w2 wr) (fun _ i _ => m - (intOf i).toNat)
      case atStart => exact ⟨0, 0, by omega, rfl, rfl, by omega, fun q _ => by simp, Keeps.refl _ _⟩
      case round =>
        obtain ⟨B, j, hj, rfl, rfl, hB, hbit, hK⟩ := hrel
        by_cases hlt : j < m
        · have hjl : j < (listT (rowsOf F k)).length := by rw [HME.out]; exact hlt
          obtain ⟨t, ht⟩ : ∃ t, (listT (rowsOf F k))[j]? = some t := ⟨_, List.getElem?_eq_getElem hjl⟩
          have hmem := (mem_list F k t).1 (List.mem_of_getElem? ht)
          obtain ⟨p, hp⟩ : ∃ p : Nat, F t = (p : Int) := ⟨(F t).toNat, by omega⟩
          have hp32 : p < 32 := by omega
          have htk : t < k := hmem.1
          obtain ⟨lb, loff, rfl, hlb, hlc⟩ := (H2.out.1.none hK) (by omega)
          have c2 := hlc j hlt
          simp only [List.getD_eq_getElem?_getD, ht, Option.getD_some] at c2
          obtain ⟨ab, off, rfl, hab, hac⟩ := (HR.out.below ((H2.out.2.2.trans (hK.mono fun z _ h => h.elim)).below (Nat.le_refl _) fun k _ h => by omega)) (by omega)
          have c3 := hac t htk
          rw [hp] at c3
          have hpr := rks_prio _ _ _ (H2.out.2.1.keeps hK fun h => h) (t : Int)
          have hpp := prio_rowsOf F k t hn htk hmem.2
          rw [hpp.1, hpp.2, hp] at hpr
          have HPr := Lib.hid hpr
          have HBit := Lib.hid (or_step hB hbit ht hp)
          have e1 : decide ((t : Int) < 0) = false := decide_eq_false (by omega)
          have e2 : decide ((k : Int) ≤ (t : Int)) = false := decide_eq_false (by omega)
          have e2n : decide (k ≤ t) = false := decide_eq_false (by omega)
          have e3 : decide ((p : Int) < 0) = false := decide_eq_false (by omega)
          have e4 : decide (31 < (p : Int)) = false := decide_eq_false (by omega)
          have e4n : decide (31 < p) = false := decide_eq_false (by omega)
          have HK := Lib.hid hK
          have HB := Lib.hid hB
          have HT := Lib.hid (And.intro ht (And.intro hp hmem))
          clear hpr hpp hbit hK hB hmem ht hp
          rcases j with _ | i
          · have f1 : decide ((0 : Int) < ((0 : Nat) : Int)) = false := rfl
            rw [Nat.add_zero] at c2
            clear hlc hac
            go_wp2_with fail
            refine HPr.out.mono ?_
            rintro e w3 ⟨rfl, rfl⟩
            go_wp2_with fail
            go_quiet (fail)
            go_wp2_with fail
            exact ⟨⟨setB B (p : Int), 1, by omega, by rw [or_bit _ _ HB.out hp32], by go_num, setB_lt HB.out _, HBit.out, HK.out.drewN nq⟩, by simp [intOf]; omega⟩
          · obtain ⟨t', ht'⟩ : ∃ t', (listT (rowsOf F k))[i]? = some t' := ⟨_, List.getElem?_eq_getElem (by omega)⟩
            have hmem' := (mem_list F k t').1 (List.mem_of_getElem? ht')
            obtain ⟨p', hp'⟩ : ∃ p' : Nat, F t' = (p' : Int) := ⟨(F t').toNat, by omega⟩
            have ho := list_order F k i t' t ht' HT.out.1
            rw [hp', HT.out.2.1] at ho
            have c4 := hlc i (by omega)
            simp only [List.getD_eq_getElem?_getD, ht', Option.getD_some] at c4
            have c5 := hac t' hmem'.1
            rw [hp'] at c5
            have htk' := hmem'.1
            have f1 : decide ((0 : Int) < (i : Int) + 1) = true := decide_eq_true (by omega)
            have f2 : decide (0 < i + 1) = true := decide_eq_true (by omega)
            have f3 : wrap64 ((i : Int) + 1 - 1) = (i : Int) := by rw [IntWalk.wrap64_in _ ⟨by omega, by omega⟩]; omega
            have f4 : IntKind.i64.wrap ((i : Int) + 1 - 1) = (i : Int) := (IntWalk.i64_in _ ⟨by omega, by omega⟩).trans (by omega)
            clear hlc hac hmem' ht' hp'
            rcases ho with ho | ⟨ho, ho2⟩
            · have g1 : decide ((p' : Int) < (p : Int)) = false := decide_eq_false (by omega)
              have g1n : decide (p' < p) = false := decide_eq_false (by omega)
              have g2 : ((p' : Int) == (p : Int)) = false := beq_eq_false_iff_ne.mpr (by omega)
              clear ho
              go_wp2_with fail
              refine HPr.out.mono ?_
              rintro e w3 ⟨rfl, rfl⟩
              go_wp2_with fail
              go_quiet (fail)
              go_wp2_with fail
              exact ⟨⟨setB B (p : Int), i + 2, by omega, by rw [or_bit _ _ HB.out hp32], by go_num, setB_lt HB.out _, HBit.out, HK.out.drewN nq⟩, by simp [intOf]; omega⟩
            · obtain rfl : p' = p := by omega
              have g1 : decide ((p' : Int) < (p' : Int)) = false := decide_eq_false (by omega)
              have g3 : decide ((t : Int) ≤ (t' : Int)) = false := decide_eq_false (by omega)
              have g3n : decide (t ≤ t') = false := decide_eq_false (by omega)
              clear ho ho2
              go_wp2_with fail
              refine HPr.out.mono ?_
              rintro e w3 ⟨rfl, rfl⟩
              go_wp2_with fail
              go_quiet (fail)
              go_wp2_with fail
              exact ⟨⟨setB B (p' : Int), i + 2, by omega, by rw [or_bit _ _ HB.out hp32], by go_num, setB_lt HB.out _, HBit.out, HK.out.drewN nq⟩, by simp [intOf]; omega⟩
        · obtain rfl : j = m := by omega
          have hS := H2.out.2.1.keeps hK fun h => h
          have hKW := H2.out.2.2.trans (hK.mono (T := fun k => k = W.heap.size) fun z _ h => h.elim)
          obtain ⟨bs, hbs, hbb, hbc⟩ := rks_bits _ _ _ hS
          obtain rfl : bs = B := Nat.eq_of_testBit_eq fun q => by
            by_cases hq : q < 32
            · rw [hbb q hq, hbit q hq, ← list_bits F k q hq, List.take_of_length_le (by rw [HME.out]; exact Nat.le_refl _)]
            · rw [testBit_ge hbs (by omega), testBit_ge hB (by omega)]
          have hfi := rks_first _ _ _ hS
          have hle := rks_len _ _ _ hS
          rw [HME.out] at hle
          have HBt := Lib.hid (hbc _ hS)
          have HLe := Lib.hid hle
          have HKW := Lib.hid hKW
          cases hl : listT (rowsOf F k) with
          | nil =>
            rw [hl] at hfi
            have hm0 : j = 0 := by rw [← HME.out, hl]; rfl
            subst hm0
            have HFi := Lib.hid hfi
            clear hfi hle hbc hbb hbit hK hS hKW hl
            go_wp2_with fail
            refine HFi.out.mono ?_
            rintro e w3 ⟨rfl, rfl⟩
            go_wp2_with fail
            refine HBt.out.mono ?_
            rintro e w3 ⟨rfl, rfl⟩
            go_wp2_with fail
            refine HLe.out.mono ?_
            rintro e w4 ⟨rfl, hk4⟩
            have K4 := Lib.hid (HKW.out.trans (hk4.mono fun z _ h => h.elim))
            clear hk4
            go_wp2_with fail
            refine (alive23_any _).mono ?_
            rintro e w5 ⟨rfl, hk5⟩
            have K5 := Lib.hid (K4.out.trans (hk5.mono fun z _ h => h.elim))
            clear hk5
            go_wp2
            go_ret
            exact ⟨rfl, K5.out.below (Nat.le_refl _) fun k _ h => by omega⟩
          | cons t0 ts =>
            rw [hl] at hfi
            have hm0 : 0 < j := by rw [← HME.out, hl]; simp
            obtain ⟨lb, loff, rfl, hlb, hlc⟩ := (H2.out.1.none hK) hm0
            have c2 := hlc 0 hm0
            simp only [hl, List.getD_cons_zero, Nat.add_zero] at c2
            have e1 : decide ((0 : Int) < (j : Int)) = true := decide_eq_true (by omega)
            have e2 : decide (0 < j) = true := decide_eq_true hm0
            have e3 : (0 < j) = True := eq_true hm0
            have HFi := Lib.hid hfi
            clear hfi hle hbc hbb hbit hK hS hKW hl hlc
            go_wp2_with fail
            refine HFi.out.mono ?_
            rintro e w3 ⟨rfl, rfl⟩
            go_wp2_with fail
            refine HBt.out.mono ?_
            rintro e w3 ⟨rfl, rfl⟩
            go_wp2_with fail
            refine HLe.out.mono ?_
            rintro e w4 ⟨rfl, hk4⟩
            have K4 := Lib.hid (HKW.out.trans (hk4.mono fun z _ h => h.elim))
            clear hk4
            go_wp2_with fail
            refine (alive23_any _).mono ?_
            rintro e w5 ⟨rfl, hk5⟩
            have K5 := Lib.hid (K4.out.trans (hk5.mono fun z _ h => h.elim))
            clear hk5
            go_wp2
            go_ret
            exact ⟨rfl, K5.out.below (Nat.le_refl _) fun k _ h => by omega⟩
theorem rankRows_walk {H : Type} {enc : TypeId × Value → H} (W : World) (base : Nat) {v0 : Value} {d0 : DataW H} {p0 : List MemPlace}
    (k0 : Value.okWide Try.prog W .any base 49 v0) (h0 : DataW.Trod enc Try.prog W 0 (fun _ => true) true 49 v0 d0 p0) :
    Calls Try.prog 5 #[v0] W fun e w' => e = .returned (.bool true) ∧ Below W.heap.size W w' := by
  obtain ⟨a, n, cap, F, rfl, hn, hrow, hF⟩ := row_of k0 h0
  by_cases hbig : 16 < n
  · exact rankRows_large a n cap W hn hbig
  · exact rankRows_plain a n cap F W (by omega) hrow
end Go.Proofs.Ytfniicgfnlklbaa
