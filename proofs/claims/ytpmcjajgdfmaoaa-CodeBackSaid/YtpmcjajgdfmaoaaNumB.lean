import Derived.Test.YtpmcjajgdfmaoaaNumA
namespace Go.Proofs.Ytpmcjajgdfmaoaa
open Go.ChangeShapes Go.WideShapes Go.ChangeAt Go.RowKit
set_option linter.unusedVariables false
set_option linter.unusedSimpArgs false
/-- One digit out of the ten. -/
theorem digit_slice (d : Nat) (hd : d < 10) (w : World) :
    (Instr.slice 9 (.string { data := #[48, 49, 50, 51, 52, 53, 54, 55, 56, 57] }) (some (.int .i64 (d : Int))) (some (.int .i64 ((d : Int) + 1))) none).run Try.prog w = .ok (.string ⟨#[UInt8.ofNat (48 + d)]⟩) w := by
  have h : ∀ d : Fin 10, (ByteArray.mk #[48, 49, 50, 51, 52, 53, 54, 55, 56, 57]).extract d.val (d.val + 1) = ⟨#[UInt8.ofNat (48 + d.val)]⟩ := by decide
  rw [run_slice_string w 9 _ .i64 .i64 d ((d : Int) + 1) (by kernel_rfl) (by omega) (by omega) (by show (d : Int) + 1 ≤ (10 : Nat); omega)]
  have := h ⟨d, hd⟩
  simp only [Int.toNat_natCast] at this ⊢
  rw [show ((d : Int) + 1).toNat = d + 1 by omega, this]
set_option maxRecDepth 20000 in
set_option maxHeartbeats 1000000 in
theorem rprint_any (w : World) (n : Int) (hn : -9223372036854775808 ≤ n ∧ n ≤ 9223372036854775807) :
    Calls Try.prog 26 #[.int .i64 n] w fun e w' => e = .returned (.string (prnB n)) ∧ w' = w := by
  by_cases h0 : n = 0
  · subst h0
    go_enter Try.func26, Try.ntmps26
    go_wp2_with fail
    go_ret
    exact ⟨by rw [show prnB 0 = { data := #[48] } from by unfold prnB prnL; rw [if_neg (by decide), digL_small (by decide)]; rfl]; rfl, rfl⟩ -- fixed0
  have f0 : (n == 0) = false := by simp; omega
  have HN := Lib.hid (And.intro hn h0)
  clear h0
  by_cases hneg : n < 0
  · have d1 : decide (n < 0) = true := decide_eq_true hneg
    have hnn : n ≤ 0 := by omega
    go_enter Try.func26, Try.ntmps26
    go_wp2_with fail
    go_loop [0, 3] (fun v0 v3 => ∃ (m : Nat) (L : List UInt8), v0 = .int .i64 (-(m : Int)) ∧ v3 = .string ⟨L.toArray⟩ ∧ digL n.natAbs = tailL m ++ L ∧ m ≤ 9223372036854775808) (fun v0 _ => (intOf v0).natAbs)
    case atStart => exact ⟨n.natAbs, [], by congr 1; omega, rfl, by rw [tailL_pos (by have := HN.out.2; omega), List.append_nil], by have := HN.out.1; omega⟩
    case round =>
      obtain ⟨m, L, rfl, rfl, hd, hm⟩ := hrel
      have hL : L.length ≤ 20 := by
        have h2 := digL_len20 (m := n.natAbs) (by have := HN.out.1; omega)
        rw [hd, List.length_append] at h2
        omega
      have HL := Lib.hid hL
      clear hL
      by_cases hz : m = 0
      · subst hz
        have HP := Lib.hid (show prnB n = ({ data := #[45] } : ByteArray) ++ ⟨L.toArray⟩ from by
          unfold prnB prnL
          rw [hd, tailL_zero, List.nil_append]
          rw [if_pos hneg]
          exact (ByteArray.mk_append_mk [45] _).symm)
        clear hd
        generalize hS : (⟨L.toArray⟩ : ByteArray) = S at HP ⊢
        have hSz : S.size ≤ 20 := by rw [← hS]; exact HL.out
        clear hS
        have hS1 := run_string_add_sum (P := Try.prog) w { data := #[45] } S (by show 1 + S.size ≤ _; omega)
        go_wp2_with fail
        go_ret
        exact ⟨by have h := HP.out; rw [h]; rfl, rfl⟩
      · have hd2 : digL n.natAbs = tailL (m / 10) ++ (UInt8.ofNat (48 + m % 10) :: L) := by rw [hd, tailL_step hz, List.append_assoc]; rfl
        obtain ⟨h, d, rfl, hd10⟩ : ∃ h d, m = 10 * h + d ∧ d < 10 := ⟨m / 10, m % 10, by omega, by omega⟩
        rw [show (10 * h + d) / 10 = h by omega, show (10 * h + d) % 10 = d by omega] at hd2
        have HD := Lib.hid hd2
        have hds := digit_slice d hd10 w
        have HB := Lib.hid (show (⟨#[UInt8.ofNat (48 + d)]⟩ : ByteArray) ++ ⟨L.toArray⟩ = ⟨(UInt8.ofNat (48 + d) :: L).toArray⟩ from ByteArray.mk_append_mk [_] _)
        clear hd hd2
        generalize hS : (⟨L.toArray⟩ : ByteArray) = S at HB ⊢
        have hSz : S.size ≤ 20 := by rw [← hS]; exact HL.out
        clear hS
        generalize hX : (⟨#[UInt8.ofNat (48 + d)]⟩ : ByteArray) = X at HB hds
        have hXz : X.size = 1 := by rw [← hX]; rfl
        clear hX
        have hS1 := run_string_add_sum (P := Try.prog) w X S (by omega)
        obtain ⟨m, hmm⟩ : ∃ m, m = 10 * h + d := ⟨_, rfl⟩
        rw [← hmm] at hz hm ⊢
        have e1 : (m : Int) % 10 = (d : Int) := by omega
        have e2 : (m : Int) / 10 = (h : Int) := by omega
        have HM := Lib.hid hmm
        clear hmm
        by_cases hd0 : d = 0
        · subst hd0
          have hds0 : (Instr.slice 9 (.string { data := #[48, 49, 50, 51, 52, 53, 54, 55, 56, 57] }) (some (.int .i64 0)) (some (.int .i64 1)) none).run Try.prog w = .ok (.string X) w := by simpa using hds
          go_wp2_with fail
          go_round
          case rel => exact ⟨h, _ :: L, rfl, congrArg Value.string HB.out, HD.out, by have := HM.out; omega⟩
          case measure => simp [intOf]; omega
        · have hdp : 0 < d := by omega
          go_wp2_with fail
          go_round
          case rel => exact ⟨h, _ :: L, rfl, congrArg Value.string HB.out, HD.out, by have := HM.out; omega⟩
          case measure => simp [intOf]; omega
  · have d1 : decide (n < 0) = false := decide_eq_false hneg
    go_enter Try.func26, Try.ntmps26
    go_wp2_with fail
    go_loop [0, 3] (fun v0 v3 => ∃ (m : Nat) (L : List UInt8), v0 = .int .i64 (m : Int) ∧ v3 = .string ⟨L.toArray⟩ ∧ digL n.natAbs = tailL m ++ L ∧ m ≤ 9223372036854775807) (fun v0 _ => (intOf v0).natAbs)
    case atStart => exact ⟨n.natAbs, [], by congr 1; omega, rfl, by rw [tailL_pos (by have := HN.out.2; omega), List.append_nil], by have := HN.out.1; omega⟩
    case round =>
      obtain ⟨m, L, rfl, rfl, hd, hm⟩ := hrel
      have hL : L.length ≤ 20 := by
        have h2 := digL_len20 (m := n.natAbs) (by have := HN.out.1; omega)
        rw [hd, List.length_append] at h2
        omega
      have HL := Lib.hid hL
      clear hL
      by_cases hz : m = 0
      · subst hz
        have HP := Lib.hid (show prnB n = ({ data := #[] } : ByteArray) ++ ⟨L.toArray⟩ from by
          unfold prnB prnL
          rw [hd, tailL_zero, List.nil_append]
          rw [if_neg (by omega)]
          exact (ByteArray.mk_append_mk [] _).symm)
        clear hd
        generalize hS : (⟨L.toArray⟩ : ByteArray) = S at HP ⊢
        have hSz : S.size ≤ 20 := by rw [← hS]; exact HL.out
        clear hS
        have hS1 := run_string_add_sum (P := Try.prog) w { data := #[] } S (by show 0 + S.size ≤ _; omega)
        go_wp2_with fail
        go_ret
        exact ⟨by have h := HP.out; rw [h]; rfl, rfl⟩
      · have hd2 : digL n.natAbs = tailL (m / 10) ++ (UInt8.ofNat (48 + m % 10) :: L) := by rw [hd, tailL_step hz, List.append_assoc]; rfl
        obtain ⟨h, d, rfl, hd10⟩ : ∃ h d, m = 10 * h + d ∧ d < 10 := ⟨m / 10, m % 10, by omega, by omega⟩
        rw [show (10 * h + d) / 10 = h by omega, show (10 * h + d) % 10 = d by omega] at hd2
        have HD := Lib.hid hd2
        have hds := digit_slice d hd10 w
        have HB := Lib.hid (show (⟨#[UInt8.ofNat (48 + d)]⟩ : ByteArray) ++ ⟨L.toArray⟩ = ⟨(UInt8.ofNat (48 + d) :: L).toArray⟩ from ByteArray.mk_append_mk [_] _)
        clear hd hd2
        generalize hS : (⟨L.toArray⟩ : ByteArray) = S at HB ⊢
        have hSz : S.size ≤ 20 := by rw [← hS]; exact HL.out
        clear hS
        generalize hX : (⟨#[UInt8.ofNat (48 + d)]⟩ : ByteArray) = X at HB hds
        have hXz : X.size = 1 := by rw [← hX]; rfl
        clear hX
        have hS1 := run_string_add_sum (P := Try.prog) w X S (by omega)
        obtain ⟨m, hmm⟩ : ∃ m, m = 10 * h + d := ⟨_, rfl⟩
        rw [← hmm] at hz hm ⊢
        have e1 : (m : Int) % 10 = (d : Int) := by omega
        have e2 : (m : Int) / 10 = (h : Int) := by omega
        have HM := Lib.hid hmm
        clear hmm
        by_cases hd0 : d = 0
        · subst hd0
          have hds0 : (Instr.slice 9 (.string { data := #[48, 49, 50, 51, 52, 53, 54, 55, 56, 57] }) (some (.int .i64 0)) (some (.int .i64 1)) none).run Try.prog w = .ok (.string X) w := by simpa using hds
          go_wp2_with fail
          go_round
          case rel => exact ⟨h, _ :: L, rfl, congrArg Value.string HB.out, HD.out, by have := HM.out; omega⟩
          case measure => simp [intOf]; omega
        · have hdp : 0 < d := by omega
          go_wp2_with fail
          go_round
          case rel => exact ⟨h, _ :: L, rfl, congrArg Value.string HB.out, HD.out, by have := HM.out; omega⟩
          case measure => simp [intOf]; omega
end Go.Proofs.Ytpmcjajgdfmaoaa
