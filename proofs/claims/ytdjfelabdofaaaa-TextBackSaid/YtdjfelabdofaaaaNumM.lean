import Derived.Test.YtdjfelabdofaaaaNumMa
import Derived.Test.YtdjfelabdofaaaaRow
namespace Go.Proofs.Ytdjfelabdofaaaa
open Go.ChangeShapes Go.WideShapes Go.ChangeAt Go.RowKit
set_option linter.unusedVariables false
set_option linter.unusedSimpArgs false
set_option maxRecDepth 20000 in
theorem rjoin_zero (w : World) (a : Option Addr) (c : Nat) (B : ByteArray) :
    Calls Try.prog 21 #[.slice a 0 c, .string B] w fun e w' => e = .returned (.string ⟨#[]⟩) ∧ w' = w := by
  go_enter Try.func21, Try.ntmps21
  go_wp2_with fail
  go_loop [5, 6] (fun s i => s = .string ⟨#[]⟩ ∧ i = .int .i64 0) (fun _ _ => 0)
  case atStart => exact ⟨rfl, rfl⟩
  case round =>
    obtain ⟨rfl, rfl⟩ := hrel
    go_wp2
    go_ret
    exact ⟨rfl, rfl⟩
set_option maxRecDepth 20000 in
set_option maxHeartbeats 1000000 in
theorem rjoin_some (w : World) (g o n c : Nat) (F : Nat → Int) (b : List UInt8) (hn : n ≤ 1000) (hb : b.length ≤ 1000) (hF : ∀ i, i < n → -9223372036854775808 ≤ F i ∧ F i ≤ 9223372036854775807)
    (hc : ∀ i, i < n → w.cell? ⟨g, o + i, none⟩ = some (.int .i64 (F i))) :
    Calls Try.prog 21 #[.slice (some ⟨g, o, none⟩) n c, .string ⟨b.toArray⟩] w fun e w' => e = .returned (.string ⟨(joinN b F n).toArray⟩) ∧ w' = w := by
  have HC := Lib.hid hc
  have HP := Lib.hid (fun k (hk : k < n) => rprint_any w (F k) (hF k hk))
  have HL := Lib.hid (fun k (hk : k ≤ n) => joinN_len b F 1000 hb k fun i hi => hF i (by omega))
  have HF := Lib.hid hF
  have hBz := str_size b
  have HA := Lib.hid (fun (x : List UInt8) => str_app x b)
  clear hc hF
  generalize (⟨b.toArray⟩ : ByteArray) = B at hBz HA ⊢
  go_enter Try.func21, Try.ntmps21
  go_wp2_with fail
  go_loop [5, 6] (fun v5 i => ∃ k : Nat, k ≤ n ∧ i = .int .i64 k ∧ v5 = .string ⟨(joinN b F k).toArray⟩) (fun _ i => n - (intOf i).toNat)
  case atStart => exact ⟨0, by omega, rfl, rfl⟩
  case round =>
    obtain ⟨k, hk, rfl, rfl⟩ := hrel
    have hLk := HL.out k hk
    have hSz := str_size (joinN b F k)
    by_cases hlt : k < n
    · have c0 := HC.out k hlt
      have hpz := prnL_len (HF.out k hlt)
      have hp := HP.out k hlt
      have hPz := str_size (prnL (F k))
      have hPB : prnB (F k) = ⟨(prnL (F k)).toArray⟩ := rfl
      by_cases h0 : k = 0
      · subst h0
        have HJ := Lib.hid (show joinN b F (0 + 1) = prnL (F 0) from rfl)
        have HPB := Lib.hid hPB
        have hS1 := run_string_add_sum (P := Try.prog) w ⟨#[]⟩ (prnB (F 0)) (by rw [hPB, hPz]; show 0 + _ ≤ _; omega)
        have e0 : (ByteArray.mk #[]) ++ prnB (F 0) = prnB (F 0) := by rw [hPB]; exact ByteArray.mk_append_mk [] _
        rw [e0] at hS1
        have HPP := Lib.hid hp
        clear hp hPB e0 hPz hSz hLk hpz
        generalize prnB (F 0) = PB at HPP hS1 HPB
        have c0 : w.cell? ⟨g, o, none⟩ = some (.int .i64 (F 0)) := c0
        have hJ0 : joinN b F 0 = [] := rfl
        rw [hJ0]
        go_wp2_with (go_at_call 22; refine HPP.out.mono ?_; rintro e1 w1 ⟨rfl, rfl⟩)
        go_round
        case rel => exact ⟨1, hlt, rfl, by rw [HPB.out, HJ.out]⟩
        case measure => simp [intOf]; omega
      · have hk0 : decide ((0 : Int) < (k : Int)) = true := decide_eq_true (by omega)
        have HJ := Lib.hid (joinN_more b F k (by omega))
        have hJz := str_size (joinN b F (k + 1))
        have hSB := HA.out (joinN b F k)
        have hSP := str_app (joinN b F k ++ b) (prnL (F k))
        have hSBz := str_size (joinN b F k ++ b)
        rw [List.length_append] at hSBz
        have HPP := Lib.hid hp
        have HPB := Lib.hid hPB
        rw [← hPB] at hSP hPz
        clear hp hPB
        generalize hS : (⟨(joinN b F k).toArray⟩ : ByteArray) = S at hSz hSB ⊢
        generalize hT : (⟨(joinN b F k ++ b).toArray⟩ : ByteArray) = T at hSB hSP hSBz
        generalize prnB (F k) = PB at HPP HPB hSP hPz
        have hS1 := run_string_add_sum (P := Try.prog) w S B (by omega)
        have hS2 := run_string_add_sum (P := Try.prog) w T PB (by omega)
        rw [hSB] at hS1
        rw [hSP] at hS2
        generalize hU : (⟨(joinN b F k ++ b ++ prnL (F k)).toArray⟩ : ByteArray) = U at hS2
        have HU := Lib.hid hU
        clear hSB hSP hS hT hU hSz hSBz hPz hJz hLk hpz
        go_wp2_with (go_at_call 22; refine HPP.out.mono ?_; rintro e1 w1 ⟨rfl, rfl⟩)
        go_round
        case rel => exact ⟨k + 1, hlt, by go_num, by rw [HJ.out, HU.out]⟩
        case measure => simp [intOf]; omega
    · obtain rfl : k = n := by omega
      clear hSz hLk
      go_wp2_with fail
      go_ret
      exact ⟨rfl, rfl⟩
end Go.Proofs.Ytdjfelabdofaaaa
