import Derived.Test.YtilbendneahikaaNumH
namespace Go.Proofs.Ytilbendneahikaa
open Go.ChangeShapes Go.WideShapes Go.ChangeAt Go.RowKit
set_option linter.unusedVariables false
set_option linter.unusedSimpArgs false
/-- A number's digits behind k blanks. -/
def blanks (k : Nat) (l : List UInt8) : List UInt8 := List.replicate k 32 ++ l
def padL (n wd : Int) : List UInt8 := blanks (min wd.toNat 64 - (prnL n).length) (prnL n)
theorem blanks_len (k : Nat) (l : List UInt8) : (blanks k l).length = k + l.length := by simp [blanks]
theorem blanks_succ (k : Nat) (l : List UInt8) : (ByteArray.mk #[32]) ++ (ByteArray.mk (blanks k l).toArray) = ByteArray.mk (blanks (k + 1) l).toArray := by
  rw [show (#[32] : Array UInt8) = [32].toArray from rfl, ByteArray.mk_append_mk]
  simp [blanks, List.replicate_succ]
set_option maxRecDepth 20000 in
set_option maxHeartbeats 1000000 in
theorem rpad_any (w : World) (n wd : Int) (hn : -9223372036854775808 ≤ n ∧ n ≤ 9223372036854775807) :
    Calls Try.prog 19 #[.int .i64 n, .int .i64 wd] w fun e w' => e = .returned (.string ⟨(padL n wd).toArray⟩) ∧ w' = w := by
  have HP := Lib.hid (rprint_any w n hn)
  have HE := Lib.hid (And.intro (show prnB n = ⟨(blanks 0 (prnL n)).toArray⟩ from rfl) (show padL n wd = blanks (min wd.toNat 64 - (prnL n).length) (prnL n) from rfl))
  have hpl := prnL_len hn
  generalize padL n wd = R at HE ⊢
  generalize prnB n = PB at HP HE
  generalize prnL n = PL at HE hpl
  go_enter Try.func19, Try.ntmps19
  go_wp2_with fail
  refine HP.out.mono ?_
  rintro e1 w1 ⟨rfl, rfl⟩
  go_wp2_with fail
  go_loop [5] (fun v5 => ∃ k : Nat, v5 = .string ⟨(blanks k PL).toArray⟩ ∧ k ≤ min wd.toNat 64 - PL.length) (fun v5 => 100 - strLen v5)
  case atStart => exact ⟨0, by rw [HE.out.1], Nat.zero_le _⟩
  case round =>
    obtain ⟨k, rfl, hk⟩ := hrel
    have hBs := str_size (blanks k PL)
    rw [blanks_len] at hBs
    have HB := Lib.hid (blanks_succ k PL)
    by_cases hlt : k + PL.length < min wd.toNat 64
    · have hS := str_size (blanks (k + 1) PL)
      rw [blanks_len] at hS
      generalize hB : (⟨(blanks k PL).toArray⟩ : ByteArray) = B at HB hBs ⊢
      have hS1 := run_string_add_sum (P := Try.prog) w1 { data := #[32] } B (by show 1 + B.size ≤ _; omega)
      rw [HB.out] at hS1
      generalize hC : (⟨(blanks (k + 1) PL).toArray⟩ : ByteArray) = C at hS1 hS
      obtain ⟨m, hm⟩ : ∃ m, m = k + PL.length := ⟨_, rfl⟩
      rw [← hm] at hBs
      have g1 : decide ((m : Int) < wd) = true := decide_eq_true (by omega)
      have g2 : decide ((m : Int) < 64) = true := decide_eq_true (by omega)
      have HC := Lib.hid (And.intro hC (And.intro hm (And.intro hk (And.intro hlt hS))))
      clear hC hm hk hlt hS hpl
      go_wp2_with fail
      go_round
      case rel => exact ⟨k + 1, by rw [HC.out.1], by have := HC.out.2.2.2.1; omega⟩
      case measure => have := HC.out; show 100 - C.size < 100 - B.size; omega
    · have HR := Lib.hid (show R = blanks k PL from by rw [HE.out.2, show min wd.toNat 64 - PL.length = k by omega])
      generalize hB : (⟨(blanks k PL).toArray⟩ : ByteArray) = B at HB hBs ⊢
      have HB2 := Lib.hid hB
      clear hB
      obtain ⟨m, hm⟩ : ∃ m, m = k + PL.length := ⟨_, rfl⟩
      rw [← hm] at hBs
      by_cases h1 : (m : Int) < wd
      · have g1 : decide ((m : Int) < wd) = true := decide_eq_true h1
        have g2 : decide ((m : Int) < 64) = false := decide_eq_false (by omega)
        clear hk hlt hm hpl
        go_wp2_with fail
        go_ret
        exact ⟨by rw [HR.out, HB2.out]; rfl, rfl⟩
      · have g1 : decide ((m : Int) < wd) = false := decide_eq_false h1
        clear hk hlt hm hpl
        go_wp2_with fail
        go_ret
        exact ⟨by rw [HR.out, HB2.out]; rfl, rfl⟩
end Go.Proofs.Ytilbendneahikaa
