import Derived.Test.YtilbendneahikaaNumJ
import Derived.Test.YtilbendneahikaaShelf
namespace Go.Proofs.Ytilbendneahikaa
open Go.ChangeShapes Go.WideShapes Go.ChangeAt Go.RowKit
set_option linter.unusedVariables false
set_option linter.unusedSimpArgs false
theorem repeat_blank : ∀ c, Lib.repeatL [32] c = List.replicate c 32
  | 0 => rfl
  | c + 1 => by
    show [32] ++ Lib.repeatL [32] c = _
    rw [repeat_blank c]
    rfl
set_option maxRecDepth 20000 in
set_option maxHeartbeats 1000000 in
theorem pad_any (w : World) (n wd : Int) (hn : -9223372036854775808 ≤ n ∧ n ≤ 9223372036854775807) (hw : -9223372036854775808 ≤ wd ∧ wd ≤ 9223372036854775807) :
    Calls Try.prog 18 #[.int .i64 n, .int .i64 wd] w fun e w' => e = .returned (.string ⟨(padL n wd).toArray⟩) ∧ Below w.heap.size w w' := by
  have HP := Lib.hid (print_any w n hn)
  have hpl := prnL_len hn
  have hPz := str_size (prnL n)
  have hPB : (⟨(prnL n).toArray⟩ : ByteArray) = prnB n := rfl
  rw [hPB] at hPz
  have HE := Lib.hid (show padL n wd = blanks (min wd.toNat 64 - (prnL n).length) (prnL n) from rfl)
  have HT := Lib.hid (fun c => (show (ByteArray.mk (List.replicate c (32 : UInt8)).toArray) ++ prnB n = ⟨(blanks c (prnL n)).toArray⟩ from ByteArray.mk_append_mk _ _))
  clear hPB
  generalize padL n wd = R at HE ⊢
  generalize prnB n = PB at HP HT hPz
  generalize prnL n = PL at HE hpl HT hPz
  go_enter Try.func18, Try.ntmps18
  go_wp2_with fail
  refine HP.out.mono ?_
  rintro e1 w1 ⟨rfl, k1⟩
  have HK := Lib.hid k1.none
  clear k1
  go_wp2_with fail
  have e : max (min (max wd 0) 64 - (PL.length : Int)) 0 = ((min wd.toNat 64 - PL.length : Nat) : Int) := by omega
  rw [e]
  have hc : min wd.toNat 64 - PL.length ≤ 64 := by omega
  clear e
  generalize min wd.toNat 64 - PL.length = c at HE hc ⊢
  refine (Try.strings_Repeat ⟨#[32]⟩ c w1 (by omega) (by show 1 * c ≤ _; omega)).mono ?_
  rintro e2 w2 ⟨rfl, k2⟩
  have HK2 := Lib.hid (HK.out.trans (k2.mono HK.out.size))
  have HR := Lib.hid (show ByteArray.mk (Lib.repeatL (ByteArray.mk #[32]).data.toList c).toArray = ⟨(List.replicate c (32 : UInt8)).toArray⟩ from by rw [show (ByteArray.mk #[32]).data.toList = [32] from rfl, repeat_blank])
  rw [HR.out]
  have hS := HT.out c
  have hSz := str_size (List.replicate c (32 : UInt8))
  rw [List.length_replicate] at hSz
  have HF := Lib.hid (show (⟨R.toArray⟩ : ByteArray) = ⟨(blanks c PL).toArray⟩ from by rw [HE.out])
  clear k2
  generalize (⟨(List.replicate c (32 : UInt8)).toArray⟩ : ByteArray) = X at hS hSz ⊢
  generalize (⟨(blanks c PL).toArray⟩ : ByteArray) = Y at hS HF
  have hS1 := run_string_add_sum (P := Try.prog) w2 X PB (by omega)
  rw [hS] at hS1
  clear hS
  go_wp2_with fail
  go_ret
  exact ⟨by rw [HF.out]; rfl, HK2.out⟩
end Go.Proofs.Ytilbendneahikaa
