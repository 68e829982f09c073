import Derived.Test.YtccjbgjemfcedaaNumI
import Derived.Test.YtccjbgjemfcedaaOpen
import Derived.ChangeMaps5
namespace Go.Proofs.Ytccjbgjemfcedaa
open Go.ChangeShapes Go.WideShapes Go.ChangeAt Go.RowKit
set_option linter.unusedVariables false
set_option linter.unusedSimpArgs false
set_option maxRecDepth 20000 in
set_option maxHeartbeats 1000000 in
theorem reads_any (w : World) (n : Int) (l : List UInt8) (a b : Int) (hn : -9223372036854775808 ≤ n ∧ n ≤ 9223372036854775807) (ha : -9223372036854775808 ≤ a ∧ a ≤ 9223372036854775807) (hb : -9223372036854775808 ≤ b ∧ b ≤ 9223372036854775807) (hlm : l.length ≤ maxLen) :
    Calls Try.prog 3 #[.int .i64 n, .string ⟨l.toArray⟩, .int .i64 a, .int .i64 b] w fun e w' => e = .returned (.bool true) ∧ Below w.heap.size w w' := by
  unfold maxLen at hlm
  have hBs := str_size l
  by_cases hl : 60 < l.length
  · generalize (⟨l.toArray⟩ : ByteArray) = B at hBs ⊢
    have hB6 : decide (60 < (l.length : Int)) = true := decide_eq_true (by omega)
    go_enter Try.func3, Try.ntmps3
    go_wp2_with fail
    refine (alive01_any _).mono ?_
    rintro e1 w1 ⟨rfl, k1⟩
    have HK := Lib.hid k1
    clear k1
    go_wp2_with fail
    go_ret
    exact ⟨rfl, HK.out⟩
  · have hl2 : l.length < 1000000 := by omega
    have HP := Lib.hid (fun w => parse_any w l hl2 a b ha hb)
    have HR := Lib.hid (fun w => rparse_any w l hl2 a b)
    have HW := Lib.hid (fun w => word_any w l hl2)
    have HV := Lib.hid (fun w => rword_any w l hl2)
    have hB6 : decide (60 < (l.length : Int)) = false := decide_eq_false (by omega)
    generalize (⟨l.toArray⟩ : ByteArray) = B at hBs HP HR HW HV ⊢
    generalize (parP l a b).1 = x1 at *
    generalize (parP l a b).2 = x2 at *
    generalize (parP l 0 4294967295).1 = y1 at *
    generalize (parP l 0 4294967295).2 = y2 at *
    have HQ := Lib.hid (fun w => print_any w n hn)
    have HS := Lib.hid (fun w => rprint_any w n hn)
    generalize prnB n = PB at HQ HS
    go_enter Try.func3, Try.ntmps3
    go_wp2_with fail
    refine (HP.out _).mono ?_
    rintro e1 w1 ⟨rfl, k1⟩
    replace k1 := Lib.hid k1.none
    go_wp2_with fail
    refine (HR.out _).mono ?_
    rintro e2 w2 ⟨rfl, hw2⟩
    have hw2' := hw2.symm
    subst hw2'
    go_wp2_with fail
    refine (HW.out _).mono ?_
    rintro e3 w3 ⟨rfl, k3⟩
    replace k3 := Lib.hid (k1.out.trans (k3.none.mono k1.out.size))
    go_wp2_with fail
    refine (HV.out _).mono ?_
    rintro e4 w4 ⟨rfl, hw4⟩
    have hw4' := hw4.symm
    subst hw4'
    go_wp2_with fail
    refine (HQ.out _).mono ?_
    rintro e5 w5 ⟨rfl, k5⟩
    replace k5 := Lib.hid (k3.out.trans (k5.none.mono k3.out.size))
    go_wp2_with fail
    refine (HS.out _).mono ?_
    rintro e6 w6 ⟨rfl, hw6⟩
    have hw6' := hw6.symm
    subst hw6'
    go_wp2_with fail
    refine (alive01_any _).mono ?_
    rintro e7 w7 ⟨rfl, k7⟩
    replace k7 := Lib.hid (k5.out.trans (k7.mono k5.out.size))
    go_wp2_with fail
    go_ret
    exact ⟨rfl, k7.out⟩
set_option maxRecDepth 100000 in
theorem numReads_walk {H : Type} {enc : TypeId × Value → H} (W : World) (base : Nat) {v0 v1 v2 v3 : Value} {d0 d1 d2 d3 : DataW H} {p0 p1 p2 p3 : List MemPlace}
    (k0 : Value.okWide Try.prog W .any base 3 v0) (h0 : DataW.Trod enc Try.prog W 0 (fun _ => true) true 3 v0 d0 p0)
    (k1 : Value.okWide Try.prog W .any base 9 v1) (h1 : DataW.Trod enc Try.prog W 0 (fun _ => true) true 9 v1 d1 p1)
    (k2 : Value.okWide Try.prog W .any base 3 v2) (h2 : DataW.Trod enc Try.prog W 0 (fun _ => true) true 3 v2 d2 p2)
    (k3 : Value.okWide Try.prog W .any base 3 v3) (h3 : DataW.Trod enc Try.prog W 0 (fun _ => true) true 3 v3 d3 p3) :
    Calls Try.prog 3 #[v0, v1, v2, v3] W fun e w' => e = .returned (.bool true) ∧ Below W.heap.size W w' := by
  obtain ⟨n, rfl, _, _, wn⟩ := open_int Try.underlying3 k0 h0
  obtain ⟨s, rfl, _, _, hs⟩ := Go.ChangeMaps.open_string Try.underlying9 k1 h1
  obtain ⟨a, rfl, _, _, wa⟩ := open_int Try.underlying3 k2 h2
  obtain ⟨b, rfl, _, _, wb⟩ := open_int Try.underlying3 k3 h3
  obtain ⟨l, rfl⟩ : ∃ l : List UInt8, s = ⟨l.toArray⟩ := ⟨s.data.toList, by apply ByteArray.ext; simp⟩
  rw [str_size] at hs
  exact reads_any W n l a b (bounds_i64 wn) (bounds_i64 wa) (bounds_i64 wb) hs
end Go.Proofs.Ytccjbgjemfcedaa
