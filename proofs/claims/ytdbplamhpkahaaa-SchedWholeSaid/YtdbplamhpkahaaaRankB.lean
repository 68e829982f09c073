import Derived.Test.YtdbplamhpkahaaaRank
import Derived.Test.YtdbplamhpkahaaaWordHiW
namespace Go.Proofs.Ytdbplamhpkahaaa
open Go.ChangeShapes Go.WideShapes Go.ChangeAt Go.RowKit
set_option linter.unusedVariables false
set_option linter.unusedSimpArgs false
theorem rkadd_t_out (w : World) (b : Nat) (t p : Int) (hh : ¬ (0 ≤ t ∧ t < 16)) :
    Calls Try.prog 12 #[.pointer (some ⟨b, 0, none⟩), .int .i64 t, .int .i64 p] w fun e w' => e = .returned (.bool false) ∧ w = w' := by
  have hb : (decide (0 ≤ t) && decide (t < 16)) = false := by
    rw [Bool.and_eq_false_iff, decide_eq_false_iff_not, decide_eq_false_iff_not]; omega
  have HB := Lib.hid hb
  clear hb hh
  go_enter Try.func12, Try.ntmps12
  go_wp2_with fail
  refine (rkhas_any _ _).mono ?_
  rintro e w' ⟨rfl, rfl⟩
  rw [HB.out]
  go_wp2
  go_ret
  exact ⟨rfl, rfl⟩
theorem rkadd_p_low (w : World) (b : Nat) (t p : Int) (hh : (0 ≤ t ∧ t < 16) ∧ p < 0) :
    Calls Try.prog 12 #[.pointer (some ⟨b, 0, none⟩), .int .i64 t, .int .i64 p] w fun e w' => e = .returned (.bool false) ∧ w = w' := by
  have hb : (decide (0 ≤ t) && decide (t < 16)) = true := by
    rw [Bool.and_eq_true, decide_eq_true_eq, decide_eq_true_eq]; omega
  have d1 : decide (p < 0) = true := decide_eq_true hh.2
  have HB := Lib.hid hb
  clear hb hh
  go_enter Try.func12, Try.ntmps12
  go_wp2_with fail
  refine (rkhas_any _ _).mono ?_
  rintro e w' ⟨rfl, rfl⟩
  rw [HB.out]
  go_wp2
  go_ret
  exact ⟨rfl, rfl⟩
theorem rkadd_p_high (w : World) (b : Nat) (t p : Int) (hh : (0 ≤ t ∧ t < 16) ∧ 32 ≤ p) :
    Calls Try.prog 12 #[.pointer (some ⟨b, 0, none⟩), .int .i64 t, .int .i64 p] w fun e w' => e = .returned (.bool false) ∧ w = w' := by
  have hb : (decide (0 ≤ t) && decide (t < 16)) = true := by
    rw [Bool.and_eq_true, decide_eq_true_eq, decide_eq_true_eq]; omega
  have d1 : decide (p < 0) = false := decide_eq_false (by omega)
  have d2 : decide (32 ≤ p) = true := decide_eq_true hh.2
  have HB := Lib.hid hb
  clear hb hh
  go_enter Try.func12, Try.ntmps12
  go_wp2_with fail
  refine (rkhas_any _ _).mono ?_
  rintro e w' ⟨rfl, rfl⟩
  rw [HB.out]
  go_wp2
  go_ret
  exact ⟨rfl, rfl⟩
theorem rkadd_there (w : World) (b : Nat) (X : Nat → Nat → Int) (m pr : Nat → Nat) (bs : Nat) (h : RkM w b X m pr bs) (t : Nat) (p : Int) (ht : t < 16) (hp : 0 ≤ p ∧ p < 32) (h0 : 0 < pr t) :
    Calls Try.prog 12 #[.pointer (some ⟨b, 0, none⟩), .int .i64 (t : Int), .int .i64 p] w fun e w' => e = .returned (.bool false) ∧ w = w' := by
  have hb : (decide ((0 : Int) ≤ (t : Int)) && decide ((t : Int) < 16)) = true := by
    rw [Bool.and_eq_true, decide_eq_true_eq, decide_eq_true_eq]; omega
  have d1 : decide (p < 0) = false := decide_eq_false (by omega)
  have d2 : decide (32 ≤ p) = false := decide_eq_false (by omega)
  have d3 : decide ((0 : Int) < (pr t : Int)) = true := decide_eq_true (by omega)
  have d4 : decide (0 < pr t) = true := decide_eq_true h0
  have d5 : (0 < pr t) = True := eq_true h0
  have HB := Lib.hid hb
  have c0 := h.prio t ht
  have lx := h.lt
  clear hb hp h0 h
  go_enter Try.func12, Try.ntmps12
  go_wp2_with fail
  refine (rkhas_any _ _).mono ?_
  rintro e w' ⟨rfl, rfl⟩
  rw [HB.out]
  go_wp2
  go_ret
  exact ⟨rfl, rfl⟩
theorem rkfirst_any (w : World) (b : Nat) (X : Nat → Nat → Int) (m pr : Nat → Nat) (bs : Nat) (h : RkM w b X m pr bs) (hbs : bs < 4294967296) (hX : bs ≠ 0 → -128 ≤ X (Lib.bitLen bs - 1) 0 ∧ X (Lib.bitLen bs - 1) 0 ≤ 127) :
    Calls Try.prog 15 #[.pointer (some ⟨b, 0, none⟩)] w fun e w' => e = .returned (.tuple #[.int .i64 (if bs = 0 then 0 else X (Lib.bitLen bs - 1) 0), .bool (decide (bs ≠ 0))]) ∧ w = w' := by
  have HBi := Lib.hid (rkbits_any w b X m pr bs h)
  have HHi := Lib.hid (high_any bs w hbs)
  have hle : Lib.bitLen bs ≤ 32 := Lib.bitLen_le bs 32 (by omega) hbs
  by_cases hz : bs = 0
  · subst hz
    have z0 : (Lib.bitLen 0 : Int) - 1 = -1 := by rfl
    clear h hX
    go_enter Try.func15, Try.ntmps15
    go_wp2_with fail
    refine HBi.out.mono ?_
    rintro e w' ⟨rfl, rfl⟩
    go_wp2_with fail
    refine HHi.out.mono ?_
    rintro e w' ⟨rfl, rfl⟩
    rw [z0]
    go_wp2
    exact bodyPost_ret (v := .tuple #[.int .i64 0, .bool false]) (by simp [results, Try.results15, go_sem, *]) rfl ⟨by simp, rfl⟩
  · have hpos : 0 < Lib.bitLen bs := by
      rcases Nat.eq_zero_or_pos (Lib.bitLen bs) with h1 | h1
      · exact absurd (by
          by_cases e : bs = 0
          · exact e
          · simp [Lib.bitLen, Lib.bitLenAux, e] at h1) hz
      · exact h1
    obtain ⟨p, hp⟩ : ∃ p, Lib.bitLen bs = p + 1 := ⟨Lib.bitLen bs - 1, by omega⟩
    have hx := hX hz
    rw [hp] at HHi hx ⊢
    have c0 := h.row p 0 (by omega) (by omega)
    rw [Nat.add_zero] at c0
    have z0 : (((p + 1 : Nat) : Int) - 1) = (p : Int) := by omega
    have lx := h.lt
    have d0 : decide ((p : Int) < 0) = false := decide_eq_false (by omega)
    have d1 : p < 32 := by omega
    have W8 : IntKind.i64.wrap (X p 0) = X p 0 := IntWalk.i64_in _ ⟨by have := hx.1; simp at this; omega, by have := hx.2; simp at this; omega⟩
    clear h hX hle hpos hp
    go_enter Try.func15, Try.ntmps15
    go_wp2_with fail
    refine HBi.out.mono ?_
    rintro e w' ⟨rfl, rfl⟩
    go_wp2_with fail
    refine HHi.out.mono ?_
    rintro e w' ⟨rfl, rfl⟩
    rw [z0]
    go_wp2
    exact bodyPost_ret (v := .tuple #[.int .i64 (X p 0), .bool true]) (by simp [results, Try.results15, go_sem, *]) rfl ⟨by simp [hz], rfl⟩
end Go.Proofs.Ytdbplamhpkahaaa
