import Derived.Test.YtdnppkihpddlhaaBdC
import Derived.BigRegion
namespace Go.Proofs.Ytdnppkihpddlhaa
open Go.ChangeShapes Go.WideShapes Go.ChangeAt Go.RowKit
set_option linter.unusedVariables false
set_option linter.unusedSimpArgs false
set_option maxRecDepth 100000
def ringA (k : Int) (p : Nat → Int) : Int := if k = 1 ∨ k = 2 then p 3 + 3 else 0
def fourA (k : Int) (p : Nat → Int) : Int := if k = 3 then p 3 + 4 else if k = 4 then p 3 + 3 else 0
def lockA (k : Int) (p : Nat → Int) : Int := if k = 3 then p 3 + 3 else if k = 6 then (p 3 + 2) * p 4 + (p 3 + 2) else if k = 5 then p 3 + 2 else 0
def flagA (k : Int) : Int := if k = 7 ∨ k = 8 ∨ k = 9 ∨ k = 16 ∨ k = 17 then 1 else 0
def actsP (k : Int) (p : Nat → Int) : Int := if p 0 = 1 then ringA k p else if p 0 = 2 then fourA k p else if p 0 = 3 then lockA k p else flagA k
set_option maxHeartbeats 4000000 in
theorem ringA_any (k : Int) (p : Nat → Int) (hw : 0 ≤ p 3 ∧ p 3 ≤ 4) (hr : 0 ≤ p 4 ∧ p 4 ≤ 8) (w : World) : Calls Try.prog 17 #[.int .i64 k, .agg (plC p)] w fun e w' => e = .returned (.int .i64 (ringA k p)) ∧ Keeps (fun _ => False) w w' := by
  have HC := Lib.hid (five_cells (heap_new w (.cells (plC p) 41)))
  have hl := lt_of (heap_new w (.cells (plC p) 41))
  have HK := Lib.hid ((Keeps.refl (fun _ => False) w).alloc (.cells (plC p) 41))
  by_cases h1 : k = 1
  · subst h1
    obtain ⟨c0, c1, c2, c3, c4⟩ := HC.out
    have w3 : wrap64 (p 3 + 3) = p 3 + 3 := IntWalk.wrap64_in _ ⟨by omega, by omega⟩
    clear hw hr
    go_enter Try.func17, Try.ntmps17
    go_wp2_with fail
    go_ret
    exact ⟨by first | rfl | (simp [ringA, fourA, lockA, flagA] <;> done) | (simp [ringA, fourA, lockA, flagA]; omega), HK.out⟩
  by_cases h2 : k = 2
  · subst h2
    obtain ⟨c0, c1, c2, c3, c4⟩ := HC.out
    have w3 : wrap64 (p 3 + 3) = p 3 + 3 := IntWalk.wrap64_in _ ⟨by omega, by omega⟩
    clear hw hr
    go_enter Try.func17, Try.ntmps17
    go_wp2_with fail
    go_ret
    exact ⟨by first | rfl | (simp [ringA, fourA, lockA, flagA] <;> done) | (simp [ringA, fourA, lockA, flagA]; omega), HK.out⟩
  have e1 : (k == 1) = false := by rw [beq_eq_false_iff_ne]; exact h1
  have e2 : (k == 2) = false := by rw [beq_eq_false_iff_ne]; exact h2
  have HR := Lib.hid (show ringA k p = 0 from by simp [ringA, h1, h2])
  clear h1 h2
  obtain ⟨c0, c1, c2, c3, c4⟩ := HC.out
  go_enter Try.func17, Try.ntmps17
  go_wp2_with fail
  go_ret
  exact ⟨by rw [HR.out]; rfl, HK.out⟩
set_option maxHeartbeats 4000000 in
theorem fourA_any (k : Int) (p : Nat → Int) (hw : 0 ≤ p 3 ∧ p 3 ≤ 4) (hr : 0 ≤ p 4 ∧ p 4 ≤ 8) (w : World) : Calls Try.prog 18 #[.int .i64 k, .agg (plC p)] w fun e w' => e = .returned (.int .i64 (fourA k p)) ∧ Keeps (fun _ => False) w w' := by
  have HC := Lib.hid (five_cells (heap_new w (.cells (plC p) 41)))
  have hl := lt_of (heap_new w (.cells (plC p) 41))
  have HK := Lib.hid ((Keeps.refl (fun _ => False) w).alloc (.cells (plC p) 41))
  by_cases h3 : k = 3
  · subst h3
    obtain ⟨c0, c1, c2, c3, c4⟩ := HC.out
    have w3 : wrap64 (p 3 + 3) = p 3 + 3 := IntWalk.wrap64_in _ ⟨by omega, by omega⟩
    have w4 : wrap64 (1 + (p 3 + 3)) = p 3 + 4 := by rw [IntWalk.wrap64_in _ ⟨by omega, by omega⟩]; omega
    have w5 : wrap64 (0 + (p 3 + 3)) = p 3 + 3 := by rw [IntWalk.wrap64_in _ ⟨by omega, by omega⟩]; omega
    have w6 : wrap64 (p 3 + 3) = p 3 + 3 := IntWalk.wrap64_in _ ⟨by omega, by omega⟩
    clear hw hr
    go_enter Try.func18, Try.ntmps18
    go_wp2_with fail
    go_ret
    exact ⟨by first | rfl | (simp [ringA, fourA, lockA, flagA] <;> done) | (simp [ringA, fourA, lockA, flagA]; omega), HK.out⟩
  by_cases h4 : k = 4
  · subst h4
    obtain ⟨c0, c1, c2, c3, c4⟩ := HC.out
    have w3 : wrap64 (p 3 + 3) = p 3 + 3 := IntWalk.wrap64_in _ ⟨by omega, by omega⟩
    have w4 : wrap64 (1 + (p 3 + 3)) = p 3 + 4 := by rw [IntWalk.wrap64_in _ ⟨by omega, by omega⟩]; omega
    have w5 : wrap64 (0 + (p 3 + 3)) = p 3 + 3 := by rw [IntWalk.wrap64_in _ ⟨by omega, by omega⟩]; omega
    have w6 : wrap64 (p 3 + 3) = p 3 + 3 := IntWalk.wrap64_in _ ⟨by omega, by omega⟩
    clear hw hr
    go_enter Try.func18, Try.ntmps18
    go_wp2_with fail
    go_ret
    exact ⟨by first | rfl | (simp [ringA, fourA, lockA, flagA] <;> done) | (simp [ringA, fourA, lockA, flagA]; omega), HK.out⟩
  have e3 : (k == 3) = false := by rw [beq_eq_false_iff_ne]; exact h3
  have e4 : (k == 4) = false := by rw [beq_eq_false_iff_ne]; exact h4
  have HR := Lib.hid (show fourA k p = 0 from by simp [fourA, h3, h4])
  clear h3 h4
  obtain ⟨c0, c1, c2, c3, c4⟩ := HC.out
  go_enter Try.func18, Try.ntmps18
  go_wp2_with fail
  go_ret
  exact ⟨by rw [HR.out]; rfl, HK.out⟩
set_option maxHeartbeats 4000000 in
theorem flagA_any (k : Int) (w : World) : Calls Try.prog 20 #[.int .i64 k] w fun e w' => e = .returned (.int .i64 (flagA k)) ∧ Keeps (fun _ => False) w w' := by
  by_cases h7 : k = 7
  · subst h7
    go_enter Try.func20, Try.ntmps20
    go_wp2_with fail
    go_ret
    exact ⟨by first | rfl | (simp [ringA, fourA, lockA, flagA] <;> done) | (simp [ringA, fourA, lockA, flagA]; omega), Keeps.refl _ _⟩
  by_cases h8 : k = 8
  · subst h8
    go_enter Try.func20, Try.ntmps20
    go_wp2_with fail
    go_ret
    exact ⟨by first | rfl | (simp [ringA, fourA, lockA, flagA] <;> done) | (simp [ringA, fourA, lockA, flagA]; omega), Keeps.refl _ _⟩
  by_cases h9 : k = 9
  · subst h9
    go_enter Try.func20, Try.ntmps20
    go_wp2_with fail
    go_ret
    exact ⟨by first | rfl | (simp [ringA, fourA, lockA, flagA] <;> done) | (simp [ringA, fourA, lockA, flagA]; omega), Keeps.refl _ _⟩
  by_cases h16 : k = 16
  · subst h16
    go_enter Try.func20, Try.ntmps20
    go_wp2_with fail
    go_ret
    exact ⟨by first | rfl | (simp [ringA, fourA, lockA, flagA] <;> done) | (simp [ringA, fourA, lockA, flagA]; omega), Keeps.refl _ _⟩
  by_cases h17 : k = 17
  · subst h17
    go_enter Try.func20, Try.ntmps20
    go_wp2_with fail
    go_ret
    exact ⟨by first | rfl | (simp [ringA, fourA, lockA, flagA] <;> done) | (simp [ringA, fourA, lockA, flagA]; omega), Keeps.refl _ _⟩
  have e7 : (k == 7) = false := by rw [beq_eq_false_iff_ne]; exact h7
  have e8 : (k == 8) = false := by rw [beq_eq_false_iff_ne]; exact h8
  have e9 : (k == 9) = false := by rw [beq_eq_false_iff_ne]; exact h9
  have e16 : (k == 16) = false := by rw [beq_eq_false_iff_ne]; exact h16
  have e17 : (k == 17) = false := by rw [beq_eq_false_iff_ne]; exact h17
  have HR := Lib.hid (show flagA k = 0 from by simp [flagA, h7, h8, h9, h16, h17])
  clear h7 h8 h9 h16 h17
  go_enter Try.func20, Try.ntmps20
  go_wp2_with fail
  go_ret
  exact ⟨by rw [HR.out]; rfl, Keeps.refl _ _⟩
set_option maxHeartbeats 4000000 in
theorem lockA_any (k : Int) (p : Nat → Int) (hw : 0 ≤ p 3 ∧ p 3 ≤ 4) (hr : 0 ≤ p 4 ∧ p 4 ≤ 8) (w : World) : Calls Try.prog 19 #[.int .i64 k, .agg (plC p)] w fun e w' => e = .returned (.int .i64 (lockA k p)) ∧ Keeps (fun _ => False) w w' := by
  have HC := Lib.hid (five_cells (heap_new w (.cells (plC p) 41)))
  have hl := lt_of (heap_new w (.cells (plC p) 41))
  have HK := Lib.hid ((Keeps.refl (fun _ => False) w).alloc (.cells (plC p) 41))
  by_cases h3 : k = 3
  · subst h3
    obtain ⟨c0, c1, c2, c3, c4⟩ := HC.out
    have m0 : 0 ≤ (p 3 + 2) * p 4 := Int.mul_nonneg (by omega) hr.1
    have m1 : (p 3 + 2) * p 4 ≤ 6 * 8 := Int.mul_le_mul (by omega) hr.2 hr.1 (by omega)
    have w3 : wrap64 (p 3 + 3) = p 3 + 3 := IntWalk.wrap64_in _ ⟨by omega, by omega⟩
    have w2 : wrap64 (p 3 + 2) = p 3 + 2 := IntWalk.wrap64_in _ ⟨by omega, by omega⟩
    have wm : wrap64 ((p 3 + 2) * p 4) = (p 3 + 2) * p 4 := IntWalk.wrap64_in _ ⟨by omega, by omega⟩
    have ws : wrap64 ((p 3 + 2) * p 4 + (p 3 + 2)) = (p 3 + 2) * p 4 + (p 3 + 2) := IntWalk.wrap64_in _ ⟨by omega, by omega⟩
    clear hw hr m0 m1
    go_enter Try.func19, Try.ntmps19
    go_wp2_with fail
    go_ret
    exact ⟨by first | rfl | (simp [ringA, fourA, lockA, flagA] <;> done) | (simp [ringA, fourA, lockA, flagA]; omega), HK.out⟩
  by_cases h6 : k = 6
  · subst h6
    obtain ⟨c0, c1, c2, c3, c4⟩ := HC.out
    have m0 : 0 ≤ (p 3 + 2) * p 4 := Int.mul_nonneg (by omega) hr.1
    have m1 : (p 3 + 2) * p 4 ≤ 6 * 8 := Int.mul_le_mul (by omega) hr.2 hr.1 (by omega)
    have w3 : wrap64 (p 3 + 3) = p 3 + 3 := IntWalk.wrap64_in _ ⟨by omega, by omega⟩
    have w2 : wrap64 (p 3 + 2) = p 3 + 2 := IntWalk.wrap64_in _ ⟨by omega, by omega⟩
    have wm : wrap64 ((p 3 + 2) * p 4) = (p 3 + 2) * p 4 := IntWalk.wrap64_in _ ⟨by omega, by omega⟩
    have ws : wrap64 ((p 3 + 2) * p 4 + (p 3 + 2)) = (p 3 + 2) * p 4 + (p 3 + 2) := IntWalk.wrap64_in _ ⟨by omega, by omega⟩
    clear hw hr m0 m1
    go_enter Try.func19, Try.ntmps19
    go_wp2_with fail
    go_ret
    exact ⟨by first | rfl | (simp [ringA, fourA, lockA, flagA] <;> done) | (simp [ringA, fourA, lockA, flagA]; omega), HK.out⟩
  by_cases h5 : k = 5
  · subst h5
    obtain ⟨c0, c1, c2, c3, c4⟩ := HC.out
    have m0 : 0 ≤ (p 3 + 2) * p 4 := Int.mul_nonneg (by omega) hr.1
    have m1 : (p 3 + 2) * p 4 ≤ 6 * 8 := Int.mul_le_mul (by omega) hr.2 hr.1 (by omega)
    have w3 : wrap64 (p 3 + 3) = p 3 + 3 := IntWalk.wrap64_in _ ⟨by omega, by omega⟩
    have w2 : wrap64 (p 3 + 2) = p 3 + 2 := IntWalk.wrap64_in _ ⟨by omega, by omega⟩
    have wm : wrap64 ((p 3 + 2) * p 4) = (p 3 + 2) * p 4 := IntWalk.wrap64_in _ ⟨by omega, by omega⟩
    have ws : wrap64 ((p 3 + 2) * p 4 + (p 3 + 2)) = (p 3 + 2) * p 4 + (p 3 + 2) := IntWalk.wrap64_in _ ⟨by omega, by omega⟩
    clear hw hr m0 m1
    go_enter Try.func19, Try.ntmps19
    go_wp2_with fail
    go_ret
    exact ⟨by first | rfl | (simp [ringA, fourA, lockA, flagA] <;> done) | (simp [ringA, fourA, lockA, flagA]; omega), HK.out⟩
  have e3 : (k == 3) = false := by rw [beq_eq_false_iff_ne]; exact h3
  have e6 : (k == 6) = false := by rw [beq_eq_false_iff_ne]; exact h6
  have e5 : (k == 5) = false := by rw [beq_eq_false_iff_ne]; exact h5
  have HR := Lib.hid (show lockA k p = 0 from by simp [lockA, h3, h6, h5])
  clear h3 h6 h5
  obtain ⟨c0, c1, c2, c3, c4⟩ := HC.out
  go_enter Try.func19, Try.ntmps19
  go_wp2_with fail
  go_ret
  exact ⟨by rw [HR.out]; rfl, HK.out⟩
theorem acts_nums {p : Nat → Int} (h : rightS (oOf p) = true) : 1 ≤ p 0 ∧ p 0 ≤ 4 ∧ 0 ≤ p 3 ∧ p 3 ≤ 4 ∧ 0 ≤ p 4 ∧ p 4 ≤ 8 := by
  have h1 := right_nums h
  have e0 : oOf p 0 = p 0 := rfl
  have e2 : oOf p 2 = p 3 := rfl
  have e3 : oOf p 3 = p 4 := rfl
  rw [e0, e2] at h1
  have h2 : 0 ≤ p 4 ∧ p 4 ≤ 8 := by
    unfold rightS at h
    simp only [Bool.and_eq_true] at h
    have h5 := h.2.2.2
    rw [e0, e3] at h5
    split at h5
    · simp only [Bool.and_eq_true, decide_eq_true_eq] at h5; exact h5
    · have : p 4 = 0 := by simpa using h5
      omega
  refine ⟨h1.1, h1.2.1, ?_, ?_, h2.1, h2.2⟩ <;> by_cases e : p 0 = 4
  · have := h1.2.2.2.2.1 e; omega
  · have := h1.2.2.2.2.2 e; omega
  · have := h1.2.2.2.2.1 e; omega
  · have := h1.2.2.2.2.2 e; omega
set_option maxHeartbeats 4000000 in
theorem acts_any (k : Int) (p : Nat → Int) (w : World) (h : rightS (oOf p) = true) :
    Calls Try.prog 9 #[.int .i64 k, .agg (plC p)] w fun e w' => e = .returned (.int .i64 (actsP k p)) ∧ Keeps (fun _ => False) w w' := by
  obtain ⟨n0, n1, n2, n3, n4, n5⟩ := acts_nums h
  have hb : -9223372036854775808 ≤ oOf p 1 ∧ oOf p 1 ≤ 9223372036854775807 := by
    by_cases e : oOf p 0 = 1
    · have := (right_nums h).2.2.1 e; omega
    · have := (right_nums h).2.2.2.1 e; omega
  have hr := fun W => right_any (oOf p) (fun _ => 0) W hb
  rw [h] at hr
  have HR := Lib.hid hr
  have HB := Lib.hid ((Has.start w).alloc (.cells (plC p) 41))
  have HA := Lib.hid (fun W => ringA_any k p ⟨n2, n3⟩ ⟨n4, n5⟩ W)
  have HF := Lib.hid (fun W => fourA_any k p ⟨n2, n3⟩ ⟨n4, n5⟩ W)
  have HL := Lib.hid (fun W => lockA_any k p ⟨n2, n3⟩ ⟨n4, n5⟩ W)
  have HG := Lib.hid (fun W => flagA_any k W)
  have hc := HB.out.at 0 rfl
  have ll := lt_of hc
  obtain ⟨c0, c1, c2, c3, c4⟩ := five_cells hc
  clear hr hb h hc
  by_cases h1 : p 0 = 1
  · have e1 : (p 0 == 1) = true := by rw [h1]; rfl
    have HN := Lib.hid h1
    clear n0 n1 n2 n3 n4 n5 h1
    go_enter Try.func9, Try.ntmps9
    go_wp2_with fail
    refine (HR.out _).mono ?_
    rintro e w1 ⟨rfl, k1⟩
    replace HB := Lib.hid (HB.out.none k1)
    clear k1 c0 c1 c2 c3 c4
    obtain ⟨c0, c1, c2, c3, c4⟩ := five_cells (HB.out.at 0 rfl)
    have lx := lt_of (HB.out.at 0 rfl)
    go_wp2_with fail
    refine (HA.out _).mono ?_
    rintro e w2 ⟨rfl, k2⟩
    replace HB := Lib.hid (HB.out.none k2)
    clear k2 c0 c1 c2 c3 c4
    go_wp2_with fail
    go_ret
    exact ⟨by simp [actsP, HN.out], HB.out.keeps⟩
  by_cases h2 : p 0 = 2
  · have e1 : (p 0 == 1) = false := by rw [h2]; rfl
    have e2 : (p 0 == 2) = true := by rw [h2]; rfl
    have HN := Lib.hid h2
    clear n0 n1 n2 n3 n4 n5 h1 h2
    go_enter Try.func9, Try.ntmps9
    go_wp2_with fail
    refine (HR.out _).mono ?_
    rintro e w1 ⟨rfl, k1⟩
    replace HB := Lib.hid (HB.out.none k1)
    clear k1 c0 c1 c2 c3 c4
    obtain ⟨c0, c1, c2, c3, c4⟩ := five_cells (HB.out.at 0 rfl)
    have lx := lt_of (HB.out.at 0 rfl)
    go_wp2_with fail
    refine (HF.out _).mono ?_
    rintro e w2 ⟨rfl, k2⟩
    replace HB := Lib.hid (HB.out.none k2)
    clear k2 c0 c1 c2 c3 c4
    go_wp2_with fail
    go_ret
    exact ⟨by simp [actsP, HN.out], HB.out.keeps⟩
  by_cases h3 : p 0 = 3
  · have e1 : (p 0 == 1) = false := by rw [h3]; rfl
    have e2 : (p 0 == 2) = false := by rw [h3]; rfl
    have e3 : (p 0 == 3) = true := by rw [h3]; rfl
    have HN := Lib.hid h3
    clear n0 n1 n2 n3 n4 n5 h1 h2 h3
    go_enter Try.func9, Try.ntmps9
    go_wp2_with fail
    refine (HR.out _).mono ?_
    rintro e w1 ⟨rfl, k1⟩
    replace HB := Lib.hid (HB.out.none k1)
    clear k1 c0 c1 c2 c3 c4
    obtain ⟨c0, c1, c2, c3, c4⟩ := five_cells (HB.out.at 0 rfl)
    have lx := lt_of (HB.out.at 0 rfl)
    go_wp2_with fail
    refine (HL.out _).mono ?_
    rintro e w2 ⟨rfl, k2⟩
    replace HB := Lib.hid (HB.out.none k2)
    clear k2 c0 c1 c2 c3 c4
    go_wp2_with fail
    go_ret
    exact ⟨by simp [actsP, HN.out], HB.out.keeps⟩
  have h4 : p 0 = 4 := by omega
  have e1 : (p 0 == 1) = false := by rw [h4]; rfl
  have e2 : (p 0 == 2) = false := by rw [h4]; rfl
  have e3 : (p 0 == 3) = false := by rw [h4]; rfl
  have HN := Lib.hid h4
  clear n0 n1 n2 n3 n4 n5 h1 h2 h3 h4
  go_enter Try.func9, Try.ntmps9
  go_wp2_with fail
  refine (HR.out _).mono ?_
  rintro e w1 ⟨rfl, k1⟩
  replace HB := Lib.hid (HB.out.none k1)
  clear k1 c0 c1 c2 c3 c4
  obtain ⟨c0, c1, c2, c3, c4⟩ := five_cells (HB.out.at 0 rfl)
  have lx := lt_of (HB.out.at 0 rfl)
  go_wp2_with fail
  refine (HG.out _).mono ?_
  rintro e w2 ⟨rfl, k2⟩
  replace HB := Lib.hid (HB.out.none k2)
  clear k2 c0 c1 c2 c3 c4
  go_wp2_with fail
  go_ret
  exact ⟨by simp [actsP, HN.out], HB.out.keeps⟩
end Go.Proofs.Ytdnppkihpddlhaa
