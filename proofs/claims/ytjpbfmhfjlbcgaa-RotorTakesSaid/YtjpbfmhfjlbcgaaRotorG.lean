import Derived.Test.YtjpbfmhfjlbcgaaRotorF
namespace Go.Proofs.Ytjpbfmhfjlbcgaa
open Go.ChangeShapes Go.WideShapes Go.ChangeAt Go.RowKit
set_option linter.unusedVariables false
set_option linter.unusedSimpArgs false
theorem order_is {a c : Int} (ha : a.natAbs ≤ 9007199254740992) (hc : c.natAbs ≤ 9007199254740992) : (FloatKind.f64.format.order (floatOfInt .f64 a) (floatOfInt .f64 c) == some .eq) = decide (a = c) := by
  have h : FloatKind.f64.format.order (floatOfInt .f64 a) (floatOfInt .f64 c) = some (compare a c) := IsF.order (plane_isF ha) (plane_isF hc)
  rw [h]
  by_cases e : a = c
  · subst e
    rw [decide_eq_true rfl, Int.compare_eq_ite_lt, if_neg (Int.lt_irrefl _), if_neg (Int.lt_irrefl _)]
    rfl
  · rw [decide_eq_false e, Int.compare_eq_ite_lt]
    by_cases h1 : a < c
    · rw [if_pos h1]; rfl
    · rw [if_neg h1, if_pos (by omega)]; rfl
theorem cx_eql (a b c d : Int) (ha : a.natAbs ≤ 1000) (hb : b.natAbs ≤ 1000) (hc : c.natAbs ≤ 1000) (hd : d.natAbs ≤ 1000) (w : World) :
    (binOp .eql 55 (cxOf a b) (cxOf c d)).run Try.prog w = .ok (.bool (decide ((a, b) = (c, d)))) w := by
  rw [run_eql_complex, order_is (by omega) (by omega), order_is (by omega) (by omega)]
  congr 2
  rw [Bool.eq_iff_iff]
  simp
theorem cx_neq (a b c d : Int) (ha : a.natAbs ≤ 1000) (hb : b.natAbs ≤ 1000) (hc : c.natAbs ≤ 1000) (hd : d.natAbs ≤ 1000) (w : World) :
    (binOp .neq 55 (cxOf a b) (cxOf c d)).run Try.prog w = .ok (.bool (!decide ((a, b) = (c, d)))) w := by
  rw [run_neq_complex, order_is (by omega) (by omega), order_is (by omega) (by omega)]
  congr 3
  rw [Bool.eq_iff_iff]
  simp
theorem cycle_any (x y a b c d p : Int) (T L : Nat) (w : World) (hL : 0 < L) (hTL : T + L ≤ 1000000000) (h : rightR x y a b c d p = true)
    (horb : ∀ i j, Mv.it p ⟨a, b, c, d⟩ i (x, y) = Mv.it p ⟨a, b, c, d⟩ j (x, y) ↔ (i = j ∨ (T ≤ i ∧ T ≤ j) ∧ i % L = j % L)) :
    Calls Try.prog 17 #[.agg (rCells x y a b c d p)] w fun e w' => e = .returned (.tuple #[.int .i64 (T : Int), .int .i64 (L : Int), .bool true]) ∧ Keeps (fun _ => False) w w' := by
  obtain ⟨⟨hp1, hp2⟩, hx, hy, ha, hb, hc, hd⟩ := rightR_bds h
  have hi := fun i => Mv.it_in p ⟨a, b, c, d⟩ i (x, y) (by omega) ⟨hx, hy⟩
  obtain ⟨Z, hZ⟩ : ∃ Z : Nat → Int × Int, Z = fun i => Mv.it p ⟨a, b, c, d⟩ i (x, y) := ⟨_, rfl⟩
  have hZi : ∀ i, InP p (Z i) := fun i => by rw [hZ]; exact hi i
  have hn1 : ∀ i, (Z i).1.natAbs ≤ 1000 := fun i => by have := (hZi i).1; omega
  have hn2 : ∀ i, (Z i).2.natAbs ≤ 1000 := fun i => by have := (hZi i).2; omega
  have ho : ∀ i j, decide (((Z i).1, (Z i).2) = ((Z j).1, (Z j).2)) = orb T L i j := fun i j => by
    rw [Bool.eq_iff_iff]
    unfold orb
    rw [decide_eq_true_eq, decide_eq_true_eq]
    have := horb i j
    rw [hZ]
    exact this
  refine cycle_words x y a b c d p w (floatOfInt .f64 a) (floatOfInt .f64 b) (floatOfInt .f64 c) (floatOfInt .f64 d) (fun i => floatOfInt .f64 (Z i).1) (fun i => floatOfInt .f64 (Z i).2) T L hL hTL h (fun w => rone_any x y a b c d p w) (fun w => ?_) (fun PB i w hR => ?_) (fun i j w => ?_) (fun i j w => ?_)
  · have e : Z 0 = (x, y) := by rw [hZ]; rfl
    rw [e]
    exact rplane_any x y w
  · have e : Z (i + 1) = (((Z i).1 * a - (Z i).2 * b + c) % p, ((Z i).1 * b + (Z i).2 * a + d) % p) := by rw [hZ]; rfl
    simp only [e]
    have h1 := (hZi i).1
    have h2 := (hZi i).2
    exact rof_any a b c d (Z i).1 (Z i).2 p PB w (by omega) (by omega) (by omega) (by omega) (by omega) (by omega) ⟨by omega, by omega⟩ hR
  · rw [← ho i j]
    exact cx_eql _ _ _ _ (hn1 i) (hn2 i) (hn1 j) (hn2 j) w
  · rw [← ho i j]
    exact cx_neq _ _ _ _ (hn1 i) (hn2 i) (hn1 j) (hn2 j) w
theorem Mv.it_add (p : Int) (m : Mv) (i j : Nat) (z : Int × Int) : m.it p (i + j) z = m.it p i (m.it p j z) := by
  induction i with
  | zero => rw [Nat.zero_add]; rfl
  | succ i ih => rw [show i + 1 + j = i + j + 1 by omega, Mv.it, ih, Mv.it]
theorem four_it (i : Nat) : Mv.it 3 ⟨0, 1, 0, 0⟩ i (1, 0) = Mv.it 3 ⟨0, 1, 0, 0⟩ (i % 4) (1, 0) := by
  induction i using Nat.strongRecOn with
  | _ i ih =>
    by_cases h : i < 4
    · rw [Nat.mod_eq_of_lt h]
    · have e : i = (i - 4) + 4 := by omega
      have h4 : Mv.it 3 ⟨0, 1, 0, 0⟩ 4 (1, 0) = (1, 0) := by decide
      have e2 : i % 4 = (i - 4) % 4 := by omega
      rw [e2, ← ih (i - 4) (by omega)]
      conv => lhs; rw [e, Mv.it_add, h4]
theorem four_orb (i j : Nat) : Mv.it 3 ⟨0, 1, 0, 0⟩ i (1, 0) = Mv.it 3 ⟨0, 1, 0, 0⟩ j (1, 0) ↔ (i = j ∨ (0 ≤ i ∧ 0 ≤ j) ∧ i % 4 = j % 4) := by
  have key : ∀ i j : Fin 4, Mv.it 3 ⟨0, 1, 0, 0⟩ i.val (1, 0) = Mv.it 3 ⟨0, 1, 0, 0⟩ j.val (1, 0) → i = j := by decide
  constructor
  · intro h
    rw [four_it i, four_it j] at h
    have := key ⟨i % 4, Nat.mod_lt _ (by omega)⟩ ⟨j % 4, Nat.mod_lt _ (by omega)⟩ h
    exact .inr ⟨⟨Nat.zero_le _, Nat.zero_le _⟩, congrArg Fin.val this⟩
  · rintro (h | ⟨_, h⟩)
    · rw [h]
    · rw [four_it i, four_it j, h]
theorem alive05_any (w : World) :
    Calls Try.prog 6 #[] w fun e w' => e = .returned (.bool true) ∧ Keeps (fun _ => False) w w' := by
  have HC := Lib.hid (fun w => cycle_any 1 0 0 1 0 0 3 0 4 w (by decide) (by decide) (by decide) four_orb)
  go_enter Try.func6, Try.ntmps6
  go_wp2_with fail
  refine (HC.out _).mono ?_
  rintro e w1 ⟨rfl, k1⟩
  go_wp2
  go_ret
  exact ⟨rfl, k1⟩
end Go.Proofs.Ytjpbfmhfjlbcgaa
