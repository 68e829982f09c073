import Derived.Test.YtjpbfmhfjlbcgaaRows
import Derived.Test.YtjpbfmhfjlbcgaaFloat
import Derived.Test.YtjpbfmhfjlbcgaaKeep
import Derived.Test.YtjpbfmhfjlbcgaaRet
import Derived.OpenShut
import Derived.WalkLawsBesides
import Derived.WalkSpells
import Derived.Lib.Hide
import Derived.Laws.FloatArith
import Derived.Laws.ComplexArith
import Derived.Deep.QuietTactic
import Derived.BigQuiet
import Derived.Deep.RegionHeld3
import Derived.Outline
import Derived.IntWalk
namespace Go.Proofs.Ytjpbfmhfjlbcgaa
open Go.ChangeShapes Go.WideShapes Go.ChangeAt Go.RowKit
set_option linter.unusedVariables false
theorem plane_isF {a : Int} (h : a.natAbs ≤ 9007199254740992) : IsF (floatOfInt .f64 a) a := IsF.ofInt a h
theorem run_toInt (x : Nat) (a : Int) (w : World) (hx : IsF x a) (h1 : -9223372036854775808 ≤ a) (h2 : a ≤ 9223372036854775807) :
    (convert 64 3 (.float .f64 x)).run Try.prog w = .ok (.int .i64 a) w := by
  refine run_convert_float_int w 64 3 .f64 .i64 x a (by kernel_rfl) Try.underlying3 ?_
  unfold floatToIntVal
  have e : (FloatKind.f64.decode x).toInt .zero = some a := hx.toInt
  rw [e]
  have e1 : IntKind.i64.min = -9223372036854775808 := rfl
  have e2 : IntKind.i64.max = 9223372036854775807 := rfl
  simp only [e1, e2]
  rw [if_pos ⟨h1, h2⟩]
/-- What a call leaves of two variables that were new ahead of it. -/
theorem kept2 {w w1 : World} {A B : Array Value} {E F : TypeId} (k : Keeps (fun _ => False) ((w.alloc (.cells A E)).alloc (.cells B F)) w1) :
    w1.heap[w.heap.size]? = some (.cells A E (0, 0)) ∧ w1.heap[w.heap.size + 1]? = some (.cells B F (0, 0)) ∧ Keeps (fun _ => False) w w1 :=
  ⟨k.at (heap_old (heap_new _ _) _) fun h => h, k.at (by
      have := heap_new (w.alloc (.cells A E)) (.cells B F)
      simpa using this) fun h => h, ((Keeps.refl (fun _ => False) w).alloc _ |>.alloc _).trans k⟩
/-- A variable of two cells, known whole: what the walk wants of it. -/
theorem two_cells {w : World} {b : Nat} {x y : Value} {E : TypeId} (h : w.heap[b]? = some (.cells #[x, y] E (0, 0))) :
    w.cell? ⟨b, 0, none⟩ = some x ∧ w.cell? ⟨b, 1, none⟩ = some y ∧ w.frozen? ⟨b, 0, none⟩ = false ∧ w.frozen? ⟨b, 1, none⟩ = false ∧ b < w.heap.size :=
  ⟨cell_of h 0, cell_of h 1, free_of h 0, free_of h 1, lt_of h⟩
theorem abs_mul {a b : Int} {M N : Nat} (h1 : a.natAbs ≤ M) (h2 : b.natAbs ≤ N) : (a * b).natAbs ≤ M * N := by
  rw [Int.natAbs_mul]; exact Nat.mul_le_mul h1 h2
theorem csum_is {op : BinOp} (hop : op = .add ∨ op = .sub) {x y z t : Nat} {a b c d : Int} (hx : IsF x a) (hy : IsF y b) (hz : IsF z c) (ht : IsF t d) (s : Int → Int → Int) (hs : s = if op = .add then (· + ·) else (· - ·))
    (h1 : (s a c).natAbs ≤ 9007199254740992) (h2 : (s b d).natAbs ≤ 9007199254740992) :
    ∃ re im, cSumBits op .f64 x y z t = some (re, im) ∧ IsF re (s a c) ∧ IsF im (s b d) := by
  rcases hop with rfl | rfl
  · rw [if_pos rfl] at hs
    subst hs
    obtain ⟨r, e1, f1⟩ := IsF.add hx hz h1
    obtain ⟨i, e2, f2⟩ := IsF.add hy ht h2
    refine ⟨r, i, ?_, f1, f2⟩
    show ((FloatKind.f64.format.add x z).bind fun re => (FloatKind.f64.format.add y t).bind fun im => some (re, im)) = _
    have g1 : FloatKind.f64.format.add x z = some r := e1
    have g2 : FloatKind.f64.format.add y t = some i := e2
    rw [g1, g2]; rfl
  · rw [if_neg (by decide)] at hs
    subst hs
    obtain ⟨r, e1, f1⟩ := IsF.sub hx hz h1
    obtain ⟨i, e2, f2⟩ := IsF.sub hy ht h2
    refine ⟨r, i, ?_, f1, f2⟩
    show ((FloatKind.f64.format.sub x z).bind fun re => (FloatKind.f64.format.sub y t).bind fun im => some (re, im)) = _
    have g1 : FloatKind.f64.format.sub x z = some r := e1
    have g2 : FloatKind.f64.format.sub y t = some i := e2
    rw [g1, g2]; rfl
theorem cmul_is {x y z t : Nat} {a b c d : Int} {M N : Nat} (hx : IsF x a) (hy : IsF y b) (hz : IsF z c) (ht : IsF t d) (ha : a.natAbs ≤ M) (hb : b.natAbs ≤ M) (hc : c.natAbs ≤ N) (hd : d.natAbs ≤ N) (hMN : 2 * (M * N) ≤ 9007199254740992) :
    ∃ re im, cMulBits x y z t = some (re, im) ∧ IsF re (a * c - b * d) ∧ IsF im (a * d + b * c) := by
  have p1 := abs_mul ha hc
  have p2 := abs_mul hb hd
  have p3 := abs_mul ha hd
  have p4 := abs_mul hb hc
  obtain ⟨ac, e1, f1⟩ := IsF.mul hx hz (by omega)
  obtain ⟨bd, e2, f2⟩ := IsF.mul hy ht (by omega)
  obtain ⟨re, e3, f3⟩ := IsF.sub f1 f2 (by omega)
  obtain ⟨ad, e4, f4⟩ := IsF.mul hx ht (by omega)
  obtain ⟨bc, e5, f5⟩ := IsF.mul hy hz (by omega)
  obtain ⟨im, e6, f6⟩ := IsF.add f4 f5 (by omega)
  refine ⟨re, im, ?_, f3, f6⟩
  have g1 : floatBits .mul .f64 x z = some ac := e1
  have g2 : floatBits .mul .f64 y t = some bd := e2
  have g3 : floatBits .sub .f64 ac bd = some re := e3
  have g4 : floatBits .mul .f64 x t = some ad := e4
  have g5 : floatBits .mul .f64 y z = some bc := e5
  have g6 : floatBits .add .f64 ad bc = some im := e6
  unfold cMulBits
  rw [g1, Option.bind_some, g2, Option.bind_some, g3, Option.bind_some, g4, Option.bind_some, g5, Option.bind_some, g6, Option.bind_some]
open Ieee in
theorem read_flip (x : Nat) (hx : x < 18446744073709551616) : double.read (if x < 9223372036854775808 then x + 9223372036854775808 else x - 9223372036854775808) = (double.read x).opposite := by
  have e5 : double.signWeight = 9223372036854775808 := by decide
  have e6 : double.leastPlace = -1074 := by decide
  unfold Format.read
  rw [e5]
  by_cases h : x < 9223372036854775808
  · rw [if_pos h]
    have h1 : (x + 9223372036854775808) % 9223372036854775808 = x % 9223372036854775808 := by omega
    have h2 : ((x + 9223372036854775808) / 9223372036854775808 % 2 == 1) = true := by simp; omega
    have h3 : (x / 9223372036854775808 % 2 == 1) = false := by simp; omega
    simp only [h1, h2, h3]
    split <;> (try split) <;> (try split) <;> rfl
  · rw [if_neg h]
    have h1 : (x - 9223372036854775808) % 9223372036854775808 = x % 9223372036854775808 := by omega
    have h2 : ((x - 9223372036854775808) / 9223372036854775808 % 2 == 1) = false := by simp; omega
    have h3 : (x / 9223372036854775808 % 2 == 1) = true := by simp; omega
    simp only [h1, h2, h3]
    split <;> (try split) <;> (try split) <;> rfl
theorem xor_top {x : Nat} (hx : x < 9223372036854775808) : x ^^^ 2 ^ 63 = x + 9223372036854775808 := by
  have e : x + 9223372036854775808 = 2 ^ 63 + x := by omega
  rw [e]
  apply Nat.eq_of_testBit_eq
  intro i
  rw [Nat.testBit_xor, Nat.testBit_two_pow]
  rcases Nat.lt_trichotomy i 63 with h | h | h
  · rw [Nat.testBit_two_pow_add_gt h]
    have : ¬ 63 = i := by omega
    simp [this]
  · subst h
    rw [Nat.testBit_two_pow_add_eq]
    simp
  · have h64 : 2 ^ 64 ≤ 2 ^ i := Nat.pow_le_pow_right (by omega) (by omega)
    rw [Nat.testBit_lt_two_pow (x := x) (by omega), Nat.testBit_lt_two_pow (x := 2 ^ 63 + x) (by omega)]
    have : ¬ 63 = i := by omega
    simp [this]
theorem xor_top2 {x : Nat} (h1 : 9223372036854775808 ≤ x) (hx : x < 18446744073709551616) : x ^^^ 2 ^ 63 = x - 9223372036854775808 := by
  have h := xor_top (x := x - 9223372036854775808) (by omega)
  have e : x - 9223372036854775808 + 9223372036854775808 = x := by omega
  rw [e] at h
  rw [← h, Nat.xor_assoc, Nat.xor_self, Nat.xor_zero, h]
theorem IsF.neg {x : Nat} {n : Int} (h : IsF x n) (hx : x < 18446744073709551616) : IsF (Op.negFloat .f64 x) (-n) := by
  have e : Op.negFloat .f64 x = if x < 9223372036854775808 then x + 9223372036854775808 else x - 9223372036854775808 := by
    show x ^^^ 2 ^ 63 = _
    by_cases hl : x < 9223372036854775808
    · rw [if_pos hl, xor_top hl]
    · rw [if_neg hl, xor_top2 (by omega) hx]
  rw [e]
  refine (isF_iff _ _).2 ?_
  rw [read_flip x hx]
  exact ((isF_iff _ _).1 h).opposite
theorem floatOfInt_lt (n : Int) : floatOfInt .f64 n < 18446744073709551616 := by
  have h := Ieee.Format.write_lt FloatKind.f64.format (.number (n < 0) n.natAbs 0)
  have e : 2 ^ FloatKind.f64.format.width = 18446744073709551616 := by decide
  rw [e] at h
  exact h
theorem isF_zero : IsF 0 0 := ⟨false, 0, -1074, by decide, 1074, by decide, by rw [Int.zero_mul]; unfold Ieee.signed; rw [Nat.zero_shiftLeft]; rfl⟩
theorem isF_one : IsF 4607182418800017408 1 := ⟨false, 4503599627370496, -52, by decide, 52, by decide, by decide⟩
end Go.Proofs.Ytjpbfmhfjlbcgaa
