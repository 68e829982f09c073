import Derived.Test.YtkhmfjfclpehfaaGreatRows
import Derived.Test.YtkhmfjfclpehfaaGreatKeep
import Derived.Test.YtkhmfjfclpehfaaGreatRet
import Derived.Test.YtkhmfjfclpehfaaGreatAgain
import Derived.Test.YtkhmfjfclpehfaaGreatOpen
import Derived.Test.YtkhmfjfclpehfaaGreatRow
import Derived.Laws.StructEq
import Derived.Deep.MidRow
import Derived.Deep.RegionHeld3
import Derived.Deep.QuietTactic
import Derived.BigQuiet
import Derived.Lib.Hide
namespace Go.Proofs.YtkhmfjfclpehfaaGreat
open Go.ChangeShapes Go.WideShapes Go.ChangeAt Go.RowKit
set_option linter.unusedVariables false
set_option linter.unusedSimpArgs false
/-- The seventeen numbers of a call, as they are printed: who, index, kind, object, five words, the fault, four words, done, begin, end. -/
abbrev OpX := Nat → Int
def opL (x : OpX) : List Value := [.int .i64 (x 0), .int .i64 (x 1), .int .i64 (x 2), .int .i64 (x 3), .int .u32 (x 4), .int .u32 (x 5), .int .u32 (x 6), .int .u32 (x 7), .int .u32 (x 8), .int .i64 (x 9), .int .u32 (x 10), .int .u32 (x 11), .int .u32 (x 12), .int .u32 (x 13), .bool (decide (x 14 = 1)), .int .i64 (x 15), .int .i64 (x 16)]
def opA (x : OpX) : Array Value := (opL x).toArray
theorem opL_len (x : OpX) : (opL x).length = 17 := rfl
/-- How it lies as one value. -/
def opV (x : OpX) : Value := .agg (opA x)
def i64B (n : Int) : Prop := -9223372036854775808 ≤ n ∧ n ≤ 9223372036854775807
def u32B (n : Int) : Prop := 0 ≤ n ∧ n ≤ 4294967295
structure OpOk (x : OpX) : Prop where
  i : ∀ j, (j < 4 ∨ j = 9 ∨ 14 < j) → j < 17 → i64B (x j)
  u : ∀ j, 4 ≤ j → j < 14 → j ≠ 9 → u32B (x j)
  d : x 14 = 0 ∨ x 14 = 1
/-- Was a over before b began? -/
def befP (x y : OpX) : Bool := decide (x 14 = 1) && decide (x 16 < y 15)
def inR (n a b : Int) : Bool := decide (a ≤ n) && decide (n ≤ b)
/-- Four words alike? -/
def eq4 (a b c d a' b' c' d' : Int) : Bool := (a == a') && (b == b') && (c == c') && (d == d')
theorem part_i (t : TypeId) (k : IntKind) (xs : Array Value) (i : Nat) (x : Int) (w : World) (ht : ∀ w, (isAgg t).run Tryz.prog w = .ok false w) (hx : xs[i]? = some (.int k x)) : (part t xs i).run Tryz.prog w = .ok (.int k x) w := by
  simp [part, ht, hx]
theorem eq_val (e : Nat) (a b c d a' b' c' d' : Int) (w : World) : (Op.equalIn (e + 1 + 1) 36 (.agg #[.int .u32 a, .int .u32 b, .int .u32 c, .int .u32 d]) (.agg #[.int .u32 a', .int .u32 b', .int .u32 c', .int .u32 d'])).run Tryz.prog w = .ok (eq4 a b c d a' b' c' d') w := by
  have z4 := Tryz.sizeOf34
  have hT := Tryz.underlying36
  have p0 := fun w => part_i 34 .u32 #[.int .u32 a, .int .u32 b, .int .u32 c, .int .u32 d] 0 a w Tryz.isAgg34 rfl
  have p1 := fun w => part_i 34 .u32 #[.int .u32 a, .int .u32 b, .int .u32 c, .int .u32 d] 1 b w Tryz.isAgg34 rfl
  have p2 := fun w => part_i 34 .u32 #[.int .u32 a, .int .u32 b, .int .u32 c, .int .u32 d] 2 c w Tryz.isAgg34 rfl
  have p3 := fun w => part_i 34 .u32 #[.int .u32 a, .int .u32 b, .int .u32 c, .int .u32 d] 3 d w Tryz.isAgg34 rfl
  have p4 := fun w => part_i 34 .u32 #[.int .u32 a', .int .u32 b', .int .u32 c', .int .u32 d'] 0 a' w Tryz.isAgg34 rfl
  have p5 := fun w => part_i 34 .u32 #[.int .u32 a', .int .u32 b', .int .u32 c', .int .u32 d'] 1 b' w Tryz.isAgg34 rfl
  have p6 := fun w => part_i 34 .u32 #[.int .u32 a', .int .u32 b', .int .u32 c', .int .u32 d'] 2 c' w Tryz.isAgg34 rfl
  have p7 := fun w => part_i 34 .u32 #[.int .u32 a', .int .u32 b', .int .u32 c', .int .u32 d'] 3 d' w Tryz.isAgg34 rfl
  have q := fun (x y : Int) w => run_equalIn_int (P := Tryz.prog) w e 34 .u32 .u32 x y Tryz.underlying34
  rw [Op.equalIn]
  generalize (#[.int .u32 a, .int .u32 b, .int .u32 c, .int .u32 d] : Array Value) = xs at *
  generalize (#[.int .u32 a', .int .u32 b', .int .u32 c', .int .u32 d'] : Array Value) = ys at *
  simp only [Sem.run_bind, run_underlying hT, Result.andThen_ok, z4]
  unfold eq4
  cases h0 : (a == a') <;> cases h1 : (b == b') <;> cases h2 : (c == c') <;> cases h3 : (d == d') <;>
    simp only [beq_eq_false_iff_ne, beq_iff_eq, ne_eq] at h0 h1 h2 h3 <;> simp [List.range', p0, p1, p2, p3, p4, p5, p6, p7, q, h0, h1, h2, h3]
/-- Are two results alike? -/
theorem eq_res (f a b c d f' a' b' c' d' : Int) (w : World) : (Op.equalIn 10000 41 (.agg #[.int .i64 f, .int .u32 a, .int .u32 b, .int .u32 c, .int .u32 d]) (.agg #[.int .i64 f', .int .u32 a', .int .u32 b', .int .u32 c', .int .u32 d'])).run Tryz.prog w = .ok ((f == f') && eq4 a b c d a' b' c' d') w := by
  have u3 := Tryz.underlying39
  have a3 := Tryz.isAgg39
  have a5 := Tryz.isAgg36
  have z3 := Tryz.sizeOf39
  have z5 := Tryz.sizeOf36
  have hS : Tryz.prog.underlying 41 = some (.struct (Tryz.prog.fieldsOf 41)) := by kernel_rfl
  have hp : Tryz.prog.stoodInHeld 41 = false := by kernel_rfl
  have hv := fun w => eq_val 9997 a b c d a' b' c' d' w
  rw [show (10000 : Nat) = 9999 + 1 from rfl, run_equalIn_agg w 9999 41 _ _ hS hp]
  simp only [Program.fieldsOf, Tryz.underlying41]
  cases h0 : (f == f') <;> simp only [beq_eq_false_iff_ne, beq_iff_eq, ne_eq] at h0 <;> go_simp
  cases eq4 a b c d a' b' c' d' <;> rfl
end Go.Proofs.YtkhmfjfclpehfaaGreat
