import Derived.Test.YtohajfkekkelhaaDoorRows
import Derived.Test.YtohajfkekkelhaaDoorKeep
import Derived.Test.YtohajfkekkelhaaDoorRet
import Derived.Test.YtohajfkekkelhaaDoorAgain
import Derived.Test.YtohajfkekkelhaaDoorOpen
import Derived.Test.YtohajfkekkelhaaDoorRow
import Derived.Laws.StructEq
import Derived.Deep.MidRow
import Derived.Deep.RegionHeld3
import Derived.Deep.QuietTactic
import Derived.BigQuiet
import Derived.Lib.Hide
namespace Go.Proofs.YtohajfkekkelhaaDoor
open Go.ChangeShapes Go.WideShapes Go.ChangeAt Go.RowKit
set_option linter.unusedVariables false
set_option linter.unusedSimpArgs false
/-- The seventeen numbers of a call, as they are printed: who, index, kind, object, five words, the fault, four words, done, begin, end. -/
abbrev OpX := Nat → Int
def opL (x : OpX) : List Value := [.int .i64 (x 0), .int .i64 (x 1), .int .i64 (x 2), .int .i64 (x 3), .int .u32 (x 4), .int .u32 (x 5), .int .u32 (x 6), .int .u32 (x 7), .int .u32 (x 8), .int .i64 (x 9), .int .u32 (x 10), .int .u32 (x 11), .int .u32 (x 12), .int .u32 (x 13), .bool (decide (x 14 = 1)), .int .i64 (x 15), .int .i64 (x 16)]
def opA (x : OpX) : Array Value := (opL x).toArray
theorem opL_len (x : OpX) : (opL x).length = 17 := rfl
/-- How it lies as one value. -/
def opV (x : OpX) : Value := .agg (opA x)
def i64B (n : Int) : Prop := -9223372036854775808 ≤ n ∧ n ≤ 9223372036854775807
def u32B (n : Int) : Prop := 0 ≤ n ∧ n ≤ 4294967295
structure OpOk (x : OpX) : Prop where
  i : ∀ j, (j < 4 ∨ j = 9 ∨ 14 < j) → j < 17 → i64B (x j)
  u : ∀ j, 4 ≤ j → j < 14 → j ≠ 9 → u32B (x j)
  d : x 14 = 0 ∨ x 14 = 1
/-- Was a over before b began? -/
def befP (x y : OpX) : Bool := decide (x 14 = 1) && decide (x 16 < y 15)
def inR (n a b : Int) : Bool := decide (a ≤ n) && decide (n ≤ b)
theorem op_info : (Tryd.prog.info? 47).map (·.size) = some 17 := by kernel_rfl
set_option maxRecDepth 20000 in
theorem befp_any (w : World) (g o g' o' : Nat) (x y : OpX) (hx : w.rangeAt g o (opL x)) (hy : w.rangeAt g' o' (opL y)) :
    Calls Tryd.prog 45 #[.pointer (some ⟨g, o, none⟩), .pointer (some ⟨g', o', none⟩)] w fun e w' => e = .returned (.bool (befP x y)) ∧ Keeps (fun _ => False) w w' := by
  have c0 : w.cell? ⟨g, o + 14, none⟩ = some (.bool (decide (x 14 = 1))) := hx 14 _ rfl
  have c1 : w.cell? ⟨g, o + 16, none⟩ = some (.int .i64 (x 16)) := hx 16 _ rfl
  have c2 : w.cell? ⟨g', o' + 15, none⟩ = some (.int .i64 (y 15)) := hy 15 _ rfl
  clear hx hy
  have HB := Lib.hid (show befP x y = (decide (x 14 = 1) && decide (x 16 < y 15)) from rfl)
  generalize decide (x 14 = 1) = d at *
  cases d
  all_goals
    go_enter Tryd.func45, Tryd.ntmps45
    go_wp2_with fail
    go_quiet (fail)
    go_wp2_with fail
    go_ret
    exact ⟨by rw [HB.out]; rfl, (Keeps.refl _ w).drewN _⟩
theorem before_any (w : World) (x y : OpX) : Calls Tryd.prog 32 #[.agg (opA x), .agg (opA y)] w fun e w' => e = .returned (.bool (befP x y)) ∧ Keeps (fun _ => False) w w' := by
  have HB := Lib.hid (fun W => befp_any W w.heap.size 0 (w.heap.size + 1) 0 x y)
  have HX := Lib.hid (show ((w.alloc (.cells (opA x) 47)).alloc (.cells (opA y) 47)).rangeAt w.heap.size 0 (opL x) from fun j v hv => by
    rw [cell_of (heap_old (heap_new w (.cells (opA x) 47)) _) (0 + j), show 0 + j = j by omega]
    simpa [opA] using hv)
  have HY := Lib.hid (show ((w.alloc (.cells (opA x) 47)).alloc (.cells (opA y) 47)).rangeAt (w.heap.size + 1) 0 (opL y) from fun j v hv => by
    have h := heap_new (w.alloc (.cells (opA x) 47)) (.cells (opA y) 47)
    rw [World.size_alloc] at h
    rw [cell_of h (0 + j), show 0 + j = j by omega]
    simpa [opA] using hv)
  have HK := Lib.hid (show Keeps (fun _ => False) w ((w.alloc (.cells (opA x) 47)).alloc (.cells (opA y) 47)) from ((Keeps.refl _ w).alloc _).alloc _)
  have hX : (opA x) = #[.int .i64 (x 0), .int .i64 (x 1), .int .i64 (x 2), .int .i64 (x 3), .int .u32 (x 4), .int .u32 (x 5), .int .u32 (x 6), .int .u32 (x 7), .int .u32 (x 8), .int .i64 (x 9), .int .u32 (x 10), .int .u32 (x 11), .int .u32 (x 12), .int .u32 (x 13), .bool (decide (x 14 = 1)), .int .i64 (x 15), .int .i64 (x 16)] := rfl
  have hY : (opA y) = #[.int .i64 (y 0), .int .i64 (y 1), .int .i64 (y 2), .int .i64 (y 3), .int .u32 (y 4), .int .u32 (y 5), .int .u32 (y 6), .int .u32 (y 7), .int .u32 (y 8), .int .i64 (y 9), .int .u32 (y 10), .int .u32 (y 11), .int .u32 (y 12), .int .u32 (y 13), .bool (decide (y 14 = 1)), .int .i64 (y 15), .int .i64 (y 16)] := rfl
  rw [hX] at HX HY HK ⊢
  rw [hY] at HX HY HK ⊢
  clear hX hY
  go_enter Tryd.func32, Tryd.ntmps32
  go_wp2_with fail
  refine (HB.out _ HX.out HY.out).mono ?_
  rintro e1 w1 ⟨rfl, k1⟩
  have HK1 := Lib.hid (HK.out.trans k1)
  clear k1
  go_wp2_with fail
  go_ret
  exact ⟨rfl, HK1.out⟩
/-- Four words alike? -/
def eq4 (a b c d a' b' c' d' : Int) : Bool := (a == a') && (b == b') && (c == c') && (d == d')
theorem part_i (t : TypeId) (k : IntKind) (xs : Array Value) (i : Nat) (x : Int) (w : World) (ht : ∀ w, (isAgg t).run Tryd.prog w = .ok false w) (hx : xs[i]? = some (.int k x)) : (part t xs i).run Tryd.prog w = .ok (.int k x) w := by
  simp [part, ht, hx]
theorem eq_val (e : Nat) (a b c d a' b' c' d' : Int) (w : World) : (Op.equalIn (e + 1 + 1) 41 (.agg #[.int .u32 a, .int .u32 b, .int .u32 c, .int .u32 d]) (.agg #[.int .u32 a', .int .u32 b', .int .u32 c', .int .u32 d'])).run Tryd.prog w = .ok (eq4 a b c d a' b' c' d') w := by
  have z4 := Tryd.sizeOf39
  have hT := Tryd.underlying41
  have p0 := fun w => part_i 39 .u32 #[.int .u32 a, .int .u32 b, .int .u32 c, .int .u32 d] 0 a w Tryd.isAgg39 rfl
  have p1 := fun w => part_i 39 .u32 #[.int .u32 a, .int .u32 b, .int .u32 c, .int .u32 d] 1 b w Tryd.isAgg39 rfl
  have p2 := fun w => part_i 39 .u32 #[.int .u32 a, .int .u32 b, .int .u32 c, .int .u32 d] 2 c w Tryd.isAgg39 rfl
  have p3 := fun w => part_i 39 .u32 #[.int .u32 a, .int .u32 b, .int .u32 c, .int .u32 d] 3 d w Tryd.isAgg39 rfl
  have p4 := fun w => part_i 39 .u32 #[.int .u32 a', .int .u32 b', .int .u32 c', .int .u32 d'] 0 a' w Tryd.isAgg39 rfl
  have p5 := fun w => part_i 39 .u32 #[.int .u32 a', .int .u32 b', .int .u32 c', .int .u32 d'] 1 b' w Tryd.isAgg39 rfl
  have p6 := fun w => part_i 39 .u32 #[.int .u32 a', .int .u32 b', .int .u32 c', .int .u32 d'] 2 c' w Tryd.isAgg39 rfl
  have p7 := fun w => part_i 39 .u32 #[.int .u32 a', .int .u32 b', .int .u32 c', .int .u32 d'] 3 d' w Tryd.isAgg39 rfl
  have q := fun (x y : Int) w => run_equalIn_int (P := Tryd.prog) w e 39 .u32 .u32 x y Tryd.underlying39
  rw [Op.equalIn]
  generalize (#[.int .u32 a, .int .u32 b, .int .u32 c, .int .u32 d] : Array Value) = xs at *
  generalize (#[.int .u32 a', .int .u32 b', .int .u32 c', .int .u32 d'] : Array Value) = ys at *
  simp only [Sem.run_bind, run_underlying hT, Result.andThen_ok, z4]
  unfold eq4
  cases h0 : (a == a') <;> cases h1 : (b == b') <;> cases h2 : (c == c') <;> cases h3 : (d == d') <;>
    simp only [beq_eq_false_iff_ne, beq_iff_eq, ne_eq] at h0 h1 h2 h3 <;> simp [List.range', p0, p1, p2, p3, p4, p5, p6, p7, q, h0, h1, h2, h3]
/-- Are two results alike? -/
theorem eq_res (f a b c d f' a' b' c' d' : Int) (w : World) : (Op.equalIn 10000 45 (.agg #[.int .i64 f, .int .u32 a, .int .u32 b, .int .u32 c, .int .u32 d]) (.agg #[.int .i64 f', .int .u32 a', .int .u32 b', .int .u32 c', .int .u32 d'])).run Tryd.prog w = .ok ((f == f') && eq4 a b c d a' b' c' d') w := by
  have u3 := Tryd.underlying35
  have a3 := Tryd.isAgg35
  have a5 := Tryd.isAgg41
  have z3 := Tryd.sizeOf35
  have z5 := Tryd.sizeOf41
  have hS : Tryd.prog.underlying 45 = some (.struct (Tryd.prog.fieldsOf 45)) := by kernel_rfl
  have hp : Tryd.prog.stoodInHeld 45 = false := by kernel_rfl
  have hv := fun w => eq_val 9997 a b c d a' b' c' d' w
  rw [show (10000 : Nat) = 9999 + 1 from rfl, run_equalIn_agg w 9999 45 _ _ hS hp]
  simp only [Program.fieldsOf, Tryd.underlying45]
  cases h0 : (f == f') <;> simp only [beq_eq_false_iff_ne, beq_iff_eq, ne_eq] at h0 <;> go_simp
  cases eq4 a b c d a' b' c' d' <;> rfl
end Go.Proofs.YtohajfkekkelhaaDoor
