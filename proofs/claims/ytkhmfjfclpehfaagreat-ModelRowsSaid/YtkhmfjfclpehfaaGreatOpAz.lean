import Derived.Test.YtkhmfjfclpehfaaGreatRows
import Derived.Test.YtkhmfjfclpehfaaGreatBaseZ
import Derived.Laws.StructEq
import Derived.Deep.MidRow
import Derived.Deep.RegionHeld3
import Derived.Deep.QuietTactic
import Derived.BigQuiet
import Derived.Lib.Hide
import Derived.Test.YtkhmfjfclpehfaaGreatConfAz
namespace Go.Proofs.YtkhmfjfclpehfaaGreat
open Go.ChangeShapes Go.WideShapes Go.ChangeAt Go.RowKit
set_option linter.unusedVariables false
set_option linter.unusedSimpArgs false
abbrev OpX := Nat → Int
def opL (x : OpX) : List Value := [.int .i64 (x 0), .int .i64 (x 1), .int .i64 (x 2), .int .i64 (x 3), .int .u32 (x 4), .int .u32 (x 5), .int .u32 (x 6), .int .u32 (x 7), .int .u32 (x 8), .int .i64 (x 9), .int .u32 (x 10), .int .u32 (x 11), .int .u32 (x 12), .int .u32 (x 13), .bool (decide (x 14 = 1)), .int .i64 (x 15), .int .i64 (x 16)]
def i64B (n : Int) : Prop := -9223372036854775808 ≤ n ∧ n ≤ 9223372036854775807
def u32B (n : Int) : Prop := 0 ≤ n ∧ n ≤ 4294967295
structure OpOk (x : OpX) : Prop where
  i : ∀ j, (j < 4 ∨ j = 9 ∨ 14 < j) → j < 17 → i64B (x j)
  u : ∀ j, 4 ≤ j → j < 14 → j ≠ 9 → u32B (x j)
  d : x 14 = 0 ∨ x 14 = 1
def eq4 (a b c d a' b' c' d' : Int) : Bool := (a == a') && (b == b') && (c == c') && (d == d')
theorem part_i (t : TypeId) (k : IntKind) (xs : Array Value) (i : Nat) (x : Int) (w : World) (ht : ∀ w, (isAgg t).run Tryz.prog w = .ok false w) (hx : xs[i]? = some (.int k x)) : (part t xs i).run Tryz.prog w = .ok (.int k x) w := by
  simp [part, ht, hx]
theorem eq_val (e : Nat) (a b c d a' b' c' d' : Int) (w : World) : (Op.equalIn (e + 1 + 1) 36 (.agg #[.int .u32 a, .int .u32 b, .int .u32 c, .int .u32 d]) (.agg #[.int .u32 a', .int .u32 b', .int .u32 c', .int .u32 d'])).run Tryz.prog w = .ok (eq4 a b c d a' b' c' d') w := by
  have z4 := Tryz.sizeOf34
  have hT := Tryz.underlying36
  have p0 := fun w => part_i 34 .u32 #[.int .u32 a, .int .u32 b, .int .u32 c, .int .u32 d] 0 a w Tryz.isAgg34 rfl
  have p1 := fun w => part_i 34 .u32 #[.int .u32 a, .int .u32 b, .int .u32 c, .int .u32 d] 1 b w Tryz.isAgg34 rfl
  have p2 := fun w => part_i 34 .u32 #[.int .u32 a, .int .u32 b, .int .u32 c, .int .u32 d] 2 c w Tryz.isAgg34 rfl
  have p3 := fun w => part_i 34 .u32 #[.int .u32 a, .int .u32 b, .int .u32 c, .int .u32 d] 3 d w Tryz.isAgg34 rfl
  have p4 := fun w => part_i 34 .u32 #[.int .u32 a', .int .u32 b', .int .u32 c', .int .u32 d'] 0 a' w Tryz.isAgg34 rfl
  have p5 := fun w => part_i 34 .u32 #[.int .u32 a', .int .u32 b', .int .u32 c', .int .u32 d'] 1 b' w Tryz.isAgg34 rfl
  have p6 := fun w => part_i 34 .u32 #[.int .u32 a', .int .u32 b', .int .u32 c', .int .u32 d'] 2 c' w Tryz.isAgg34 rfl
  have p7 := fun w => part_i 34 .u32 #[.int .u32 a', .int .u32 b', .int .u32 c', .int .u32 d'] 3 d' w Tryz.isAgg34 rfl
  have q := fun (x y : Int) w => run_equalIn_int (P := Tryz.prog) w e 34 .u32 .u32 x y Tryz.underlying34
  rw [Op.equalIn]
  generalize (#[.int .u32 a, .int .u32 b, .int .u32 c, .int .u32 d] : Array Value) = xs at *
  generalize (#[.int .u32 a', .int .u32 b', .int .u32 c', .int .u32 d'] : Array Value) = ys at *
  simp only [Sem.run_bind, run_underlying hT, Result.andThen_ok, z4]
  unfold eq4
  cases h0 : (a == a') <;> cases h1 : (b == b') <;> cases h2 : (c == c') <;> cases h3 : (d == d') <;>
    simp only [beq_eq_false_iff_ne, beq_iff_eq, ne_eq] at h0 h1 h2 h3 <;> simp [List.range', p0, p1, p2, p3, p4, p5, p6, p7, q, h0, h1, h2, h3]
theorem eq_res (f a b c d f' a' b' c' d' : Int) (w : World) : (Op.equalIn 10000 41 (.agg #[.int .i64 f, .int .u32 a, .int .u32 b, .int .u32 c, .int .u32 d]) (.agg #[.int .i64 f', .int .u32 a', .int .u32 b', .int .u32 c', .int .u32 d'])).run Tryz.prog w = .ok ((f == f') && eq4 a b c d a' b' c' d') w := by
  have u3 := Tryz.underlying39
  have a3 := Tryz.isAgg39
  have a5 := Tryz.isAgg36
  have z3 := Tryz.sizeOf39
  have z5 := Tryz.sizeOf36
  have hS : Tryz.prog.underlying 41 = some (.struct (Tryz.prog.fieldsOf 41)) := by kernel_rfl
  have hp : Tryz.prog.stoodInHeld 41 = false := by kernel_rfl
  have hv := fun w => eq_val 9997 a b c d a' b' c' d' w
  rw [show (10000 : Nat) = 9999 + 1 from rfl, run_equalIn_agg w 9999 41 _ _ hS hp]
  simp only [Program.fieldsOf, Tryz.underlying41]
  cases h0 : (f == f') <;> simp only [beq_eq_false_iff_ne, beq_iff_eq, ne_eq] at h0 <;> go_simp
  cases eq4 a b c d a' b' c' d' <;> rfl
end Go.Proofs.YtkhmfjfclpehfaaGreat
namespace Go.Proofs.YtkhmfjfclpehfaaGreat
open Go.ChangeShapes Go.WideShapes Go.ChangeAt Go.RowKit
set_option linter.unusedVariables false
set_option linter.unusedSimpArgs false
def OpsIn (w : World) (g o : Nat) (L : List OpX) : Prop := ∀ k x, L[k]? = some x → w.rangeAt g (o + k * 17) (opL x)
theorem range_below {w w' : World} {B b o : Nat} {cs : List Value} (h : w.rangeAt b o cs) (hb : Below B w w') (hB : b < B) : w'.rangeAt b o cs := fun j v hv => (hb.cell (p := ⟨b, o + j, none⟩) hB).trans (h j v hv)
structure OpsArg (w : World) (a : Option Addr) (n : Nat) (L : List OpX) : Prop where
  len : L.length = n
  ok : ∀ x, x ∈ L → OpOk x
  lies : 0 < n → ∃ b off, a = some ⟨b, off, none⟩ ∧ b < w.heap.size ∧ OpsIn w b off L
theorem OpsArg.below {w w' : World} {a : Option Addr} {n : Nat} {L : List OpX} (h : OpsArg w a n L) (hb : Below w.heap.size w w') : OpsArg w' a n L :=
  ⟨h.len, h.ok, fun hn => by
    obtain ⟨b, off, e, hl, hc⟩ := h.lies hn
    exact ⟨b, off, e, Nat.lt_of_lt_of_le hl hb.size, fun k x hk => range_below (hc k x hk) hb hl⟩⟩
end Go.Proofs.YtkhmfjfclpehfaaGreat
namespace Go.Proofs.YtkhmfjfclpehfaaGreat
open Go.ChangeShapes Go.WideShapes Go.ChangeAt Go.RowKit
set_option linter.unusedVariables false
set_option linter.unusedSimpArgs false
def plainP (k : Int) : Int := if k = 14 then 1 else if k = 15 then 2 else k
def knownP (k : Int) : Bool := (decide (1 ≤ k) && decide (k ≤ 9)) || (k == 16) || (k == 17)
theorem plain_any (w : World) (k : Int) : Calls Tryz.prog 83 #[.int .i64 k] w fun e w' => e = .returned (.int .i64 (plainP k)) ∧ w' = w := by
  have HP := Lib.hid (show plainP k = if k = 14 then 1 else if k = 15 then 2 else k from rfl)
  by_cases h1 : k = 14
  · have e1 : (k == 14) = true := by simpa using h1
    rw [if_pos h1] at HP
    clear h1
    go_enter Tryz.func83, Tryz.ntmps83
    go_wp2_with fail
    go_ret
    exact ⟨by rw [HP.out]; rfl, rfl⟩
  have e1 : (k == 14) = false := by simpa using h1
  rw [if_neg h1] at HP
  by_cases h2 : k = 15
  · have e2 : (k == 15) = true := by simpa using h2
    rw [if_pos h2] at HP
    clear h1 h2
    go_enter Tryz.func83, Tryz.ntmps83
    go_wp2_with fail
    go_ret
    exact ⟨by rw [HP.out]; rfl, rfl⟩
  have e2 : (k == 15) = false := by simpa using h2
  rw [if_neg h2] at HP
  clear h1 h2
  go_enter Tryz.func83, Tryz.ntmps83
  go_wp2_with fail
  go_ret
  exact ⟨by rw [HP.out]; rfl, rfl⟩
theorem known_any (w : World) (k : Int) : Calls Tryz.prog 94 #[.int .i64 k] w fun e w' => e = .returned (.bool (knownP k)) ∧ w' = w := by
  have HK := Lib.hid (show knownP k = ((decide (1 ≤ k) && decide (k ≤ 9)) || (k == 16) || (k == 17)) from rfl)
  cases h1 : decide (1 ≤ k) <;> cases h2 : decide (k ≤ 9) <;> cases h3 : (k == 16) <;> cases h4 : (k == 17)
  all_goals
    rw [h1, h2, h3, h4] at HK
    go_enter Tryz.func94, Tryz.ntmps94
    go_wp2_with fail
    go_ret
    exact ⟨by rw [HK.out]; rfl, rfl⟩
end Go.Proofs.YtkhmfjfclpehfaaGreat
namespace Go.Proofs.YtkhmfjfclpehfaaGreat
open Go.ChangeShapes Go.WideShapes Go.ChangeAt Go.RowKit
set_option linter.unusedVariables false
set_option linter.unusedSimpArgs false
def cutV (m k j : Nat) (v : Int) : Int := if m ≤ j ∧ j < k then 0 else v
def clipA (m k : Nat) (a b c d : Int) : Array Value := #[.int .u32 (cutV m k 0 a), .int .u32 (cutV m k 1 b), .int .u32 (cutV m k 2 c), .int .u32 (cutV m k 3 d)]
theorem clipA_start (m : Nat) (a b c d : Int) : clipA m m a b c d = #[.int .u32 a, .int .u32 b, .int .u32 c, .int .u32 d] := by
  have h : ∀ j v, cutV m m j v = v := fun j v => if_neg (by omega)
  unfold clipA
  rw [h, h, h, h]
theorem cutV_same (m k j : Nat) (v : Int) (h : j ≠ k) : cutV m (k + 1) j v = cutV m k j v := by
  unfold cutV
  by_cases q : m ≤ j ∧ j < k
  · rw [if_pos q, if_pos (by omega)]
  · rw [if_neg q, if_neg (by omega)]
theorem cutV_zero (m k : Nat) (v : Int) (h : m ≤ k) : cutV m (k + 1) k v = 0 := if_pos (by omega)
theorem clipA_step (m k : Nat) (a b c d : Int) (hk : k < 4) (hm : m ≤ k) : clipA m (k + 1) a b c d = (clipA m k a b c d).setIfInBounds k (.int .u32 0) := by
  rcases (show k = 0 ∨ k = 1 ∨ k = 2 ∨ k = 3 by omega) with rfl | rfl | rfl | rfl
  · unfold clipA; rw [cutV_zero m 0 a hm, cutV_same m 0 1 b (by omega), cutV_same m 0 2 c (by omega), cutV_same m 0 3 d (by omega)]; rfl
  · unfold clipA; rw [cutV_zero m 1 b hm, cutV_same m 1 0 a (by omega), cutV_same m 1 2 c (by omega), cutV_same m 1 3 d (by omega)]; rfl
  · unfold clipA; rw [cutV_zero m 2 c hm, cutV_same m 2 0 a (by omega), cutV_same m 2 1 b (by omega), cutV_same m 2 3 d (by omega)]; rfl
  · unfold clipA; rw [cutV_zero m 3 d hm, cutV_same m 3 0 a (by omega), cutV_same m 3 1 b (by omega), cutV_same m 3 2 c (by omega)]; rfl
def clipP (m j : Nat) (v : Int) : Int := if m ≤ j then 0 else v
theorem clipA_end (m k : Nat) (a b c d : Int) (hk : 4 ≤ k) : clipA m k a b c d = #[.int .u32 (clipP m 0 a), .int .u32 (clipP m 1 b), .int .u32 (clipP m 2 c), .int .u32 (clipP m 3 d)] := by
  have h : ∀ j v, j < 4 → cutV m k j v = clipP m j v := fun j v hj => by
    unfold cutV clipP
    by_cases q : m ≤ j
    · rw [if_pos ⟨q, by omega⟩, if_pos q]
    · rw [if_neg (by omega), if_neg q]
  unfold clipA
  rw [h 0 a (by omega), h 1 b (by omega), h 2 c (by omega), h 3 d (by omega)]
set_option maxRecDepth 20000 in
set_option maxHeartbeats 2000000 in
theorem clip1_any (w : World) (P m : Nat) (a b c d : Int) (hm : m ≤ 1000) (hP : w.heap[P]? = some (.cells #[.int .i64 (m : Int)] 3 (0, 0))) :
    Calls Tryz.prog 63 #[.agg #[.int .u32 a, .int .u32 b, .int .u32 c, .int .u32 d], .pointer (some ⟨P, 0, none⟩)] w fun e w' => e = .returned (.agg #[.int .u32 (clipP m 0 a), .int .u32 (clipP m 1 b), .int .u32 (clipP m 2 c), .int .u32 (clipP m 3 d)]) ∧ Below w.heap.size w w' := by
  have cP : ∀ o1 o2, ((w.alloc o1).alloc o2).cell? ⟨P, 0, none⟩ = some (.int .i64 (m : Int)) := fun o1 o2 => cell_of (heap_old (heap_old hP o1) o2) 0
  have h1 := heap_old (heap_new w (.cells #[.int .u32 a, .int .u32 b, .int .u32 c, .int .u32 d] 36)) (.cells #[.int .u32 0, .int .u32 0, .int .u32 0, .int .u32 0] 36)
  have h2 := heap_new (w.alloc (.cells #[.int .u32 a, .int .u32 b, .int .u32 c, .int .u32 d] 36)) (.cells #[.int .u32 0, .int .u32 0, .int .u32 0, .int .u32 0] 36)
  rw [World.size_alloc] at h2
  have H := Lib.hid (And.intro h1 (And.intro h2 (show Below w.heap.size w _ from ((Below.refl _ w).alloc (Nat.le_refl _) (.cells #[.int .u32 a, .int .u32 b, .int .u32 c, .int .u32 d] 36)).alloc (by simp) (.cells #[.int .u32 0, .int .u32 0, .int .u32 0, .int .u32 0] 36))))
  clear h1 h2 hP
  go_enter Tryz.func63, Tryz.ntmps63
  go_wp2_with fail
  go_loopw [4] (fun i wr => ∃ k : Nat, i = .int .i64 (k : Int) ∧ m ≤ k ∧ k ≤ 1000 ∧ wr.heap[w.heap.size]? = some (.cells (clipA m k a b c d) 36 (0, 0)) ∧ wr.heap[w.heap.size + 1]? = some (.cells #[.int .u32 0, .int .u32 0, .int .u32 0, .int .u32 0] 36 (0, 0)) ∧ Below w.heap.size w wr) (fun i _ => 4 - (intOf i).toNat)
  case atStart => exact ⟨m, rfl, Nat.le_refl _, hm, by rw [clipA_start]; exact H.out.1, H.out.2.1, H.out.2.2⟩
  case round =>
    clear H
    obtain ⟨k, rfl, hmk, hk1, hb, hr, hB⟩ := hrel
    have HB := Lib.hid (And.intro hb (And.intro hr hB))
    clear hb hr hB
    by_cases hlt : k < 4
    · have dk : decide (k < 4) = true := decide_eq_true hlt
      have dk' : decide ((k : Int) < 4) = true := decide_eq_true (by omega)
      obtain ⟨u, cu⟩ : ∃ u, wr.cell? ⟨w.heap.size, k, none⟩ = some u := ⟨_, (cell_of HB.out.1 k).trans (Array.getElem?_eq_getElem (by unfold clipA; simpa using hlt))⟩
      have fu := free_of HB.out.1 k
      have HN := Lib.hid (show (wr.setCell ⟨w.heap.size, k, none⟩ (.int .u32 0)).heap[w.heap.size]? = some (.cells (clipA m (k + 1) a b c d) 36 (0, 0)) ∧ (wr.setCell ⟨w.heap.size, k, none⟩ (.int .u32 0)).heap[w.heap.size + 1]? = some (.cells #[.int .u32 0, .int .u32 0, .int .u32 0, .int .u32 0] 36 (0, 0)) ∧ Below w.heap.size w (wr.setCell ⟨w.heap.size, k, none⟩ (.int .u32 0)) from
        ⟨by rw [clipA_step m k a b c d hlt hmk]; exact heap_set HB.out.1 k _, heap_other HB.out.2.1 (by show w.heap.size + 1 ≠ w.heap.size; omega) _, HB.out.2.2.setCell (p := ⟨w.heap.size, k, none⟩) (Nat.le_refl _) _⟩)
      go_wp2_with fail
      go_roundw
      case rel => exact ⟨k + 1, by go_num, by omega, by omega, HN.out.1, HN.out.2.1, HN.out.2.2⟩
      case measure => simp [intOf]; omega
    · have dk : decide (k < 4) = false := decide_eq_false hlt
      have dk' : decide ((k : Int) < 4) = false := decide_eq_false (by omega)
      have he := HB.out.1
      rw [clipA_end m k a b c d (by omega)] at he
      obtain ⟨y0, hy0⟩ : ∃ y, y = clipP m 0 a := ⟨_, rfl⟩
      rw [← hy0] at he
      have HY0 := Lib.hid hy0
      clear hy0
      obtain ⟨y1, hy1⟩ : ∃ y, y = clipP m 1 b := ⟨_, rfl⟩
      rw [← hy1] at he
      have HY1 := Lib.hid hy1
      clear hy1
      obtain ⟨y2, hy2⟩ : ∃ y, y = clipP m 2 c := ⟨_, rfl⟩
      rw [← hy2] at he
      have HY2 := Lib.hid hy2
      clear hy2
      obtain ⟨y3, hy3⟩ : ∃ y, y = clipP m 3 d := ⟨_, rfl⟩
      rw [← hy3] at he
      have HY3 := Lib.hid hy3
      clear hy3
      have c0 : wr.cell? ⟨w.heap.size, 0, none⟩ = some (.int .u32 y0) := cell_of he 0
      have c1 : wr.cell? ⟨w.heap.size, 1, none⟩ = some (.int .u32 y1) := cell_of he 1
      have c2 : wr.cell? ⟨w.heap.size, 2, none⟩ = some (.int .u32 y2) := cell_of he 2
      have c3 : wr.cell? ⟨w.heap.size, 3, none⟩ = some (.int .u32 y3) := cell_of he 3
      have q0 : wr.cell? ⟨w.heap.size + 1, 0, none⟩ = some (.int .u32 0) := cell_of HB.out.2.1 0
      have q1 : wr.cell? ⟨w.heap.size + 1, 1, none⟩ = some (.int .u32 0) := cell_of HB.out.2.1 1
      have q2 : wr.cell? ⟨w.heap.size + 1, 2, none⟩ = some (.int .u32 0) := cell_of HB.out.2.1 2
      have q3 : wr.cell? ⟨w.heap.size + 1, 3, none⟩ = some (.int .u32 0) := cell_of HB.out.2.1 3
      have f0 := free_of HB.out.2.1 0
      have f1 := free_of HB.out.2.1 1
      have f2 := free_of HB.out.2.1 2
      have f3 := free_of HB.out.2.1 3
      clear he
      go_wp2_with fail
      refine bodyPost_ret (v := .agg #[.int .u32 y0, .int .u32 y1, .int .u32 y2, .int .u32 y3]) (by simp [results, Tryz.results63, go_sem, q0, q1, q2, q3]) rfl ?_
      exact ⟨by rw [← HY0.out, ← HY1.out, ← HY2.out, ← HY3.out], (((HB.out.2.2.setCell (p := ⟨w.heap.size + 1, 0, none⟩) (by show w.heap.size ≤ w.heap.size + 1; omega) _).setCell (p := ⟨w.heap.size + 1, 1, none⟩) (by show w.heap.size ≤ w.heap.size + 1; omega) _).setCell (p := ⟨w.heap.size + 1, 2, none⟩) (by show w.heap.size ≤ w.heap.size + 1; omega) _).setCell (p := ⟨w.heap.size + 1, 3, none⟩) (by show w.heap.size ≤ w.heap.size + 1; omega) _⟩
end Go.Proofs.YtkhmfjfclpehfaaGreat
namespace Go.Proofs.YtkhmfjfclpehfaaGreat
open Go.ChangeShapes Go.WideShapes Go.ChangeAt Go.RowKit
set_option linter.unusedVariables false
set_option linter.unusedSimpArgs false
structure W4 where
  a : Int
  b : Int
  c : Int
  d : Int
@[reducible] def W4.l (v : W4) : List Value := [.int .u32 v.a, .int .u32 v.b, .int .u32 v.c, .int .u32 v.d]
@[reducible] def W4.cells (v : W4) : Array Value := #[.int .u32 v.a, .int .u32 v.b, .int .u32 v.c, .int .u32 v.d]
def W4.zero : W4 := ⟨0, 0, 0, 0⟩
structure W4.Ok (v : W4) : Prop where
  a : u32B v.a
  b : u32B v.b
  c : u32B v.c
  d : u32B v.d
theorem W4.zero_ok : W4.zero.Ok := ⟨⟨by decide, by decide⟩, ⟨by decide, by decide⟩, ⟨by decide, by decide⟩, ⟨by decide, by decide⟩⟩
def W4.clip (v : W4) (m : Nat) : W4 := ⟨clipP m 0 v.a, clipP m 1 v.b, clipP m 2 v.c, clipP m 3 v.d⟩
theorem clipP_ok (m j : Nat) (x : Int) (h : u32B x) : u32B (clipP m j x) := by
  unfold clipP
  by_cases q : m ≤ j
  · rw [if_pos q]; exact ⟨by decide, by decide⟩
  · rw [if_neg q]; exact h
theorem W4.Ok.clip {v : W4} (h : v.Ok) (m : Nat) : (v.clip m).Ok := ⟨clipP_ok m 0 _ h.a, clipP_ok m 1 _ h.b, clipP_ok m 2 _ h.c, clipP_ok m 3 _ h.d⟩
def W4.eq (v u : W4) : Bool := eq4 v.a v.b v.c v.d u.a u.b u.c u.d
structure ResD where
  f : Int
  v : W4
@[reducible] def ResD.cells (r : ResD) : Array Value := #[.int .i64 r.f, .int .u32 r.v.a, .int .u32 r.v.b, .int .u32 r.v.c, .int .u32 r.v.d]
def ResD.eq (r s : ResD) : Bool := (r.f == s.f) && r.v.eq s.v
structure ItemD where
  o : Nat → Int
  oi : Nat → Int
  row : List W4
  v : W4
structure ItemD.Ok (x : ItemD) : Prop where
  o : ∀ j, j < 6 → i64B (x.o j)
  oi : ∀ j, j < 4 → u32B (x.oi j)
  row : ∀ v, v ∈ x.row → v.Ok
  v : x.v.Ok
  len : x.row.length ≤ 64
@[reducible] def ItemD.l (x : ItemD) (a : Option Addr) (n c : Nat) : List Value := [.int .i64 (x.o 0), .int .i64 (x.o 1), .int .i64 (x.o 2), .int .i64 (x.o 3), .int .i64 (x.o 4), .int .i64 (x.o 5), .int .u32 (x.oi 0), .int .u32 (x.oi 1), .int .u32 (x.oi 2), .int .u32 (x.oi 3), .slice a n c, .int .u32 x.v.a, .int .u32 x.v.b, .int .u32 x.v.c, .int .u32 x.v.d]
def TyV (w : World) (b : Nat) : Prop := ∃ cs fr, w.heap[b]? = some (.cells cs 36 fr)
theorem TyV.eq {w w' : World} {b : Nat} (h : TyV w b) (e : w'.heap[b]? = w.heap[b]?) : TyV w' b := by
  obtain ⟨cs, fr, h⟩ := h
  exact ⟨cs, fr, e.trans h⟩
def TyI (w : World) (b : Nat) : Prop := ∃ cs fr, w.heap[b]? = some (.cells cs 106 fr)
theorem TyI.eq {w w' : World} {b : Nat} (h : TyI w b) (e : w'.heap[b]? = w.heap[b]?) : TyI w' b := by
  obtain ⟨cs, fr, h⟩ := h
  exact ⟨cs, fr, e.trans h⟩
def RowIn (w : World) (a : Option Addr) (R : List W4) : Prop := 0 < R.length → ∃ b off, a = some ⟨b, off, none⟩ ∧ b < w.heap.size ∧ TyV w b ∧ ∀ k x, R[k]? = some x → w.rangeAt b (off + k * 4) x.l
theorem RowIn.below {w w' : World} {a : Option Addr} {R : List W4} (h : RowIn w a R) (hb : Below w.heap.size w w') : RowIn w' a R := fun hn => by
  obtain ⟨b, off, e, hl, ht, hc⟩ := h hn
  exact ⟨b, off, e, Nat.lt_of_lt_of_le hl hb.size, ht.eq (hb.block b hl), fun k x hk => range_below (hc k x hk) hb hl⟩
def CurAt (cur : Array Value) (o : Nat) (L : List Value) : Prop := ∀ j v, L[j]? = some v → cur[o + j]? = some v
def ItemAt (w : World) (g o : Nat) (x : ItemD) : Prop := ∃ a c, w.rangeAt g o (x.l a x.row.length c) ∧ x.row.length ≤ c ∧ c ≤ maxLen ∧ (a = none → c = 0) ∧ RowIn w a x.row
theorem ItemAt.below {w w' : World} {B g o : Nat} {x : ItemD} (h : ItemAt w g o x) (hb : Below w.heap.size w w') (hg : g < w.heap.size) : ItemAt w' g o x := by
  obtain ⟨a, c, h1, h2, h3, h4, h5⟩ := h
  exact ⟨a, c, range_below h1 hb hg, h2, h3, h4, h5.below hb⟩
structure StateAt (w : World) (g : Nat) (L : List ItemD) : Prop where
  lt : g < w.heap.size
  at' : ∀ k x, L[k]? = some x → ItemAt w g (k * 15) x
  ty : TyI w g
theorem StateAt.below {w w' : World} {g : Nat} {L : List ItemD} (h : StateAt w g L) (hb : Below w.heap.size w w') : StateAt w' g L :=
  ⟨Nat.lt_of_lt_of_le h.lt hb.size, fun k x hk => (h.at' k x hk).below (B := 0) hb h.lt, h.ty.eq (hb.block g h.lt)⟩
structure ItemW (w : World) (g o : Nat) (cur : Array Value) (x : ItemD) (a : Option Addr) (c : Nat) : Prop where
  cur : CurAt cur o (x.l a x.row.length c)
  le : x.row.length ≤ c
  max : c ≤ maxLen
  nil : a = none → c = 0
  row : RowIn w a x.row
  apart : 0 < x.row.length → ∀ b off, a = some ⟨b, off, none⟩ → b ≠ g
theorem ItemW.at' {w : World} {g o : Nat} {T : TypeId} {cur : Array Value} {x : ItemD} {a : Option Addr} {c : Nat} (h : ItemW w g o cur x a c) (hb : w.heap[g]? = some (.cells cur T (0, 0))) : ItemAt w g o x :=
  ⟨a, c, fun j v hv => (cell_of hb (o + j)).trans (h.cur j v hv), h.le, h.max, h.nil, h.row⟩
theorem ItemW.fifteen {w : World} {g o : Nat} {T : TypeId} {cur : Array Value} {x : ItemD} {a : Option Addr} {c : Nat} (h : ItemW w g o cur x a c) (hb : w.heap[g]? = some (.cells cur T (0, 0))) : w.rangeAt g o (x.l a x.row.length c) := fun j v hv => (cell_of hb (o + j)).trans (h.cur j v hv)
theorem ItemW.keeps {w w' : World} {g o : Nat} {cur cur' : Array Value} {x : ItemD} {a : Option Addr} {c : Nat} (h : ItemW w g o cur x a c) (hk : Keeps (fun j => j = g) w w') (hc : ∀ j, o ≤ j → j < o + 15 → cur'[j]? = cur[j]?) : ItemW w' g o cur' x a c := by
  refine ⟨fun j v hj => ?_, h.le, h.max, h.nil, fun hn => ?_, h.apart⟩
  · have hj15 : j < 15 := by
      rcases Nat.lt_or_ge j 15 with h1 | h1
      · exact h1
      · rw [List.getElem?_eq_none (by show 15 ≤ j; exact h1)] at hj; cases hj
    rw [hc (o + j) (by omega) (by omega)]
    exact h.cur j v hj
  · obtain ⟨b, off, e, hl, ht, hr⟩ := h.row hn
    have hne := h.apart hn b off e
    refine ⟨b, off, e, Nat.lt_of_lt_of_le hl hk.size, ht.eq (hk.block b hl hne), fun k v hv j u hu => ?_⟩
    rw [World.cell?_of_block (a := ⟨b, off + k * 4 + j, none⟩) (hk.block b hl hne)]
    exact hr k v hv j u hu
theorem Keeps.setNew {S : Nat → Prop} {a w : World} (h : Keeps S a w) (j : Nat) {u : Value} : Keeps S a (w.setCell ⟨a.heap.size, j, Option.none⟩ u) := h.setCell (.inr (Nat.le_refl _)) u
def kindP (o : Nat → Int) : Int := if rightS o = true then o 0 else 0
end Go.Proofs.YtkhmfjfclpehfaaGreat
