import Derived.WalkKit
import Derived.Below
import Derived.Deep.Draws
import Derived.ProofKit
import Derived.Laws.BitsAllLaws
import Derived.Test.YthnmlklgbggmbaaGreatRows
import Derived.OpenShut
import Derived.WalkLawsBesides
import Derived.WalkSpells
import Derived.Lib.Hide
import Derived.Deep.QuietTactic
import Derived.BigQuiet
import Derived.BigRegion
import Derived.LoopN
import Derived.Deep.RegionHeld3
namespace Go.Proofs.YthnmlklgbggmbaaGreat
open Go.RowKit

structure Keeps (S : Nat → Prop) (w w' : World) : Prop where
  os : w'.os = w.os
  tape : w'.tape = w.tape
  output : w'.output = w.output
  size : w.heap.size ≤ w'.heap.size
  block : ∀ k, k < w.heap.size → ¬ S k → w'.heap[k]? = w.heap[k]?

theorem Keeps.refl (S : Nat → Prop) (w : World) : Keeps S w w := ⟨rfl, rfl, rfl, Nat.le_refl _, fun _ _ _ => rfl⟩
theorem Keeps.trans {S : Nat → Prop} {a b c : World} (h : Keeps S a b) (k : Keeps S b c) : Keeps S a c :=
  ⟨k.os.trans h.os, k.tape.trans h.tape, k.output.trans h.output, Nat.le_trans h.size k.size, fun i hi hs => (k.block i (Nat.lt_of_lt_of_le hi h.size) hs).trans (h.block i hi hs)⟩
theorem Keeps.mono {S T : Nat → Prop} {a b : World} (h : Keeps S a b) (hs : ∀ k, k < a.heap.size → S k → T k) : Keeps T a b :=
  ⟨h.os, h.tape, h.output, h.size, fun i hi ht => h.block i hi fun hh => ht (hs i hi hh)⟩
theorem Keeps.drew {S : Nat → Prop} {a w : World} (h : Keeps S a w) : Keeps S a w.drew := ⟨h.os, h.tape, h.output, h.size, h.block⟩
theorem Keeps.drewN {S : Nat → Prop} {a w : World} (h : Keeps S a w) (n : Nat) : Keeps S a (w.drewN n) := ⟨h.os, h.tape, h.output, h.size, h.block⟩
theorem Keeps.alloc {S : Nat → Prop} {a w : World} (h : Keeps S a w) (o : Obj) : Keeps S a (w.alloc o) :=
  h.trans ⟨rfl, rfl, rfl, by simp, fun k hk _ => Below.heap_alloc _ _ _ hk⟩
theorem Keeps.setCell {S : Nat → Prop} {a w : World} (h : Keeps S a w) {p : Addr} (hp : S p.block ∨ a.heap.size ≤ p.block) (u : Value) : Keeps S a (w.setCell p u) :=
  ⟨h.os, h.tape, h.output, Nat.le_trans h.size (by simp [World.setCell]), fun k hk hs => (Below.heap_setCell _ _ _ _ (by rintro rfl; rcases hp with hp | hp; exact hs hp; omega)).trans (h.block k hk hs)⟩
theorem Keeps.below {S : Nat → Prop} {B : Nat} {w w' : World} (h : Keeps S w w') (hB : B ≤ w.heap.size) (hs : ∀ k, k < w.heap.size → S k → B ≤ k) : Below B w w' :=
  ⟨h.os, h.tape, h.output, h.size, fun k hk => h.block k (by omega) fun hh => by have := hs k (by omega) hh; omega⟩
theorem Keeps.none {w w' : World} (h : Keeps (fun _ => False) w w') : Below w.heap.size w w' := h.below (Nat.le_refl _) fun _ _ h => h.elim

theorem cell_of {w : World} {b : Nat} {cs : Array Value} {E : TypeId} {fr : Nat × Nat} (h : w.heap[b]? = some (.cells cs E fr)) (i : Nat) : w.cell? ⟨b, i, none⟩ = cs[i]? := by
  simp [World.cell?, h]
theorem free_of {w : World} {b : Nat} {cs : Array Value} {E : TypeId} (h : w.heap[b]? = some (.cells cs E (0, 0))) (i : Nat) : w.frozen? ⟨b, i, none⟩ = false := by
  simp [World.frozen?, h]
theorem lt_of {w : World} {b : Nat} {o : Obj} (h : w.heap[b]? = some o) : b < w.heap.size := by
  rcases Nat.lt_or_ge b w.heap.size with h1 | h1
  · exact h1
  · rw [Array.getElem?_eq_none h1] at h; cases h
theorem heap_new (w : World) (o : Obj) : (w.alloc o).heap[w.heap.size]? = some o := by
  show (w.heap.push o)[w.heap.size]? = _
  simp
theorem heap_old {w : World} {b : Nat} {x : Obj} (h : w.heap[b]? = some x) (o : Obj) : (w.alloc o).heap[b]? = some x := by
  rw [Below.heap_alloc _ _ _ (lt_of h)]; exact h
theorem heap_set {w : World} {b : Nat} {cs : Array Value} {E : TypeId} {fr : Nat × Nat} (h : w.heap[b]? = some (.cells cs E fr)) (i : Nat) (v : Value) :
    (w.setCell ⟨b, i, none⟩ v).heap[b]? = some (.cells (cs.setIfInBounds i v) E fr) := by
  simp [World.setCell, Array.getElem?_modify, h]
theorem heap_other {w : World} {b : Nat} {x : Obj} (h : w.heap[b]? = some x) {a : Addr} (ha : b ≠ a.block) (v : Value) : (w.setCell a v).heap[b]? = some x := by
  rw [Below.heap_setCell _ _ _ _ ha]; exact h
theorem Keeps.at {S : Nat → Prop} {w w' : World} (h : Keeps S w w') {b : Nat} {x : Obj} (hb : w.heap[b]? = some x) (hs : ¬ S b) : w'.heap[b]? = some x := by
  rw [h.block b (lt_of hb) hs]; exact hb
theorem Below.at {B : Nat} {w w' : World} (h : Below B w w') {b : Nat} {x : Obj} (hb : w.heap[b]? = some x) (hs : b < B) : w'.heap[b]? = some x := by
  rw [h.block b hs]; exact hb
end Go.Proofs.YthnmlklgbggmbaaGreat
namespace Go.Proofs.YthnmlklgbggmbaaGreat
theorem ret_u32 {a b : Int} (h : a = b) : Ending.returned (.int .u32 a) = .returned (.int .u32 b) := by rw [h]
theorem ret_i64 {a b : Int} (h : a = b) : Ending.returned (.int .i64 a) = .returned (.int .i64 b) := by rw [h]
theorem ret_bool {a b : Bool} (h : a = b) : Ending.returned (.bool a) = .returned (.bool b) := by rw [h]
end Go.Proofs.YthnmlklgbggmbaaGreat
namespace Go.Proofs.YthnmlklgbggmbaaGreat
open Go.RowKit

def pow2 (n : Int) : Bool := (List.range 32).any fun i => n == (2 : Int) ^ i

theorem pow2_iff (n : Int) : pow2 n = true ↔ ∃ i : Nat, i < 32 ∧ n = 2 ^ i := by
  unfold pow2
  simp

def PowInv (n p : Int) : Prop := ∃ j : Nat, p = 2 ^ j ∧ ∀ i : Nat, i < j → n ≠ 2 ^ i

theorem PowInv.one (n : Int) : PowInv n 1 := ⟨0, rfl, fun i h => by omega⟩
theorem pow_lt_iff (i j : Nat) : (2 : Int) ^ i < 2 ^ j ↔ i < j := by
  have h : ((2 ^ i : Nat) : Int) < ((2 ^ j : Nat) : Int) ↔ i < j := by
    rw [Int.ofNat_lt]
    exact Nat.pow_lt_pow_iff_right (by omega)
  simpa using h
theorem i64_and_nat (a b : Nat) (ha : a < 9223372036854775808) (hb : b < 9223372036854775808) : bits .and .i64 (a : Int) (b : Int) = ((a &&& b : Nat) : Int) := by
  exact (bits_nat .i64 63 (by decide) (fun n h0 h1 => by rw [IntKind.wrap_i64]; omega) a b (by omega) (by omega)).1

theorem pow2_bits (n : Int) (h1 : 1 ≤ n) (h2 : n ≤ 2147483648) : (bits .and .i64 n (n - 1) == 0) = pow2 n := by
  obtain ⟨m, rfl⟩ := Int.eq_ofNat_of_zero_le (by omega : 0 ≤ n)
  have e : ((m : Int) - 1) = ((m - 1 : Nat) : Int) := by omega
  rw [e, i64_and_nat m (m - 1) (by omega) (by omega), Bool.eq_iff_iff, pow2_iff]
  have hm : m ≠ 0 := by omega
  have hi := Nat.and_sub_one_eq_zero_iff_isPowerOfTwo hm
  constructor
  · intro h
    have h' : m &&& m - 1 = 0 := by simpa using h
    obtain ⟨k, hk⟩ := hi.1 h'
    refine ⟨k, ?_, by rw [hk]; simp⟩
    have : 2 ^ k < 2 ^ 32 := by omega
    exact (Nat.pow_lt_pow_iff_right (by omega)).1 this
  · rintro ⟨i, _, h⟩
    have h' : m = 2 ^ i := by
      have : ((2 ^ i : Nat) : Int) = 2 ^ i := by simp
      rw [← this] at h; exact Int.ofNat.inj h
    simpa using hi.2 ⟨i, h'⟩
theorem pow2_low (n : Int) (h : n < 1) : pow2 n = false := by
  rw [Bool.eq_false_iff]
  intro hc
  obtain ⟨i, _, e⟩ := (pow2_iff n).1 hc
  have : (0 : Int) < 2 ^ i := Int.pow_pos (by omega)
  omega
theorem pow2_high (n : Int) (h : 2147483648 < n) : pow2 n = false := by
  rw [Bool.eq_false_iff]
  intro hc
  obtain ⟨i, hi, e⟩ := (pow2_iff n).1 hc
  have : (2 : Int) ^ i < 2 ^ 32 := (pow_lt_iff _ _).2 hi
  have h31 : i ≤ 31 := by omega
  have : (2 : Int) ^ i ≤ 2 ^ 31 := by
    by_cases h : i = 31
    · subst h; omega
    · have := (pow_lt_iff i 31).2 (by omega); omega
  omega
end Go.Proofs.YthnmlklgbggmbaaGreat
namespace Go.Proofs.YthnmlklgbggmbaaGreat
open Go.ChangeShapes Go.WideShapes Go.ChangeAt Go.RowKit
set_option linter.unusedVariables false
theorem power_any (a : Int) (w : World) (h1 : -9223372036854775808 ≤ a) (h2 : a ≤ 9223372036854775807) :
    Calls Tryz.prog 151 #[.int .i64 a] w fun e w' => e = .returned (.bool (pow2 a)) ∧ w = w' := by
  by_cases c1 : 1 ≤ a
  · by_cases c2 : a ≤ 2147483648
    · go_enter Tryz.func151, Tryz.ntmps151
      go_wp2
      go_ret
      exact ⟨ret_bool (pow2_bits a c1 c2), rfl⟩
    · go_enter Tryz.func151, Tryz.ntmps151
      go_wp2
      go_ret
      exact ⟨ret_bool (pow2_high a (by omega)).symm, rfl⟩
  · go_enter Tryz.func151, Tryz.ntmps151
    go_wp2
    go_ret
    exact ⟨ret_bool (pow2_low a (by omega)).symm, rfl⟩
end Go.Proofs.YthnmlklgbggmbaaGreat
namespace Go.Proofs.YthnmlklgbggmbaaGreat
open Go.RowKit
set_option linter.unusedVariables false
structure Has (w wr : World) (L : List (Nat × Obj)) : Prop where
  keeps : Keeps (fun _ => False) w wr
  all : ∀ x, x ∈ L → wr.heap[x.1]? = some x.2
theorem Has.start (w : World) : Has w w [] := ⟨Keeps.refl _ _, fun x hx => by cases hx⟩
theorem Has.none {w w1 w2 : World} {L : List (Nat × Obj)} (h : Has w w1 L) (k : Keeps (fun _ => False) w1 w2) : Has w w2 L :=
  ⟨h.keeps.trans k, fun x hx => k.at (h.all x hx) fun h => h⟩
theorem Has.alloc {w w1 : World} {L : List (Nat × Obj)} (h : Has w w1 L) (o : Obj) : Has w (w1.alloc o) ((w1.heap.size, o) :: L) :=
  ⟨h.keeps.alloc o, fun x hx => by
    rcases List.mem_cons.1 hx with rfl | hx
    · exact heap_new w1 o
    · exact heap_old (h.all x hx) o⟩
theorem Has.drew {w w1 : World} {L : List (Nat × Obj)} (h : Has w w1 L) : Has w w1.drew L := ⟨h.keeps.drew, h.all⟩
theorem Has.old {w w1 : World} {L : List (Nat × Obj)} (h : Has w w1 L) {b : Nat} {o : Obj} (hb : w.heap[b]? = some o) : Has w w1 ((b, o) :: L) :=
  ⟨h.keeps, fun x hx => by
    rcases List.mem_cons.1 hx with rfl | hx
    · exact h.keeps.at hb fun h => h
    · exact h.all x hx⟩
theorem Has.eq {w w1 : World} {L M : List (Nat × Obj)} (h : Has w w1 L) (e : L = M) : Has w w1 M := e ▸ h
theorem Has.hd {w w1 : World} {L : List (Nat × Obj)} {b : Nat} {o : Obj} (h : Has w w1 ((b, o) :: L)) : w1.heap[b]? = some o := h.all (b, o) (.head _)
theorem Has.tl {w w1 : World} {L : List (Nat × Obj)} {x : Nat × Obj} (h : Has w w1 (x :: L)) : Has w w1 L := ⟨h.keeps, fun y hy => h.all y (.tail _ hy)⟩
theorem Has.at {w w1 : World} {L : List (Nat × Obj)} (h : Has w w1 L) (k : Nat) {b : Nat} {o : Obj} (e : L[k]? = some (b, o)) : w1.heap[b]? = some o := h.all (b, o) (List.mem_of_getElem? e)
end Go.Proofs.YthnmlklgbggmbaaGreat
namespace Go.Proofs.YthnmlklgbggmbaaGreat
open Go.ChangeShapes Go.WideShapes Go.ChangeAt Go.RowKit
set_option linter.unusedVariables false
set_option linter.unusedSimpArgs false
@[reducible] def objC (o oi : Nat → Int) : Array Value := #[.int .i64 (o 0), .int .i64 (o 1), .int .i64 (o 2), .int .i64 (o 3), .int .i64 (o 4), .int .i64 (o 5), .int .u32 (oi 0), .int .u32 (oi 1), .int .u32 (oi 2), .int .u32 (oi 3)]
theorem ten_cells {w : World} {g : Nat} {o oi : Nat → Int} {E : TypeId} (h : w.heap[g]? = some (.cells (objC o oi) E (0, 0))) :
    w.cell? ⟨g, 0, none⟩ = some (.int .i64 (o 0)) ∧ w.cell? ⟨g, 1, none⟩ = some (.int .i64 (o 1)) ∧ w.cell? ⟨g, 2, none⟩ = some (.int .i64 (o 2)) ∧ w.cell? ⟨g, 3, none⟩ = some (.int .i64 (o 3)) ∧ w.cell? ⟨g, 4, none⟩ = some (.int .i64 (o 4)) ∧ w.cell? ⟨g, 5, none⟩ = some (.int .i64 (o 5)) ∧ w.cell? ⟨g, 6, none⟩ = some (.int .u32 (oi 0)) ∧ w.cell? ⟨g, 7, none⟩ = some (.int .u32 (oi 1)) ∧ w.cell? ⟨g, 8, none⟩ = some (.int .u32 (oi 2)) ∧ w.cell? ⟨g, 9, none⟩ = some (.int .u32 (oi 3)) := ⟨cell_of h 0, cell_of h 1, cell_of h 2, cell_of h 3, cell_of h 4, cell_of h 5, cell_of h 6, cell_of h 7, cell_of h 8, cell_of h 9⟩
def rightS (o : Nat → Int) : Bool := (decide (1 ≤ o 0) && decide (o 0 ≤ 4)) && ((if o 0 = 1 then pow2 (o 1) && decide (o 1 ≤ 64) else o 1 == 0) && ((if o 0 = 4 then o 2 == 0 else decide (1 ≤ o 2) && decide (o 2 ≤ 4)) && (if o 0 = 3 then decide (0 ≤ o 3) && decide (o 3 ≤ 8) else o 3 == 0)))
def fourB (a b c d : Bool) : Nat → Bool
  | 0 => a
  | 1 => b
  | 2 => c
  | _ => d
theorem fourB_none {a b c d : Bool} (h : ∀ k, k < 4 → fourB a b c d k = true) : (a && (b && (c && d))) = true := by
  have h0 := h 0 (by omega); have h1 := h 1 (by omega); have h2 := h 2 (by omega); have h3 := h 3 (by omega)
  simp [fourB] at h0 h1 h2 h3
  simp [h0, h1, h2, h3]
theorem fourB_some {a b c d : Bool} {k : Nat} (hk : k < 4) (h : fourB a b c d k = false) : (a && (b && (c && d))) = false := by
  rcases (by omega : k = 0 ∨ k = 1 ∨ k = 2 ∨ k = 3) with rfl | rfl | rfl | rfl <;> simp [fourB] at h <;> simp [h]
end Go.Proofs.YthnmlklgbggmbaaGreat
