import Derived.WalkKit
import Derived.Below
import Derived.Deep.Draws
import Derived.ProofKit
import Derived.Laws.BitsAllLaws
import Derived.Test.YthnmlklgbggmbaaGreatRows
import Derived.OpenShut
import Derived.WalkLawsBesides
import Derived.WalkSpells
import Derived.Lib.Hide
import Derived.Deep.QuietTactic
import Derived.BigQuiet
import Derived.BigRegion
import Derived.LoopN
import Derived.Deep.RegionHeld3
import Derived.Deep.WholeRow
import Derived.Laws.CopyOwn
import Derived.Deep.OwnRows
import Derived.ChangeArms
import Derived.Deep.Slices
import Derived.Laws.AppendOwn
import Derived.Lib.TrailingZeros
import Derived.Lib.BitFns
import Derived.ScopeJumps
import Derived.WalkMore
namespace Go.Proofs.YthnmlklgbggmbaaGreat
open Go.RowKit

/-- w' is w but for new blocks and for the blocks of S. -/
structure Keeps (S : Nat → Prop) (w w' : World) : Prop where
  os : w'.os = w.os
  tape : w'.tape = w.tape
  output : w'.output = w.output
  size : w.heap.size ≤ w'.heap.size
  block : ∀ k, k < w.heap.size → ¬ S k → w'.heap[k]? = w.heap[k]?

theorem Keeps.refl (S : Nat → Prop) (w : World) : Keeps S w w := ⟨rfl, rfl, rfl, Nat.le_refl _, fun _ _ _ => rfl⟩
theorem Keeps.trans {S : Nat → Prop} {a b c : World} (h : Keeps S a b) (k : Keeps S b c) : Keeps S a c :=
  ⟨k.os.trans h.os, k.tape.trans h.tape, k.output.trans h.output, Nat.le_trans h.size k.size, fun i hi hs => (k.block i (Nat.lt_of_lt_of_le hi h.size) hs).trans (h.block i hi hs)⟩
theorem Keeps.mono {S T : Nat → Prop} {a b : World} (h : Keeps S a b) (hs : ∀ k, k < a.heap.size → S k → T k) : Keeps T a b :=
  ⟨h.os, h.tape, h.output, h.size, fun i hi ht => h.block i hi fun hh => ht (hs i hi hh)⟩
theorem Keeps.drew {S : Nat → Prop} {a w : World} (h : Keeps S a w) : Keeps S a w.drew := ⟨h.os, h.tape, h.output, h.size, h.block⟩
theorem Keeps.drewN {S : Nat → Prop} {a w : World} (h : Keeps S a w) (n : Nat) : Keeps S a (w.drewN n) := ⟨h.os, h.tape, h.output, h.size, h.block⟩
theorem Keeps.alloc {S : Nat → Prop} {a w : World} (h : Keeps S a w) (o : Obj) : Keeps S a (w.alloc o) :=
  h.trans ⟨rfl, rfl, rfl, by simp, fun k hk _ => Below.heap_alloc _ _ _ hk⟩
theorem Keeps.setCell {S : Nat → Prop} {a w : World} (h : Keeps S a w) {p : Addr} (hp : S p.block ∨ a.heap.size ≤ p.block) (u : Value) : Keeps S a (w.setCell p u) :=
  ⟨h.os, h.tape, h.output, Nat.le_trans h.size (by simp [World.setCell]), fun k hk hs => (Below.heap_setCell _ _ _ _ (by rintro rfl; rcases hp with hp | hp; exact hs hp; omega)).trans (h.block k hk hs)⟩
theorem Keeps.below {S : Nat → Prop} {B : Nat} {w w' : World} (h : Keeps S w w') (hB : B ≤ w.heap.size) (hs : ∀ k, k < w.heap.size → S k → B ≤ k) : Below B w w' :=
  ⟨h.os, h.tape, h.output, h.size, fun k hk => h.block k (by omega) fun hh => by have := hs k (by omega) hh; omega⟩
theorem Keeps.none {w w' : World} (h : Keeps (fun _ => False) w w') : Below w.heap.size w w' := h.below (Nat.le_refl _) fun _ _ h => h.elim

/-- A block known whole: its cells. -/
theorem cell_of {w : World} {b : Nat} {cs : Array Value} {E : TypeId} {fr : Nat × Nat} (h : w.heap[b]? = some (.cells cs E fr)) (i : Nat) : w.cell? ⟨b, i, none⟩ = cs[i]? := by
  simp [World.cell?, h]
theorem free_of {w : World} {b : Nat} {cs : Array Value} {E : TypeId} (h : w.heap[b]? = some (.cells cs E (0, 0))) (i : Nat) : w.frozen? ⟨b, i, none⟩ = false := by
  simp [World.frozen?, h]
theorem lt_of {w : World} {b : Nat} {o : Obj} (h : w.heap[b]? = some o) : b < w.heap.size := by
  rcases Nat.lt_or_ge b w.heap.size with h1 | h1
  · exact h1
  · rw [Array.getElem?_eq_none h1] at h; cases h
theorem heap_new (w : World) (o : Obj) : (w.alloc o).heap[w.heap.size]? = some o := by
  show (w.heap.push o)[w.heap.size]? = _
  simp
theorem heap_old {w : World} {b : Nat} {x : Obj} (h : w.heap[b]? = some x) (o : Obj) : (w.alloc o).heap[b]? = some x := by
  rw [Below.heap_alloc _ _ _ (lt_of h)]; exact h
theorem heap_set {w : World} {b : Nat} {cs : Array Value} {E : TypeId} {fr : Nat × Nat} (h : w.heap[b]? = some (.cells cs E fr)) (i : Nat) (v : Value) :
    (w.setCell ⟨b, i, none⟩ v).heap[b]? = some (.cells (cs.setIfInBounds i v) E fr) := by
  simp [World.setCell, Array.getElem?_modify, h]
theorem heap_other {w : World} {b : Nat} {x : Obj} (h : w.heap[b]? = some x) {a : Addr} (ha : b ≠ a.block) (v : Value) : (w.setCell a v).heap[b]? = some x := by
  rw [Below.heap_setCell _ _ _ _ ha]; exact h
theorem heap_drew {w : World} {b : Nat} {x : Obj} (h : w.heap[b]? = some x) : w.drew.heap[b]? = some x := h
theorem heap_drewN {w : World} {b : Nat} {x : Obj} (h : w.heap[b]? = some x) (n : Nat) : (w.drewN n).heap[b]? = some x := h
theorem Keeps.at {S : Nat → Prop} {w w' : World} (h : Keeps S w w') {b : Nat} {x : Obj} (hb : w.heap[b]? = some x) (hs : ¬ S b) : w'.heap[b]? = some x := by
  rw [h.block b (lt_of hb) hs]; exact hb
theorem Below.at {B : Nat} {w w' : World} (h : Below B w w') {b : Nat} {x : Obj} (hb : w.heap[b]? = some x) (hs : b < B) : w'.heap[b]? = some x := by
  rw [h.block b hs]; exact hb
end Go.Proofs.YthnmlklgbggmbaaGreat
namespace Go.Proofs.YthnmlklgbggmbaaGreat
theorem ret_u32 {a b : Int} (h : a = b) : Ending.returned (.int .u32 a) = .returned (.int .u32 b) := by rw [h]
theorem ret_i64 {a b : Int} (h : a = b) : Ending.returned (.int .i64 a) = .returned (.int .i64 b) := by rw [h]
theorem ret_bool {a b : Bool} (h : a = b) : Ending.returned (.bool a) = .returned (.bool b) := by rw [h]
end Go.Proofs.YthnmlklgbggmbaaGreat
namespace Go.Proofs.YthnmlklgbggmbaaGreat
open Go.RowKit

/-- Is n one of the powers of two from 1 to 2^31? -/
def pow2 (n : Int) : Bool := (List.range 32).any fun i => n == (2 : Int) ^ i

theorem pow2_iff (n : Int) : pow2 n = true ↔ ∃ i : Nat, i < 32 ∧ n = 2 ^ i := by
  unfold pow2
  simp

/-- What holds of k ahead of a round of the loop that doubles k: k is a power of two, and n is no lesser one. -/
def PowInv (n p : Int) : Prop := ∃ j : Nat, p = 2 ^ j ∧ ∀ i : Nat, i < j → n ≠ 2 ^ i

theorem PowInv.one (n : Int) : PowInv n 1 := ⟨0, rfl, fun i h => by omega⟩
theorem PowInv.twice {n p : Int} (h : PowInv n p) (hn : n ≠ p) : PowInv n (2 * p) := by
  obtain ⟨j, rfl, hj⟩ := h
  refine ⟨j + 1, by rw [Int.pow_succ]; omega, fun i hi => ?_⟩
  by_cases e : i = j
  · subst e; exact hn
  · exact hj i (by omega)
theorem pow_lt_iff (i j : Nat) : (2 : Int) ^ i < 2 ^ j ↔ i < j := by
  have h : ((2 ^ i : Nat) : Int) < ((2 ^ j : Nat) : Int) ↔ i < j := by
    rw [Int.ofNat_lt]
    exact Nat.pow_lt_pow_iff_right (by omega)
  simpa using h
theorem PowInv.hit {p : Int} (h : PowInv p p) (hp : p ≤ 2147483648) : pow2 p = true := by
  obtain ⟨j, e, _⟩ := h
  rw [pow2_iff]
  refine ⟨j, ?_, e⟩
  have : (2 : Int) ^ j < 2 ^ 32 := by rw [← e]; omega
  exact (pow_lt_iff _ _).1 this
theorem PowInv.miss {n p : Int} (h : PowInv n p) (hp : 2147483648 < p) : pow2 n = false := by
  obtain ⟨j, e, hj⟩ := h
  rw [Bool.eq_false_iff]
  intro hc
  obtain ⟨i, hi, e2⟩ := (pow2_iff n).1 hc
  have : (2 : Int) ^ 31 < 2 ^ j := by rw [← e]; omega
  exact hj i (by have := (pow_lt_iff _ _).1 this; omega) e2

theorem i64_and_nat (a b : Nat) (ha : a < 9223372036854775808) (hb : b < 9223372036854775808) : bits .and .i64 (a : Int) (b : Int) = ((a &&& b : Nat) : Int) := by
  exact (bits_nat .i64 63 (by decide) (fun n h0 h1 => by rw [IntKind.wrap_i64]; omega) a b (by omega) (by omega)).1

/-- The program's test of a power of two. -/
theorem pow2_bits (n : Int) (h1 : 1 ≤ n) (h2 : n ≤ 2147483648) : (bits .and .i64 n (n - 1) == 0) = pow2 n := by
  obtain ⟨m, rfl⟩ := Int.eq_ofNat_of_zero_le (by omega : 0 ≤ n)
  have e : ((m : Int) - 1) = ((m - 1 : Nat) : Int) := by omega
  rw [e, i64_and_nat m (m - 1) (by omega) (by omega), Bool.eq_iff_iff, pow2_iff]
  have hm : m ≠ 0 := by omega
  have hi := Nat.and_sub_one_eq_zero_iff_isPowerOfTwo hm
  constructor
  · intro h
    have h' : m &&& m - 1 = 0 := by simpa using h
    obtain ⟨k, hk⟩ := hi.1 h'
    refine ⟨k, ?_, by rw [hk]; simp⟩
    have : 2 ^ k < 2 ^ 32 := by omega
    exact (Nat.pow_lt_pow_iff_right (by omega)).1 this
  · rintro ⟨i, _, h⟩
    have h' : m = 2 ^ i := by
      have : ((2 ^ i : Nat) : Int) = 2 ^ i := by simp
      rw [← this] at h; exact Int.ofNat.inj h
    simpa using hi.2 ⟨i, h'⟩
theorem pow2_low (n : Int) (h : n < 1) : pow2 n = false := by
  rw [Bool.eq_false_iff]
  intro hc
  obtain ⟨i, _, e⟩ := (pow2_iff n).1 hc
  have : (0 : Int) < 2 ^ i := Int.pow_pos (by omega)
  omega
theorem pow2_high (n : Int) (h : 2147483648 < n) : pow2 n = false := by
  rw [Bool.eq_false_iff]
  intro hc
  obtain ⟨i, hi, e⟩ := (pow2_iff n).1 hc
  have : (2 : Int) ^ i < 2 ^ 32 := (pow_lt_iff _ _).2 hi
  have h31 : i ≤ 31 := by omega
  have : (2 : Int) ^ i ≤ 2 ^ 31 := by
    by_cases h : i = 31
    · subst h; omega
    · have := (pow_lt_iff i 31).2 (by omega); omega
  omega
end Go.Proofs.YthnmlklgbggmbaaGreat
namespace Go.Proofs.YthnmlklgbggmbaaGreat
open Go.ChangeShapes Go.WideShapes Go.ChangeAt Go.RowKit
set_option linter.unusedVariables false
theorem power_any (a : Int) (w : World) (h1 : -9223372036854775808 ≤ a) (h2 : a ≤ 9223372036854775807) :
    Calls Tryz.prog 151 #[.int .i64 a] w fun e w' => e = .returned (.bool (pow2 a)) ∧ w = w' := by
  by_cases c1 : 1 ≤ a
  · by_cases c2 : a ≤ 2147483648
    · go_enter Tryz.func151, Tryz.ntmps151
      go_wp2
      go_ret
      exact ⟨ret_bool (pow2_bits a c1 c2), rfl⟩
    · go_enter Tryz.func151, Tryz.ntmps151
      go_wp2
      go_ret
      exact ⟨ret_bool (pow2_high a (by omega)).symm, rfl⟩
  · go_enter Tryz.func151, Tryz.ntmps151
    go_wp2
    go_ret
    exact ⟨ret_bool (pow2_low a (by omega)).symm, rfl⟩
end Go.Proofs.YthnmlklgbggmbaaGreat
namespace Go.Proofs.YthnmlklgbggmbaaGreat
open Go.RowKit
set_option linter.unusedVariables false
/-- wr is w but for new blocks, and these blocks hold these objects. -/
structure Has (w wr : World) (L : List (Nat × Obj)) : Prop where
  keeps : Keeps (fun _ => False) w wr
  all : ∀ x, x ∈ L → wr.heap[x.1]? = some x.2
theorem Has.start (w : World) : Has w w [] := ⟨Keeps.refl _ _, fun x hx => by cases hx⟩
theorem Has.none {w w1 w2 : World} {L : List (Nat × Obj)} (h : Has w w1 L) (k : Keeps (fun _ => False) w1 w2) : Has w w2 L :=
  ⟨h.keeps.trans k, fun x hx => k.at (h.all x hx) fun h => h⟩
theorem Has.alloc {w w1 : World} {L : List (Nat × Obj)} (h : Has w w1 L) (o : Obj) : Has w (w1.alloc o) ((w1.heap.size, o) :: L) :=
  ⟨h.keeps.alloc o, fun x hx => by
    rcases List.mem_cons.1 hx with rfl | hx
    · exact heap_new w1 o
    · exact heap_old (h.all x hx) o⟩
theorem Has.drew {w w1 : World} {L : List (Nat × Obj)} (h : Has w w1 L) : Has w w1.drew L := ⟨h.keeps.drew, h.all⟩
theorem Has.old {w w1 : World} {L : List (Nat × Obj)} (h : Has w w1 L) {b : Nat} {o : Obj} (hb : w.heap[b]? = some o) : Has w w1 ((b, o) :: L) :=
  ⟨h.keeps, fun x hx => by
    rcases List.mem_cons.1 hx with rfl | hx
    · exact h.keeps.at hb fun h => h
    · exact h.all x hx⟩
theorem Has.eq {w w1 : World} {L M : List (Nat × Obj)} (h : Has w w1 L) (e : L = M) : Has w w1 M := e ▸ h
theorem Has.sub {w w1 : World} {L M : List (Nat × Obj)} (h : Has w w1 L) (e : ∀ x, x ∈ M → x ∈ L) : Has w w1 M := ⟨h.keeps, fun x hx => h.all x (e x hx)⟩
theorem Has.hd {w w1 : World} {L : List (Nat × Obj)} {b : Nat} {o : Obj} (h : Has w w1 ((b, o) :: L)) : w1.heap[b]? = some o := h.all (b, o) (.head _)
theorem Has.tl {w w1 : World} {L : List (Nat × Obj)} {x : Nat × Obj} (h : Has w w1 (x :: L)) : Has w w1 L := ⟨h.keeps, fun y hy => h.all y (.tail _ hy)⟩
/-- The k-th of them. -/
theorem Has.at {w w1 : World} {L : List (Nat × Obj)} (h : Has w w1 L) (k : Nat) {b : Nat} {o : Obj} (e : L[k]? = some (b, o)) : w1.heap[b]? = some o := h.all (b, o) (List.mem_of_getElem? e)
end Go.Proofs.YthnmlklgbggmbaaGreat
namespace Go.Proofs.YthnmlklgbggmbaaGreat
open Go.ChangeShapes Go.WideShapes Go.ChangeAt Go.RowKit
set_option linter.unusedVariables false
set_option linter.unusedSimpArgs false
@[reducible] def objC (o oi : Nat → Int) : Array Value := #[.int .i64 (o 0), .int .i64 (o 1), .int .i64 (o 2), .int .i64 (o 3), .int .i64 (o 4), .int .i64 (o 5), .int .u32 (oi 0), .int .u32 (oi 1), .int .u32 (oi 2), .int .u32 (oi 3)]
theorem ten_cells {w : World} {g : Nat} {o oi : Nat → Int} {E : TypeId} (h : w.heap[g]? = some (.cells (objC o oi) E (0, 0))) :
    w.cell? ⟨g, 0, none⟩ = some (.int .i64 (o 0)) ∧ w.cell? ⟨g, 1, none⟩ = some (.int .i64 (o 1)) ∧ w.cell? ⟨g, 2, none⟩ = some (.int .i64 (o 2)) ∧ w.cell? ⟨g, 3, none⟩ = some (.int .i64 (o 3)) ∧ w.cell? ⟨g, 4, none⟩ = some (.int .i64 (o 4)) ∧ w.cell? ⟨g, 5, none⟩ = some (.int .i64 (o 5)) ∧ w.cell? ⟨g, 6, none⟩ = some (.int .u32 (oi 0)) ∧ w.cell? ⟨g, 7, none⟩ = some (.int .u32 (oi 1)) ∧ w.cell? ⟨g, 8, none⟩ = some (.int .u32 (oi 2)) ∧ w.cell? ⟨g, 9, none⟩ = some (.int .u32 (oi 3)) := ⟨cell_of h 0, cell_of h 1, cell_of h 2, cell_of h 3, cell_of h 4, cell_of h 5, cell_of h 6, cell_of h 7, cell_of h 8, cell_of h 9⟩
def rightS (o : Nat → Int) : Bool := (decide (1 ≤ o 0) && decide (o 0 ≤ 4)) && ((if o 0 = 1 then pow2 (o 1) && decide (o 1 ≤ 64) else o 1 == 0) && ((if o 0 = 4 then o 2 == 0 else decide (1 ≤ o 2) && decide (o 2 ≤ 4)) && (if o 0 = 3 then decide (0 ≤ o 3) && decide (o 3 ≤ 8) else o 3 == 0)))
def fourB (a b c d : Bool) : Nat → Bool
  | 0 => a
  | 1 => b
  | 2 => c
  | _ => d
theorem fourB_none {a b c d : Bool} (h : ∀ k, k < 4 → fourB a b c d k = true) : (a && (b && (c && d))) = true := by
  have h0 := h 0 (by omega); have h1 := h 1 (by omega); have h2 := h 2 (by omega); have h3 := h 3 (by omega)
  simp [fourB] at h0 h1 h2 h3
  simp [h0, h1, h2, h3]
theorem fourB_some {a b c d : Bool} {k : Nat} (hk : k < 4) (h : fourB a b c d k = false) : (a && (b && (c && d))) = false := by
  rcases (by omega : k = 0 ∨ k = 1 ∨ k = 2 ∨ k = 3) with rfl | rfl | rfl | rfl <;> simp [fourB] at h <;> simp [h]
end Go.Proofs.YthnmlklgbggmbaaGreat
namespace Go.Proofs.YthnmlklgbggmbaaGreat
open Go.ChangeShapes Go.WideShapes Go.ChangeAt Go.RowKit
set_option linter.unusedVariables false
set_option linter.unusedSimpArgs false
theorem pow2_pos {n : Int} (h : pow2 n = true) : 1 ≤ n := Int.not_lt.1 fun hl => by rw [pow2_low n hl] at h; cases h
end Go.Proofs.YthnmlklgbggmbaaGreat
namespace Go.Proofs.YthnmlklgbggmbaaGreat
open Go.RowKit
theorem Keeps.setRow {S : Nat → Prop} {a w : World} (h : Keeps S a w) {g : Nat} (hg : S g ∨ a.heap.size ≤ g) (cs : Array Value) : Keeps S a (w.setRow g cs) :=
  ⟨h.os, h.tape, h.output, Nat.le_trans h.size (by simp [World.setRow]), fun k hk hs => (setRow_other w g k cs (by rintro rfl; rcases hg with hg | hg; exact hs hg; omega)).trans (h.block k hk hs)⟩
end Go.Proofs.YthnmlklgbggmbaaGreat
namespace Go.Proofs.YthnmlklgbggmbaaGreat
open Go.ChangeShapes Go.WideShapes Go.ChangeAt Go.RowKit

/-- The cells read as data of the type. -/
def Reads (P : Program) (w : World) (t : TypeId) (cs : List Value) : Prop :=
  ∃ (H : Type) (enc : TypeId × Value → H) (fuel : Nat) (x : DataW H × List MemPlace), DataW.trod enc P w 0 (fun _ => true) true fuel t cs = some x

variable {P : Program} {w : World} {t : TypeId} {cs : List Value}

theorem reads_of {H : Type} {enc : TypeId × Value → H} {v : Value} {d : DataW H} {p : List MemPlace} (h : DataW.Trod enc P w 0 (fun _ => true) true t v d p) : Reads P w t v.cells.toList := by
  obtain ⟨fuel, hf⟩ := h
  exact ⟨H, enc, fuel, _, hf⟩
theorem Reads.int {k : IntKind} (h : Reads P w t cs) (ht : P.underlying t = some (.int k)) : ∃ n, cs = [.int k n] ∧ (Lit.int k n).wf = true := by
  obtain ⟨H, enc, fuel, x, hf⟩ := h
  obtain ⟨n, h, _, hw⟩ := DataW.trod_int ht hf
  exact ⟨n, h, hw⟩
theorem Reads.bool (h : Reads P w t cs) (ht : P.underlying t = some .bool) : ∃ b, cs = [.bool b] := by
  obtain ⟨H, enc, fuel, x, hf⟩ := h
  obtain ⟨n, h, _⟩ := DataW.trod_bool ht hf
  exact ⟨n, h⟩
theorem Reads.string (h : Reads P w t cs) (ht : P.underlying t = some .string) : ∃ s, cs = [.string s] ∧ s.size ≤ maxLen := by
  obtain ⟨H, enc, fuel, x, hf⟩ := h
  obtain ⟨s, h, _, hs⟩ := DataW.trod_string ht hf
  exact ⟨s, h, hs⟩
theorem Reads.struct {fs : Array Field} (h : Reads P w t cs) (ht : P.underlying t = some (.struct fs)) :
    cs.length = P.cellsOf t ∧ ∀ (i : Nat) (f : Field), fs[i]? = some f → Reads P w f.type ((cs.drop f.offset).take (P.cellsOf f.type)) := by
  obtain ⟨H, enc, fuel, x, hf⟩ := h
  obtain ⟨xs, n, _, _, hl, hlen, h⟩ := DataW.trod_struct ht hf
  refine ⟨hl, fun i f hi => ?_⟩
  have hlt : i < fs.size := by
    rcases Nat.lt_or_ge i fs.size with h1 | h1
    · exact h1
    · rw [Array.getElem?_eq_none h1] at hi; cases hi
  have := h i f hi
  rw [List.getElem?_eq_getElem (by omega)] at this
  exact ⟨H, enc, n, _, this⟩
/-- A field of a struct, by its number: its type u, its place o, its size k. -/
theorem Reads.field {fs : Array Field} (h : Reads P w t cs) (ht : P.underlying t = some (.struct fs)) (i : Nat) (u o k : Nat) (hi : (fs[i]?).map (fun f => (f.type, f.offset)) = some (u, o)) (hk : P.cellsOf u = k) :
    Reads P w u ((cs.drop o).take k) := by
  cases hf : fs[i]? with
  | none => rw [hf] at hi; cases hi
  | some f =>
    rw [hf] at hi
    simp at hi
    obtain ⟨rfl, rfl⟩ := hi
    have := (h.struct ht).2 i f hf
    rw [hk] at this
    exact this
theorem Reads.array {n : Nat} {e : TypeId} (h : Reads P w t cs) (ht : P.underlying t = some (.array n e)) :
    cs.length = P.cellsOf t ∧ ∀ i, i < n → Reads P w e ((cs.drop (i * P.cellsOf e)).take (P.cellsOf e)) := by
  obtain ⟨H, enc, fuel, x, hf⟩ := h
  obtain ⟨xs, m, _, _, hl, hlen, h⟩ := DataW.trod_array ht hf
  refine ⟨hl, fun i hi => ?_⟩
  have := h i hi
  rw [List.getElem?_eq_getElem (by omega)] at this
  exact ⟨H, enc, m, _, this⟩
/-- A slice: nil, or so many elements, each of which reads, at its place. -/
theorem Reads.slice {e : TypeId} (h : Reads P w t cs) (ht : P.underlying t = some (.slice e)) :
    ∃ (a : Option Addr) (len cap : Nat), cs = [.slice a len cap] ∧ len ≤ cap ∧ cap ≤ maxLen ∧
      ∀ i, i < len → ∃ a', a = some a' ∧ ∃ cs', w.cells? 0 (a'.add (i * P.cellsOf e)) (P.cellsOf e) = some cs' ∧ Reads P w e cs' := by
  obtain ⟨H, enc, fuel, x, hf⟩ := h
  rcases Deep.open_slice ht hf with ⟨h, _⟩ | ⟨a, len, cap, m, n, D, Pl, h, _, hl, hm, hmm, _, hc⟩
  · exact ⟨none, 0, 0, h, by omega, by unfold maxLen; omega, fun i hi => by omega⟩
  · refine ⟨some a, len, cap, h, hl, hm, fun i hi => ⟨a, rfl, ?_⟩⟩
    simp only [if_true] at hmm
    obtain ⟨cs', h1, h2⟩ := hc i (by omega)
    exact ⟨cs', h1, ⟨H, enc, n, _, h2⟩⟩

theorem spot_none {a : Addr} {v : Value} (h : w.cell? a = some v) : a = ⟨a.block, a.off, none⟩ ∧ a.block < w.heap.size := by
  unfold World.cell? at h
  split at h
  · rename_i c _ _ e
    split at h
    · cases h
    · rename_i hs
      refine ⟨?_, ?_⟩
      · cases a with
        | mk b o s => cases s with
          | none => rfl
          | some _ => simp at hs
      · rcases Nat.lt_or_ge a.block w.heap.size with h1 | h1
        · exact h1
        · rw [Array.getElem?_eq_none h1] at e; cases e
  · cases h
/-- The same, cell by cell. -/
theorem Reads.rows {e : TypeId} {n : Nat} (h : Reads P w t cs) (ht : P.underlying t = some (.slice e)) (hn : P.cellsOf e = n) (hpos : 0 < n) :
    ∃ (a : Option Addr) (len cap : Nat), cs = [.slice a len cap] ∧ len ≤ cap ∧ cap ≤ maxLen ∧
      (0 < len → ∃ b off, a = some ⟨b, off, none⟩ ∧ b < w.heap.size ∧ ∀ i, i < len → ∃ cs', cs'.length = n ∧ (∀ j, j < n → w.cell? ⟨b, off + i * n + j, none⟩ = cs'[j]?) ∧ Reads P w e cs') := by
  obtain ⟨a, len, cap, hc, hl, hm, hi⟩ := h.slice ht
  refine ⟨a, len, cap, hc, hl, hm, fun hlen => ?_⟩
  obtain ⟨a', rfl, cs0, h0, _⟩ := hi 0 hlen
  rw [hn] at h0
  obtain ⟨_, l0, c0⟩ := World.cells?_some h0
  have hx := c0 0 (by omega)
  rw [List.getElem?_eq_getElem (by omega)] at hx
  have hz : (a'.add (0 * n)).add 0 = a' := by simp [Addr.add]
  rw [hz] at hx
  obtain ⟨hsp, hlt⟩ := spot_none hx
  refine ⟨a'.block, a'.off, by rw [← hsp], hlt, fun i hil => ?_⟩
  obtain ⟨a2, e2, cs', h1, h2⟩ := hi i hil
  cases e2
  rw [hn] at h1
  obtain ⟨_, l1, c1⟩ := World.cells?_some h1
  refine ⟨cs', l1, fun j hj => ?_, h2⟩
  rw [← c1 j hj]
  congr 1
  rw [hsp]
  simp only [Addr.add]
  by_cases h1 : i * n = 0 <;> by_cases h2 : j = 0 <;> simp [h1, h2]
end Go.Proofs.YthnmlklgbggmbaaGreat
namespace Go.Proofs.YthnmlklgbggmbaaGreat
open Go.ChangeShapes Go.WideShapes Go.ChangeAt Go.RowKit
set_option linter.unusedVariables false
/-- A slice of n numbers, of which F tells. -/
def Row (w : World) (a : Option Addr) (n : Nat) (F : Nat → Int) : Prop := 0 < n → ∃ b off, a = some ⟨b, off, none⟩ ∧ b < w.heap.size ∧ ∀ i, i < n → w.cell? ⟨b, off + i, none⟩ = some (.int .i64 (F i))
theorem Row.below {w w' : World} {a : Option Addr} {n : Nat} {F : Nat → Int} (h : Row w a n F) (hk : Below w.heap.size w w') : Row w' a n F := by
  intro hn
  obtain ⟨b, off, ha, hb, hc⟩ := h hn
  exact ⟨b, off, ha, Nat.lt_of_lt_of_le hb hk.size, fun i hi => (hk.cell (p := ⟨b, off + i, none⟩) hb).trans (hc i hi)⟩
set_option maxRecDepth 100000 in
/-- A slice of numbers, read. -/
theorem row_of {H : Type} {enc : TypeId × Value → H} {W : World} {base : Nat} {v : Value} {d : DataW H} {p : List MemPlace}
    (k : Value.okWide Tryz.prog W .any base 53 v) (h : DataW.Trod enc Tryz.prog W 0 (fun _ => true) true 53 v d p) :
    ∃ (a : Option Addr) (n cap : Nat) (F : Nat → Int), v = .slice a n cap ∧ n ≤ maxLen ∧ Row W a n F ∧ ∀ i, i < n → (Lit.int .i64 (F i)).wf = true := by
  obtain ⟨a0, n0, c0, rfl⟩ := okWide_slice Tryz.underlying53 k
  obtain ⟨a, n, c, e, hl, hm, r⟩ := (reads_of h).rows Tryz.underlying53 (n := 1) (by kernel_rfl) (by omega)
  simp [Value.cells] at e
  obtain ⟨rfl, rfl, rfl⟩ := e
  rcases Nat.eq_zero_or_pos n0 with rfl | hp
  · exact ⟨a0, 0, c0, fun _ => 0, rfl, by omega, fun h => by omega, fun i hi => by omega⟩
  · obtain ⟨b, off, rfl, hb, hr⟩ := r hp
    obtain ⟨F, hF⟩ := Deep.choose_lt (n := n0) (p := fun i (x : Int) => W.cell? ⟨b, off + i, none⟩ = some (.int .i64 x) ∧ (Lit.int .i64 x).wf = true) (fun i hi => by
      obtain ⟨cs', _, hc, hrd⟩ := hr i hi
      obtain ⟨x, rfl, hx⟩ := hrd.int Tryz.underlying3
      have := hc 0 (by omega)
      simp at this
      exact ⟨x, this, hx⟩)
    exact ⟨_, n0, c0, F, rfl, by omega, fun _ => ⟨b, off, rfl, hb, fun i hi => (hF i hi).1⟩, fun i hi => (hF i hi).2⟩
theorem Row.keeps {S : Nat → Prop} {w w' : World} {a : Option Addr} {n : Nat} {F : Nat → Int} (h : Row w a n F) (hk : Keeps S w w') (hs : ∀ b off, a = some ⟨b, off, none⟩ → ¬ S b) : Row w' a n F := by
  intro hn
  obtain ⟨b, off, ha, hb, hc⟩ := h hn
  exact ⟨b, off, ha, Nat.lt_of_lt_of_le hb hk.size, fun i hi => (World.cell?_of_block (w := w) (hk.block b hb (hs b off ha))).trans (hc i hi)⟩
theorem Row.none {w w' : World} {a : Option Addr} {n : Nat} {F : Nat → Int} (h : Row w a n F) (hk : Keeps (fun _ => False) w w') : Row w' a n F := h.keeps hk fun _ _ _ h => h
theorem Keeps.ofBelow {w w' : World} (h : Below w.heap.size w w') : Keeps (fun _ => False) w w' := ⟨h.os, h.tape, h.output, h.size, fun k hk _ => h.block k hk⟩
theorem new_one (w : World) (x : Value) (E : TypeId) : ∀ (j : Nat) (u : Value), [x][j]? = some u → (w.alloc (.cells #[x] E)).cell? ((⟨w.heap.size, 0, Option.none⟩ : Addr).add j) = some u := by
  intro j u h
  rcases j with _ | j
  · have e : (⟨w.heap.size, 0, Option.none⟩ : Addr).add 0 = ⟨w.heap.size, 0, Option.none⟩ := by simp [Addr.add]
    rw [e, World.cell?_alloc_at _ _ _ _ rfl]
    simpa using h
  · simp at h
/-- The numbers as cells. -/
def nums (F : Nat → Int) (n : Nat) : List Value := (List.range n).map fun i => Value.int .i64 (F i)
theorem nums_len (F : Nat → Int) (n : Nat) : (nums F n).length = n := by simp [nums]
theorem nums_get (F : Nat → Int) (n i : Nat) (h : i < n) : (nums F n)[i]? = some (.int .i64 (F i)) := by simp [nums, h]
theorem Row.ofOwn {w : World} {B n : Nat} {E : TypeId} {v : Value} {F : Nat → Int} (h : w.ownsRow B E 1 v n (nums F n)) : ∃ a cap, v = .slice a n cap ∧ Row w a n F := by
  obtain ⟨h1, h | ⟨g, cap, cur, rfl, hg, hb, hc1, hc2, hs, ht⟩⟩ := h
  · exact ⟨Option.none, 0, by rw [h.1, h.2], fun hp => by omega⟩
  · refine ⟨_, cap, rfl, fun hp => ⟨g, 0, rfl, lt_of hb, fun i hi => ?_⟩⟩
    have e : w.cell? ⟨g, 0 + i, Option.none⟩ = cur[i]? := by simp [World.cell?, hb]
    have e2 : (cur.toList.take (n * 1))[i]? = (nums F n)[i]? := by rw [ht]
    rw [List.getElem?_take, if_pos (by omega), nums_get F n i hi] at e2
    rw [e]
    simpa using e2
theorem made_none (w : World) (B : Nat) (E : TypeId) (hB : B ≤ w.heap.size) : (w.alloc (.cells #[] E)).ownsRow B E 1 (.slice (some ⟨w.heap.size, 0, Option.none⟩) 0 0) 0 [] :=
  ⟨rfl, .inr ⟨w.heap.size, 0, #[], rfl, hB, heap_new _ _, Nat.le_refl _, by unfold maxLen; omega, rfl, rfl⟩⟩
theorem Row.cells {w : World} {b off n : Nat} {F : Nat → Int} (hc : ∀ i, i < n → w.cell? ⟨b, off + i, Option.none⟩ = some (.int .i64 (F i))) : ∀ (j : Nat) (u : Value), (nums F n)[j]? = some u → w.cell? ((⟨b, off, Option.none⟩ : Addr).add j) = some u := by
  intro j u hj
  have hjn : j < n := by
    rcases Nat.lt_or_ge j n with h1 | h1
    · exact h1
    · rw [List.getElem?_eq_none (by rw [nums_len]; exact h1)] at hj; cases hj
  rw [nums_get F n j hjn] at hj
  have e : ((⟨b, off, Option.none⟩ : Addr).add j) = ⟨b, off + j, Option.none⟩ := by
    simp only [Addr.add]
    by_cases h : j = 0 <;> simp [h]
  rw [e, hc j hjn, ← Option.some.inj hj]
end Go.Proofs.YthnmlklgbggmbaaGreat
namespace Go.Proofs.YthnmlklgbggmbaaGreat
open Go.ChangeShapes Go.WideShapes Go.ChangeAt Go.RowKit
set_option linter.unusedVariables false
set_option linter.unusedSimpArgs false
/-- A configuration's numbers, and where they lie. -/
structure CfD where
  nT : Nat
  nL : Nat
  nO : Nat
  tick : Int
  ta : Option Addr
  la : Option Addr
  oa : Option Addr
  tc : Nat
  lc : Nat
  oc : Nat
  tp : Nat → Int
  tb : Nat → Bool
  tl : Nat → Nat
  tca : Nat → Option Addr
  tcc : Nat → Nat
  lr : Nat → Int
  ll : Nat → Nat
  lca : Nat → Option Addr
  lcc : Nat → Nat
  ob : Nat → Nat → Int
  oi : Nat → Nat → Int
@[reducible] def CfD.cells (c : CfD) : Array Value := #[.slice c.ta c.nT c.tc, .slice c.la c.nL c.lc, .slice c.oa c.nO c.oc, .int .i64 c.tick]
@[reducible] def CfD.obj (c : CfD) (i : Nat) : Array Value := #[.int .i64 (c.ob i 0), .int .i64 (c.ob i 1), .int .i64 (c.ob i 2), .int .i64 (c.ob i 3), .int .i64 (c.ob i 4), .int .i64 (c.ob i 5), .int .u32 (c.oi i 0), .int .u32 (c.oi i 1), .int .u32 (c.oi i 2), .int .u32 (c.oi i 3)]
/-- Where a configuration's rows lie, they lie so. -/
structure CfIn (w : World) (c : CfD) : Prop where
  t : 0 < c.nT → ∃ b off, c.ta = some ⟨b, off, none⟩ ∧ b < w.heap.size ∧ ∀ i, i < c.nT → w.cell? ⟨b, off + i * 3, none⟩ = some (.int .i64 (c.tp i)) ∧ w.cell? ⟨b, off + i * 3 + 1, none⟩ = some (.bool (c.tb i)) ∧ w.cell? ⟨b, off + i * 3 + 2, none⟩ = some (.slice (c.tca i) (c.tl i) (c.tcc i))
  l : 0 < c.nL → ∃ b off, c.la = some ⟨b, off, none⟩ ∧ b < w.heap.size ∧ ∀ i, i < c.nL → w.cell? ⟨b, off + i * 2, none⟩ = some (.int .i64 (c.lr i)) ∧ w.cell? ⟨b, off + i * 2 + 1, none⟩ = some (.slice (c.lca i) (c.ll i) (c.lcc i))
  o : 0 < c.nO → ∃ b off, c.oa = some ⟨b, off, none⟩ ∧ b < w.heap.size ∧ ∀ i, i < c.nO → ∀ j, j < 10 → w.cell? ⟨b, off + i * 10 + j, none⟩ = (c.obj i)[j]?
/-- Within the bounds of the machine. -/
structure CfD.Ok (c : CfD) : Prop where
  t : c.nT ≤ maxLen
  l : c.nL ≤ maxLen
  o : c.nO ≤ maxLen
  tick : -9223372036854775808 ≤ c.tick ∧ c.tick ≤ 9223372036854775807
  lr : ∀ i, i < c.nL → -9223372036854775808 ≤ c.lr i ∧ c.lr i ≤ 9223372036854775807
  ob : ∀ i, i < c.nO → ∀ j, j < 6 → -9223372036854775808 ≤ c.ob i j ∧ c.ob i j ≤ 9223372036854775807
theorem CfIn.none {w w' : World} {c : CfD} (h : CfIn w c) (k : Keeps (fun _ => False) w w') : CfIn w' c := by
  have hk := k.none
  refine ⟨fun hn => ?_, fun hn => ?_, fun hn => ?_⟩
  · obtain ⟨b, off, ha, hb, hc⟩ := h.t hn
    exact ⟨b, off, ha, Nat.lt_of_lt_of_le hb k.size, fun i hi => ⟨(hk.cell (p := ⟨b, off + i * 3, Option.none⟩) hb).trans (hc i hi).1, (hk.cell (p := ⟨b, off + i * 3 + 1, Option.none⟩) hb).trans (hc i hi).2.1, (hk.cell (p := ⟨b, off + i * 3 + 2, Option.none⟩) hb).trans (hc i hi).2.2⟩⟩
  · obtain ⟨b, off, ha, hb, hc⟩ := h.l hn
    exact ⟨b, off, ha, Nat.lt_of_lt_of_le hb k.size, fun i hi => ⟨(hk.cell (p := ⟨b, off + i * 2, Option.none⟩) hb).trans (hc i hi).1, (hk.cell (p := ⟨b, off + i * 2 + 1, Option.none⟩) hb).trans (hc i hi).2⟩⟩
  · obtain ⟨b, off, ha, hb, hc⟩ := h.o hn
    exact ⟨b, off, ha, Nat.lt_of_lt_of_le hb k.size, fun i hi j hj => (hk.cell (p := ⟨b, off + i * 10 + j, Option.none⟩) hb).trans (hc i hi j hj)⟩
theorem four_cells {w : World} {g : Nat} {x y z v : Value} {E : TypeId} (h : w.heap[g]? = some (.cells #[x, y, z, v] E (0, 0))) :
    w.cell? ⟨g, 0, none⟩ = some x ∧ w.cell? ⟨g, 1, none⟩ = some y ∧ w.cell? ⟨g, 2, none⟩ = some z ∧ w.cell? ⟨g, 3, none⟩ = some v := ⟨cell_of h 0, cell_of h 1, cell_of h 2, cell_of h 3⟩
end Go.Proofs.YthnmlklgbggmbaaGreat
namespace Go.Proofs.YthnmlklgbggmbaaGreat

/-- Bit i of w, for any integer i. -/
def hasB (w : Nat) (i : Int) : Bool := decide (0 ≤ i ∧ i < 32) && w.testBit i.toNat
/-- The word with only bit i. -/
def bitW (i : Int) : Nat := if 0 ≤ i ∧ i < 32 then 2 ^ i.toNat else 0
def setB (w : Nat) (i : Int) : Nat := w ||| bitW i
def clrB (w : Nat) (i : Int) : Nat := w &&& (4294967295 - bitW i)
/-- The bits that are 1, from the least on. -/
def bitsL (w : Nat) : List Nat := (List.range 32).filter w.testBit

theorem bitW_lt (i : Int) : bitW i < 4294967296 := by
  unfold bitW
  split
  · have : 2 ^ i.toNat < 2 ^ 32 := Nat.pow_lt_pow_right (by omega) (by omega)
    omega
  · omega
theorem setB_lt {w : Nat} (h : w < 4294967296) (i : Int) : setB w i < 4294967296 := Nat.or_lt_two_pow (n := 32) h (bitW_lt i)
theorem clrB_lt {w : Nat} (h : w < 4294967296) (i : Int) : clrB w i < 4294967296 := by
  have : w &&& (4294967295 - bitW i) ≤ w := Nat.and_le_left
  unfold clrB; omega
theorem testBit_ge {w j : Nat} (h : w < 4294967296) (hj : 32 ≤ j) : w.testBit j = false :=
  Nat.testBit_lt_two_pow (Nat.lt_of_lt_of_le h (Nat.pow_le_pow_right (by omega) hj : 2 ^ 32 ≤ 2 ^ j))
theorem ext32 {a b : Nat} (ha : a < 4294967296) (hb : b < 4294967296) (h : ∀ j, j < 32 → a.testBit j = b.testBit j) : a = b := by
  apply Nat.eq_of_testBit_eq
  intro j
  by_cases hj : j < 32
  · exact h j hj
  · rw [testBit_ge ha (by omega), testBit_ge hb (by omega)]
theorem bitW_testBit (i : Int) (j : Nat) : (bitW i).testBit j = decide ((j : Int) = i ∧ j < 32) := by
  unfold bitW
  split
  · rename_i h
    rw [Nat.testBit_two_pow, Bool.eq_iff_iff]
    simp only [decide_eq_true_eq]
    omega
  · rename_i h
    rw [Nat.zero_testBit]
    symm
    simp only [decide_eq_false_iff_not]
    omega
theorem setB_testBit (w : Nat) (i : Int) (j : Nat) : (setB w i).testBit j = (w.testBit j || decide ((j : Int) = i ∧ j < 32)) := by
  unfold setB; rw [Nat.testBit_or, bitW_testBit]
theorem clrB_testBit {w : Nat} (h : w < 4294967296) (i : Int) (j : Nat) : (clrB w i).testBit j = (w.testBit j && !decide ((j : Int) = i)) := by
  by_cases hj : j < 32
  · have e : (4294967295 - bitW i).testBit j = !(bitW i).testBit j := by
      have := Nat.testBit_two_pow_sub_succ (n := 32) (bitW_lt i) j
      have e2 : 2 ^ 32 - (bitW i + 1) = 4294967295 - bitW i := by omega
      rw [e2] at this
      rw [this]; simp [hj]
    unfold clrB
    rw [Nat.testBit_and, e, bitW_testBit]
    simp [hj]
  · rw [testBit_ge (clrB_lt h i) (by omega), testBit_ge h (by omega)]; rfl
theorem setB_out {w : Nat} {i : Int} (h : ¬ (0 ≤ i ∧ i < 32)) : setB w i = w := by simp [setB, bitW, h]
theorem clrB_out {w : Nat} (hw : w < 4294967296) {i : Int} (h : ¬ (0 ≤ i ∧ i < 32)) : clrB w i = w := by
  apply ext32 (clrB_lt hw i) hw
  intro j hj
  rw [clrB_testBit hw]
  have : ¬ (j : Int) = i := by omega
  simp [this]
theorem hasB_nat {w j : Nat} (h : j < 32) : hasB w j = w.testBit j := by
  unfold hasB
  have : (0 : Int) ≤ j ∧ (j : Int) < 32 := by omega
  simp [this]
/-- Has, as the program asks it. -/
theorem hasB_and (w : Nat) (i : Int) : (bitW i &&& w != 0) = hasB w i := by
  unfold hasB bitW
  split
  · rename_i h
    have hw : 2 ^ i.toNat &&& w = if w.testBit i.toNat then 2 ^ i.toNat else 0 := by
      apply Nat.eq_of_testBit_eq
      intro j
      rw [Nat.testBit_and, Nat.testBit_two_pow]
      by_cases hj : i.toNat = j
      · subst hj; cases hb : w.testBit i.toNat <;> simp
      · cases hb : w.testBit i.toNat <;> simp [hj]
    rw [hw]
    cases hb : w.testBit i.toNat
    · simp
    · have : 0 < 2 ^ i.toNat := Nat.two_pow_pos _
      simp [h]
  · rename_i h; simp [h]

theorem zero_bits {w : Nat} (h : w < 4294967296) (hz : ∀ j, j < 32 → w.testBit j = false) : w = 0 :=
  ext32 h (by omega) fun j hj => by rw [hz j hj, Nat.zero_testBit]
theorem mem_bitsL {w j : Nat} : j ∈ bitsL w ↔ j < 32 ∧ w.testBit j = true := by simp [bitsL]
theorem bitsL_zero : bitsL 0 = [] := by simp [bitsL]
theorem bitsL_nil {w : Nat} (h : w < 4294967296) (hn : bitsL w = []) : w = 0 := by
  apply zero_bits h
  intro j hj
  cases hb : w.testBit j
  · rfl
  · have : j ∈ bitsL w := mem_bitsL.2 ⟨hj, hb⟩
    rw [hn] at this; cases this

/-- The lowest bit: what w is. -/
theorem low_spec {w : Nat} (h : w < 4294967296) (h0 : w ≠ 0) : Lib.ctz 32 w < 32 ∧ w.testBit (Lib.ctz 32 w) = true ∧ (∀ j, j < Lib.ctz 32 w → w.testBit j = false) ∧ ∀ j, (w &&& (w - 1)).testBit j = (w.testBit j && decide (j ≠ Lib.ctz 32 w)) := by
  obtain ⟨m, e, hc⟩ := Lib.ctzFrom_spec 32 w (by omega) h
  have hcz : Lib.ctz 32 w = Lib.ctzFrom 32 w := by simp [Lib.ctz, h0]
  rw [hcz]
  generalize Lib.ctzFrom 32 w = c at *
  have hp : 0 < 2 ^ c := Nat.two_pow_pos _
  have t1 : ∀ j, w.testBit j = if j < c then false else (2 * m + 1).testBit (j - c) := by
    intro j
    have := Nat.testBit_two_pow_mul_add (2 * m + 1) hp j
    rw [Nat.add_zero, ← e] at this
    rw [this]; simp
  have e2 : w - 1 = 2 ^ c * (2 * m) + (2 ^ c - 1) := by rw [e, Nat.mul_add, Nat.mul_one]; omega
  have t2 : ∀ j, (w - 1).testBit j = if j < c then (2 ^ c - 1).testBit j else (2 * m).testBit (j - c) := by
    intro j
    rw [e2]
    exact Nat.testBit_two_pow_mul_add (2 * m) (by omega) j
  refine ⟨hc, ?_, ?_, ?_⟩
  · rw [t1]; simp
  · intro j hj; rw [t1]; simp [hj]
  · intro j
    rw [Nat.testBit_and, t2, t1]
    by_cases hj : j < c
    · simp [hj]
    · rw [if_neg hj, if_neg hj]
      by_cases hjc : j = c
      · subst hjc; simp
      · obtain ⟨k, hk⟩ : ∃ k, j - c = k + 1 := ⟨j - c - 1, by omega⟩
        have h1 : (2 * m + 1) / 2 = m := by omega
        have h2 : (2 * m) / 2 = m := by omega
        rw [hk, Nat.testBit_succ, Nat.testBit_succ, h1, h2]
        simp [hjc]
theorem low_and_lt {w : Nat} (h : w < 4294967296) : w &&& (w - 1) < 4294967296 := by
  have : w &&& (w - 1) ≤ w := Nat.and_le_left
  omega
theorem filter_range_low (n c : Nat) (p : Nat → Bool) (hc : c < n) (hp : p c = true) (hl : ∀ j, j < c → p j = false) :
    (List.range n).filter p = c :: (List.range n).filter fun j => p j && decide (j ≠ c) := by
  have e : List.range n = List.range c ++ c :: (List.range (n - (c + 1))).map (c + 1 + ·) := by
    have h1 : n = c + 1 + (n - (c + 1)) := by omega
    conv => lhs; rw [h1, List.range_add, List.range_succ]
    simp
  rw [e, List.filter_append, List.filter_append, List.filter_cons, List.filter_cons]
  have z1 : (List.range c).filter p = [] := by simp; intro j hj; exact hl j hj
  have z2 : (List.range c).filter (fun j => p j && decide (j ≠ c)) = [] := by
    simp; intro j hj hpj; rw [hl j hj] at hpj; cases hpj
  rw [z1, z2]
  simp [hp]
  apply List.filter_congr
  intro j hj
  simp at hj
  obtain ⟨k, hk, rfl⟩ := hj
  have : ¬ c + 1 + k = c := by omega
  simp [this]
theorem bitsL_cons {w : Nat} (h : w < 4294967296) (h0 : w ≠ 0) : bitsL w = Lib.ctz 32 w :: bitsL (w &&& (w - 1)) := by
  obtain ⟨h1, h2, h3, h4⟩ := low_spec h h0
  unfold bitsL
  rw [filter_range_low 32 _ _ h1 h2 h3]
  congr 1
  apply List.filter_congr
  intro j _
  rw [h4]
theorem filter_range_high (n c : Nat) (p : Nat → Bool) (hc : c < n) (hp : p c = true) (hh : ∀ j, c < j → j < n → p j = false) :
    (List.range n).filter p = (List.range c).filter p ++ [c] := by
  have e : List.range n = List.range c ++ c :: (List.range (n - (c + 1))).map (c + 1 + ·) := by
    have h1 : n = c + 1 + (n - (c + 1)) := by omega
    conv => lhs; rw [h1, List.range_add, List.range_succ]
    simp
  rw [e, List.filter_append, List.filter_cons]
  have z : ((List.range (n - (c + 1))).map (c + 1 + ·)).filter p = [] := by
    simp
    intro j hj
    exact hh _ (by omega) (by omega)
  rw [z]; simp [hp]
theorem bitLenAux_bds : ∀ (f x : Nat), x < 2 ^ f → x ≠ 0 → 1 ≤ Lib.bitLenAux f x ∧ 2 ^ (Lib.bitLenAux f x - 1) ≤ x ∧ x < 2 ^ Lib.bitLenAux f x
  | 0, x, h, h0 => by simp at h; omega
  | f + 1, x, h, h0 => by
    simp only [Lib.bitLenAux, if_neg h0]
    by_cases h2 : x / 2 = 0
    · have : x = 1 := by omega
      subst this
      cases f <;> simp [Lib.bitLenAux]
    · obtain ⟨a, b, c⟩ := bitLenAux_bds f (x / 2) (by rw [Nat.pow_succ] at h; omega) h2
      generalize Lib.bitLenAux f (x / 2) = k at *
      obtain ⟨k, rfl⟩ : ∃ m, k = m + 1 := ⟨k - 1, by omega⟩
      refine ⟨by omega, ?_, ?_⟩
      · have e : 1 + (k + 1) - 1 = (k + 1 - 1) + 1 := by omega
        rw [e, Nat.pow_succ]; omega
      · have e : 1 + (k + 1) = (k + 1) + 1 := by omega
        rw [e, Nat.pow_succ]; omega
theorem high_spec {w : Nat} (h : w < 4294967296) (h0 : w ≠ 0) : 1 ≤ Lib.bitLen w ∧ Lib.bitLen w ≤ 32 ∧ w.testBit (Lib.bitLen w - 1) = true ∧ ∀ j, Lib.bitLen w ≤ j → w.testBit j = false := by
  obtain ⟨a, b, c⟩ := bitLenAux_bds 64 w (by omega) h0
  have hl : Lib.bitLen w = Lib.bitLenAux 64 w := rfl
  rw [hl]
  generalize Lib.bitLenAux 64 w = k at *
  have hz : ∀ j, k ≤ j → w.testBit j = false := fun j hj => Nat.testBit_lt_two_pow (Nat.lt_of_lt_of_le c (Nat.pow_le_pow_right (by omega) hj))
  refine ⟨a, ?_, ?_, hz⟩
  · rcases Nat.lt_or_ge 32 k with h1 | h1
    · have : 2 ^ 32 ≤ 2 ^ (k - 1) := Nat.pow_le_pow_right (by omega) (by omega)
      omega
    · exact h1
  · obtain ⟨i, hi, ht⟩ := Nat.exists_ge_and_testBit_of_ge_two_pow b
    rcases Nat.lt_or_ge i k with h1 | h1
    · have : i = k - 1 := by omega
      rw [← this]; exact ht
    · rw [hz i h1] at ht; cases ht
theorem bitLen_zero : Lib.bitLen 0 = 0 := by simp [Lib.bitLen, Lib.bitLenAux]
theorem bitsL_high {w : Nat} (h : w < 4294967296) (h0 : w ≠ 0) : bitsL w = (List.range (Lib.bitLen w - 1)).filter w.testBit ++ [Lib.bitLen w - 1] := by
  obtain ⟨a, b, c, d⟩ := high_spec h h0
  exact filter_range_high 32 _ _ (by omega) c fun j h1 _ => d j (by omega)
theorem bitsL_last {w : Nat} (h : w < 4294967296) (h0 : w ≠ 0) : (bitsL w)[(bitsL w).length - 1]? = some (Lib.bitLen w - 1) := by
  rw [bitsL_high h h0]; simp
theorem bitsL_len (w : Nat) : (bitsL w).length ≤ 32 := by
  have := List.length_filter_le w.testBit (List.range 32)
  simpa [bitsL] using this
/-- How many bits of the n least are 1. -/
def pop (n w : Nat) : Nat := ((List.range n).filter w.testBit).length
theorem pop_eq (w : Nat) : (bitsL w).length = pop 32 w := rfl
theorem pop_split (n m w : Nat) : pop (n + m) w = pop n w + pop m (w / 2 ^ n) := by
  unfold pop
  rw [List.range_add, List.filter_append, List.length_append, List.filter_map, List.length_map]
  congr 2
  apply List.filter_congr
  intro j _
  simp [Nat.testBit_div_two_pow, Nat.add_comm]
theorem pop_mod (n w : Nat) : pop n (w % 2 ^ n) = pop n w := by
  unfold pop
  congr 1
  apply List.filter_congr
  intro j hj
  simp at hj
  simp [Nat.testBit_mod_two_pow, hj]
theorem pop_bytes (w : Nat) : (bitsL w).length = pop 8 (w / 16777216 % 256) + pop 8 (w / 65536 % 256) + pop 8 (w / 256 % 256) + pop 8 (w % 256) := by
  rw [pop_eq]
  have e1 := pop_split 8 24 w
  have e2 := pop_split 8 16 (w / 2 ^ 8)
  have e3 := pop_split 8 8 (w / 2 ^ 8 / 2 ^ 8)
  have m1 := pop_mod 8 w
  have m2 := pop_mod 8 (w / 256)
  have m3 := pop_mod 8 (w / 65536)
  have m4 := pop_mod 8 (w / 16777216)
  simp only [Nat.div_div_eq_div_mul] at e2 e3
  simp at e1 e2 e3 m1 m2 m3 m4
  omega
theorem pop_le (n w : Nat) : pop n w ≤ n := by
  have := List.length_filter_le w.testBit (List.range n)
  simpa [pop] using this
/-- Horner's way, from the greatest bit on. -/
theorem half_bit (x k : Nat) : x / 2 ^ k = 2 * (x / 2 ^ (k + 1)) + (x.testBit k).toNat := by
  rw [Nat.toNat_testBit, Nat.pow_succ, ← Nat.div_div_eq_div_mul]
  omega
theorem mask_set (k : Nat) (h : k < 32) : setB (2 ^ k - 1) k = 2 ^ (k + 1) - 1 := by
  have l1 : 2 ^ k ≤ 2 ^ 31 := Nat.pow_le_pow_right (by omega) (by omega)
  have l2 : 2 ^ (k + 1) ≤ 2 ^ 32 := Nat.pow_le_pow_right (by omega) (by omega)
  apply ext32 (setB_lt (by omega) _) (by omega)
  intro j hj
  rw [setB_testBit, Nat.testBit_two_pow_sub_one, Nat.testBit_two_pow_sub_one, Bool.eq_iff_iff]
  simp
  omega
end Go.Proofs.YthnmlklgbggmbaaGreat
namespace Go
section
variable {P : Program} {a : Act} {w : World} {Q : Exit → Act → World → Prop}
theorem Exit.jump_mono {l : Nat} {J J' : Act → World → Prop} {e : Exit} {a : Act} {w : World} (h : ∀ a w, J a w → J' a w) (hj : Exit.jump l J Q e a w) : Exit.jump l J' Q e a w := by
  cases e with
  | goto l' => exact ⟨hj.1, h _ _ hj.2⟩
  | _ => exact hj
/-- A scope in which the run jumps back to one label: the pass from the label is walked once, and serves the first one too. -/
theorem wp_scope_again {c rest : Code} (l : Nat) (J : Act → World → Prop) (μ : Act → World → Nat) (hf : findLabel c l = some (Code.skip.seq rest))
    (pass : ∀ a w, J a w → rest.wp P (Exit.jump l (fun a' w' => J a' w' ∧ μ a' w' < μ a w) Q) a w)
    (first : (∀ a w, J a w → rest.wp P (Exit.jump l J Q) a w) → c.wp P (Exit.jump l J Q) a w) : (Code.scope c).wp P Q a w :=
  wp_scope_jumps l J μ hf (first fun a w h => wp_mono (pass a w h) fun _ _ _ hq => Exit.jump_mono (fun _ _ h => h.1) hq) fun a w h => wp_seq (wp_skip (pass a w h))
end
end Go
namespace Go
section
variable {P : Program} {a : Act} {w : World} {Q : Exit → Act → World → Prop}
theorem least_of {p : Nat → Prop} (h : ∃ m, p m) : ∃ m, p m ∧ ∀ k, p k → m ≤ k := by
  obtain ⟨m, hm⟩ := h
  induction m using Nat.strongRecOn with
  | _ m ih =>
    by_cases h : ∃ k, k < m ∧ p k
    · obtain ⟨k, hk, hp⟩ := h
      exact ih k hk hp
    · exact ⟨m, hm, fun k hk => by
        rcases Nat.lt_or_ge k m with h1 | h1
        · exact absurd ⟨k, h1, hk⟩ h
        · exact h1⟩
open Classical in
/-- A scope in which the run jumps back to one label; what goes down at each pass stands in no slot. -/
theorem wp_scope_ghost {c rest : Code} (l : Nat) (J : Nat → Act → World → Prop) (hf : findLabel c l = some (Code.skip.seq rest))
    (pass : ∀ m a w, J m a w → rest.wp P (Exit.jump l (fun a' w' => ∃ m', m' < m ∧ J m' a' w') Q) a w)
    (first : (∀ m a w, J m a w → rest.wp P (Exit.jump l (fun a' w' => ∃ m', J m' a' w') Q) a w) → c.wp P (Exit.jump l (fun a' w' => ∃ m', J m' a' w') Q) a w) : (Code.scope c).wp P Q a w := by
  refine wp_scope_again l (fun a w => ∃ m, J m a w) (fun a w => if h : ∃ m, J m a w then Classical.choose (least_of h) else 0) hf ?_ ?_
  · intro a w h
    have hs := Classical.choose_spec (least_of h)
    have e : (if h : ∃ m, J m a w then Classical.choose (least_of h) else 0) = Classical.choose (least_of h) := dif_pos h
    refine wp_mono (pass _ a w hs.1) fun x a' w' hq => Exit.jump_mono (fun a' w' hj => ?_) hq
    obtain ⟨m', hm', hJ⟩ := hj
    refine ⟨⟨m', hJ⟩, ?_⟩
    show (if h : ∃ m, J m a' w' then Classical.choose (least_of h) else 0) < (if h : ∃ m, J m a w then Classical.choose (least_of h) else 0)
    rw [e, dif_pos ⟨m', hJ⟩]
    have := (Classical.choose_spec (least_of (p := fun m => J m a' w') ⟨m', hJ⟩)).2 m' hJ
    omega
  · intro h
    exact first fun m a w hJ => wp_mono (pass_all pass m a w hJ) fun _ _ _ hq => hq
where
  pass_all {rest : Code} {l : Nat} {J : Nat → Act → World → Prop} (pass : ∀ m a w, J m a w → rest.wp P (Exit.jump l (fun a' w' => ∃ m', m' < m ∧ J m' a' w') Q) a w) (m : Nat) (a : Act) (w : World) (h : J m a w) :
      rest.wp P (Exit.jump l (fun a' w' => ∃ m', J m' a' w') Q) a w :=
    wp_mono (pass m a w h) fun _ _ _ hq => Exit.jump_mono (fun _ _ ⟨m', _, hJ⟩ => ⟨m', hJ⟩) hq
end
end Go
namespace Go.Proofs.YthnmlklgbggmbaaGreat
open Go.ChangeShapes Go.WideShapes Go.ChangeAt Go.RowKit
set_option linter.unusedVariables false
theorem rsame_zero (a b : Option Addr) (c0 c1 : Nat) (w : World) : Calls Tryz.prog 17 #[.slice a 0 c0, .slice b 0 c1] w fun e w' => e = .returned (.bool true) ∧ Keeps (fun _ => False) w w' := by
  go_enter Tryz.func17, Tryz.ntmps17
  go_wp2_with fail
  obtain ⟨wo, rfl⟩ : ∃ wo : World, wo = w := ⟨_, rfl⟩
  go_loopw [5] (fun i wr => i = .int .i64 0 ∧ wr = wo) (fun _ _ => 0)
  case atStart => exact ⟨rfl, rfl⟩
  case round =>
    obtain ⟨rfl, rfl⟩ := hrel
    go_wp2
    go_ret
    exact ⟨rfl, Keeps.refl _ _⟩
theorem rsame_some (g0 o0 g1 o1 n c0 c1 : Nat) (F : Nat → Int) (w : World) (hn : n ≤ maxLen) (h0 : ∀ i, i < n → w.cell? ⟨g0, o0 + i, none⟩ = some (.int .i64 (F i))) (h1 : ∀ i, i < n → w.cell? ⟨g1, o1 + i, none⟩ = some (.int .i64 (F i))) :
    Calls Tryz.prog 17 #[.slice (some ⟨g0, o0, none⟩) n c0, .slice (some ⟨g1, o1, none⟩) n c1] w fun e w' => e = .returned (.bool true) ∧ Keeps (fun _ => False) w w' := by
  unfold maxLen at hn
  have H0 := Lib.hid h0
  have H1 := Lib.hid h1
  clear h0 h1
  go_enter Tryz.func17, Tryz.ntmps17
  go_wp2_with fail
  obtain ⟨wo, rfl⟩ : ∃ wo : World, wo = w := ⟨_, rfl⟩
  go_loopw [5] (fun i wr => ∃ k m : Nat, k ≤ n ∧ i = .int .i64 k ∧ wr = wo.drewN m) (fun i _ => n - (intOf i).toNat)
  case atStart => exact ⟨0, 0, by omega, rfl, rfl⟩
  case round =>
    obtain ⟨k, m, hk, rfl, rfl⟩ := hrel
    by_cases hlt : k < n
    · have c0 : wo.cell? ⟨g0, o0 + k, none⟩ = some (.int .i64 (F k)) := H0.out k hlt
      have c1 : wo.cell? ⟨g1, o1 + k, none⟩ = some (.int .i64 (F k)) := H1.out k hlt
      go_wp2_with fail
      go_quiet (fail)
      go_wp2
      go_roundw
      case rel => exact ⟨k + 1, m + nq, by omega, by go_num, rfl⟩
      case measure => simp [intOf]; omega
    · obtain rfl : k = n := by omega
      go_wp2
      go_ret
      exact ⟨rfl, (Keeps.refl _ _).drewN m⟩
end Go.Proofs.YthnmlklgbggmbaaGreat
namespace Go.Proofs.YthnmlklgbggmbaaGreat
open Go
section
variable {P : Program} {Q : Exit → Act → World → Prop}
/-- A scope in which at most n jumps are still made: at each the walk goes on behind its label. -/
def ScopeN (P : Program) (c : Code) (Q : Exit → Act → World → Prop) : Nat → Exit → Act → World → Prop
  | n, .goto l, a, w => match n with
    | 0 => False
    | m + 1 => ∃ rest, findLabel c l = some rest ∧ rest.wp P (ScopeN P c Q m) a w
  | _, e, a, w => Q e a w
theorem scopeN_pass {c : Code} : ∀ (n : Nat) (rest : Code) (a : Act) (w : World), rest.wp P (ScopeN P c Q n) a w → ∀ b k cs, ∃ e a' w', Q e a' w' ∧ Arrives P (lone (b.at a (.code rest :: .inScope c :: k)) cs w) b k cs e a' w' := by
  intro n
  induction n with
  | zero =>
    intro rest a w h b k cs
    obtain ⟨e, a₁, w₁, hq, harr⟩ := h b (.inScope c :: k) cs
    cases e with
    | normal => exact ⟨.normal, a₁, w₁, hq, Steps.trans harr (.one step_inScope)⟩
    | exit id => exact ⟨.exit id, a₁, w₁, hq, fun k' hk => harr k' (by simp [exitTo, hk])⟩
    | goto l' => exact hq.elim
    | ret => exact ⟨_, a₁, w₁, hq, harr⟩
    | panic ch => exact ⟨_, a₁, w₁, hq, harr⟩
    | outgrown => exact ⟨_, a₁, w₁, hq, harr⟩
  | succ n ih =>
    intro rest a w h b k cs
    obtain ⟨e, a₁, w₁, hq, harr⟩ := h b (.inScope c :: k) cs
    cases e with
    | normal => exact ⟨.normal, a₁, w₁, hq, Steps.trans harr (.one step_inScope)⟩
    | exit id => exact ⟨.exit id, a₁, w₁, hq, fun k' hk => harr k' (by simp [exitTo, hk])⟩
    | goto l' =>
      obtain ⟨rest', hf, h'⟩ := hq
      have hg : gotoIn l' (.inScope c :: k) = some (.code rest' :: .inScope c :: k) := by simp [gotoIn, hf]
      obtain ⟨e₂, a₂, w₂, hq₂, harr₂⟩ := ih rest' a₁ w₁ h' b k cs
      exact ⟨e₂, a₂, w₂, hq₂, .of_steps (harr _ hg) harr₂⟩
    | ret => exact ⟨_, a₁, w₁, hq, harr⟩
    | panic ch => exact ⟨_, a₁, w₁, hq, harr⟩
    | outgrown => exact ⟨_, a₁, w₁, hq, harr⟩
theorem wp_scope_n {c : Code} (n : Nat) {a : Act} {w : World} (h : c.wp P (ScopeN P c Q n) a w) : (Code.scope c).wp P Q a w := by
  intro b k cs
  obtain ⟨e, a₁, w₁, hq, harr⟩ := scopeN_pass n c a w h b k cs
  exact ⟨e, a₁, w₁, hq, .of_steps (.one step_scope) harr⟩
theorem scopeN_ret {c : Code} {a : Act} {w : World} (n : Nat) (h : Q .ret a w) : ScopeN P c Q n .ret a w := by cases n <;> exact h
theorem scopeN_normal {c : Code} {a : Act} {w : World} (n : Nat) (h : Q .normal a w) : ScopeN P c Q n .normal a w := by cases n <;> exact h
theorem scopeN_goto {c rest : Code} {m l : Nat} {a : Act} {w : World} (h : findLabel c l = some rest) (h2 : rest.wp P (ScopeN P c Q m) a w) : ScopeN P c Q (m + 1) (.goto l) a w := ⟨rest, h, h2⟩
end
end Go.Proofs.YthnmlklgbggmbaaGreat
