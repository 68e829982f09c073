import Derived.WalkKit
import Derived.Below
import Derived.Deep.Draws
import Derived.Test.YtkhmfjfclpehfaaGreatRows
import Derived.Lib.Hide
import Derived.WideMake
import Derived.Carry
import Derived.Lib.TrailingZeros
import Derived.Lib.BitFns
import Derived.ProofKit
import Derived.OpenShut
import Derived.ChangeArms
import Derived.Deep.Slices
import Derived.Laws.AppendOwn
import Derived.ScopeJumps
import Derived.WalkMore
import Derived.Great.Ranges
import Derived.Deep.WholeRow
import Derived.Laws.CopyOwn
import Derived.Deep.OwnRows
namespace Go.Proofs.YtkhmfjfclpehfaaGreat
open Go.RowKit

structure Keeps (S : Nat → Prop) (w w' : World) : Prop where
  os : w'.os = w.os
  tape : w'.tape = w.tape
  output : w'.output = w.output
  size : w.heap.size ≤ w'.heap.size
  block : ∀ k, k < w.heap.size → ¬ S k → w'.heap[k]? = w.heap[k]?

theorem Keeps.refl (S : Nat → Prop) (w : World) : Keeps S w w := ⟨rfl, rfl, rfl, Nat.le_refl _, fun _ _ _ => rfl⟩
theorem Keeps.trans {S : Nat → Prop} {a b c : World} (h : Keeps S a b) (k : Keeps S b c) : Keeps S a c :=
  ⟨k.os.trans h.os, k.tape.trans h.tape, k.output.trans h.output, Nat.le_trans h.size k.size, fun i hi hs => (k.block i (Nat.lt_of_lt_of_le hi h.size) hs).trans (h.block i hi hs)⟩
theorem Keeps.mono {S T : Nat → Prop} {a b : World} (h : Keeps S a b) (hs : ∀ k, k < a.heap.size → S k → T k) : Keeps T a b :=
  ⟨h.os, h.tape, h.output, h.size, fun i hi ht => h.block i hi fun hh => ht (hs i hi hh)⟩
theorem Keeps.drew {S : Nat → Prop} {a w : World} (h : Keeps S a w) : Keeps S a w.drew := ⟨h.os, h.tape, h.output, h.size, h.block⟩
theorem Keeps.drewN {S : Nat → Prop} {a w : World} (h : Keeps S a w) (n : Nat) : Keeps S a (w.drewN n) := ⟨h.os, h.tape, h.output, h.size, h.block⟩
theorem Keeps.alloc {S : Nat → Prop} {a w : World} (h : Keeps S a w) (o : Obj) : Keeps S a (w.alloc o) :=
  h.trans ⟨rfl, rfl, rfl, by simp, fun k hk _ => Below.heap_alloc _ _ _ hk⟩
theorem Keeps.setCell {S : Nat → Prop} {a w : World} (h : Keeps S a w) {p : Addr} (hp : S p.block ∨ a.heap.size ≤ p.block) (u : Value) : Keeps S a (w.setCell p u) :=
  ⟨h.os, h.tape, h.output, Nat.le_trans h.size (by simp [World.setCell]), fun k hk hs => (Below.heap_setCell _ _ _ _ (by rintro rfl; rcases hp with hp | hp; exact hs hp; omega)).trans (h.block k hk hs)⟩
theorem Keeps.below {S : Nat → Prop} {B : Nat} {w w' : World} (h : Keeps S w w') (hB : B ≤ w.heap.size) (hs : ∀ k, k < w.heap.size → S k → B ≤ k) : Below B w w' :=
  ⟨h.os, h.tape, h.output, h.size, fun k hk => h.block k (by omega) fun hh => by have := hs k (by omega) hh; omega⟩
theorem Keeps.none {w w' : World} (h : Keeps (fun _ => False) w w') : Below w.heap.size w w' := h.below (Nat.le_refl _) fun _ _ h => h.elim

theorem cell_of {w : World} {b : Nat} {cs : Array Value} {E : TypeId} {fr : Nat × Nat} (h : w.heap[b]? = some (.cells cs E fr)) (i : Nat) : w.cell? ⟨b, i, none⟩ = cs[i]? := by
  simp [World.cell?, h]
theorem free_of {w : World} {b : Nat} {cs : Array Value} {E : TypeId} (h : w.heap[b]? = some (.cells cs E (0, 0))) (i : Nat) : w.frozen? ⟨b, i, none⟩ = false := by
  simp [World.frozen?, h]
theorem lt_of {w : World} {b : Nat} {o : Obj} (h : w.heap[b]? = some o) : b < w.heap.size := by
  rcases Nat.lt_or_ge b w.heap.size with h1 | h1
  · exact h1
  · rw [Array.getElem?_eq_none h1] at h; cases h
theorem heap_new (w : World) (o : Obj) : (w.alloc o).heap[w.heap.size]? = some o := by
  show (w.heap.push o)[w.heap.size]? = _
  simp
theorem heap_old {w : World} {b : Nat} {x : Obj} (h : w.heap[b]? = some x) (o : Obj) : (w.alloc o).heap[b]? = some x := by
  rw [Below.heap_alloc _ _ _ (lt_of h)]; exact h
theorem heap_set {w : World} {b : Nat} {cs : Array Value} {E : TypeId} {fr : Nat × Nat} (h : w.heap[b]? = some (.cells cs E fr)) (i : Nat) (v : Value) :
    (w.setCell ⟨b, i, none⟩ v).heap[b]? = some (.cells (cs.setIfInBounds i v) E fr) := by
  simp [World.setCell, Array.getElem?_modify, h]
theorem heap_other {w : World} {b : Nat} {x : Obj} (h : w.heap[b]? = some x) {a : Addr} (ha : b ≠ a.block) (v : Value) : (w.setCell a v).heap[b]? = some x := by
  rw [Below.heap_setCell _ _ _ _ ha]; exact h
theorem heap_drew {w : World} {b : Nat} {x : Obj} (h : w.heap[b]? = some x) : w.drew.heap[b]? = some x := h
theorem heap_drewN {w : World} {b : Nat} {x : Obj} (h : w.heap[b]? = some x) (n : Nat) : (w.drewN n).heap[b]? = some x := h
theorem Keeps.at {S : Nat → Prop} {w w' : World} (h : Keeps S w w') {b : Nat} {x : Obj} (hb : w.heap[b]? = some x) (hs : ¬ S b) : w'.heap[b]? = some x := by
  rw [h.block b (lt_of hb) hs]; exact hb
theorem Below.at {B : Nat} {w w' : World} (h : Below B w w') {b : Nat} {x : Obj} (hb : w.heap[b]? = some x) (hs : b < B) : w'.heap[b]? = some x := by
  rw [h.block b hs]; exact hb
end Go.Proofs.YtkhmfjfclpehfaaGreat
namespace Go.Proofs.YtkhmfjfclpehfaaGreat
open Go.ChangeShapes Go.WideShapes Go.RowKit
set_option linter.unusedVariables false
set_option linter.unusedSimpArgs false
def setMp (w : World) (b : Nat) (o : Obj) : World := { w with heap := w.heap.setIfInBounds b o }
theorem setMp_same {w : World} {b : Nat} {u : Obj} (h : w.heap[b]? = some u) (o : Obj) : (setMp w b o).heap[b]? = some o := by
  have hl : b < w.heap.size := by
    rcases Nat.lt_or_ge b w.heap.size with h1 | h1
    · exact h1
    · rw [Array.getElem?_eq_none h1] at h; cases h
  exact Array.getElem?_setIfInBounds_self_of_lt hl
section
variable {P : Program} {w : World}
theorem run_putI_new (mty kt et : TypeId) (r clock : Nat) (es : Array MapEntry) (s : Int) (val : Value) (hm : P.underlying mty = some (.map kt et)) (hk : P.underlying kt = some (.int .i64)) (hb : w.heap[r]? = some (.map es clock))
    (hf : Instr.findNow (.int .i64) (.int .i64 s) es.toList 0 = some none) :
    (Instr.mapUpdate mty (.map (some r)) (.int .i64 s) val).run P w = .ok () (setMp w r (.map (es.push { key := .int .i64 s, val := val, born := clock }) (clock + 1))) := by
  have hc : (Instr.checkKey false 10000 kt (.int .i64 s)).run P w = .ok () w := MapKept.run_checkKey (k := .int .i64 s) hk (by simp [MapKept.IsKey]) false 9999
  simp [Instr.mapUpdate, run_underlying hm, MapKept.run_getObj_map hb, hc, MapKept.run_findKey hk hf, MapKept.run_setObj_map _ hb, Result.andThen, setMp]
theorem run_lookI_hit (mty kt et : TypeId) (r clock i : Nat) (es : Array MapEntry) (s : Int) (v : Value) (hm : P.underlying mty = some (.map kt et)) (hk : P.underlying kt = some (.int .i64)) (hb : w.heap[r]? = some (.map es clock))
    (hf : Instr.findNow (.int .i64) (.int .i64 s) es.toList 0 = some (some (i, v))) :
    (Instr.lookup mty (.map (some r)) (.int .i64 s) true).run P w = .ok (.tuple #[v, .bool true]) w := by
  have hc : (Instr.checkKey es.isEmpty 10000 kt (.int .i64 s)).run P w = .ok () w := MapKept.run_checkKey (k := .int .i64 s) hk (by simp [MapKept.IsKey]) _ 9999
  simp [Instr.lookup, run_underlying hm, MapKept.run_getObj_map hb, hc, MapKept.run_findKey hk hf, Result.andThen]
theorem run_lookI_miss (mty kt et : TypeId) (r clock : Nat) (es : Array MapEntry) (s : Int) (z : Value) (hm : P.underlying mty = some (.map kt et)) (hk : P.underlying kt = some (.int .i64)) (hb : w.heap[r]? = some (.map es clock))
    (hz : (zeroValue et).run P w = .ok z w) (hf : Instr.findNow (.int .i64) (.int .i64 s) es.toList 0 = some none) :
    (Instr.lookup mty (.map (some r)) (.int .i64 s) true).run P w = .ok (.tuple #[z, .bool false]) w := by
  have hc : (Instr.checkKey es.isEmpty 10000 kt (.int .i64 s)).run P w = .ok () w := MapKept.run_checkKey (k := .int .i64 s) hk (by simp [MapKept.IsKey]) _ 9999
  simp [Instr.lookup, run_underlying hm, MapKept.run_getObj_map hb, hc, MapKept.run_findKey hk hf, hz, Result.andThen]
end
theorem Keeps.setMp {S : Nat → Prop} {a w : World} (h : Keeps S a w) {b : Nat} (hb : S b ∨ a.heap.size ≤ b) (o : Obj) : Keeps S a (setMp w b o) :=
  ⟨h.os, h.tape, h.output, Nat.le_trans h.size (by simp [_root_.Go.Proofs.YtkhmfjfclpehfaaGreat.setMp]), fun k hk hs => by
    rw [← h.block k hk hs]
    have hne : b ≠ k := by rintro rfl; rcases hb with hb | hb; exact hs hb; omega
    simp [_root_.Go.Proofs.YtkhmfjfclpehfaaGreat.setMp, Array.getElem?_setIfInBounds_ne hne]⟩
@[reducible] def mvV (p : Nat) (f : FuncId) : Value := .func (.func f) #[.pointer (some ⟨p, 0, none⟩)] #[]
def movesE (p n : Nat) : Array MapEntry := (#[⟨.int .i64 1, mvV p 21, 0⟩, ⟨.int .i64 2, mvV p 22, 1⟩, ⟨.int .i64 3, mvV p 23, 2⟩, ⟨.int .i64 4, mvV p 24, 3⟩, ⟨.int .i64 5, mvV p 25, 4⟩, ⟨.int .i64 6, mvV p 26, 5⟩, ⟨.int .i64 7, mvV p 27, 6⟩, ⟨.int .i64 8, mvV p 28, 7⟩, ⟨.int .i64 9, mvV p 29, 8⟩] : Array MapEntry).take n
theorem moves_find1 (p : Nat) : Instr.findNow (.int .i64) (.int .i64 1) (movesE p 0).toList 0 = some none := by kernel_rfl
theorem moves_push1 (p : Nat) : (movesE p 0).push ⟨.int .i64 1, mvV p 21, 0⟩ = movesE p 1 := by kernel_rfl
theorem moves_hit1 (p : Nat) : Instr.findNow (.int .i64) (.int .i64 1) (movesE p 9).toList 0 = some (some (0, mvV p 21)) := by kernel_rfl
theorem moves_find2 (p : Nat) : Instr.findNow (.int .i64) (.int .i64 2) (movesE p 1).toList 0 = some none := by kernel_rfl
theorem moves_push2 (p : Nat) : (movesE p 1).push ⟨.int .i64 2, mvV p 22, 1⟩ = movesE p 2 := by kernel_rfl
theorem moves_hit2 (p : Nat) : Instr.findNow (.int .i64) (.int .i64 2) (movesE p 9).toList 0 = some (some (1, mvV p 22)) := by kernel_rfl
theorem moves_find3 (p : Nat) : Instr.findNow (.int .i64) (.int .i64 3) (movesE p 2).toList 0 = some none := by kernel_rfl
theorem moves_push3 (p : Nat) : (movesE p 2).push ⟨.int .i64 3, mvV p 23, 2⟩ = movesE p 3 := by kernel_rfl
theorem moves_hit3 (p : Nat) : Instr.findNow (.int .i64) (.int .i64 3) (movesE p 9).toList 0 = some (some (2, mvV p 23)) := by kernel_rfl
theorem moves_find4 (p : Nat) : Instr.findNow (.int .i64) (.int .i64 4) (movesE p 3).toList 0 = some none := by kernel_rfl
theorem moves_push4 (p : Nat) : (movesE p 3).push ⟨.int .i64 4, mvV p 24, 3⟩ = movesE p 4 := by kernel_rfl
theorem moves_hit4 (p : Nat) : Instr.findNow (.int .i64) (.int .i64 4) (movesE p 9).toList 0 = some (some (3, mvV p 24)) := by kernel_rfl
theorem moves_find5 (p : Nat) : Instr.findNow (.int .i64) (.int .i64 5) (movesE p 4).toList 0 = some none := by kernel_rfl
theorem moves_push5 (p : Nat) : (movesE p 4).push ⟨.int .i64 5, mvV p 25, 4⟩ = movesE p 5 := by kernel_rfl
theorem moves_hit5 (p : Nat) : Instr.findNow (.int .i64) (.int .i64 5) (movesE p 9).toList 0 = some (some (4, mvV p 25)) := by kernel_rfl
theorem moves_find6 (p : Nat) : Instr.findNow (.int .i64) (.int .i64 6) (movesE p 5).toList 0 = some none := by kernel_rfl
theorem moves_push6 (p : Nat) : (movesE p 5).push ⟨.int .i64 6, mvV p 26, 5⟩ = movesE p 6 := by kernel_rfl
theorem moves_hit6 (p : Nat) : Instr.findNow (.int .i64) (.int .i64 6) (movesE p 9).toList 0 = some (some (5, mvV p 26)) := by kernel_rfl
theorem moves_find7 (p : Nat) : Instr.findNow (.int .i64) (.int .i64 7) (movesE p 6).toList 0 = some none := by kernel_rfl
theorem moves_push7 (p : Nat) : (movesE p 6).push ⟨.int .i64 7, mvV p 27, 6⟩ = movesE p 7 := by kernel_rfl
theorem moves_hit7 (p : Nat) : Instr.findNow (.int .i64) (.int .i64 7) (movesE p 9).toList 0 = some (some (6, mvV p 27)) := by kernel_rfl
theorem moves_find8 (p : Nat) : Instr.findNow (.int .i64) (.int .i64 8) (movesE p 7).toList 0 = some none := by kernel_rfl
theorem moves_push8 (p : Nat) : (movesE p 7).push ⟨.int .i64 8, mvV p 28, 7⟩ = movesE p 8 := by kernel_rfl
theorem moves_hit8 (p : Nat) : Instr.findNow (.int .i64) (.int .i64 8) (movesE p 9).toList 0 = some (some (7, mvV p 28)) := by kernel_rfl
theorem moves_find9 (p : Nat) : Instr.findNow (.int .i64) (.int .i64 9) (movesE p 8).toList 0 = some none := by kernel_rfl
theorem moves_push9 (p : Nat) : (movesE p 8).push ⟨.int .i64 9, mvV p 29, 8⟩ = movesE p 9 := by kernel_rfl
theorem moves_hit9 (p : Nat) : Instr.findNow (.int .i64) (.int .i64 9) (movesE p 9).toList 0 = some (some (8, mvV p 29)) := by kernel_rfl
theorem moves_miss (p : Nat) (k : Int) (h : k < 1 ∨ 9 < k) : Instr.findNow (.int .i64) (.int .i64 k) (movesE p 9).toList 0 = some none := by
  have e : (movesE p 9).toList = [⟨.int .i64 1, mvV p 21, 0⟩, ⟨.int .i64 2, mvV p 22, 1⟩, ⟨.int .i64 3, mvV p 23, 2⟩, ⟨.int .i64 4, mvV p 24, 3⟩, ⟨.int .i64 5, mvV p 25, 4⟩, ⟨.int .i64 6, mvV p 26, 5⟩, ⟨.int .i64 7, mvV p 27, 6⟩, ⟨.int .i64 8, mvV p 28, 7⟩, ⟨.int .i64 9, mvV p 29, 8⟩] := by kernel_rfl
  rw [e]
  have hk : ∀ j : Int, 1 ≤ j ∧ j ≤ 9 → (k == j) = false := fun j hj => by rw [beq_eq_false_iff_ne]; omega
  simp [Instr.findNow, Instr.sameNow, hk 1 (by omega), hk 2 (by omega), hk 3 (by omega), hk 4 (by omega), hk 5 (by omega), hk 6 (by omega), hk 7 (by omega), hk 8 (by omega), hk 9 (by omega)]
theorem zero_move (w : World) : (zeroValue 53).run Tryz.prog w = .ok .nilFunc w := by kernel_rfl
theorem moves_put (p r i : Nat) (k : Int) (f : FuncId) (hf : Instr.findNow (.int .i64) (.int .i64 k) (movesE p i).toList 0 = some none) (hp : (movesE p i).push ⟨.int .i64 k, mvV p f, i⟩ = movesE p (i + 1)) (w : World) (hb : w.heap[r]? = some (.map (movesE p i) i)) :
    ∃ w', w'.heap[r]? = some (.map (movesE p (i + 1)) (i + 1)) ∧ w' = setMp w r (.map (movesE p (i + 1)) (i + 1)) ∧ (Instr.mapUpdate 78 (.map (some r)) (.int .i64 k) (mvV p f)).run Tryz.prog w = .ok () w' := by
  refine ⟨_, setMp_same hb _, rfl, ?_⟩
  rw [run_putI_new (P := Tryz.prog) 78 _ _ r i (movesE p i) k (mvV p f) Tryz.underlying78 Tryz.underlying3 hb hf, hp]
end Go.Proofs.YtkhmfjfclpehfaaGreat
namespace Go.Proofs.YtkhmfjfclpehfaaGreat

def bitW (i : Int) : Nat := if 0 ≤ i ∧ i < 32 then 2 ^ i.toNat else 0
def setB (w : Nat) (i : Int) : Nat := w ||| bitW i
def clrB (w : Nat) (i : Int) : Nat := w &&& (4294967295 - bitW i)
theorem bitW_lt (i : Int) : bitW i < 4294967296 := by
  unfold bitW
  split
  · have : 2 ^ i.toNat < 2 ^ 32 := Nat.pow_lt_pow_right (by omega) (by omega)
    omega
  · omega
theorem setB_lt {w : Nat} (h : w < 4294967296) (i : Int) : setB w i < 4294967296 := Nat.or_lt_two_pow (n := 32) h (bitW_lt i)
theorem clrB_lt {w : Nat} (h : w < 4294967296) (i : Int) : clrB w i < 4294967296 := by
  have : w &&& (4294967295 - bitW i) ≤ w := Nat.and_le_left
  unfold clrB; omega
theorem testBit_ge {w j : Nat} (h : w < 4294967296) (hj : 32 ≤ j) : w.testBit j = false :=
  Nat.testBit_lt_two_pow (Nat.lt_of_lt_of_le h (Nat.pow_le_pow_right (by omega) hj : 2 ^ 32 ≤ 2 ^ j))
theorem bitW_testBit (i : Int) (j : Nat) : (bitW i).testBit j = decide ((j : Int) = i ∧ j < 32) := by
  unfold bitW
  split
  · rename_i h
    rw [Nat.testBit_two_pow, Bool.eq_iff_iff]
    simp only [decide_eq_true_eq]
    omega
  · rename_i h
    rw [Nat.zero_testBit]
    symm
    simp only [decide_eq_false_iff_not]
    omega
theorem setB_testBit (w : Nat) (i : Int) (j : Nat) : (setB w i).testBit j = (w.testBit j || decide ((j : Int) = i ∧ j < 32)) := by
  unfold setB; rw [Nat.testBit_or, bitW_testBit]
theorem clrB_testBit {w : Nat} (h : w < 4294967296) (i : Int) (j : Nat) : (clrB w i).testBit j = (w.testBit j && !decide ((j : Int) = i)) := by
  by_cases hj : j < 32
  · have e : (4294967295 - bitW i).testBit j = !(bitW i).testBit j := by
      have := Nat.testBit_two_pow_sub_succ (n := 32) (bitW_lt i) j
      have e2 : 2 ^ 32 - (bitW i + 1) = 4294967295 - bitW i := by omega
      rw [e2] at this
      rw [this]; simp [hj]
    unfold clrB
    rw [Nat.testBit_and, e, bitW_testBit]
    simp [hj]
  · rw [testBit_ge (clrB_lt h i) (by omega), testBit_ge h (by omega)]; rfl
theorem bitLenAux_bds : ∀ (f x : Nat), x < 2 ^ f → x ≠ 0 → 1 ≤ Lib.bitLenAux f x ∧ 2 ^ (Lib.bitLenAux f x - 1) ≤ x ∧ x < 2 ^ Lib.bitLenAux f x
  | 0, x, h, h0 => by simp at h; omega
  | f + 1, x, h, h0 => by
    simp only [Lib.bitLenAux, if_neg h0]
    by_cases h2 : x / 2 = 0
    · have : x = 1 := by omega
      subst this
      cases f <;> simp [Lib.bitLenAux]
    · obtain ⟨a, b, c⟩ := bitLenAux_bds f (x / 2) (by rw [Nat.pow_succ] at h; omega) h2
      generalize Lib.bitLenAux f (x / 2) = k at *
      obtain ⟨k, rfl⟩ : ∃ m, k = m + 1 := ⟨k - 1, by omega⟩
      refine ⟨by omega, ?_, ?_⟩
      · have e : 1 + (k + 1) - 1 = (k + 1 - 1) + 1 := by omega
        rw [e, Nat.pow_succ]; omega
      · have e : 1 + (k + 1) = (k + 1) + 1 := by omega
        rw [e, Nat.pow_succ]; omega
theorem high_spec {w : Nat} (h : w < 4294967296) (h0 : w ≠ 0) : 1 ≤ Lib.bitLen w ∧ Lib.bitLen w ≤ 32 ∧ w.testBit (Lib.bitLen w - 1) = true ∧ ∀ j, Lib.bitLen w ≤ j → w.testBit j = false := by
  obtain ⟨a, b, c⟩ := bitLenAux_bds 64 w (by omega) h0
  have hl : Lib.bitLen w = Lib.bitLenAux 64 w := rfl
  rw [hl]
  generalize Lib.bitLenAux 64 w = k at *
  have hz : ∀ j, k ≤ j → w.testBit j = false := fun j hj => Nat.testBit_lt_two_pow (Nat.lt_of_lt_of_le c (Nat.pow_le_pow_right (by omega) hj))
  refine ⟨a, ?_, ?_, hz⟩
  · rcases Nat.lt_or_ge 32 k with h1 | h1
    · have : 2 ^ 32 ≤ 2 ^ (k - 1) := Nat.pow_le_pow_right (by omega) (by omega)
      omega
    · exact h1
  · obtain ⟨i, hi, ht⟩ := Nat.exists_ge_and_testBit_of_ge_two_pow b
    rcases Nat.lt_or_ge i k with h1 | h1
    · have : i = k - 1 := by omega
      rw [← this]; exact ht
    · rw [hz i h1] at ht; cases ht
def pop (n w : Nat) : Nat := ((List.range n).filter w.testBit).length
end Go.Proofs.YtkhmfjfclpehfaaGreat
namespace Go.Proofs.YtkhmfjfclpehfaaGreat
theorem ret_u32 {a b : Int} (h : a = b) : Ending.returned (.int .u32 a) = .returned (.int .u32 b) := by rw [h]
theorem ret_i64 {a b : Int} (h : a = b) : Ending.returned (.int .i64 a) = .returned (.int .i64 b) := by rw [h]
theorem ret_bool {a b : Bool} (h : a = b) : Ending.returned (.bool a) = .returned (.bool b) := by rw [h]
end Go.Proofs.YtkhmfjfclpehfaaGreat
namespace Go.Proofs.YtkhmfjfclpehfaaGreat
open Go.RowKit
set_option linter.unusedVariables false
structure Has (w wr : World) (L : List (Nat × Obj)) : Prop where
  keeps : Keeps (fun _ => False) w wr
  all : ∀ x, x ∈ L → wr.heap[x.1]? = some x.2
theorem Has.start (w : World) : Has w w [] := ⟨Keeps.refl _ _, fun x hx => by cases hx⟩
theorem Has.none {w w1 w2 : World} {L : List (Nat × Obj)} (h : Has w w1 L) (k : Keeps (fun _ => False) w1 w2) : Has w w2 L :=
  ⟨h.keeps.trans k, fun x hx => k.at (h.all x hx) fun h => h⟩
theorem Has.alloc {w w1 : World} {L : List (Nat × Obj)} (h : Has w w1 L) (o : Obj) : Has w (w1.alloc o) ((w1.heap.size, o) :: L) :=
  ⟨h.keeps.alloc o, fun x hx => by
    rcases List.mem_cons.1 hx with rfl | hx
    · exact heap_new w1 o
    · exact heap_old (h.all x hx) o⟩
theorem Has.drew {w w1 : World} {L : List (Nat × Obj)} (h : Has w w1 L) : Has w w1.drew L := ⟨h.keeps.drew, h.all⟩
theorem Has.old {w w1 : World} {L : List (Nat × Obj)} (h : Has w w1 L) {b : Nat} {o : Obj} (hb : w.heap[b]? = some o) : Has w w1 ((b, o) :: L) :=
  ⟨h.keeps, fun x hx => by
    rcases List.mem_cons.1 hx with rfl | hx
    · exact h.keeps.at hb fun h => h
    · exact h.all x hx⟩
theorem Has.eq {w w1 : World} {L M : List (Nat × Obj)} (h : Has w w1 L) (e : L = M) : Has w w1 M := e ▸ h
theorem Has.hd {w w1 : World} {L : List (Nat × Obj)} {b : Nat} {o : Obj} (h : Has w w1 ((b, o) :: L)) : w1.heap[b]? = some o := h.all (b, o) (.head _)
theorem Has.tl {w w1 : World} {L : List (Nat × Obj)} {x : Nat × Obj} (h : Has w w1 (x :: L)) : Has w w1 L := ⟨h.keeps, fun y hy => h.all y (.tail _ hy)⟩
theorem Has.at {w w1 : World} {L : List (Nat × Obj)} (h : Has w w1 L) (k : Nat) {b : Nat} {o : Obj} (e : L[k]? = some (b, o)) : w1.heap[b]? = some o := h.all (b, o) (List.mem_of_getElem? e)
end Go.Proofs.YtkhmfjfclpehfaaGreat
namespace Go.Proofs.YtkhmfjfclpehfaaGreat
open Go.ChangeShapes Go.WideShapes Go.ChangeAt Go.RowKit

def Reads (P : Program) (w : World) (t : TypeId) (cs : List Value) : Prop :=
  ∃ (H : Type) (enc : TypeId × Value → H) (fuel : Nat) (x : DataW H × List MemPlace), DataW.trod enc P w 0 (fun _ => true) true fuel t cs = some x

variable {P : Program} {w : World} {t : TypeId} {cs : List Value}

theorem reads_of {H : Type} {enc : TypeId × Value → H} {v : Value} {d : DataW H} {p : List MemPlace} (h : DataW.Trod enc P w 0 (fun _ => true) true t v d p) : Reads P w t v.cells.toList := by
  obtain ⟨fuel, hf⟩ := h
  exact ⟨H, enc, fuel, _, hf⟩
theorem Reads.int {k : IntKind} (h : Reads P w t cs) (ht : P.underlying t = some (.int k)) : ∃ n, cs = [.int k n] ∧ (Lit.int k n).wf = true := by
  obtain ⟨H, enc, fuel, x, hf⟩ := h
  obtain ⟨n, h, _, hw⟩ := DataW.trod_int ht hf
  exact ⟨n, h, hw⟩
theorem Reads.bool (h : Reads P w t cs) (ht : P.underlying t = some .bool) : ∃ b, cs = [.bool b] := by
  obtain ⟨H, enc, fuel, x, hf⟩ := h
  obtain ⟨n, h, _⟩ := DataW.trod_bool ht hf
  exact ⟨n, h⟩
theorem Reads.struct {fs : Array Field} (h : Reads P w t cs) (ht : P.underlying t = some (.struct fs)) :
    cs.length = P.cellsOf t ∧ ∀ (i : Nat) (f : Field), fs[i]? = some f → Reads P w f.type ((cs.drop f.offset).take (P.cellsOf f.type)) := by
  obtain ⟨H, enc, fuel, x, hf⟩ := h
  obtain ⟨xs, n, _, _, hl, hlen, h⟩ := DataW.trod_struct ht hf
  refine ⟨hl, fun i f hi => ?_⟩
  have hlt : i < fs.size := by
    rcases Nat.lt_or_ge i fs.size with h1 | h1
    · exact h1
    · rw [Array.getElem?_eq_none h1] at hi; cases hi
  have := h i f hi
  rw [List.getElem?_eq_getElem (by omega)] at this
  exact ⟨H, enc, n, _, this⟩
theorem Reads.field {fs : Array Field} (h : Reads P w t cs) (ht : P.underlying t = some (.struct fs)) (i : Nat) (u o k : Nat) (hi : (fs[i]?).map (fun f => (f.type, f.offset)) = some (u, o)) (hk : P.cellsOf u = k) :
    Reads P w u ((cs.drop o).take k) := by
  cases hf : fs[i]? with
  | none => rw [hf] at hi; cases hi
  | some f =>
    rw [hf] at hi
    simp at hi
    obtain ⟨rfl, rfl⟩ := hi
    have := (h.struct ht).2 i f hf
    rw [hk] at this
    exact this
theorem Reads.array {n : Nat} {e : TypeId} (h : Reads P w t cs) (ht : P.underlying t = some (.array n e)) :
    cs.length = P.cellsOf t ∧ ∀ i, i < n → Reads P w e ((cs.drop (i * P.cellsOf e)).take (P.cellsOf e)) := by
  obtain ⟨H, enc, fuel, x, hf⟩ := h
  obtain ⟨xs, m, _, _, hl, hlen, h⟩ := DataW.trod_array ht hf
  refine ⟨hl, fun i hi => ?_⟩
  have := h i hi
  rw [List.getElem?_eq_getElem (by omega)] at this
  exact ⟨H, enc, m, _, this⟩
theorem Reads.slice {e : TypeId} (h : Reads P w t cs) (ht : P.underlying t = some (.slice e)) :
    ∃ (a : Option Addr) (len cap : Nat), cs = [.slice a len cap] ∧ len ≤ cap ∧ cap ≤ maxLen ∧
      ∀ i, i < len → ∃ a', a = some a' ∧ ∃ cs', w.cells? 0 (a'.add (i * P.cellsOf e)) (P.cellsOf e) = some cs' ∧ Reads P w e cs' := by
  obtain ⟨H, enc, fuel, x, hf⟩ := h
  rcases Deep.open_slice ht hf with ⟨h, _⟩ | ⟨a, len, cap, m, n, D, Pl, h, _, hl, hm, hmm, _, hc⟩
  · exact ⟨none, 0, 0, h, by omega, by unfold maxLen; omega, fun i hi => by omega⟩
  · refine ⟨some a, len, cap, h, hl, hm, fun i hi => ⟨a, rfl, ?_⟩⟩
    simp only [if_true] at hmm
    obtain ⟨cs', h1, h2⟩ := hc i (by omega)
    exact ⟨cs', h1, ⟨H, enc, n, _, h2⟩⟩

theorem spot_none {a : Addr} {v : Value} (h : w.cell? a = some v) : a = ⟨a.block, a.off, none⟩ ∧ a.block < w.heap.size := by
  unfold World.cell? at h
  split at h
  · rename_i c _ _ e
    split at h
    · cases h
    · rename_i hs
      refine ⟨?_, ?_⟩
      · cases a with
        | mk b o s => cases s with
          | none => rfl
          | some _ => simp at hs
      · rcases Nat.lt_or_ge a.block w.heap.size with h1 | h1
        · exact h1
        · rw [Array.getElem?_eq_none h1] at e; cases e
  · cases h
theorem Reads.rows {e : TypeId} {n : Nat} (h : Reads P w t cs) (ht : P.underlying t = some (.slice e)) (hn : P.cellsOf e = n) (hpos : 0 < n) :
    ∃ (a : Option Addr) (len cap : Nat), cs = [.slice a len cap] ∧ len ≤ cap ∧ cap ≤ maxLen ∧
      (0 < len → ∃ b off, a = some ⟨b, off, none⟩ ∧ b < w.heap.size ∧ ∀ i, i < len → ∃ cs', cs'.length = n ∧ (∀ j, j < n → w.cell? ⟨b, off + i * n + j, none⟩ = cs'[j]?) ∧ Reads P w e cs') := by
  obtain ⟨a, len, cap, hc, hl, hm, hi⟩ := h.slice ht
  refine ⟨a, len, cap, hc, hl, hm, fun hlen => ?_⟩
  obtain ⟨a', rfl, cs0, h0, _⟩ := hi 0 hlen
  rw [hn] at h0
  obtain ⟨_, l0, c0⟩ := World.cells?_some h0
  have hx := c0 0 (by omega)
  rw [List.getElem?_eq_getElem (by omega)] at hx
  have hz : (a'.add (0 * n)).add 0 = a' := by simp [Addr.add]
  rw [hz] at hx
  obtain ⟨hsp, hlt⟩ := spot_none hx
  refine ⟨a'.block, a'.off, by rw [← hsp], hlt, fun i hil => ?_⟩
  obtain ⟨a2, e2, cs', h1, h2⟩ := hi i hil
  cases e2
  rw [hn] at h1
  obtain ⟨_, l1, c1⟩ := World.cells?_some h1
  refine ⟨cs', l1, fun j hj => ?_, h2⟩
  rw [← c1 j hj]
  congr 1
  rw [hsp]
  simp only [Addr.add]
  by_cases h1 : i * n = 0 <;> by_cases h2 : j = 0 <;> simp [h1, h2]
end Go.Proofs.YtkhmfjfclpehfaaGreat
namespace Go.Proofs.YtkhmfjfclpehfaaGreat
open Go.ChangeShapes Go.WideShapes Go.ChangeAt Go.RowKit
set_option linter.unusedVariables false
def Row (w : World) (a : Option Addr) (n : Nat) (F : Nat → Int) : Prop := 0 < n → ∃ b off, a = some ⟨b, off, none⟩ ∧ b < w.heap.size ∧ ∀ i, i < n → w.cell? ⟨b, off + i, none⟩ = some (.int .i64 (F i))
theorem Row.below {w w' : World} {a : Option Addr} {n : Nat} {F : Nat → Int} (h : Row w a n F) (hk : Below w.heap.size w w') : Row w' a n F := by
  intro hn
  obtain ⟨b, off, ha, hb, hc⟩ := h hn
  exact ⟨b, off, ha, Nat.lt_of_lt_of_le hb hk.size, fun i hi => (hk.cell (p := ⟨b, off + i, none⟩) hb).trans (hc i hi)⟩
theorem Row.keeps {S : Nat → Prop} {w w' : World} {a : Option Addr} {n : Nat} {F : Nat → Int} (h : Row w a n F) (hk : Keeps S w w') (hs : ∀ b off, a = some ⟨b, off, none⟩ → ¬ S b) : Row w' a n F := by
  intro hn
  obtain ⟨b, off, ha, hb, hc⟩ := h hn
  exact ⟨b, off, ha, Nat.lt_of_lt_of_le hb hk.size, fun i hi => (World.cell?_of_block (w := w) (hk.block b hb (hs b off ha))).trans (hc i hi)⟩
theorem Row.none {w w' : World} {a : Option Addr} {n : Nat} {F : Nat → Int} (h : Row w a n F) (hk : Keeps (fun _ => False) w w') : Row w' a n F := h.keeps hk fun _ _ _ h => h
theorem Keeps.ofBelow {w w' : World} (h : Below w.heap.size w w') : Keeps (fun _ => False) w w' := ⟨h.os, h.tape, h.output, h.size, fun k hk _ => h.block k hk⟩
theorem new_one (w : World) (x : Value) (E : TypeId) : ∀ (j : Nat) (u : Value), [x][j]? = some u → (w.alloc (.cells #[x] E)).cell? ((⟨w.heap.size, 0, Option.none⟩ : Addr).add j) = some u := by
  intro j u h
  rcases j with _ | j
  · have e : (⟨w.heap.size, 0, Option.none⟩ : Addr).add 0 = ⟨w.heap.size, 0, Option.none⟩ := by simp [Addr.add]
    rw [e, World.cell?_alloc_at _ _ _ _ rfl]
    simpa using h
  · simp at h
def nums (F : Nat → Int) (n : Nat) : List Value := (List.range n).map fun i => Value.int .i64 (F i)
theorem nums_len (F : Nat → Int) (n : Nat) : (nums F n).length = n := by simp [nums]
theorem nums_get (F : Nat → Int) (n i : Nat) (h : i < n) : (nums F n)[i]? = some (.int .i64 (F i)) := by simp [nums, h]
theorem Row.cells {w : World} {b off n : Nat} {F : Nat → Int} (hc : ∀ i, i < n → w.cell? ⟨b, off + i, Option.none⟩ = some (.int .i64 (F i))) : ∀ (j : Nat) (u : Value), (nums F n)[j]? = some u → w.cell? ((⟨b, off, Option.none⟩ : Addr).add j) = some u := by
  intro j u hj
  have hjn : j < n := by
    rcases Nat.lt_or_ge j n with h1 | h1
    · exact h1
    · rw [List.getElem?_eq_none (by rw [nums_len]; exact h1)] at hj; cases hj
  rw [nums_get F n j hjn] at hj
  have e : ((⟨b, off, Option.none⟩ : Addr).add j) = ⟨b, off + j, Option.none⟩ := by
    simp only [Addr.add]
    by_cases h : j = 0 <;> simp [h]
  rw [e, hc j hjn, ← Option.some.inj hj]
end Go.Proofs.YtkhmfjfclpehfaaGreat
namespace Go
section
variable {P : Program} {a : Act} {w : World} {Q : Exit → Act → World → Prop}
theorem Exit.jump_mono {l : Nat} {J J' : Act → World → Prop} {e : Exit} {a : Act} {w : World} (h : ∀ a w, J a w → J' a w) (hj : Exit.jump l J Q e a w) : Exit.jump l J' Q e a w := by
  cases e with
  | goto l' => exact ⟨hj.1, h _ _ hj.2⟩
  | _ => exact hj
theorem wp_scope_again {c rest : Code} (l : Nat) (J : Act → World → Prop) (μ : Act → World → Nat) (hf : findLabel c l = some (Code.skip.seq rest))
    (pass : ∀ a w, J a w → rest.wp P (Exit.jump l (fun a' w' => J a' w' ∧ μ a' w' < μ a w) Q) a w)
    (first : (∀ a w, J a w → rest.wp P (Exit.jump l J Q) a w) → c.wp P (Exit.jump l J Q) a w) : (Code.scope c).wp P Q a w :=
  wp_scope_jumps l J μ hf (first fun a w h => wp_mono (pass a w h) fun _ _ _ hq => Exit.jump_mono (fun _ _ h => h.1) hq) fun a w h => wp_seq (wp_skip (pass a w h))
end
end Go
namespace Go
section
variable {P : Program} {a : Act} {w : World} {Q : Exit → Act → World → Prop}
theorem least_of {p : Nat → Prop} (h : ∃ m, p m) : ∃ m, p m ∧ ∀ k, p k → m ≤ k := by
  obtain ⟨m, hm⟩ := h
  induction m using Nat.strongRecOn with
  | _ m ih =>
    by_cases h : ∃ k, k < m ∧ p k
    · obtain ⟨k, hk, hp⟩ := h
      exact ih k hk hp
    · exact ⟨m, hm, fun k hk => by
        rcases Nat.lt_or_ge k m with h1 | h1
        · exact absurd ⟨k, h1, hk⟩ h
        · exact h1⟩
open Classical in
theorem wp_scope_ghost {c rest : Code} (l : Nat) (J : Nat → Act → World → Prop) (hf : findLabel c l = some (Code.skip.seq rest))
    (pass : ∀ m a w, J m a w → rest.wp P (Exit.jump l (fun a' w' => ∃ m', m' < m ∧ J m' a' w') Q) a w)
    (first : (∀ m a w, J m a w → rest.wp P (Exit.jump l (fun a' w' => ∃ m', J m' a' w') Q) a w) → c.wp P (Exit.jump l (fun a' w' => ∃ m', J m' a' w') Q) a w) : (Code.scope c).wp P Q a w := by
  refine wp_scope_again l (fun a w => ∃ m, J m a w) (fun a w => if h : ∃ m, J m a w then Classical.choose (least_of h) else 0) hf ?_ ?_
  · intro a w h
    have hs := Classical.choose_spec (least_of h)
    have e : (if h : ∃ m, J m a w then Classical.choose (least_of h) else 0) = Classical.choose (least_of h) := dif_pos h
    refine wp_mono (pass _ a w hs.1) fun x a' w' hq => Exit.jump_mono (fun a' w' hj => ?_) hq
    obtain ⟨m', hm', hJ⟩ := hj
    refine ⟨⟨m', hJ⟩, ?_⟩
    show (if h : ∃ m, J m a' w' then Classical.choose (least_of h) else 0) < (if h : ∃ m, J m a w then Classical.choose (least_of h) else 0)
    rw [e, dif_pos ⟨m', hJ⟩]
    have := (Classical.choose_spec (least_of (p := fun m => J m a' w') ⟨m', hJ⟩)).2 m' hJ
    omega
  · intro h
    exact first fun m a w hJ => wp_mono (pass_all pass m a w hJ) fun _ _ _ hq => hq
where
  pass_all {rest : Code} {l : Nat} {J : Nat → Act → World → Prop} (pass : ∀ m a w, J m a w → rest.wp P (Exit.jump l (fun a' w' => ∃ m', m' < m ∧ J m' a' w') Q) a w) (m : Nat) (a : Act) (w : World) (h : J m a w) :
      rest.wp P (Exit.jump l (fun a' w' => ∃ m', J m' a' w') Q) a w :=
    wp_mono (pass m a w h) fun _ _ _ hq => Exit.jump_mono (fun _ _ ⟨m', _, hJ⟩ => ⟨m', hJ⟩) hq
end
end Go
namespace Go
section
variable {P : Program}
theorem wpList_alloc_as {ops : Array Oper} {rest : List Oper} {o : Oper} {a : Act} {w : World} {Q : Exit → Act → World → Prop} (hg : o.guard = none) (t : TypeId) (ho : o.op = .alloc t)
    (dst : Option Tmp) (hdst : o.dst = dst) (N : Nat) (hN : w.heap.size = N) (z : Value) (hz : (zeroValue t).run P w = .ok z w) (cells : Array Value) (hc : z.cells = cells)
    (h : wpList P ops Q rest (a.put dst (.pointer (some ⟨N, 0, none⟩))) (w.alloc (.cells cells t))) : wpList P ops Q (o :: rest) a w := by
  subst hdst hN hc
  refine wpList_plain hg fun K hK => ?_
  unfold Oper.wp execOp
  simp only [ho, Sem.run_bind, Instr.alloc, hz, newVar, newRow, run_newObj_alloc, Sem.run_pure, Result.andThen_ok]
  exact hK _ _ h
end
end Go
namespace Go.Proofs.YtkhmfjfclpehfaaGreat
open Go.RowKit
theorem Keeps.setRow {S : Nat → Prop} {a w : World} (h : Keeps S a w) {g : Nat} (hg : S g ∨ a.heap.size ≤ g) (cs : Array Value) : Keeps S a (w.setRow g cs) :=
  ⟨h.os, h.tape, h.output, Nat.le_trans h.size (by simp [World.setRow]), fun k hk hs => (setRow_other w g k cs (by rintro rfl; rcases hg with hg | hg; exact hs hg; omega)).trans (h.block k hk hs)⟩
end Go.Proofs.YtkhmfjfclpehfaaGreat
