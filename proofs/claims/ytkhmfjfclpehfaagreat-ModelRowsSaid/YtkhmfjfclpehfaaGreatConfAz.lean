import Derived.WalkKit
import Derived.Laws.BitsAllLaws
import Derived.Test.YtkhmfjfclpehfaaGreatRows
import Derived.Test.YtkhmfjfclpehfaaGreatBaseZ
import Derived.ProofKit
import Derived.OpenShut
import Derived.WalkLawsBesides
import Derived.WalkSpells
import Derived.Lib.Hide
import Derived.Deep.QuietTactic
import Derived.BigQuiet
import Derived.BigRegion
import Derived.LoopN
import Derived.Deep.RegionHeld3
namespace Go.Proofs.YtkhmfjfclpehfaaGreat
open Go.RowKit

def pow2 (n : Int) : Bool := (List.range 32).any fun i => n == (2 : Int) ^ i

theorem pow2_iff (n : Int) : pow2 n = true ↔ ∃ i : Nat, i < 32 ∧ n = 2 ^ i := by
  unfold pow2
  simp

def PowInv (n p : Int) : Prop := ∃ j : Nat, p = 2 ^ j ∧ ∀ i : Nat, i < j → n ≠ 2 ^ i

theorem PowInv.one (n : Int) : PowInv n 1 := ⟨0, rfl, fun i h => by omega⟩
theorem pow_lt_iff (i j : Nat) : (2 : Int) ^ i < 2 ^ j ↔ i < j := by
  have h : ((2 ^ i : Nat) : Int) < ((2 ^ j : Nat) : Int) ↔ i < j := by
    rw [Int.ofNat_lt]
    exact Nat.pow_lt_pow_iff_right (by omega)
  simpa using h
theorem PowInv.hit {p : Int} (h : PowInv p p) (hp : p ≤ 2147483648) : pow2 p = true := by
  obtain ⟨j, e, _⟩ := h
  rw [pow2_iff]
  refine ⟨j, ?_, e⟩
  have : (2 : Int) ^ j < 2 ^ 32 := by rw [← e]; omega
  exact (pow_lt_iff _ _).1 this
theorem i64_and_nat (a b : Nat) (ha : a < 9223372036854775808) (hb : b < 9223372036854775808) : bits .and .i64 (a : Int) (b : Int) = ((a &&& b : Nat) : Int) := by
  exact (bits_nat .i64 63 (by decide) (fun n h0 h1 => by rw [IntKind.wrap_i64]; omega) a b (by omega) (by omega)).1

theorem pow2_bits (n : Int) (h1 : 1 ≤ n) (h2 : n ≤ 2147483648) : (bits .and .i64 n (n - 1) == 0) = pow2 n := by
  obtain ⟨m, rfl⟩ := Int.eq_ofNat_of_zero_le (by omega : 0 ≤ n)
  have e : ((m : Int) - 1) = ((m - 1 : Nat) : Int) := by omega
  rw [e, i64_and_nat m (m - 1) (by omega) (by omega), Bool.eq_iff_iff, pow2_iff]
  have hm : m ≠ 0 := by omega
  have hi := Nat.and_sub_one_eq_zero_iff_isPowerOfTwo hm
  constructor
  · intro h
    have h' : m &&& m - 1 = 0 := by simpa using h
    obtain ⟨k, hk⟩ := hi.1 h'
    refine ⟨k, ?_, by rw [hk]; simp⟩
    have : 2 ^ k < 2 ^ 32 := by omega
    exact (Nat.pow_lt_pow_iff_right (by omega)).1 this
  · rintro ⟨i, _, h⟩
    have h' : m = 2 ^ i := by
      have : ((2 ^ i : Nat) : Int) = 2 ^ i := by simp
      rw [← this] at h; exact Int.ofNat.inj h
    simpa using hi.2 ⟨i, h'⟩
theorem pow2_low (n : Int) (h : n < 1) : pow2 n = false := by
  rw [Bool.eq_false_iff]
  intro hc
  obtain ⟨i, _, e⟩ := (pow2_iff n).1 hc
  have : (0 : Int) < 2 ^ i := Int.pow_pos (by omega)
  omega
theorem pow2_high (n : Int) (h : 2147483648 < n) : pow2 n = false := by
  rw [Bool.eq_false_iff]
  intro hc
  obtain ⟨i, hi, e⟩ := (pow2_iff n).1 hc
  have : (2 : Int) ^ i < 2 ^ 32 := (pow_lt_iff _ _).2 hi
  have h31 : i ≤ 31 := by omega
  have : (2 : Int) ^ i ≤ 2 ^ 31 := by
    by_cases h : i = 31
    · subst h; omega
    · have := (pow_lt_iff i 31).2 (by omega); omega
  omega
end Go.Proofs.YtkhmfjfclpehfaaGreat
namespace Go.Proofs.YtkhmfjfclpehfaaGreat
open Go.ChangeShapes Go.WideShapes Go.ChangeAt Go.RowKit
set_option linter.unusedVariables false
theorem power_any (a : Int) (w : World) (h1 : -9223372036854775808 ≤ a) (h2 : a ≤ 9223372036854775807) :
    Calls Tryz.prog 89 #[.int .i64 a] w fun e w' => e = .returned (.bool (pow2 a)) ∧ w = w' := by
  by_cases c1 : 1 ≤ a
  · by_cases c2 : a ≤ 2147483648
    · go_enter Tryz.func89, Tryz.ntmps89
      go_wp2
      go_ret
      exact ⟨ret_bool (pow2_bits a c1 c2), rfl⟩
    · go_enter Tryz.func89, Tryz.ntmps89
      go_wp2
      go_ret
      exact ⟨ret_bool (pow2_high a (by omega)).symm, rfl⟩
  · go_enter Tryz.func89, Tryz.ntmps89
    go_wp2
    go_ret
    exact ⟨ret_bool (pow2_low a (by omega)).symm, rfl⟩
end Go.Proofs.YtkhmfjfclpehfaaGreat
namespace Go.Proofs.YtkhmfjfclpehfaaGreat
open Go.ChangeShapes Go.WideShapes Go.ChangeAt Go.RowKit
set_option linter.unusedVariables false
set_option linter.unusedSimpArgs false
@[reducible] def objC (o oi : Nat → Int) : Array Value := #[.int .i64 (o 0), .int .i64 (o 1), .int .i64 (o 2), .int .i64 (o 3), .int .i64 (o 4), .int .i64 (o 5), .int .u32 (oi 0), .int .u32 (oi 1), .int .u32 (oi 2), .int .u32 (oi 3)]
theorem ten_cells {w : World} {g : Nat} {o oi : Nat → Int} {E : TypeId} (h : w.heap[g]? = some (.cells (objC o oi) E (0, 0))) :
    w.cell? ⟨g, 0, none⟩ = some (.int .i64 (o 0)) ∧ w.cell? ⟨g, 1, none⟩ = some (.int .i64 (o 1)) ∧ w.cell? ⟨g, 2, none⟩ = some (.int .i64 (o 2)) ∧ w.cell? ⟨g, 3, none⟩ = some (.int .i64 (o 3)) ∧ w.cell? ⟨g, 4, none⟩ = some (.int .i64 (o 4)) ∧ w.cell? ⟨g, 5, none⟩ = some (.int .i64 (o 5)) ∧ w.cell? ⟨g, 6, none⟩ = some (.int .u32 (oi 0)) ∧ w.cell? ⟨g, 7, none⟩ = some (.int .u32 (oi 1)) ∧ w.cell? ⟨g, 8, none⟩ = some (.int .u32 (oi 2)) ∧ w.cell? ⟨g, 9, none⟩ = some (.int .u32 (oi 3)) := ⟨cell_of h 0, cell_of h 1, cell_of h 2, cell_of h 3, cell_of h 4, cell_of h 5, cell_of h 6, cell_of h 7, cell_of h 8, cell_of h 9⟩
def rightS (o : Nat → Int) : Bool := (decide (1 ≤ o 0) && decide (o 0 ≤ 4)) && ((if o 0 = 1 then pow2 (o 1) && decide (o 1 ≤ 64) else o 1 == 0) && ((if o 0 = 4 then o 2 == 0 else decide (1 ≤ o 2) && decide (o 2 ≤ 4)) && (if o 0 = 3 then decide (0 ≤ o 3) && decide (o 3 ≤ 8) else o 3 == 0)))
def fourB (a b c d : Bool) : Nat → Bool
  | 0 => a
  | 1 => b
  | 2 => c
  | _ => d
theorem fourB_none {a b c d : Bool} (h : ∀ k, k < 4 → fourB a b c d k = true) : (a && (b && (c && d))) = true := by
  have h0 := h 0 (by omega); have h1 := h 1 (by omega); have h2 := h 2 (by omega); have h3 := h 3 (by omega)
  simp [fourB] at h0 h1 h2 h3
  simp [h0, h1, h2, h3]
theorem fourB_some {a b c d : Bool} {k : Nat} (hk : k < 4) (h : fourB a b c d k = false) : (a && (b && (c && d))) = false := by
  rcases (by omega : k = 0 ∨ k = 1 ∨ k = 2 ∨ k = 3) with rfl | rfl | rfl | rfl <;> simp [fourB] at h <;> simp [h]
end Go.Proofs.YtkhmfjfclpehfaaGreat
namespace Go.Proofs.YtkhmfjfclpehfaaGreat
open Go.ChangeShapes Go.WideShapes Go.ChangeAt Go.RowKit
set_option linter.unusedVariables false
set_option linter.unusedSimpArgs false
structure CfD where
  nT : Nat
  nL : Nat
  nO : Nat
  tick : Int
  ta : Option Addr
  la : Option Addr
  oa : Option Addr
  tc : Nat
  lc : Nat
  oc : Nat
  tp : Nat → Int
  tb : Nat → Bool
  tl : Nat → Nat
  tca : Nat → Option Addr
  tcc : Nat → Nat
  lr : Nat → Int
  ll : Nat → Nat
  lca : Nat → Option Addr
  lcc : Nat → Nat
  ob : Nat → Nat → Int
  oi : Nat → Nat → Int
@[reducible] def CfD.cells (c : CfD) : Array Value := #[.slice c.ta c.nT c.tc, .slice c.la c.nL c.lc, .slice c.oa c.nO c.oc, .int .i64 c.tick]
@[reducible] def CfD.obj (c : CfD) (i : Nat) : Array Value := #[.int .i64 (c.ob i 0), .int .i64 (c.ob i 1), .int .i64 (c.ob i 2), .int .i64 (c.ob i 3), .int .i64 (c.ob i 4), .int .i64 (c.ob i 5), .int .u32 (c.oi i 0), .int .u32 (c.oi i 1), .int .u32 (c.oi i 2), .int .u32 (c.oi i 3)]
structure CfIn (w : World) (c : CfD) : Prop where
  t : 0 < c.nT → ∃ b off, c.ta = some ⟨b, off, none⟩ ∧ b < w.heap.size ∧ ∀ i, i < c.nT → w.cell? ⟨b, off + i * 3, none⟩ = some (.int .i64 (c.tp i)) ∧ w.cell? ⟨b, off + i * 3 + 1, none⟩ = some (.bool (c.tb i)) ∧ w.cell? ⟨b, off + i * 3 + 2, none⟩ = some (.slice (c.tca i) (c.tl i) (c.tcc i))
  l : 0 < c.nL → ∃ b off, c.la = some ⟨b, off, none⟩ ∧ b < w.heap.size ∧ ∀ i, i < c.nL → w.cell? ⟨b, off + i * 2, none⟩ = some (.int .i64 (c.lr i)) ∧ w.cell? ⟨b, off + i * 2 + 1, none⟩ = some (.slice (c.lca i) (c.ll i) (c.lcc i))
  o : 0 < c.nO → ∃ b off, c.oa = some ⟨b, off, none⟩ ∧ b < w.heap.size ∧ ∀ i, i < c.nO → ∀ j, j < 10 → w.cell? ⟨b, off + i * 10 + j, none⟩ = (c.obj i)[j]?
structure CfD.Ok (c : CfD) : Prop where
  t : c.nT ≤ maxLen
  l : c.nL ≤ maxLen
  o : c.nO ≤ maxLen
  tick : -9223372036854775808 ≤ c.tick ∧ c.tick ≤ 9223372036854775807
  lr : ∀ i, i < c.nL → -9223372036854775808 ≤ c.lr i ∧ c.lr i ≤ 9223372036854775807
  ob : ∀ i, i < c.nO → ∀ j, j < 6 → -9223372036854775808 ≤ c.ob i j ∧ c.ob i j ≤ 9223372036854775807
theorem CfIn.none {w w' : World} {c : CfD} (h : CfIn w c) (k : Keeps (fun _ => False) w w') : CfIn w' c := by
  have hk := k.none
  refine ⟨fun hn => ?_, fun hn => ?_, fun hn => ?_⟩
  · obtain ⟨b, off, ha, hb, hc⟩ := h.t hn
    exact ⟨b, off, ha, Nat.lt_of_lt_of_le hb k.size, fun i hi => ⟨(hk.cell (p := ⟨b, off + i * 3, Option.none⟩) hb).trans (hc i hi).1, (hk.cell (p := ⟨b, off + i * 3 + 1, Option.none⟩) hb).trans (hc i hi).2.1, (hk.cell (p := ⟨b, off + i * 3 + 2, Option.none⟩) hb).trans (hc i hi).2.2⟩⟩
  · obtain ⟨b, off, ha, hb, hc⟩ := h.l hn
    exact ⟨b, off, ha, Nat.lt_of_lt_of_le hb k.size, fun i hi => ⟨(hk.cell (p := ⟨b, off + i * 2, Option.none⟩) hb).trans (hc i hi).1, (hk.cell (p := ⟨b, off + i * 2 + 1, Option.none⟩) hb).trans (hc i hi).2⟩⟩
  · obtain ⟨b, off, ha, hb, hc⟩ := h.o hn
    exact ⟨b, off, ha, Nat.lt_of_lt_of_le hb k.size, fun i hi j hj => (hk.cell (p := ⟨b, off + i * 10 + j, Option.none⟩) hb).trans (hc i hi j hj)⟩
theorem four_cells {w : World} {g : Nat} {x y z v : Value} {E : TypeId} (h : w.heap[g]? = some (.cells #[x, y, z, v] E (0, 0))) :
    w.cell? ⟨g, 0, none⟩ = some x ∧ w.cell? ⟨g, 1, none⟩ = some y ∧ w.cell? ⟨g, 2, none⟩ = some z ∧ w.cell? ⟨g, 3, none⟩ = some v := ⟨cell_of h 0, cell_of h 1, cell_of h 2, cell_of h 3⟩
end Go.Proofs.YtkhmfjfclpehfaaGreat
namespace Go.Proofs.YtkhmfjfclpehfaaGreat
open Go.ChangeShapes Go.WideShapes Go.ChangeAt Go.RowKit
set_option linter.unusedVariables false
set_option linter.unusedSimpArgs false
def codeF (n : Nat) : Int := if 64 < n then 14 else 0
theorem code_any (a : Option Addr) (n c : Nat) (w : World) :
    Calls Tryz.prog 57 #[.slice a n c] w fun e w' => e = .returned (.int .i64 (codeF n)) ∧ Keeps (fun _ => False) w w' := by
  unfold codeF
  by_cases h : 64 < n
  · have d0 : decide ((64 : Int) < (n : Int)) = true := decide_eq_true (by omega)
    rw [if_pos h]
    clear h
    go_enter Tryz.func57, Tryz.ntmps57
    go_wp2
    go_ret
    exact ⟨rfl, Keeps.refl _ _⟩
  · have d0 : decide ((64 : Int) < (n : Int)) = false := decide_eq_false (by omega)
    rw [if_neg h]
    clear h
    go_enter Tryz.func57, Tryz.ntmps57
    go_wp2
    go_ret
    exact ⟨rfl, Keeps.refl _ _⟩
def taskF (p : Int) (n : Nat) : Int := if p < 0 ∨ 32 ≤ p then 2 else codeF n
theorem tasks1_any (c : CfD) (PB : Nat) (i : Nat) (w : World) (hc : CfIn w c) (ho : c.Ok) (hb : w.heap[PB]? = some (.cells c.cells 101 (0, 0))) (hi : i < c.nT) :
    Calls Tryz.prog 56 #[.int .i64 (i : Int), .pointer (some ⟨PB, 0, none⟩)] w fun e w' => e = .returned (.int .i64 (taskF (c.tp i) (c.tl i))) ∧ Keeps (fun _ => False) w w' := by
  obtain ⟨b, off, hta, hbl, hrow⟩ := hc.t (by omega)
  obtain ⟨c0, c1, c2⟩ := hrow i hi
  have hlim := ho.t
  unfold maxLen at hlim
  obtain ⟨e0, e1, e2, e3⟩ := four_cells hb
  rw [hta] at e0
  have lx := lt_of hb
  clear hrow ho hc hta hb
  unfold taskF
  generalize c.tp i = p at *
  generalize c.tl i = n at *
  generalize c.nT = nT at *
  by_cases h1 : p < 0
  · have d0 : decide (p < 0) = true := decide_eq_true h1
    rw [if_pos (.inl h1)]
    clear h1
    go_enter Tryz.func56, Tryz.ntmps56
    go_wp2
    go_ret
    exact ⟨rfl, (Keeps.refl _ _).alloc _⟩
  by_cases h2 : 32 ≤ p
  · have d0 : decide (p < 0) = false := decide_eq_false h1
    have d1 : decide (32 ≤ p) = true := decide_eq_true h2
    rw [if_pos (.inr h2)]
    clear h1 h2
    go_enter Tryz.func56, Tryz.ntmps56
    go_wp2
    go_ret
    exact ⟨rfl, (Keeps.refl _ _).alloc _⟩
  have d0 : decide (p < 0) = false := decide_eq_false h1
  have d1 : decide (32 ≤ p) = false := decide_eq_false h2
  rw [if_neg (by omega)]
  clear h1 h2
  go_enter Tryz.func56, Tryz.ntmps56
  go_wp2_with fail
  refine (code_any _ _ _ _).mono ?_
  rintro e w1 ⟨rfl, k1⟩
  go_wp2
  go_ret
  exact ⟨rfl, ((Keeps.refl _ _).alloc _).trans k1⟩
def roomB (n : Int) : Bool := pow2 n && decide (n ≤ 64)
theorem room_any (a : Int) (w : World) (h1 : -9223372036854775808 ≤ a) (h2 : a ≤ 9223372036854775807) :
    Calls Tryz.prog 59 #[.int .i64 a] w fun e w' => e = .returned (.bool (roomB a)) ∧ Keeps (fun _ => False) w w' := by
  have hp := Lib.hid (fun w => power_any a w h1 h2)
  unfold roomB
  generalize pow2 a = q at *
  clear h1 h2
  cases q
  all_goals
    go_enter Tryz.func59, Tryz.ntmps59
    go_wp2_with fail
    refine (hp.out _).mono ?_
    rintro e w1 ⟨rfl, rfl⟩
    go_wp2
    go_ret
    exact ⟨by simp, Keeps.refl _ _⟩
def levelF (r : Int) (n : Nat) : Int := if roomB r = true then codeF n else 13
theorem levels1_any (c : CfD) (PB : Nat) (i : Nat) (w : World) (hc : CfIn w c) (ho : c.Ok) (hb : w.heap[PB]? = some (.cells c.cells 101 (0, 0))) (hi : i < c.nL) :
    Calls Tryz.prog 58 #[.int .i64 (i : Int), .pointer (some ⟨PB, 0, none⟩)] w fun e w' => e = .returned (.int .i64 (levelF (c.lr i) (c.ll i))) ∧ Keeps (fun _ => False) w w' := by
  obtain ⟨b, off, hta, hbl, hrow⟩ := hc.l (by omega)
  obtain ⟨c0, c1⟩ := hrow i hi
  have hlim := ho.l
  unfold maxLen at hlim
  have hp := Lib.hid (fun w => room_any (c.lr i) w (ho.lr i hi).1 (ho.lr i hi).2)
  obtain ⟨e0, e1, e2, e3⟩ := four_cells hb
  rw [hta] at e1
  have lx := lt_of hb
  clear hrow ho hc hta hb
  unfold levelF
  generalize roomB (c.lr i) = q at *
  generalize c.lr i = p at *
  generalize c.ll i = n at *
  generalize c.nL = nL at *
  cases q
  · go_enter Tryz.func58, Tryz.ntmps58
    go_wp2_with fail
    refine (hp.out _).mono ?_
    rintro e w1 ⟨rfl, k1⟩
    go_wp2
    go_ret
    exact ⟨rfl, ((Keeps.refl _ _).alloc _).trans k1⟩
  · have HB := Lib.hid ((Has.start w).alloc (.cells #[.int .i64 p, .slice (c.lca i) n (c.lcc i)] 58))
    go_enter Tryz.func58, Tryz.ntmps58
    go_wp2_with fail
    refine (hp.out _).mono ?_
    rintro e w1 ⟨rfl, k1⟩
    replace HB := Lib.hid (HB.out.none k1)
    have g1 : w1.cell? ⟨w.heap.size, 1, none⟩ = some (.slice (c.lca i) n (c.lcc i)) := cell_of (HB.out.at 0 rfl) 1
    clear k1
    go_wp2_with fail
    refine (code_any _ _ _ _).mono ?_
    rintro e w2 ⟨rfl, k2⟩
    go_wp2
    go_ret
    exact ⟨rfl, HB.out.keeps.trans k2⟩
theorem counts1_any (B : Nat → Bool) (PB : Nat) (i : Nat) (w : World) (hb : w.heap[PB]? = some (.cells #[.bool (B 0), .bool (B 1), .bool (B 2), .bool (B 3)] 141 (0, 0))) (hi : i < 4) :
    Calls Tryz.prog 55 #[.int .i64 (i : Int), .pointer (some ⟨PB, 0, none⟩)] w fun e w' => e = .returned (.int .i64 (if B i = true then 0 else 2)) ∧ Keeps (fun _ => False) w w' := by
  have c0 : w.cell? ⟨PB, i, none⟩ = some (.bool (B i)) := by
    rw [cell_of hb i]
    rcases (by omega : i = 0 ∨ i = 1 ∨ i = 2 ∨ i = 3) with rfl | rfl | rfl | rfl <;> rfl
  have lx := lt_of hb
  clear hb
  generalize B i = q at *
  cases q
  all_goals
    go_enter Tryz.func55, Tryz.ntmps55
    go_wp2
    go_ret
    exact ⟨by simp, Keeps.refl _ _⟩
def hasF (c : CfD) (x : Int) : Bool := decide (-(c.nL : Int) ≤ x) && decide (x < (c.nT : Int))
theorem chas_any (c : CfD) (x : Int) (w : World) (ho : c.Ok) :
    Calls Tryz.prog 90 #[.agg c.cells, .int .i64 x] w fun e w' => e = .returned (.bool (hasF c x)) ∧ Keeps (fun _ => False) w w' := by
  have h1 := ho.t
  have h2 := ho.l
  unfold maxLen at h1 h2
  have W1 : IntKind.i64.wrap (-(c.nL : Int)) = -(c.nL : Int) := IntWalk.i64_in _ ⟨by omega, by omega⟩
  have W1' : wrap64 (-(c.nL : Int)) = -(c.nL : Int) := IntWalk.wrap64_in _ ⟨by omega, by omega⟩
  clear h1 h2 ho
  unfold hasF
  by_cases h : -(c.nL : Int) ≤ x
  · have d0 : decide (-(c.nL : Int) ≤ x) = true := decide_eq_true h
    clear h
    go_enter Tryz.func90, Tryz.ntmps90
    go_wp2
    go_ret
    exact ⟨ret_bool (by simp [d0]), (Keeps.refl _ _).alloc _⟩
  · have d0 : decide (-(c.nL : Int) ≤ x) = false := decide_eq_false h
    clear h
    go_enter Tryz.func90, Tryz.ntmps90
    go_wp2
    go_ret
    exact ⟨ret_bool (by simp [d0]), (Keeps.refl _ _).alloc _⟩
end Go.Proofs.YtkhmfjfclpehfaaGreat
namespace Go.Proofs.YtkhmfjfclpehfaaGreat
open Go.ChangeShapes Go.WideShapes Go.ChangeAt Go.RowKit
set_option linter.unusedVariables false
set_option linter.unusedSimpArgs false
def firstN (f : Nat → Int) : Nat → Option Nat
  | 0 => none
  | n + 1 => match firstN f n with
    | some i => some i
    | none => if f n = 0 then none else some n
theorem firstN_nof {f : Nat → Int} : ∀ {n : Nat}, (∀ i, i < n → f i = 0) → firstN f n = none
  | 0, _ => rfl
  | n + 1, h => by
    unfold firstN
    rw [firstN_nof fun i hi => h i (Nat.lt_succ_of_lt hi), if_pos (h n (Nat.lt_succ_self n))]
theorem firstN_of {f : Nat → Int} {i : Nat} (h0 : ∀ j, j < i → f j = 0) (h1 : f i ≠ 0) : ∀ {n : Nat}, i < n → firstN f n = some i
  | 0, h => by omega
  | n + 1, h => by
    unfold firstN
    by_cases e : i = n
    · subst e
      rw [firstN_nof h0, if_neg h1]
    · rw [firstN_of h0 h1 (by omega)]
theorem firstN_none {f : Nat → Int} : ∀ {n : Nat}, firstN f n = none → ∀ i, i < n → f i = 0
  | 0, _, i, hi => by omega
  | n + 1, h, i, hi => by
    unfold firstN at h
    cases h1 : firstN f n with
    | some k => rw [h1] at h; cases h
    | none =>
      rw [h1] at h
      by_cases e : f n = 0
      · by_cases e2 : i = n
        · rw [e2]; exact e
        · exact firstN_none h1 i (by omega)
      · simp [e] at h
theorem firstN_some {f : Nat → Int} : ∀ {n i : Nat}, firstN f n = some i → i < n ∧ f i ≠ 0 ∧ ∀ j, j < i → f j = 0
  | 0, i, h => by cases h
  | n + 1, i, h => by
    unfold firstN at h
    cases h1 : firstN f n with
    | some k =>
      rw [h1] at h
      injection h with h
      subst h
      have := firstN_some h1
      exact ⟨by omega, this.2⟩
    | none =>
      rw [h1] at h
      by_cases e : f n = 0
      · simp [e] at h
      · simp [e] at h
        subst h
        exact ⟨Nat.lt_succ_self _, e, firstN_none h1⟩
def eachV (part : Int) (f : Nat → Int) (n : Nat) : Int × Int × Int := match firstN f n with
  | none => (0, 0, 0)
  | some i => (f i, part, (i : Int))
theorem eachV_none {part : Int} {f : Nat → Int} {n : Nat} (h : ∀ i, i < n → f i = 0) : eachV part f n = (0, 0, 0) := by unfold eachV; rw [firstN_nof h]
theorem eachV_some {part : Int} {f : Nat → Int} {n i : Nat} (hi : i < n) (h0 : ∀ j, j < i → f j = 0) (h1 : f i ≠ 0) : eachV part f n = (f i, part, (i : Int)) := by unfold eachV; rw [firstN_of h0 h1 hi]
@[reducible] def badC (b : Int × Int × Int) : Array Value := #[.int .i64 b.1, .int .i64 b.2.1, .int .i64 b.2.2]
theorem each1_any (f part at_ : Int) (G : Nat) (w : World) (h : w.cell? ⟨G, 0, none⟩ = some (.int .i64 part)) (hl : G < w.heap.size) :
    Calls Tryz.prog 88 #[.int .i64 f, .int .i64 at_, .pointer (some ⟨G, 0, none⟩)] w fun e w' => e = .returned (.agg #[.int .i64 f, .int .i64 part, .int .i64 at_]) ∧ Keeps (fun _ => False) w w' := by
  go_enter Tryz.func88, Tryz.ntmps88
  go_wp2
  refine bodyPost_ret (v := .agg #[.int .i64 f, .int .i64 part, .int .i64 at_]) (by simp [results, Tryz.results88, go_sem, *]) rfl ⟨rfl, ?_⟩
  exact (Keeps.refl _ _).alloc _
theorem three_cells {w : World} {g : Nat} {x y z : Value} {E : TypeId} (h : w.heap[g]? = some (.cells #[x, y, z] E (0, 0))) :
    (w.cell? ⟨g, 0, none⟩ = some x ∧ w.cell? ⟨g, 1, none⟩ = some y ∧ w.cell? ⟨g, 2, none⟩ = some z) ∧ w.frozen? ⟨g, 0, none⟩ = false ∧ w.frozen? ⟨g, 1, none⟩ = false ∧ w.frozen? ⟨g, 2, none⟩ = false ∧ g < w.heap.size := ⟨⟨cell_of h 0, cell_of h 1, cell_of h 2⟩, free_of h 0, free_of h 1, free_of h 2, lt_of h⟩
set_option maxHeartbeats 1000000 in
theorem each_counts (part N : Int) (n Q : Nat) (f : Nat → Int) (w : World) (hN : N = n) (hn : n ≤ maxLen)
    (hf : ∀ i, i < n → ∀ w', Keeps (fun _ => False) w w' → Calls Tryz.prog 55 #[.int .i64 (i : Int), .pointer (some ⟨Q, 0, none⟩)] w' fun e w2 => e = .returned (.int .i64 (f i)) ∧ Keeps (fun _ => False) w' w2) :
    Calls Tryz.prog 54 #[.int .i64 part, .int .i64 N, .func (.func 55) #[] #[.pointer (some ⟨Q, 0, none⟩)]] w fun e w' => e = .returned (.agg (badC (eachV part f n))) ∧ Keeps (fun _ => False) w w' := by
  subst hN
  unfold maxLen at hn
  have HF := Lib.hid hf
  have HB := Lib.hid (((Has.start w).alloc (.cells #[.int .i64 part] 3)).alloc (.cells #[.int .i64 0, .int .i64 0, .int .i64 0] 71))
  clear hf
  go_enter Tryz.func54, Tryz.ntmps54
  go_wp2_with fail
  obtain ⟨wo, rfl⟩ : ∃ wo : World, wo = w := ⟨_, rfl⟩
  go_loopw [12] (fun i wr => ∃ j : Nat, j ≤ n ∧ i = .int .i64 j ∧ (∀ k, k < j → f k = 0) ∧ Has wo wr [(wo.heap.size + 1, .cells #[.int .i64 0, .int .i64 0, .int .i64 0] 71 (0, 0)), (wo.heap.size, .cells #[.int .i64 part] 3 (0, 0))]) (fun i _ => n - (intOf i).toNat)
  case atStart => exact ⟨0, by omega, rfl, fun k hk => by omega, HB.out.eq (by simp)⟩
  case round =>
    obtain ⟨j, hj, rfl, hz, hB⟩ := hrel
    replace HB := Lib.hid hB
    have HZ := Lib.hid hz
    clear hB hz
    by_cases hlt : j < n
    · go_wp2_with fail
      refine (HF.out j hlt _ HB.out.keeps).mono ?_
      rintro e w2 ⟨rfl, k2⟩
      replace HB := Lib.hid (HB.out.none k2)
      clear k2
      by_cases hfz : f j = 0
      · have HZ2 := Lib.hid (show ∀ k, k < j + 1 → f k = 0 from fun k hk => by
          by_cases e : k = j
          · rw [e]; exact hfz
          · exact HZ.out k (by omega))
        rw [hfz]
        clear hfz
        go_wp2
        go_roundw
        case rel => exact ⟨j + 1, by omega, by go_num, HZ2.out, HB.out⟩
        case measure => simp [intOf]; omega
      · have HE := Lib.hid (eachV_some (part := part) hlt HZ.out hfz)
        have dz : (f j == 0) = false := beq_eq_false_iff_ne.mpr hfz
        obtain ⟨⟨r0, r1, r2⟩, g0, g1, g2, lr⟩ := three_cells (HB.out.at 0 rfl)
        have lp := lt_of (HB.out.at 1 rfl)
        have p0 : w2.cell? ⟨wo.heap.size, 0, none⟩ = some (.int .i64 part) := cell_of (HB.out.at 1 rfl) 0
        go_wp2_with fail
        refine (each1_any _ part _ _ _ p0 lp).mono ?_
        rintro e w3 ⟨rfl, k3⟩
        replace HB := Lib.hid (HB.out.none k3)
        clear k3 r0 r1 r2 g0 g1 g2 lr p0 lp
        obtain ⟨⟨r0, r1, r2⟩, g0, g1, g2, lr⟩ := three_cells (HB.out.at 0 rfl)
        have hle : wo.heap.size ≤ wo.heap.size + 1 := Nat.le_succ _
        go_wp2
        refine bodyPost_ret (v := .agg #[.int .i64 (f j), .int .i64 part, .int .i64 (j : Int)]) (by simp [results, Tryz.results54, go_sem, *]) rfl ⟨by rw [HE.out], ?_⟩
        exact ((HB.out.keeps.setCell (p := ⟨wo.heap.size + 1, 0, none⟩) (.inr hle) _).setCell (p := ⟨wo.heap.size + 1, 1, none⟩) (.inr hle) _).setCell (p := ⟨wo.heap.size + 1, 2, none⟩) (.inr hle) _
    · obtain rfl : j = n := by omega
      obtain ⟨⟨r0, r1, r2⟩, g0, g1, g2, lr⟩ := three_cells (HB.out.at 0 rfl)
      have hle : wo.heap.size ≤ wo.heap.size + 1 := Nat.le_succ _
      go_wp2
      refine bodyPost_ret (v := .agg #[.int .i64 0, .int .i64 0, .int .i64 0]) (by simp [results, Tryz.results54, go_sem, *]) rfl ⟨by rw [eachV_none HZ.out], ?_⟩
      exact ((HB.out.keeps.setCell (p := ⟨wo.heap.size + 1, 0, none⟩) (.inr hle) _).setCell (p := ⟨wo.heap.size + 1, 1, none⟩) (.inr hle) _).setCell (p := ⟨wo.heap.size + 1, 2, none⟩) (.inr hle) _
set_option maxHeartbeats 1000000 in
theorem each_tasks (part N : Int) (n Q : Nat) (f : Nat → Int) (w : World) (hN : N = n) (hn : n ≤ maxLen)
    (hf : ∀ i, i < n → ∀ w', Keeps (fun _ => False) w w' → Calls Tryz.prog 56 #[.int .i64 (i : Int), .pointer (some ⟨Q, 0, none⟩)] w' fun e w2 => e = .returned (.int .i64 (f i)) ∧ Keeps (fun _ => False) w' w2) :
    Calls Tryz.prog 54 #[.int .i64 part, .int .i64 N, .func (.func 56) #[] #[.pointer (some ⟨Q, 0, none⟩)]] w fun e w' => e = .returned (.agg (badC (eachV part f n))) ∧ Keeps (fun _ => False) w w' := by
  subst hN
  unfold maxLen at hn
  have HF := Lib.hid hf
  have HB := Lib.hid (((Has.start w).alloc (.cells #[.int .i64 part] 3)).alloc (.cells #[.int .i64 0, .int .i64 0, .int .i64 0] 71))
  clear hf
  go_enter Tryz.func54, Tryz.ntmps54
  go_wp2_with fail
  obtain ⟨wo, rfl⟩ : ∃ wo : World, wo = w := ⟨_, rfl⟩
  go_loopw [12] (fun i wr => ∃ j : Nat, j ≤ n ∧ i = .int .i64 j ∧ (∀ k, k < j → f k = 0) ∧ Has wo wr [(wo.heap.size + 1, .cells #[.int .i64 0, .int .i64 0, .int .i64 0] 71 (0, 0)), (wo.heap.size, .cells #[.int .i64 part] 3 (0, 0))]) (fun i _ => n - (intOf i).toNat)
  case atStart => exact ⟨0, by omega, rfl, fun k hk => by omega, HB.out.eq (by simp)⟩
  case round =>
    obtain ⟨j, hj, rfl, hz, hB⟩ := hrel
    replace HB := Lib.hid hB
    have HZ := Lib.hid hz
    clear hB hz
    by_cases hlt : j < n
    · go_wp2_with fail
      refine (HF.out j hlt _ HB.out.keeps).mono ?_
      rintro e w2 ⟨rfl, k2⟩
      replace HB := Lib.hid (HB.out.none k2)
      clear k2
      by_cases hfz : f j = 0
      · have HZ2 := Lib.hid (show ∀ k, k < j + 1 → f k = 0 from fun k hk => by
          by_cases e : k = j
          · rw [e]; exact hfz
          · exact HZ.out k (by omega))
        rw [hfz]
        clear hfz
        go_wp2
        go_roundw
        case rel => exact ⟨j + 1, by omega, by go_num, HZ2.out, HB.out⟩
        case measure => simp [intOf]; omega
      · have HE := Lib.hid (eachV_some (part := part) hlt HZ.out hfz)
        have dz : (f j == 0) = false := beq_eq_false_iff_ne.mpr hfz
        obtain ⟨⟨r0, r1, r2⟩, g0, g1, g2, lr⟩ := three_cells (HB.out.at 0 rfl)
        have lp := lt_of (HB.out.at 1 rfl)
        have p0 : w2.cell? ⟨wo.heap.size, 0, none⟩ = some (.int .i64 part) := cell_of (HB.out.at 1 rfl) 0
        go_wp2_with fail
        refine (each1_any _ part _ _ _ p0 lp).mono ?_
        rintro e w3 ⟨rfl, k3⟩
        replace HB := Lib.hid (HB.out.none k3)
        clear k3 r0 r1 r2 g0 g1 g2 lr p0 lp
        obtain ⟨⟨r0, r1, r2⟩, g0, g1, g2, lr⟩ := three_cells (HB.out.at 0 rfl)
        have hle : wo.heap.size ≤ wo.heap.size + 1 := Nat.le_succ _
        go_wp2
        refine bodyPost_ret (v := .agg #[.int .i64 (f j), .int .i64 part, .int .i64 (j : Int)]) (by simp [results, Tryz.results54, go_sem, *]) rfl ⟨by rw [HE.out], ?_⟩
        exact ((HB.out.keeps.setCell (p := ⟨wo.heap.size + 1, 0, none⟩) (.inr hle) _).setCell (p := ⟨wo.heap.size + 1, 1, none⟩) (.inr hle) _).setCell (p := ⟨wo.heap.size + 1, 2, none⟩) (.inr hle) _
    · obtain rfl : j = n := by omega
      obtain ⟨⟨r0, r1, r2⟩, g0, g1, g2, lr⟩ := three_cells (HB.out.at 0 rfl)
      have hle : wo.heap.size ≤ wo.heap.size + 1 := Nat.le_succ _
      go_wp2
      refine bodyPost_ret (v := .agg #[.int .i64 0, .int .i64 0, .int .i64 0]) (by simp [results, Tryz.results54, go_sem, *]) rfl ⟨by rw [eachV_none HZ.out], ?_⟩
      exact ((HB.out.keeps.setCell (p := ⟨wo.heap.size + 1, 0, none⟩) (.inr hle) _).setCell (p := ⟨wo.heap.size + 1, 1, none⟩) (.inr hle) _).setCell (p := ⟨wo.heap.size + 1, 2, none⟩) (.inr hle) _
set_option maxHeartbeats 1000000 in
theorem each_levels (part N : Int) (n Q : Nat) (f : Nat → Int) (w : World) (hN : N = n) (hn : n ≤ maxLen)
    (hf : ∀ i, i < n → ∀ w', Keeps (fun _ => False) w w' → Calls Tryz.prog 58 #[.int .i64 (i : Int), .pointer (some ⟨Q, 0, none⟩)] w' fun e w2 => e = .returned (.int .i64 (f i)) ∧ Keeps (fun _ => False) w' w2) :
    Calls Tryz.prog 54 #[.int .i64 part, .int .i64 N, .func (.func 58) #[] #[.pointer (some ⟨Q, 0, none⟩)]] w fun e w' => e = .returned (.agg (badC (eachV part f n))) ∧ Keeps (fun _ => False) w w' := by
  subst hN
  unfold maxLen at hn
  have HF := Lib.hid hf
  have HB := Lib.hid (((Has.start w).alloc (.cells #[.int .i64 part] 3)).alloc (.cells #[.int .i64 0, .int .i64 0, .int .i64 0] 71))
  clear hf
  go_enter Tryz.func54, Tryz.ntmps54
  go_wp2_with fail
  obtain ⟨wo, rfl⟩ : ∃ wo : World, wo = w := ⟨_, rfl⟩
  go_loopw [12] (fun i wr => ∃ j : Nat, j ≤ n ∧ i = .int .i64 j ∧ (∀ k, k < j → f k = 0) ∧ Has wo wr [(wo.heap.size + 1, .cells #[.int .i64 0, .int .i64 0, .int .i64 0] 71 (0, 0)), (wo.heap.size, .cells #[.int .i64 part] 3 (0, 0))]) (fun i _ => n - (intOf i).toNat)
  case atStart => exact ⟨0, by omega, rfl, fun k hk => by omega, HB.out.eq (by simp)⟩
  case round =>
    obtain ⟨j, hj, rfl, hz, hB⟩ := hrel
    replace HB := Lib.hid hB
    have HZ := Lib.hid hz
    clear hB hz
    by_cases hlt : j < n
    · go_wp2_with fail
      refine (HF.out j hlt _ HB.out.keeps).mono ?_
      rintro e w2 ⟨rfl, k2⟩
      replace HB := Lib.hid (HB.out.none k2)
      clear k2
      by_cases hfz : f j = 0
      · have HZ2 := Lib.hid (show ∀ k, k < j + 1 → f k = 0 from fun k hk => by
          by_cases e : k = j
          · rw [e]; exact hfz
          · exact HZ.out k (by omega))
        rw [hfz]
        clear hfz
        go_wp2
        go_roundw
        case rel => exact ⟨j + 1, by omega, by go_num, HZ2.out, HB.out⟩
        case measure => simp [intOf]; omega
      · have HE := Lib.hid (eachV_some (part := part) hlt HZ.out hfz)
        have dz : (f j == 0) = false := beq_eq_false_iff_ne.mpr hfz
        obtain ⟨⟨r0, r1, r2⟩, g0, g1, g2, lr⟩ := three_cells (HB.out.at 0 rfl)
        have lp := lt_of (HB.out.at 1 rfl)
        have p0 : w2.cell? ⟨wo.heap.size, 0, none⟩ = some (.int .i64 part) := cell_of (HB.out.at 1 rfl) 0
        go_wp2_with fail
        refine (each1_any _ part _ _ _ p0 lp).mono ?_
        rintro e w3 ⟨rfl, k3⟩
        replace HB := Lib.hid (HB.out.none k3)
        clear k3 r0 r1 r2 g0 g1 g2 lr p0 lp
        obtain ⟨⟨r0, r1, r2⟩, g0, g1, g2, lr⟩ := three_cells (HB.out.at 0 rfl)
        have hle : wo.heap.size ≤ wo.heap.size + 1 := Nat.le_succ _
        go_wp2
        refine bodyPost_ret (v := .agg #[.int .i64 (f j), .int .i64 part, .int .i64 (j : Int)]) (by simp [results, Tryz.results54, go_sem, *]) rfl ⟨by rw [HE.out], ?_⟩
        exact ((HB.out.keeps.setCell (p := ⟨wo.heap.size + 1, 0, none⟩) (.inr hle) _).setCell (p := ⟨wo.heap.size + 1, 1, none⟩) (.inr hle) _).setCell (p := ⟨wo.heap.size + 1, 2, none⟩) (.inr hle) _
    · obtain rfl : j = n := by omega
      obtain ⟨⟨r0, r1, r2⟩, g0, g1, g2, lr⟩ := three_cells (HB.out.at 0 rfl)
      have hle : wo.heap.size ≤ wo.heap.size + 1 := Nat.le_succ _
      go_wp2
      refine bodyPost_ret (v := .agg #[.int .i64 0, .int .i64 0, .int .i64 0]) (by simp [results, Tryz.results54, go_sem, *]) rfl ⟨by rw [eachV_none HZ.out], ?_⟩
      exact ((HB.out.keeps.setCell (p := ⟨wo.heap.size + 1, 0, none⟩) (.inr hle) _).setCell (p := ⟨wo.heap.size + 1, 1, none⟩) (.inr hle) _).setCell (p := ⟨wo.heap.size + 1, 2, none⟩) (.inr hle) _
set_option maxHeartbeats 1000000 in
theorem each_objects (part N : Int) (n Q : Nat) (f : Nat → Int) (w : World) (hN : N = n) (hn : n ≤ maxLen)
    (hf : ∀ i, i < n → ∀ w', Keeps (fun _ => False) w w' → Calls Tryz.prog 60 #[.int .i64 (i : Int), .pointer (some ⟨Q, 0, none⟩)] w' fun e w2 => e = .returned (.int .i64 (f i)) ∧ Keeps (fun _ => False) w' w2) :
    Calls Tryz.prog 54 #[.int .i64 part, .int .i64 N, .func (.func 60) #[] #[.pointer (some ⟨Q, 0, none⟩)]] w fun e w' => e = .returned (.agg (badC (eachV part f n))) ∧ Keeps (fun _ => False) w w' := by
  subst hN
  unfold maxLen at hn
  have HF := Lib.hid hf
  have HB := Lib.hid (((Has.start w).alloc (.cells #[.int .i64 part] 3)).alloc (.cells #[.int .i64 0, .int .i64 0, .int .i64 0] 71))
  clear hf
  go_enter Tryz.func54, Tryz.ntmps54
  go_wp2_with fail
  obtain ⟨wo, rfl⟩ : ∃ wo : World, wo = w := ⟨_, rfl⟩
  go_loopw [12] (fun i wr => ∃ j : Nat, j ≤ n ∧ i = .int .i64 j ∧ (∀ k, k < j → f k = 0) ∧ Has wo wr [(wo.heap.size + 1, .cells #[.int .i64 0, .int .i64 0, .int .i64 0] 71 (0, 0)), (wo.heap.size, .cells #[.int .i64 part] 3 (0, 0))]) (fun i _ => n - (intOf i).toNat)
  case atStart => exact ⟨0, by omega, rfl, fun k hk => by omega, HB.out.eq (by simp)⟩
  case round =>
    obtain ⟨j, hj, rfl, hz, hB⟩ := hrel
    replace HB := Lib.hid hB
    have HZ := Lib.hid hz
    clear hB hz
    by_cases hlt : j < n
    · go_wp2_with fail
      refine (HF.out j hlt _ HB.out.keeps).mono ?_
      rintro e w2 ⟨rfl, k2⟩
      replace HB := Lib.hid (HB.out.none k2)
      clear k2
      by_cases hfz : f j = 0
      · have HZ2 := Lib.hid (show ∀ k, k < j + 1 → f k = 0 from fun k hk => by
          by_cases e : k = j
          · rw [e]; exact hfz
          · exact HZ.out k (by omega))
        rw [hfz]
        clear hfz
        go_wp2
        go_roundw
        case rel => exact ⟨j + 1, by omega, by go_num, HZ2.out, HB.out⟩
        case measure => simp [intOf]; omega
      · have HE := Lib.hid (eachV_some (part := part) hlt HZ.out hfz)
        have dz : (f j == 0) = false := beq_eq_false_iff_ne.mpr hfz
        obtain ⟨⟨r0, r1, r2⟩, g0, g1, g2, lr⟩ := three_cells (HB.out.at 0 rfl)
        have lp := lt_of (HB.out.at 1 rfl)
        have p0 : w2.cell? ⟨wo.heap.size, 0, none⟩ = some (.int .i64 part) := cell_of (HB.out.at 1 rfl) 0
        go_wp2_with fail
        refine (each1_any _ part _ _ _ p0 lp).mono ?_
        rintro e w3 ⟨rfl, k3⟩
        replace HB := Lib.hid (HB.out.none k3)
        clear k3 r0 r1 r2 g0 g1 g2 lr p0 lp
        obtain ⟨⟨r0, r1, r2⟩, g0, g1, g2, lr⟩ := three_cells (HB.out.at 0 rfl)
        have hle : wo.heap.size ≤ wo.heap.size + 1 := Nat.le_succ _
        go_wp2
        refine bodyPost_ret (v := .agg #[.int .i64 (f j), .int .i64 part, .int .i64 (j : Int)]) (by simp [results, Tryz.results54, go_sem, *]) rfl ⟨by rw [HE.out], ?_⟩
        exact ((HB.out.keeps.setCell (p := ⟨wo.heap.size + 1, 0, none⟩) (.inr hle) _).setCell (p := ⟨wo.heap.size + 1, 1, none⟩) (.inr hle) _).setCell (p := ⟨wo.heap.size + 1, 2, none⟩) (.inr hle) _
    · obtain rfl : j = n := by omega
      obtain ⟨⟨r0, r1, r2⟩, g0, g1, g2, lr⟩ := three_cells (HB.out.at 0 rfl)
      have hle : wo.heap.size ≤ wo.heap.size + 1 := Nat.le_succ _
      go_wp2
      refine bodyPost_ret (v := .agg #[.int .i64 0, .int .i64 0, .int .i64 0]) (by simp [results, Tryz.results54, go_sem, *]) rfl ⟨by rw [eachV_none HZ.out], ?_⟩
      exact ((HB.out.keeps.setCell (p := ⟨wo.heap.size + 1, 0, none⟩) (.inr hle) _).setCell (p := ⟨wo.heap.size + 1, 1, none⟩) (.inr hle) _).setCell (p := ⟨wo.heap.size + 1, 2, none⟩) (.inr hle) _
end Go.Proofs.YtkhmfjfclpehfaaGreat
namespace Go.Proofs.YtkhmfjfclpehfaaGreat
open Go.ChangeShapes Go.WideShapes Go.ChangeAt Go.RowKit
set_option linter.unusedVariables false
set_option linter.unusedSimpArgs false
def ownF (c : CfD) (o : Nat → Int) : Bool := (if o 0 = 4 then (o 4 == 0) else hasF c (o 4)) && (if o 0 = 1 ∨ o 0 = 2 then hasF c (o 5) else (o 5 == 0))
theorem own_1 (c : CfD) (o oi : Nat → Int) (w : World) (ho : c.Ok) (h : o 0 = 1) :
    Calls Tryz.prog 62 #[.agg c.cells, .agg (objC o oi)] w fun e w' => e = .returned (.bool (ownF c o)) ∧ Keeps (fun _ => False) w w' := by
  have HB := Lib.hid (((Has.start w).alloc (.cells c.cells 101)).alloc (.cells (objC o oi) 87) |>.eq (M := [(w.heap.size + 1, .cells (objC o oi) 87 (0, 0)), (w.heap.size, .cells c.cells 101 (0, 0))]) (by simp))
  have HF := Lib.hid (fun x w => chas_any c x w ho)
  have HV := Lib.hid (show ownF c o = (hasF c (o 4) && hasF c (o 5)) from by unfold ownF; simp [h])
  have k0 := h
  clear h ho
  go_enter Tryz.func62, Tryz.ntmps62
  go_wp2_with fail
  go_quiet (fail)
  replace HB := Lib.hid (HB.out.none ((Keeps.refl _ _).drewN nq))
  obtain ⟨x0, x1, x2, x3, x4, x5, x6, x7, x8, x9⟩ := ten_cells (HB.out.at 0 rfl)
  obtain ⟨e0, e1, e2, e3⟩ := four_cells (HB.out.at 1 rfl)
  go_wp2_with fail
  refine (HF.out _ _).mono ?_
  rintro e w2 ⟨rfl, k2⟩
  replace HB := Lib.hid (HB.out.none k2)
  clear k2 x0 x1 x2 x3 x4 x5 x6 x7 x8 x9 e0 e1 e2 e3
  obtain ⟨x0, x1, x2, x3, x4, x5, x6, x7, x8, x9⟩ := ten_cells (HB.out.at 0 rfl)
  obtain ⟨e0, e1, e2, e3⟩ := four_cells (HB.out.at 1 rfl)
  go_wp2_with fail
  refine (HF.out _ _).mono ?_
  rintro e w3 ⟨rfl, k3⟩
  replace HB := Lib.hid (HB.out.none k3)
  clear k3 x0 x1 x2 x3 x4 x5 x6 x7 x8 x9 e0 e1 e2 e3
  obtain ⟨x0, x1, x2, x3, x4, x5, x6, x7, x8, x9⟩ := ten_cells (HB.out.at 0 rfl)
  obtain ⟨e0, e1, e2, e3⟩ := four_cells (HB.out.at 1 rfl)
  go_wp2
  all_goals
    go_ret
    exact ⟨ret_bool (by rw [HV.out]; simp [*]), HB.out.keeps⟩
theorem own_2 (c : CfD) (o oi : Nat → Int) (w : World) (ho : c.Ok) (h : o 0 = 2) :
    Calls Tryz.prog 62 #[.agg c.cells, .agg (objC o oi)] w fun e w' => e = .returned (.bool (ownF c o)) ∧ Keeps (fun _ => False) w w' := by
  have HB := Lib.hid (((Has.start w).alloc (.cells c.cells 101)).alloc (.cells (objC o oi) 87) |>.eq (M := [(w.heap.size + 1, .cells (objC o oi) 87 (0, 0)), (w.heap.size, .cells c.cells 101 (0, 0))]) (by simp))
  have HF := Lib.hid (fun x w => chas_any c x w ho)
  have HV := Lib.hid (show ownF c o = (hasF c (o 4) && hasF c (o 5)) from by unfold ownF; simp [h])
  have k0 := h
  clear h ho
  go_enter Tryz.func62, Tryz.ntmps62
  go_wp2_with fail
  go_quiet (fail)
  replace HB := Lib.hid (HB.out.none ((Keeps.refl _ _).drewN nq))
  obtain ⟨x0, x1, x2, x3, x4, x5, x6, x7, x8, x9⟩ := ten_cells (HB.out.at 0 rfl)
  obtain ⟨e0, e1, e2, e3⟩ := four_cells (HB.out.at 1 rfl)
  go_wp2_with fail
  refine (HF.out _ _).mono ?_
  rintro e w2 ⟨rfl, k2⟩
  replace HB := Lib.hid (HB.out.none k2)
  clear k2 x0 x1 x2 x3 x4 x5 x6 x7 x8 x9 e0 e1 e2 e3
  obtain ⟨x0, x1, x2, x3, x4, x5, x6, x7, x8, x9⟩ := ten_cells (HB.out.at 0 rfl)
  obtain ⟨e0, e1, e2, e3⟩ := four_cells (HB.out.at 1 rfl)
  go_wp2_with fail
  refine (HF.out _ _).mono ?_
  rintro e w3 ⟨rfl, k3⟩
  replace HB := Lib.hid (HB.out.none k3)
  clear k3 x0 x1 x2 x3 x4 x5 x6 x7 x8 x9 e0 e1 e2 e3
  obtain ⟨x0, x1, x2, x3, x4, x5, x6, x7, x8, x9⟩ := ten_cells (HB.out.at 0 rfl)
  obtain ⟨e0, e1, e2, e3⟩ := four_cells (HB.out.at 1 rfl)
  go_wp2
  all_goals
    go_ret
    exact ⟨ret_bool (by rw [HV.out]; simp [*]), HB.out.keeps⟩
theorem own_4 (c : CfD) (o oi : Nat → Int) (w : World) (ho : c.Ok) (h : o 0 = 4) :
    Calls Tryz.prog 62 #[.agg c.cells, .agg (objC o oi)] w fun e w' => e = .returned (.bool (ownF c o)) ∧ Keeps (fun _ => False) w w' := by
  have HB := Lib.hid (((Has.start w).alloc (.cells c.cells 101)).alloc (.cells (objC o oi) 87) |>.eq (M := [(w.heap.size + 1, .cells (objC o oi) 87 (0, 0)), (w.heap.size, .cells c.cells 101 (0, 0))]) (by simp))
  have HF := Lib.hid (fun x w => chas_any c x w ho)
  have HV := Lib.hid (show ownF c o = ((o 4 == 0) && (o 5 == 0)) from by unfold ownF; simp [h])
  have k0 := h
  clear h ho
  go_enter Tryz.func62, Tryz.ntmps62
  go_wp2_with fail
  go_quiet (fail)
  replace HB := Lib.hid (HB.out.none ((Keeps.refl _ _).drewN nq))
  obtain ⟨x0, x1, x2, x3, x4, x5, x6, x7, x8, x9⟩ := ten_cells (HB.out.at 0 rfl)
  obtain ⟨e0, e1, e2, e3⟩ := four_cells (HB.out.at 1 rfl)
  go_wp2
  all_goals
    go_ret
    exact ⟨ret_bool (by rw [HV.out]; simp [*]), HB.out.keeps⟩
theorem own_x (c : CfD) (o oi : Nat → Int) (w : World) (ho : c.Ok) (h : o 0 ≠ 1 ∧ o 0 ≠ 2 ∧ o 0 ≠ 4) :
    Calls Tryz.prog 62 #[.agg c.cells, .agg (objC o oi)] w fun e w' => e = .returned (.bool (ownF c o)) ∧ Keeps (fun _ => False) w w' := by
  have HB := Lib.hid (((Has.start w).alloc (.cells c.cells 101)).alloc (.cells (objC o oi) 87) |>.eq (M := [(w.heap.size + 1, .cells (objC o oi) 87 (0, 0)), (w.heap.size, .cells c.cells 101 (0, 0))]) (by simp))
  have HF := Lib.hid (fun x w => chas_any c x w ho)
  have HV := Lib.hid (show ownF c o = (hasF c (o 4) && (o 5 == 0)) from by unfold ownF; simp [h])
  have n1 : (o 0 == 1) = false := beq_eq_false_iff_ne.mpr h.1
  have n2 : (o 0 == 2) = false := beq_eq_false_iff_ne.mpr h.2.1
  have n4 : (o 0 == 4) = false := beq_eq_false_iff_ne.mpr h.2.2
  have m4 : ¬ o 0 = 4 := h.2.2
  clear h ho
  go_enter Tryz.func62, Tryz.ntmps62
  go_wp2_with fail
  go_quiet (fail)
  replace HB := Lib.hid (HB.out.none ((Keeps.refl _ _).drewN nq))
  obtain ⟨x0, x1, x2, x3, x4, x5, x6, x7, x8, x9⟩ := ten_cells (HB.out.at 0 rfl)
  obtain ⟨e0, e1, e2, e3⟩ := four_cells (HB.out.at 1 rfl)
  go_wp2_with fail
  refine (HF.out _ _).mono ?_
  rintro e w2 ⟨rfl, k2⟩
  replace HB := Lib.hid (HB.out.none k2)
  clear k2 x0 x1 x2 x3 x4 x5 x6 x7 x8 x9 e0 e1 e2 e3
  obtain ⟨x0, x1, x2, x3, x4, x5, x6, x7, x8, x9⟩ := ten_cells (HB.out.at 0 rfl)
  obtain ⟨e0, e1, e2, e3⟩ := four_cells (HB.out.at 1 rfl)
  go_wp2
  all_goals
    go_ret
    exact ⟨ret_bool (by rw [HV.out]; simp [*]), HB.out.keeps⟩
theorem own_any (c : CfD) (o oi : Nat → Int) (w : World) (ho : c.Ok) :
    Calls Tryz.prog 62 #[.agg c.cells, .agg (objC o oi)] w fun e w' => e = .returned (.bool (ownF c o)) ∧ Keeps (fun _ => False) w w' := by
  by_cases h1 : o 0 = 1
  · exact own_1 c o oi w ho h1
  by_cases h2 : o 0 = 2
  · exact own_2 c o oi w ho h2
  by_cases h4 : o 0 = 4
  · exact own_4 c o oi w ho h4
  exact own_x c o oi w ho ⟨h1, h2, h4⟩
end Go.Proofs.YtkhmfjfclpehfaaGreat
