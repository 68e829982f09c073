import Derived.Test.YtnogdeihiiejkaaRows
import Derived.Test.YtnogdeihiiejkaaKeep
import Derived.Test.YtnogdeihiiejkaaRet
import Derived.Test.YtnogdeihiiejkaaPow
import Derived.Test.YtnogdeihiiejkaaHas
import Derived.WalkKit
import Derived.ProofKit
import Derived.OpenShut
import Derived.WalkLawsBesides
import Derived.WalkSpells
import Derived.Lib.Hide
import Derived.Deep.QuietTactic
import Derived.BigQuiet
import Derived.BigRegion
namespace Go.Proofs.Ytnogdeihiiejkaa
open Go.ChangeShapes Go.WideShapes Go.ChangeAt Go.RowKit
set_option linter.unusedVariables false
set_option linter.unusedSimpArgs false
/-- A configuration's numbers, and where they lie. -/
structure CfD where
  nT : Nat
  nL : Nat
  nO : Nat
  tick : Int
  ta : Option Addr
  la : Option Addr
  oa : Option Addr
  tc : Nat
  lc : Nat
  oc : Nat
  tp : Nat → Int
  tb : Nat → Bool
  tl : Nat → Nat
  tca : Nat → Option Addr
  tcc : Nat → Nat
  lr : Nat → Int
  ll : Nat → Nat
  lca : Nat → Option Addr
  lcc : Nat → Nat
  ob : Nat → Nat → Int
  oi : Nat → Nat → Int
@[reducible] def CfD.cells (c : CfD) : Array Value := #[.slice c.ta c.nT c.tc, .slice c.la c.nL c.lc, .slice c.oa c.nO c.oc, .int .i64 c.tick]
@[reducible] def CfD.obj (c : CfD) (i : Nat) : Array Value := #[.int .i64 (c.ob i 0), .int .i64 (c.ob i 1), .int .i64 (c.ob i 2), .int .i64 (c.ob i 3), .int .i64 (c.ob i 4), .int .i64 (c.ob i 5), .int .u32 (c.oi i 0), .int .u32 (c.oi i 1), .int .u32 (c.oi i 2), .int .u32 (c.oi i 3)]
/-- Where a configuration's rows lie, they lie so. -/
structure CfIn (w : World) (c : CfD) : Prop where
  t : 0 < c.nT → ∃ b off, c.ta = some ⟨b, off, none⟩ ∧ b < w.heap.size ∧ ∀ i, i < c.nT → w.cell? ⟨b, off + i * 3, none⟩ = some (.int .i64 (c.tp i)) ∧ w.cell? ⟨b, off + i * 3 + 1, none⟩ = some (.bool (c.tb i)) ∧ w.cell? ⟨b, off + i * 3 + 2, none⟩ = some (.slice (c.tca i) (c.tl i) (c.tcc i))
  l : 0 < c.nL → ∃ b off, c.la = some ⟨b, off, none⟩ ∧ b < w.heap.size ∧ ∀ i, i < c.nL → w.cell? ⟨b, off + i * 2, none⟩ = some (.int .i64 (c.lr i)) ∧ w.cell? ⟨b, off + i * 2 + 1, none⟩ = some (.slice (c.lca i) (c.ll i) (c.lcc i))
  o : 0 < c.nO → ∃ b off, c.oa = some ⟨b, off, none⟩ ∧ b < w.heap.size ∧ ∀ i, i < c.nO → ∀ j, j < 10 → w.cell? ⟨b, off + i * 10 + j, none⟩ = (c.obj i)[j]?
/-- Within the bounds of the machine. -/
structure CfD.Ok (c : CfD) : Prop where
  t : c.nT ≤ maxLen
  l : c.nL ≤ maxLen
  o : c.nO ≤ maxLen
  tick : -9223372036854775808 ≤ c.tick ∧ c.tick ≤ 9223372036854775807
  lr : ∀ i, i < c.nL → -9223372036854775808 ≤ c.lr i ∧ c.lr i ≤ 9223372036854775807
  ob : ∀ i, i < c.nO → ∀ j, j < 6 → -9223372036854775808 ≤ c.ob i j ∧ c.ob i j ≤ 9223372036854775807
theorem CfIn.none {w w' : World} {c : CfD} (h : CfIn w c) (k : Keeps (fun _ => False) w w') : CfIn w' c := by
  have hk := k.none
  refine ⟨fun hn => ?_, fun hn => ?_, fun hn => ?_⟩
  · obtain ⟨b, off, ha, hb, hc⟩ := h.t hn
    exact ⟨b, off, ha, Nat.lt_of_lt_of_le hb k.size, fun i hi => ⟨(hk.cell (p := ⟨b, off + i * 3, Option.none⟩) hb).trans (hc i hi).1, (hk.cell (p := ⟨b, off + i * 3 + 1, Option.none⟩) hb).trans (hc i hi).2.1, (hk.cell (p := ⟨b, off + i * 3 + 2, Option.none⟩) hb).trans (hc i hi).2.2⟩⟩
  · obtain ⟨b, off, ha, hb, hc⟩ := h.l hn
    exact ⟨b, off, ha, Nat.lt_of_lt_of_le hb k.size, fun i hi => ⟨(hk.cell (p := ⟨b, off + i * 2, Option.none⟩) hb).trans (hc i hi).1, (hk.cell (p := ⟨b, off + i * 2 + 1, Option.none⟩) hb).trans (hc i hi).2⟩⟩
  · obtain ⟨b, off, ha, hb, hc⟩ := h.o hn
    exact ⟨b, off, ha, Nat.lt_of_lt_of_le hb k.size, fun i hi j hj => (hk.cell (p := ⟨b, off + i * 10 + j, Option.none⟩) hb).trans (hc i hi j hj)⟩
theorem four_cells {w : World} {g : Nat} {x y z v : Value} {E : TypeId} (h : w.heap[g]? = some (.cells #[x, y, z, v] E (0, 0))) :
    w.cell? ⟨g, 0, none⟩ = some x ∧ w.cell? ⟨g, 1, none⟩ = some y ∧ w.cell? ⟨g, 2, none⟩ = some z ∧ w.cell? ⟨g, 3, none⟩ = some v := ⟨cell_of h 0, cell_of h 1, cell_of h 2, cell_of h 3⟩
def codeF (n : Nat) : Int := if 64 < n then 14 else 0
theorem code_any (a : Option Addr) (n c : Nat) (w : World) :
    Calls Try.prog 32 #[.slice a n c] w fun e w' => e = .returned (.int .i64 (codeF n)) ∧ Keeps (fun _ => False) w w' := by
  unfold codeF
  by_cases h : 64 < n
  · have d0 : decide ((64 : Int) < (n : Int)) = true := decide_eq_true (by omega)
    rw [if_pos h]
    clear h
    go_enter Try.func32, Try.ntmps32
    go_wp2
    go_ret
    exact ⟨rfl, Keeps.refl _ _⟩
  · have d0 : decide ((64 : Int) < (n : Int)) = false := decide_eq_false (by omega)
    rw [if_neg h]
    clear h
    go_enter Try.func32, Try.ntmps32
    go_wp2
    go_ret
    exact ⟨rfl, Keeps.refl _ _⟩
def taskF (p : Int) (n : Nat) : Int := if p < 0 ∨ 32 ≤ p then 2 else codeF n
theorem codeF_zero {n : Nat} (h : n ≤ 64) : codeF n = 0 := by unfold codeF; rw [if_neg (by omega)]
theorem tasks1_any (c : CfD) (PB : Nat) (i : Nat) (w : World) (hc : CfIn w c) (ho : c.Ok) (hb : w.heap[PB]? = some (.cells c.cells 78 (0, 0))) (hi : i < c.nT) :
    Calls Try.prog 31 #[.int .i64 (i : Int), .pointer (some ⟨PB, 0, none⟩)] w fun e w' => e = .returned (.int .i64 (taskF (c.tp i) (c.tl i))) ∧ Keeps (fun _ => False) w w' := by
  obtain ⟨b, off, hta, hbl, hrow⟩ := hc.t (by omega)
  obtain ⟨c0, c1, c2⟩ := hrow i hi
  have hlim := ho.t
  unfold maxLen at hlim
  obtain ⟨e0, e1, e2, e3⟩ := four_cells hb
  rw [hta] at e0
  have lx := lt_of hb
  clear hrow ho hc hta hb
  unfold taskF
  generalize c.tp i = p at *
  generalize c.tl i = n at *
  generalize c.nT = nT at *
  by_cases h1 : p < 0
  · have d0 : decide (p < 0) = true := decide_eq_true h1
    rw [if_pos (.inl h1)]
    clear h1
    go_enter Try.func31, Try.ntmps31
    go_wp2
    go_ret
    exact ⟨rfl, (Keeps.refl _ _).alloc _⟩
  by_cases h2 : 32 ≤ p
  · have d0 : decide (p < 0) = false := decide_eq_false h1
    have d1 : decide (32 ≤ p) = true := decide_eq_true h2
    rw [if_pos (.inr h2)]
    clear h1 h2
    go_enter Try.func31, Try.ntmps31
    go_wp2
    go_ret
    exact ⟨rfl, (Keeps.refl _ _).alloc _⟩
  have d0 : decide (p < 0) = false := decide_eq_false h1
  have d1 : decide (32 ≤ p) = false := decide_eq_false h2
  rw [if_neg (by omega)]
  clear h1 h2
  go_enter Try.func31, Try.ntmps31
  go_wp2_with fail
  refine (code_any _ _ _ _).mono ?_
  rintro e w1 ⟨rfl, k1⟩
  go_wp2
  go_ret
  exact ⟨rfl, ((Keeps.refl _ _).alloc _).trans k1⟩
def roomB (n : Int) : Bool := pow2 n && decide (n ≤ 64)
theorem room_any (a : Int) (w : World) (h1 : -9223372036854775808 ≤ a) (h2 : a ≤ 9223372036854775807) :
    Calls Try.prog 34 #[.int .i64 a] w fun e w' => e = .returned (.bool (roomB a)) ∧ Keeps (fun _ => False) w w' := by
  have hp := Lib.hid (fun w => power_any a w h1 h2)
  unfold roomB
  generalize pow2 a = q at *
  clear h1 h2
  cases q
  all_goals
    go_enter Try.func34, Try.ntmps34
    go_wp2_with fail
    refine (hp.out _).mono ?_
    rintro e w1 ⟨rfl, rfl⟩
    go_wp2
    go_ret
    exact ⟨by simp, Keeps.refl _ _⟩
def levelF (r : Int) (n : Nat) : Int := if roomB r = true then codeF n else 13
theorem levels1_any (c : CfD) (PB : Nat) (i : Nat) (w : World) (hc : CfIn w c) (ho : c.Ok) (hb : w.heap[PB]? = some (.cells c.cells 78 (0, 0))) (hi : i < c.nL) :
    Calls Try.prog 33 #[.int .i64 (i : Int), .pointer (some ⟨PB, 0, none⟩)] w fun e w' => e = .returned (.int .i64 (levelF (c.lr i) (c.ll i))) ∧ Keeps (fun _ => False) w w' := by
  obtain ⟨b, off, hta, hbl, hrow⟩ := hc.l (by omega)
  obtain ⟨c0, c1⟩ := hrow i hi
  have hlim := ho.l
  unfold maxLen at hlim
  have hp := Lib.hid (fun w => room_any (c.lr i) w (ho.lr i hi).1 (ho.lr i hi).2)
  obtain ⟨e0, e1, e2, e3⟩ := four_cells hb
  rw [hta] at e1
  have lx := lt_of hb
  clear hrow ho hc hta hb
  unfold levelF
  generalize roomB (c.lr i) = q at *
  generalize c.lr i = p at *
  generalize c.ll i = n at *
  generalize c.nL = nL at *
  cases q
  · go_enter Try.func33, Try.ntmps33
    go_wp2_with fail
    refine (hp.out _).mono ?_
    rintro e w1 ⟨rfl, k1⟩
    go_wp2
    go_ret
    exact ⟨rfl, ((Keeps.refl _ _).alloc _).trans k1⟩
  · have HB := Lib.hid ((Has.start w).alloc (.cells #[.int .i64 p, .slice (c.lca i) n (c.lcc i)] 54))
    go_enter Try.func33, Try.ntmps33
    go_wp2_with fail
    refine (hp.out _).mono ?_
    rintro e w1 ⟨rfl, k1⟩
    replace HB := Lib.hid (HB.out.none k1)
    have g1 : w1.cell? ⟨w.heap.size, 1, none⟩ = some (.slice (c.lca i) n (c.lcc i)) := cell_of (HB.out.at 0 rfl) 1
    clear k1
    go_wp2_with fail
    refine (code_any _ _ _ _).mono ?_
    rintro e w2 ⟨rfl, k2⟩
    go_wp2
    go_ret
    exact ⟨rfl, HB.out.keeps.trans k2⟩
theorem counts1_any (B : Nat → Bool) (PB : Nat) (i : Nat) (w : World) (hb : w.heap[PB]? = some (.cells #[.bool (B 0), .bool (B 1), .bool (B 2), .bool (B 3)] 85 (0, 0))) (hi : i < 4) :
    Calls Try.prog 30 #[.int .i64 (i : Int), .pointer (some ⟨PB, 0, none⟩)] w fun e w' => e = .returned (.int .i64 (if B i = true then 0 else 2)) ∧ Keeps (fun _ => False) w w' := by
  have c0 : w.cell? ⟨PB, i, none⟩ = some (.bool (B i)) := by
    rw [cell_of hb i]
    rcases (by omega : i = 0 ∨ i = 1 ∨ i = 2 ∨ i = 3) with rfl | rfl | rfl | rfl <;> rfl
  have lx := lt_of hb
  clear hb
  generalize B i = q at *
  cases q
  all_goals
    go_enter Try.func30, Try.ntmps30
    go_wp2
    go_ret
    exact ⟨by simp, Keeps.refl _ _⟩
def hasF (c : CfD) (x : Int) : Bool := decide (-(c.nL : Int) ≤ x) && decide (x < (c.nT : Int))
theorem has_any (c : CfD) (x : Int) (w : World) (ho : c.Ok) :
    Calls Try.prog 45 #[.agg c.cells, .int .i64 x] w fun e w' => e = .returned (.bool (hasF c x)) ∧ Keeps (fun _ => False) w w' := by
  have h1 := ho.t
  have h2 := ho.l
  unfold maxLen at h1 h2
  have W1 : IntKind.i64.wrap (-(c.nL : Int)) = -(c.nL : Int) := IntWalk.i64_in _ ⟨by omega, by omega⟩
  have W1' : wrap64 (-(c.nL : Int)) = -(c.nL : Int) := IntWalk.wrap64_in _ ⟨by omega, by omega⟩
  clear h1 h2 ho
  unfold hasF
  by_cases h : -(c.nL : Int) ≤ x
  · have d0 : decide (-(c.nL : Int) ≤ x) = true := decide_eq_true h
    clear h
    go_enter Try.func45, Try.ntmps45
    go_wp2
    go_ret
    exact ⟨ret_bool (by simp [d0]), (Keeps.refl _ _).alloc _⟩
  · have d0 : decide (-(c.nL : Int) ≤ x) = false := decide_eq_false h
    clear h
    go_enter Try.func45, Try.ntmps45
    go_wp2
    go_ret
    exact ⟨ret_bool (by simp [d0]), (Keeps.refl _ _).alloc _⟩
end Go.Proofs.Ytnogdeihiiejkaa
