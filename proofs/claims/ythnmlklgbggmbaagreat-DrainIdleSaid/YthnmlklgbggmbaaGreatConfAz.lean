import Derived.Test.YthnmlklgbggmbaaGreatRows
import Derived.Test.YthnmlklgbggmbaaGreatBaseZ
import Derived.WalkKit
import Derived.ProofKit
import Derived.OpenShut
import Derived.WalkLawsBesides
import Derived.WalkSpells
import Derived.Lib.Hide
import Derived.Deep.QuietTactic
import Derived.BigQuiet
import Derived.BigRegion
import Derived.LoopN
import Derived.Deep.RegionHeld3
namespace Go.Proofs.YthnmlklgbggmbaaGreat
open Go.ChangeShapes Go.WideShapes Go.ChangeAt Go.RowKit
set_option linter.unusedVariables false
set_option linter.unusedSimpArgs false
def codeF (n : Nat) : Int := if 64 < n then 14 else 0
theorem code_any (a : Option Addr) (n c : Nat) (w : World) :
    Calls Tryz.prog 99 #[.slice a n c] w fun e w' => e = .returned (.int .i64 (codeF n)) ∧ Keeps (fun _ => False) w w' := by
  unfold codeF
  by_cases h : 64 < n
  · have d0 : decide ((64 : Int) < (n : Int)) = true := decide_eq_true (by omega)
    rw [if_pos h]
    clear h
    go_enter Tryz.func99, Tryz.ntmps99
    go_wp2
    go_ret
    exact ⟨rfl, Keeps.refl _ _⟩
  · have d0 : decide ((64 : Int) < (n : Int)) = false := decide_eq_false (by omega)
    rw [if_neg h]
    clear h
    go_enter Tryz.func99, Tryz.ntmps99
    go_wp2
    go_ret
    exact ⟨rfl, Keeps.refl _ _⟩
def taskF (p : Int) (n : Nat) : Int := if p < 0 ∨ 32 ≤ p then 2 else codeF n
theorem codeF_zero {n : Nat} (h : n ≤ 64) : codeF n = 0 := by unfold codeF; rw [if_neg (by omega)]
theorem tasks1_any (c : CfD) (PB : Nat) (i : Nat) (w : World) (hc : CfIn w c) (ho : c.Ok) (hb : w.heap[PB]? = some (.cells c.cells 112 (0, 0))) (hi : i < c.nT) :
    Calls Tryz.prog 98 #[.int .i64 (i : Int), .pointer (some ⟨PB, 0, none⟩)] w fun e w' => e = .returned (.int .i64 (taskF (c.tp i) (c.tl i))) ∧ Keeps (fun _ => False) w w' := by
  obtain ⟨b, off, hta, hbl, hrow⟩ := hc.t (by omega)
  obtain ⟨c0, c1, c2⟩ := hrow i hi
  have hlim := ho.t
  unfold maxLen at hlim
  obtain ⟨e0, e1, e2, e3⟩ := four_cells hb
  rw [hta] at e0
  have lx := lt_of hb
  clear hrow ho hc hta hb
  unfold taskF
  generalize c.tp i = p at *
  generalize c.tl i = n at *
  generalize c.nT = nT at *
  by_cases h1 : p < 0
  · have d0 : decide (p < 0) = true := decide_eq_true h1
    rw [if_pos (.inl h1)]
    clear h1
    go_enter Tryz.func98, Tryz.ntmps98
    go_wp2
    go_ret
    exact ⟨rfl, (Keeps.refl _ _).alloc _⟩
  by_cases h2 : 32 ≤ p
  · have d0 : decide (p < 0) = false := decide_eq_false h1
    have d1 : decide (32 ≤ p) = true := decide_eq_true h2
    rw [if_pos (.inr h2)]
    clear h1 h2
    go_enter Tryz.func98, Tryz.ntmps98
    go_wp2
    go_ret
    exact ⟨rfl, (Keeps.refl _ _).alloc _⟩
  have d0 : decide (p < 0) = false := decide_eq_false h1
  have d1 : decide (32 ≤ p) = false := decide_eq_false h2
  rw [if_neg (by omega)]
  clear h1 h2
  go_enter Tryz.func98, Tryz.ntmps98
  go_wp2_with fail
  refine (code_any _ _ _ _).mono ?_
  rintro e w1 ⟨rfl, k1⟩
  go_wp2
  go_ret
  exact ⟨rfl, ((Keeps.refl _ _).alloc _).trans k1⟩
def roomB (n : Int) : Bool := pow2 n && decide (n ≤ 64)
theorem room_any (a : Int) (w : World) (h1 : -9223372036854775808 ≤ a) (h2 : a ≤ 9223372036854775807) :
    Calls Tryz.prog 101 #[.int .i64 a] w fun e w' => e = .returned (.bool (roomB a)) ∧ Keeps (fun _ => False) w w' := by
  have hp := Lib.hid (fun w => power_any a w h1 h2)
  unfold roomB
  generalize pow2 a = q at *
  clear h1 h2
  cases q
  all_goals
    go_enter Tryz.func101, Tryz.ntmps101
    go_wp2_with fail
    refine (hp.out _).mono ?_
    rintro e w1 ⟨rfl, rfl⟩
    go_wp2
    go_ret
    exact ⟨by simp, Keeps.refl _ _⟩
def levelF (r : Int) (n : Nat) : Int := if roomB r = true then codeF n else 13
theorem levels1_any (c : CfD) (PB : Nat) (i : Nat) (w : World) (hc : CfIn w c) (ho : c.Ok) (hb : w.heap[PB]? = some (.cells c.cells 112 (0, 0))) (hi : i < c.nL) :
    Calls Tryz.prog 100 #[.int .i64 (i : Int), .pointer (some ⟨PB, 0, none⟩)] w fun e w' => e = .returned (.int .i64 (levelF (c.lr i) (c.ll i))) ∧ Keeps (fun _ => False) w w' := by
  obtain ⟨b, off, hta, hbl, hrow⟩ := hc.l (by omega)
  obtain ⟨c0, c1⟩ := hrow i hi
  have hlim := ho.l
  unfold maxLen at hlim
  have hp := Lib.hid (fun w => room_any (c.lr i) w (ho.lr i hi).1 (ho.lr i hi).2)
  obtain ⟨e0, e1, e2, e3⟩ := four_cells hb
  rw [hta] at e1
  have lx := lt_of hb
  clear hrow ho hc hta hb
  unfold levelF
  generalize roomB (c.lr i) = q at *
  generalize c.lr i = p at *
  generalize c.ll i = n at *
  generalize c.nL = nL at *
  cases q
  · go_enter Tryz.func100, Tryz.ntmps100
    go_wp2_with fail
    refine (hp.out _).mono ?_
    rintro e w1 ⟨rfl, k1⟩
    go_wp2
    go_ret
    exact ⟨rfl, ((Keeps.refl _ _).alloc _).trans k1⟩
  · have HB := Lib.hid ((Has.start w).alloc (.cells #[.int .i64 p, .slice (c.lca i) n (c.lcc i)] 69))
    go_enter Tryz.func100, Tryz.ntmps100
    go_wp2_with fail
    refine (hp.out _).mono ?_
    rintro e w1 ⟨rfl, k1⟩
    replace HB := Lib.hid (HB.out.none k1)
    have g1 : w1.cell? ⟨w.heap.size, 1, none⟩ = some (.slice (c.lca i) n (c.lcc i)) := cell_of (HB.out.at 0 rfl) 1
    clear k1
    go_wp2_with fail
    refine (code_any _ _ _ _).mono ?_
    rintro e w2 ⟨rfl, k2⟩
    go_wp2
    go_ret
    exact ⟨rfl, HB.out.keeps.trans k2⟩
theorem counts1_any (B : Nat → Bool) (PB : Nat) (i : Nat) (w : World) (hb : w.heap[PB]? = some (.cells #[.bool (B 0), .bool (B 1), .bool (B 2), .bool (B 3)] 191 (0, 0))) (hi : i < 4) :
    Calls Tryz.prog 97 #[.int .i64 (i : Int), .pointer (some ⟨PB, 0, none⟩)] w fun e w' => e = .returned (.int .i64 (if B i = true then 0 else 2)) ∧ Keeps (fun _ => False) w w' := by
  have c0 : w.cell? ⟨PB, i, none⟩ = some (.bool (B i)) := by
    rw [cell_of hb i]
    rcases (by omega : i = 0 ∨ i = 1 ∨ i = 2 ∨ i = 3) with rfl | rfl | rfl | rfl <;> rfl
  have lx := lt_of hb
  clear hb
  generalize B i = q at *
  cases q
  all_goals
    go_enter Tryz.func97, Tryz.ntmps97
    go_wp2
    go_ret
    exact ⟨by simp, Keeps.refl _ _⟩
def hasF (c : CfD) (x : Int) : Bool := decide (-(c.nL : Int) ≤ x) && decide (x < (c.nT : Int))
theorem chas_any (c : CfD) (x : Int) (w : World) (ho : c.Ok) :
    Calls Tryz.prog 152 #[.agg c.cells, .int .i64 x] w fun e w' => e = .returned (.bool (hasF c x)) ∧ Keeps (fun _ => False) w w' := by
  have h1 := ho.t
  have h2 := ho.l
  unfold maxLen at h1 h2
  have W1 : IntKind.i64.wrap (-(c.nL : Int)) = -(c.nL : Int) := IntWalk.i64_in _ ⟨by omega, by omega⟩
  have W1' : wrap64 (-(c.nL : Int)) = -(c.nL : Int) := IntWalk.wrap64_in _ ⟨by omega, by omega⟩
  clear h1 h2 ho
  unfold hasF
  by_cases h : -(c.nL : Int) ≤ x
  · have d0 : decide (-(c.nL : Int) ≤ x) = true := decide_eq_true h
    clear h
    go_enter Tryz.func152, Tryz.ntmps152
    go_wp2
    go_ret
    exact ⟨ret_bool (by simp [d0]), (Keeps.refl _ _).alloc _⟩
  · have d0 : decide (-(c.nL : Int) ≤ x) = false := decide_eq_false h
    clear h
    go_enter Tryz.func152, Tryz.ntmps152
    go_wp2
    go_ret
    exact ⟨ret_bool (by simp [d0]), (Keeps.refl _ _).alloc _⟩
end Go.Proofs.YthnmlklgbggmbaaGreat
namespace Go.Proofs.YthnmlklgbggmbaaGreat
open Go.ChangeShapes Go.WideShapes Go.ChangeAt Go.RowKit
set_option linter.unusedVariables false
set_option linter.unusedSimpArgs false
/-- The least place at which f is not 0. -/
def firstN (f : Nat → Int) : Nat → Option Nat
  | 0 => none
  | n + 1 => match firstN f n with
    | some i => some i
    | none => if f n = 0 then none else some n
theorem firstN_nof {f : Nat → Int} : ∀ {n : Nat}, (∀ i, i < n → f i = 0) → firstN f n = none
  | 0, _ => rfl
  | n + 1, h => by
    unfold firstN
    rw [firstN_nof fun i hi => h i (Nat.lt_succ_of_lt hi), if_pos (h n (Nat.lt_succ_self n))]
theorem firstN_of {f : Nat → Int} {i : Nat} (h0 : ∀ j, j < i → f j = 0) (h1 : f i ≠ 0) : ∀ {n : Nat}, i < n → firstN f n = some i
  | 0, h => by omega
  | n + 1, h => by
    unfold firstN
    by_cases e : i = n
    · subst e
      rw [firstN_nof h0, if_neg h1]
    · rw [firstN_of h0 h1 (by omega)]
theorem firstN_none {f : Nat → Int} : ∀ {n : Nat}, firstN f n = none → ∀ i, i < n → f i = 0
  | 0, _, i, hi => by omega
  | n + 1, h, i, hi => by
    unfold firstN at h
    cases h1 : firstN f n with
    | some k => rw [h1] at h; cases h
    | none =>
      rw [h1] at h
      by_cases e : f n = 0
      · by_cases e2 : i = n
        · rw [e2]; exact e
        · exact firstN_none h1 i (by omega)
      · simp [e] at h
theorem firstN_some {f : Nat → Int} : ∀ {n i : Nat}, firstN f n = some i → i < n ∧ f i ≠ 0 ∧ ∀ j, j < i → f j = 0
  | 0, i, h => by cases h
  | n + 1, i, h => by
    unfold firstN at h
    cases h1 : firstN f n with
    | some k =>
      rw [h1] at h
      injection h with h
      subst h
      have := firstN_some h1
      exact ⟨by omega, this.2⟩
    | none =>
      rw [h1] at h
      by_cases e : f n = 0
      · simp [e] at h
      · simp [e] at h
        subst h
        exact ⟨Nat.lt_succ_self _, e, firstN_none h1⟩
/-- What is bad in a part first. -/
def eachV (part : Int) (f : Nat → Int) (n : Nat) : Int × Int × Int := match firstN f n with
  | none => (0, 0, 0)
  | some i => (f i, part, (i : Int))
theorem eachV_none {part : Int} {f : Nat → Int} {n : Nat} (h : ∀ i, i < n → f i = 0) : eachV part f n = (0, 0, 0) := by unfold eachV; rw [firstN_nof h]
theorem eachV_some {part : Int} {f : Nat → Int} {n i : Nat} (hi : i < n) (h0 : ∀ j, j < i → f j = 0) (h1 : f i ≠ 0) : eachV part f n = (f i, part, (i : Int)) := by unfold eachV; rw [firstN_of h0 h1 hi]
@[reducible] def badC (b : Int × Int × Int) : Array Value := #[.int .i64 b.1, .int .i64 b.2.1, .int .i64 b.2.2]
theorem each1_any (f part at_ : Int) (G : Nat) (w : World) (h : w.cell? ⟨G, 0, none⟩ = some (.int .i64 part)) (hl : G < w.heap.size) :
    Calls Tryz.prog 150 #[.int .i64 f, .int .i64 at_, .pointer (some ⟨G, 0, none⟩)] w fun e w' => e = .returned (.agg #[.int .i64 f, .int .i64 part, .int .i64 at_]) ∧ Keeps (fun _ => False) w w' := by
  go_enter Tryz.func150, Tryz.ntmps150
  go_wp2
  refine bodyPost_ret (v := .agg #[.int .i64 f, .int .i64 part, .int .i64 at_]) (by simp [results, Tryz.results150, go_sem, *]) rfl ⟨rfl, ?_⟩
  exact (Keeps.refl _ _).alloc _
theorem three_cells {w : World} {g : Nat} {x y z : Value} {E : TypeId} (h : w.heap[g]? = some (.cells #[x, y, z] E (0, 0))) :
    (w.cell? ⟨g, 0, none⟩ = some x ∧ w.cell? ⟨g, 1, none⟩ = some y ∧ w.cell? ⟨g, 2, none⟩ = some z) ∧ w.frozen? ⟨g, 0, none⟩ = false ∧ w.frozen? ⟨g, 1, none⟩ = false ∧ w.frozen? ⟨g, 2, none⟩ = false ∧ g < w.heap.size := ⟨⟨cell_of h 0, cell_of h 1, cell_of h 2⟩, free_of h 0, free_of h 1, free_of h 2, lt_of h⟩
set_option maxHeartbeats 1000000 in
theorem each_counts (part N : Int) (n Q : Nat) (f : Nat → Int) (w : World) (hN : N = n) (hn : n ≤ maxLen)
    (hf : ∀ i, i < n → ∀ w', Keeps (fun _ => False) w w' → Calls Tryz.prog 97 #[.int .i64 (i : Int), .pointer (some ⟨Q, 0, none⟩)] w' fun e w2 => e = .returned (.int .i64 (f i)) ∧ Keeps (fun _ => False) w' w2) :
    Calls Tryz.prog 96 #[.int .i64 part, .int .i64 N, .func (.func 97) #[] #[.pointer (some ⟨Q, 0, none⟩)]] w fun e w' => e = .returned (.agg (badC (eachV part f n))) ∧ Keeps (fun _ => False) w w' := by
  subst hN
  unfold maxLen at hn
  have HF := Lib.hid hf
  have HB := Lib.hid (((Has.start w).alloc (.cells #[.int .i64 part] 3)).alloc (.cells #[.int .i64 0, .int .i64 0, .int .i64 0] 30))
  clear hf
  go_enter Tryz.func96, Tryz.ntmps96
  go_wp2_with fail
  obtain ⟨wo, rfl⟩ : ∃ wo : World, wo = w := ⟨_, rfl⟩
  go_loopw [12] (fun i wr => ∃ j : Nat, j ≤ n ∧ i = .int .i64 j ∧ (∀ k, k < j → f k = 0) ∧ Has wo wr [(wo.heap.size + 1, .cells #[.int .i64 0, .int .i64 0, .int .i64 0] 30 (0, 0)), (wo.heap.size, .cells #[.int .i64 part] 3 (0, 0))]) (fun i _ => n - (intOf i).toNat)
  case atStart => exact ⟨0, by omega, rfl, fun k hk => by omega, HB.out.eq (by simp)⟩
  case round =>
    obtain ⟨j, hj, rfl, hz, hB⟩ := hrel
    replace HB := Lib.hid hB
    have HZ := Lib.hid hz
    clear hB hz
    by_cases hlt : j < n
    · go_wp2_with fail
      refine (HF.out j hlt _ HB.out.keeps).mono ?_
      rintro e w2 ⟨rfl, k2⟩
      replace HB := Lib.hid (HB.out.none k2)
      clear k2
      by_cases hfz : f j = 0
      · have HZ2 := Lib.hid (show ∀ k, k < j + 1 → f k = 0 from fun k hk => by
          by_cases e : k = j
          · rw [e]; exact hfz
          · exact HZ.out k (by omega))
        rw [hfz]
        clear hfz
        go_wp2
        go_roundw
        case rel => exact ⟨j + 1, by omega, by go_num, HZ2.out, HB.out⟩
        case measure => simp [intOf]; omega
      · have HE := Lib.hid (eachV_some (part := part) hlt HZ.out hfz)
        have dz : (f j == 0) = false := beq_eq_false_iff_ne.mpr hfz
        obtain ⟨⟨r0, r1, r2⟩, g0, g1, g2, lr⟩ := three_cells (HB.out.at 0 rfl)
        have lp := lt_of (HB.out.at 1 rfl)
        have p0 : w2.cell? ⟨wo.heap.size, 0, none⟩ = some (.int .i64 part) := cell_of (HB.out.at 1 rfl) 0
        go_wp2_with fail
        refine (each1_any _ part _ _ _ p0 lp).mono ?_
        rintro e w3 ⟨rfl, k3⟩
        replace HB := Lib.hid (HB.out.none k3)
        clear k3 r0 r1 r2 g0 g1 g2 lr p0 lp
        obtain ⟨⟨r0, r1, r2⟩, g0, g1, g2, lr⟩ := three_cells (HB.out.at 0 rfl)
        have hle : wo.heap.size ≤ wo.heap.size + 1 := Nat.le_succ _
        go_wp2
        refine bodyPost_ret (v := .agg #[.int .i64 (f j), .int .i64 part, .int .i64 (j : Int)]) (by simp [results, Tryz.results96, go_sem, *]) rfl ⟨by rw [HE.out], ?_⟩
        exact ((HB.out.keeps.setCell (p := ⟨wo.heap.size + 1, 0, none⟩) (.inr hle) _).setCell (p := ⟨wo.heap.size + 1, 1, none⟩) (.inr hle) _).setCell (p := ⟨wo.heap.size + 1, 2, none⟩) (.inr hle) _
    · obtain rfl : j = n := by omega
      obtain ⟨⟨r0, r1, r2⟩, g0, g1, g2, lr⟩ := three_cells (HB.out.at 0 rfl)
      have hle : wo.heap.size ≤ wo.heap.size + 1 := Nat.le_succ _
      go_wp2
      refine bodyPost_ret (v := .agg #[.int .i64 0, .int .i64 0, .int .i64 0]) (by simp [results, Tryz.results96, go_sem, *]) rfl ⟨by rw [eachV_none HZ.out], ?_⟩
      exact ((HB.out.keeps.setCell (p := ⟨wo.heap.size + 1, 0, none⟩) (.inr hle) _).setCell (p := ⟨wo.heap.size + 1, 1, none⟩) (.inr hle) _).setCell (p := ⟨wo.heap.size + 1, 2, none⟩) (.inr hle) _
set_option maxHeartbeats 1000000 in
theorem each_tasks (part N : Int) (n Q : Nat) (f : Nat → Int) (w : World) (hN : N = n) (hn : n ≤ maxLen)
    (hf : ∀ i, i < n → ∀ w', Keeps (fun _ => False) w w' → Calls Tryz.prog 98 #[.int .i64 (i : Int), .pointer (some ⟨Q, 0, none⟩)] w' fun e w2 => e = .returned (.int .i64 (f i)) ∧ Keeps (fun _ => False) w' w2) :
    Calls Tryz.prog 96 #[.int .i64 part, .int .i64 N, .func (.func 98) #[] #[.pointer (some ⟨Q, 0, none⟩)]] w fun e w' => e = .returned (.agg (badC (eachV part f n))) ∧ Keeps (fun _ => False) w w' := by
  subst hN
  unfold maxLen at hn
  have HF := Lib.hid hf
  have HB := Lib.hid (((Has.start w).alloc (.cells #[.int .i64 part] 3)).alloc (.cells #[.int .i64 0, .int .i64 0, .int .i64 0] 30))
  clear hf
  go_enter Tryz.func96, Tryz.ntmps96
  go_wp2_with fail
  obtain ⟨wo, rfl⟩ : ∃ wo : World, wo = w := ⟨_, rfl⟩
  go_loopw [12] (fun i wr => ∃ j : Nat, j ≤ n ∧ i = .int .i64 j ∧ (∀ k, k < j → f k = 0) ∧ Has wo wr [(wo.heap.size + 1, .cells #[.int .i64 0, .int .i64 0, .int .i64 0] 30 (0, 0)), (wo.heap.size, .cells #[.int .i64 part] 3 (0, 0))]) (fun i _ => n - (intOf i).toNat)
  case atStart => exact ⟨0, by omega, rfl, fun k hk => by omega, HB.out.eq (by simp)⟩
  case round =>
    obtain ⟨j, hj, rfl, hz, hB⟩ := hrel
    replace HB := Lib.hid hB
    have HZ := Lib.hid hz
    clear hB hz
    by_cases hlt : j < n
    · go_wp2_with fail
      refine (HF.out j hlt _ HB.out.keeps).mono ?_
      rintro e w2 ⟨rfl, k2⟩
      replace HB := Lib.hid (HB.out.none k2)
      clear k2
      by_cases hfz : f j = 0
      · have HZ2 := Lib.hid (show ∀ k, k < j + 1 → f k = 0 from fun k hk => by
          by_cases e : k = j
          · rw [e]; exact hfz
          · exact HZ.out k (by omega))
        rw [hfz]
        clear hfz
        go_wp2
        go_roundw
        case rel => exact ⟨j + 1, by omega, by go_num, HZ2.out, HB.out⟩
        case measure => simp [intOf]; omega
      · have HE := Lib.hid (eachV_some (part := part) hlt HZ.out hfz)
        have dz : (f j == 0) = false := beq_eq_false_iff_ne.mpr hfz
        obtain ⟨⟨r0, r1, r2⟩, g0, g1, g2, lr⟩ := three_cells (HB.out.at 0 rfl)
        have lp := lt_of (HB.out.at 1 rfl)
        have p0 : w2.cell? ⟨wo.heap.size, 0, none⟩ = some (.int .i64 part) := cell_of (HB.out.at 1 rfl) 0
        go_wp2_with fail
        refine (each1_any _ part _ _ _ p0 lp).mono ?_
        rintro e w3 ⟨rfl, k3⟩
        replace HB := Lib.hid (HB.out.none k3)
        clear k3 r0 r1 r2 g0 g1 g2 lr p0 lp
        obtain ⟨⟨r0, r1, r2⟩, g0, g1, g2, lr⟩ := three_cells (HB.out.at 0 rfl)
        have hle : wo.heap.size ≤ wo.heap.size + 1 := Nat.le_succ _
        go_wp2
        refine bodyPost_ret (v := .agg #[.int .i64 (f j), .int .i64 part, .int .i64 (j : Int)]) (by simp [results, Tryz.results96, go_sem, *]) rfl ⟨by rw [HE.out], ?_⟩
        exact ((HB.out.keeps.setCell (p := ⟨wo.heap.size + 1, 0, none⟩) (.inr hle) _).setCell (p := ⟨wo.heap.size + 1, 1, none⟩) (.inr hle) _).setCell (p := ⟨wo.heap.size + 1, 2, none⟩) (.inr hle) _
    · obtain rfl : j = n := by omega
      obtain ⟨⟨r0, r1, r2⟩, g0, g1, g2, lr⟩ := three_cells (HB.out.at 0 rfl)
      have hle : wo.heap.size ≤ wo.heap.size + 1 := Nat.le_succ _
      go_wp2
      refine bodyPost_ret (v := .agg #[.int .i64 0, .int .i64 0, .int .i64 0]) (by simp [results, Tryz.results96, go_sem, *]) rfl ⟨by rw [eachV_none HZ.out], ?_⟩
      exact ((HB.out.keeps.setCell (p := ⟨wo.heap.size + 1, 0, none⟩) (.inr hle) _).setCell (p := ⟨wo.heap.size + 1, 1, none⟩) (.inr hle) _).setCell (p := ⟨wo.heap.size + 1, 2, none⟩) (.inr hle) _
set_option maxHeartbeats 1000000 in
theorem each_levels (part N : Int) (n Q : Nat) (f : Nat → Int) (w : World) (hN : N = n) (hn : n ≤ maxLen)
    (hf : ∀ i, i < n → ∀ w', Keeps (fun _ => False) w w' → Calls Tryz.prog 100 #[.int .i64 (i : Int), .pointer (some ⟨Q, 0, none⟩)] w' fun e w2 => e = .returned (.int .i64 (f i)) ∧ Keeps (fun _ => False) w' w2) :
    Calls Tryz.prog 96 #[.int .i64 part, .int .i64 N, .func (.func 100) #[] #[.pointer (some ⟨Q, 0, none⟩)]] w fun e w' => e = .returned (.agg (badC (eachV part f n))) ∧ Keeps (fun _ => False) w w' := by
  subst hN
  unfold maxLen at hn
  have HF := Lib.hid hf
  have HB := Lib.hid (((Has.start w).alloc (.cells #[.int .i64 part] 3)).alloc (.cells #[.int .i64 0, .int .i64 0, .int .i64 0] 30))
  clear hf
  go_enter Tryz.func96, Tryz.ntmps96
  go_wp2_with fail
  obtain ⟨wo, rfl⟩ : ∃ wo : World, wo = w := ⟨_, rfl⟩
  go_loopw [12] (fun i wr => ∃ j : Nat, j ≤ n ∧ i = .int .i64 j ∧ (∀ k, k < j → f k = 0) ∧ Has wo wr [(wo.heap.size + 1, .cells #[.int .i64 0, .int .i64 0, .int .i64 0] 30 (0, 0)), (wo.heap.size, .cells #[.int .i64 part] 3 (0, 0))]) (fun i _ => n - (intOf i).toNat)
  case atStart => exact ⟨0, by omega, rfl, fun k hk => by omega, HB.out.eq (by simp)⟩
  case round =>
    obtain ⟨j, hj, rfl, hz, hB⟩ := hrel
    replace HB := Lib.hid hB
    have HZ := Lib.hid hz
    clear hB hz
    by_cases hlt : j < n
    · go_wp2_with fail
      refine (HF.out j hlt _ HB.out.keeps).mono ?_
      rintro e w2 ⟨rfl, k2⟩
      replace HB := Lib.hid (HB.out.none k2)
      clear k2
      by_cases hfz : f j = 0
      · have HZ2 := Lib.hid (show ∀ k, k < j + 1 → f k = 0 from fun k hk => by
          by_cases e : k = j
          · rw [e]; exact hfz
          · exact HZ.out k (by omega))
        rw [hfz]
        clear hfz
        go_wp2
        go_roundw
        case rel => exact ⟨j + 1, by omega, by go_num, HZ2.out, HB.out⟩
        case measure => simp [intOf]; omega
      · have HE := Lib.hid (eachV_some (part := part) hlt HZ.out hfz)
        have dz : (f j == 0) = false := beq_eq_false_iff_ne.mpr hfz
        obtain ⟨⟨r0, r1, r2⟩, g0, g1, g2, lr⟩ := three_cells (HB.out.at 0 rfl)
        have lp := lt_of (HB.out.at 1 rfl)
        have p0 : w2.cell? ⟨wo.heap.size, 0, none⟩ = some (.int .i64 part) := cell_of (HB.out.at 1 rfl) 0
        go_wp2_with fail
        refine (each1_any _ part _ _ _ p0 lp).mono ?_
        rintro e w3 ⟨rfl, k3⟩
        replace HB := Lib.hid (HB.out.none k3)
        clear k3 r0 r1 r2 g0 g1 g2 lr p0 lp
        obtain ⟨⟨r0, r1, r2⟩, g0, g1, g2, lr⟩ := three_cells (HB.out.at 0 rfl)
        have hle : wo.heap.size ≤ wo.heap.size + 1 := Nat.le_succ _
        go_wp2
        refine bodyPost_ret (v := .agg #[.int .i64 (f j), .int .i64 part, .int .i64 (j : Int)]) (by simp [results, Tryz.results96, go_sem, *]) rfl ⟨by rw [HE.out], ?_⟩
        exact ((HB.out.keeps.setCell (p := ⟨wo.heap.size + 1, 0, none⟩) (.inr hle) _).setCell (p := ⟨wo.heap.size + 1, 1, none⟩) (.inr hle) _).setCell (p := ⟨wo.heap.size + 1, 2, none⟩) (.inr hle) _
    · obtain rfl : j = n := by omega
      obtain ⟨⟨r0, r1, r2⟩, g0, g1, g2, lr⟩ := three_cells (HB.out.at 0 rfl)
      have hle : wo.heap.size ≤ wo.heap.size + 1 := Nat.le_succ _
      go_wp2
      refine bodyPost_ret (v := .agg #[.int .i64 0, .int .i64 0, .int .i64 0]) (by simp [results, Tryz.results96, go_sem, *]) rfl ⟨by rw [eachV_none HZ.out], ?_⟩
      exact ((HB.out.keeps.setCell (p := ⟨wo.heap.size + 1, 0, none⟩) (.inr hle) _).setCell (p := ⟨wo.heap.size + 1, 1, none⟩) (.inr hle) _).setCell (p := ⟨wo.heap.size + 1, 2, none⟩) (.inr hle) _
set_option maxHeartbeats 1000000 in
theorem each_objects (part N : Int) (n Q : Nat) (f : Nat → Int) (w : World) (hN : N = n) (hn : n ≤ maxLen)
    (hf : ∀ i, i < n → ∀ w', Keeps (fun _ => False) w w' → Calls Tryz.prog 102 #[.int .i64 (i : Int), .pointer (some ⟨Q, 0, none⟩)] w' fun e w2 => e = .returned (.int .i64 (f i)) ∧ Keeps (fun _ => False) w' w2) :
    Calls Tryz.prog 96 #[.int .i64 part, .int .i64 N, .func (.func 102) #[] #[.pointer (some ⟨Q, 0, none⟩)]] w fun e w' => e = .returned (.agg (badC (eachV part f n))) ∧ Keeps (fun _ => False) w w' := by
  subst hN
  unfold maxLen at hn
  have HF := Lib.hid hf
  have HB := Lib.hid (((Has.start w).alloc (.cells #[.int .i64 part] 3)).alloc (.cells #[.int .i64 0, .int .i64 0, .int .i64 0] 30))
  clear hf
  go_enter Tryz.func96, Tryz.ntmps96
  go_wp2_with fail
  obtain ⟨wo, rfl⟩ : ∃ wo : World, wo = w := ⟨_, rfl⟩
  go_loopw [12] (fun i wr => ∃ j : Nat, j ≤ n ∧ i = .int .i64 j ∧ (∀ k, k < j → f k = 0) ∧ Has wo wr [(wo.heap.size + 1, .cells #[.int .i64 0, .int .i64 0, .int .i64 0] 30 (0, 0)), (wo.heap.size, .cells #[.int .i64 part] 3 (0, 0))]) (fun i _ => n - (intOf i).toNat)
  case atStart => exact ⟨0, by omega, rfl, fun k hk => by omega, HB.out.eq (by simp)⟩
  case round =>
    obtain ⟨j, hj, rfl, hz, hB⟩ := hrel
    replace HB := Lib.hid hB
    have HZ := Lib.hid hz
    clear hB hz
    by_cases hlt : j < n
    · go_wp2_with fail
      refine (HF.out j hlt _ HB.out.keeps).mono ?_
      rintro e w2 ⟨rfl, k2⟩
      replace HB := Lib.hid (HB.out.none k2)
      clear k2
      by_cases hfz : f j = 0
      · have HZ2 := Lib.hid (show ∀ k, k < j + 1 → f k = 0 from fun k hk => by
          by_cases e : k = j
          · rw [e]; exact hfz
          · exact HZ.out k (by omega))
        rw [hfz]
        clear hfz
        go_wp2
        go_roundw
        case rel => exact ⟨j + 1, by omega, by go_num, HZ2.out, HB.out⟩
        case measure => simp [intOf]; omega
      · have HE := Lib.hid (eachV_some (part := part) hlt HZ.out hfz)
        have dz : (f j == 0) = false := beq_eq_false_iff_ne.mpr hfz
        obtain ⟨⟨r0, r1, r2⟩, g0, g1, g2, lr⟩ := three_cells (HB.out.at 0 rfl)
        have lp := lt_of (HB.out.at 1 rfl)
        have p0 : w2.cell? ⟨wo.heap.size, 0, none⟩ = some (.int .i64 part) := cell_of (HB.out.at 1 rfl) 0
        go_wp2_with fail
        refine (each1_any _ part _ _ _ p0 lp).mono ?_
        rintro e w3 ⟨rfl, k3⟩
        replace HB := Lib.hid (HB.out.none k3)
        clear k3 r0 r1 r2 g0 g1 g2 lr p0 lp
        obtain ⟨⟨r0, r1, r2⟩, g0, g1, g2, lr⟩ := three_cells (HB.out.at 0 rfl)
        have hle : wo.heap.size ≤ wo.heap.size + 1 := Nat.le_succ _
        go_wp2
        refine bodyPost_ret (v := .agg #[.int .i64 (f j), .int .i64 part, .int .i64 (j : Int)]) (by simp [results, Tryz.results96, go_sem, *]) rfl ⟨by rw [HE.out], ?_⟩
        exact ((HB.out.keeps.setCell (p := ⟨wo.heap.size + 1, 0, none⟩) (.inr hle) _).setCell (p := ⟨wo.heap.size + 1, 1, none⟩) (.inr hle) _).setCell (p := ⟨wo.heap.size + 1, 2, none⟩) (.inr hle) _
    · obtain rfl : j = n := by omega
      obtain ⟨⟨r0, r1, r2⟩, g0, g1, g2, lr⟩ := three_cells (HB.out.at 0 rfl)
      have hle : wo.heap.size ≤ wo.heap.size + 1 := Nat.le_succ _
      go_wp2
      refine bodyPost_ret (v := .agg #[.int .i64 0, .int .i64 0, .int .i64 0]) (by simp [results, Tryz.results96, go_sem, *]) rfl ⟨by rw [eachV_none HZ.out], ?_⟩
      exact ((HB.out.keeps.setCell (p := ⟨wo.heap.size + 1, 0, none⟩) (.inr hle) _).setCell (p := ⟨wo.heap.size + 1, 1, none⟩) (.inr hle) _).setCell (p := ⟨wo.heap.size + 1, 2, none⟩) (.inr hle) _
end Go.Proofs.YthnmlklgbggmbaaGreat
namespace Go.Proofs.YthnmlklgbggmbaaGreat
open Go.ChangeShapes Go.WideShapes Go.ChangeAt Go.RowKit
set_option linter.unusedVariables false
set_option linter.unusedSimpArgs false
def ownF (c : CfD) (o : Nat → Int) : Bool := (if o 0 = 4 then (o 4 == 0) else hasF c (o 4)) && (if o 0 = 1 ∨ o 0 = 2 then hasF c (o 5) else (o 5 == 0))
theorem own_1 (c : CfD) (o oi : Nat → Int) (w : World) (ho : c.Ok) (h : o 0 = 1) :
    Calls Tryz.prog 104 #[.agg c.cells, .agg (objC o oi)] w fun e w' => e = .returned (.bool (ownF c o)) ∧ Keeps (fun _ => False) w w' := by
  have HB := Lib.hid (((Has.start w).alloc (.cells c.cells 112)).alloc (.cells (objC o oi) 74) |>.eq (M := [(w.heap.size + 1, .cells (objC o oi) 74 (0, 0)), (w.heap.size, .cells c.cells 112 (0, 0))]) (by simp))
  have HF := Lib.hid (fun x w => chas_any c x w ho)
  have HV := Lib.hid (show ownF c o = (hasF c (o 4) && hasF c (o 5)) from by unfold ownF; simp [h])
  have k0 := h
  clear h ho
  go_enter Tryz.func104, Tryz.ntmps104
  go_wp2_with fail
  go_quiet (fail)
  replace HB := Lib.hid (HB.out.none ((Keeps.refl _ _).drewN nq))
  obtain ⟨x0, x1, x2, x3, x4, x5, x6, x7, x8, x9⟩ := ten_cells (HB.out.at 0 rfl)
  obtain ⟨e0, e1, e2, e3⟩ := four_cells (HB.out.at 1 rfl)
  go_wp2_with fail
  refine (HF.out _ _).mono ?_
  rintro e w2 ⟨rfl, k2⟩
  replace HB := Lib.hid (HB.out.none k2)
  clear k2 x0 x1 x2 x3 x4 x5 x6 x7 x8 x9 e0 e1 e2 e3
  obtain ⟨x0, x1, x2, x3, x4, x5, x6, x7, x8, x9⟩ := ten_cells (HB.out.at 0 rfl)
  obtain ⟨e0, e1, e2, e3⟩ := four_cells (HB.out.at 1 rfl)
  go_wp2_with fail
  refine (HF.out _ _).mono ?_
  rintro e w3 ⟨rfl, k3⟩
  replace HB := Lib.hid (HB.out.none k3)
  clear k3 x0 x1 x2 x3 x4 x5 x6 x7 x8 x9 e0 e1 e2 e3
  obtain ⟨x0, x1, x2, x3, x4, x5, x6, x7, x8, x9⟩ := ten_cells (HB.out.at 0 rfl)
  obtain ⟨e0, e1, e2, e3⟩ := four_cells (HB.out.at 1 rfl)
  go_wp2
  all_goals
    go_ret
    exact ⟨ret_bool (by rw [HV.out]; simp [*]), HB.out.keeps⟩
theorem own_2 (c : CfD) (o oi : Nat → Int) (w : World) (ho : c.Ok) (h : o 0 = 2) :
    Calls Tryz.prog 104 #[.agg c.cells, .agg (objC o oi)] w fun e w' => e = .returned (.bool (ownF c o)) ∧ Keeps (fun _ => False) w w' := by
  have HB := Lib.hid (((Has.start w).alloc (.cells c.cells 112)).alloc (.cells (objC o oi) 74) |>.eq (M := [(w.heap.size + 1, .cells (objC o oi) 74 (0, 0)), (w.heap.size, .cells c.cells 112 (0, 0))]) (by simp))
  have HF := Lib.hid (fun x w => chas_any c x w ho)
  have HV := Lib.hid (show ownF c o = (hasF c (o 4) && hasF c (o 5)) from by unfold ownF; simp [h])
  have k0 := h
  clear h ho
  go_enter Tryz.func104, Tryz.ntmps104
  go_wp2_with fail
  go_quiet (fail)
  replace HB := Lib.hid (HB.out.none ((Keeps.refl _ _).drewN nq))
  obtain ⟨x0, x1, x2, x3, x4, x5, x6, x7, x8, x9⟩ := ten_cells (HB.out.at 0 rfl)
  obtain ⟨e0, e1, e2, e3⟩ := four_cells (HB.out.at 1 rfl)
  go_wp2_with fail
  refine (HF.out _ _).mono ?_
  rintro e w2 ⟨rfl, k2⟩
  replace HB := Lib.hid (HB.out.none k2)
  clear k2 x0 x1 x2 x3 x4 x5 x6 x7 x8 x9 e0 e1 e2 e3
  obtain ⟨x0, x1, x2, x3, x4, x5, x6, x7, x8, x9⟩ := ten_cells (HB.out.at 0 rfl)
  obtain ⟨e0, e1, e2, e3⟩ := four_cells (HB.out.at 1 rfl)
  go_wp2_with fail
  refine (HF.out _ _).mono ?_
  rintro e w3 ⟨rfl, k3⟩
  replace HB := Lib.hid (HB.out.none k3)
  clear k3 x0 x1 x2 x3 x4 x5 x6 x7 x8 x9 e0 e1 e2 e3
  obtain ⟨x0, x1, x2, x3, x4, x5, x6, x7, x8, x9⟩ := ten_cells (HB.out.at 0 rfl)
  obtain ⟨e0, e1, e2, e3⟩ := four_cells (HB.out.at 1 rfl)
  go_wp2
  all_goals
    go_ret
    exact ⟨ret_bool (by rw [HV.out]; simp [*]), HB.out.keeps⟩
theorem own_4 (c : CfD) (o oi : Nat → Int) (w : World) (ho : c.Ok) (h : o 0 = 4) :
    Calls Tryz.prog 104 #[.agg c.cells, .agg (objC o oi)] w fun e w' => e = .returned (.bool (ownF c o)) ∧ Keeps (fun _ => False) w w' := by
  have HB := Lib.hid (((Has.start w).alloc (.cells c.cells 112)).alloc (.cells (objC o oi) 74) |>.eq (M := [(w.heap.size + 1, .cells (objC o oi) 74 (0, 0)), (w.heap.size, .cells c.cells 112 (0, 0))]) (by simp))
  have HF := Lib.hid (fun x w => chas_any c x w ho)
  have HV := Lib.hid (show ownF c o = ((o 4 == 0) && (o 5 == 0)) from by unfold ownF; simp [h])
  have k0 := h
  clear h ho
  go_enter Tryz.func104, Tryz.ntmps104
  go_wp2_with fail
  go_quiet (fail)
  replace HB := Lib.hid (HB.out.none ((Keeps.refl _ _).drewN nq))
  obtain ⟨x0, x1, x2, x3, x4, x5, x6, x7, x8, x9⟩ := ten_cells (HB.out.at 0 rfl)
  obtain ⟨e0, e1, e2, e3⟩ := four_cells (HB.out.at 1 rfl)
  go_wp2
  all_goals
    go_ret
    exact ⟨ret_bool (by rw [HV.out]; simp [*]), HB.out.keeps⟩
theorem own_x (c : CfD) (o oi : Nat → Int) (w : World) (ho : c.Ok) (h : o 0 ≠ 1 ∧ o 0 ≠ 2 ∧ o 0 ≠ 4) :
    Calls Tryz.prog 104 #[.agg c.cells, .agg (objC o oi)] w fun e w' => e = .returned (.bool (ownF c o)) ∧ Keeps (fun _ => False) w w' := by
  have HB := Lib.hid (((Has.start w).alloc (.cells c.cells 112)).alloc (.cells (objC o oi) 74) |>.eq (M := [(w.heap.size + 1, .cells (objC o oi) 74 (0, 0)), (w.heap.size, .cells c.cells 112 (0, 0))]) (by simp))
  have HF := Lib.hid (fun x w => chas_any c x w ho)
  have HV := Lib.hid (show ownF c o = (hasF c (o 4) && (o 5 == 0)) from by unfold ownF; simp [h])
  have n1 : (o 0 == 1) = false := beq_eq_false_iff_ne.mpr h.1
  have n2 : (o 0 == 2) = false := beq_eq_false_iff_ne.mpr h.2.1
  have n4 : (o 0 == 4) = false := beq_eq_false_iff_ne.mpr h.2.2
  have m4 : ¬ o 0 = 4 := h.2.2
  clear h ho
  go_enter Tryz.func104, Tryz.ntmps104
  go_wp2_with fail
  go_quiet (fail)
  replace HB := Lib.hid (HB.out.none ((Keeps.refl _ _).drewN nq))
  obtain ⟨x0, x1, x2, x3, x4, x5, x6, x7, x8, x9⟩ := ten_cells (HB.out.at 0 rfl)
  obtain ⟨e0, e1, e2, e3⟩ := four_cells (HB.out.at 1 rfl)
  go_wp2_with fail
  refine (HF.out _ _).mono ?_
  rintro e w2 ⟨rfl, k2⟩
  replace HB := Lib.hid (HB.out.none k2)
  clear k2 x0 x1 x2 x3 x4 x5 x6 x7 x8 x9 e0 e1 e2 e3
  obtain ⟨x0, x1, x2, x3, x4, x5, x6, x7, x8, x9⟩ := ten_cells (HB.out.at 0 rfl)
  obtain ⟨e0, e1, e2, e3⟩ := four_cells (HB.out.at 1 rfl)
  go_wp2
  all_goals
    go_ret
    exact ⟨ret_bool (by rw [HV.out]; simp [*]), HB.out.keeps⟩
theorem own_any (c : CfD) (o oi : Nat → Int) (w : World) (ho : c.Ok) :
    Calls Tryz.prog 104 #[.agg c.cells, .agg (objC o oi)] w fun e w' => e = .returned (.bool (ownF c o)) ∧ Keeps (fun _ => False) w w' := by
  by_cases h1 : o 0 = 1
  · exact own_1 c o oi w ho h1
  by_cases h2 : o 0 = 2
  · exact own_2 c o oi w ho h2
  by_cases h4 : o 0 = 4
  · exact own_4 c o oi w ho h4
  exact own_x c o oi w ho ⟨h1, h2, h4⟩
end Go.Proofs.YthnmlklgbggmbaaGreat
