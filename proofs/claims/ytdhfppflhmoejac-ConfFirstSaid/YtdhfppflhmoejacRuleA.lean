import Derived.Test.YtdhfppflhmoejacConfI
namespace Go.Proofs.Ytdhfppflhmoejac
open Go.ChangeShapes Go.WideShapes Go.ChangeAt Go.RowKit
set_option linter.unusedVariables false
set_option linter.unusedSimpArgs false
def whenF (b : Bool) (f : Int) : Int := if b = true then f else 0
theorem when_any (b : Bool) (f : Int) (w : World) :
    Calls Try.prog 28 #[.bool b, .int .i64 f] w fun e w' => e = .returned (.int .i64 (whenF b f)) ∧ Keeps (fun _ => False) w w' := by
  cases b
  all_goals
    go_enter Try.func28, Try.ntmps28
    go_wp2
    go_ret
    exact ⟨rfl, Keeps.refl _ _⟩
theorem handler_any (x : Int) (w : World) :
    Calls Try.prog 31 #[.int .i64 x] w fun e w' => e = .returned (.bool (decide (x < 0))) ∧ Keeps (fun _ => False) w w' := by
  go_enter Try.func31, Try.ntmps31
  go_wp2
  go_ret
  exact ⟨rfl, Keeps.refl _ _⟩
def blocksF (k : Int) : Bool := decide (12 ≤ k) && decide (k ≤ 19)
theorem blocks_any (k : Int) (w : World) :
    Calls Try.prog 20 #[.int .i64 k] w fun e w' => e = .returned (.bool (blocksF k)) ∧ Keeps (fun _ => False) w w' := by
  by_cases h : 12 ≤ k ∧ k ≤ 19
  · rcases (by omega : k = 12 ∨ k = 13 ∨ k = 14 ∨ k = 15 ∨ k = 16 ∨ k = 17 ∨ k = 18 ∨ k = 19) with rfl | rfl | rfl | rfl | rfl | rfl | rfl | rfl
    all_goals
      go_enter Try.func20, Try.ntmps20
      go_wp2
      go_ret
      exact ⟨rfl, Keeps.refl _ _⟩
  · have HV := Lib.hid (show blocksF k = false from by unfold blocksF; simp; omega)
    have n12 : (k == 12) = false := beq_eq_false_iff_ne.mpr (by omega)
    have n13 : (k == 13) = false := beq_eq_false_iff_ne.mpr (by omega)
    have n14 : (k == 14) = false := beq_eq_false_iff_ne.mpr (by omega)
    have n15 : (k == 15) = false := beq_eq_false_iff_ne.mpr (by omega)
    have n16 : (k == 16) = false := beq_eq_false_iff_ne.mpr (by omega)
    have n17 : (k == 17) = false := beq_eq_false_iff_ne.mpr (by omega)
    have n18 : (k == 18) = false := beq_eq_false_iff_ne.mpr (by omega)
    have n19 : (k == 19) = false := beq_eq_false_iff_ne.mpr (by omega)
    clear h
    go_enter Try.func20, Try.ntmps20
    go_wp2
    go_ret
    exact ⟨ret_bool HV.out.symm, Keeps.refl _ _⟩
/-- A call's cells. -/
@[reducible] def callC (k o : Int) (v : Nat → Int) (n : Int) : Array Value := #[.int .i64 k, .int .i64 o, .int .u32 (v 0), .int .u32 (v 1), .int .u32 (v 2), .int .u32 (v 3), .int .u32 n]
def ticksF (c : CfD) (x : Int) : Bool := decide (0 < c.tick) && (x == -c.tick)
theorem ticks_any (c : CfD) (x : Int) (w : World) (ho : c.Ok) :
    Calls Try.prog 36 #[.agg c.cells, .int .i64 x] w fun e w' => e = .returned (.bool (ticksF c x)) ∧ Keeps (fun _ => False) w w' := by
  have ht := ho.tick
  unfold ticksF
  by_cases h : 0 < c.tick
  · have d0 : decide (0 < c.tick) = true := decide_eq_true h
    have W1 : IntKind.i64.wrap (-c.tick) = -c.tick := IntWalk.i64_in _ ⟨by omega, by omega⟩
    have W1' : wrap64 (-c.tick) = -c.tick := IntWalk.wrap64_in _ ⟨by omega, by omega⟩
    clear h ht ho
    go_enter Try.func36, Try.ntmps36
    go_wp2
    go_ret
    exact ⟨ret_bool (by simp [d0]), (Keeps.refl _ _).alloc _⟩
  · have d0 : decide (0 < c.tick) = false := decide_eq_false h
    clear h ht ho
    go_enter Try.func36, Try.ntmps36
    go_wp2
    go_ret
    exact ⟨ret_bool (by simp [d0]), (Keeps.refl _ _).alloc _⟩
/-- What the checks stand on. -/
structure RuB (wr : World) (c : CfD) (x k o : Int) (v : Nat → Int) (n : Int) (B0 B1 B2 : Nat) : Prop where
  cf : wr.heap[B0]? = some (.cells c.cells 46 (0, 0))
  cx : wr.heap[B1]? = some (.cells #[.int .i64 x] 3 (0, 0))
  ca : wr.heap[B2]? = some (.cells (callC k o v n) 59 (0, 0))
theorem RuB.none {w wr : World} {c : CfD} {x k o : Int} {v : Nat → Int} {n : Int} {B0 B1 B2 : Nat} (h : RuB w c x k o v n B0 B1 B2) (kk : Keeps (fun _ => False) w wr) : RuB wr c x k o v n B0 B1 B2 := ⟨kk.at h.cf fun h => h, kk.at h.cx fun h => h, kk.at h.ca fun h => h⟩
theorem seven_at {w : World} {g : Nat} {a b c d e f h : Value} {E : TypeId} (hh : w.heap[g]? = some (.cells #[a, b, c, d, e, f, h] E (0, 0))) :
    w.cell? ⟨g, 0, none⟩ = some a ∧ w.cell? ⟨g, 1, none⟩ = some b ∧ w.cell? ⟨g, 2, none⟩ = some c ∧ w.cell? ⟨g, 3, none⟩ = some d ∧ w.cell? ⟨g, 4, none⟩ = some e ∧ w.cell? ⟨g, 5, none⟩ = some f ∧ w.cell? ⟨g, 6, none⟩ = some h := ⟨cell_of hh 0, cell_of hh 1, cell_of hh 2, cell_of hh 3, cell_of hh 4, cell_of hh 5, cell_of hh 6⟩
def chk1 (c : CfD) (x : Int) : Bool := !((badOf c).1 == 0) || !hasF c x
theorem badOf_zero (c : CfD) (h : (badOf c).1 = 0) : badOf c = (0, 0, 0) := by
  unfold badOf at h ⊢
  by_cases h1 : (bad1 c).1 = 0
  · by_cases h2 : (bad2 c).1 = 0
    · by_cases h3 : (bad3 c).1 = 0
      · rw [if_pos h1, if_pos h2, if_pos h3] at h ⊢
        exact eachV_zero h
      · rw [if_pos h1, if_pos h2, if_neg h3] at h
        exact absurd h h3
    · rw [if_pos h1, if_neg h2] at h
      exact absurd h h2
  · rw [if_neg h1] at h
    exact absurd h h1
theorem first1_any (c : CfD) (x k o : Int) (v : Nat → Int) (n : Int) (B0 B1 B2 : Nat) (w : World) (hB : RuB w c x k o v n B0 B1 B2) (hc : CfIn w c) (ho : c.Ok) :
    Calls Try.prog 27 #[.pointer (some ⟨B0, 0, none⟩), .pointer (some ⟨B1, 0, none⟩)] w fun e w' => e = .returned (.int .i64 (whenF (chk1 c x) 1)) ∧ Keeps (fun _ => False) w w' := by
  have HB := Lib.hid hB
  have HC := Lib.hid (fun w' (kk : Keeps (fun _ => False) w w') => check_any c w' (hc.none kk) ho)
  have HH := Lib.hid (fun w' => has_any c x w' ho)
  have HZ := Lib.hid (badOf_zero c)
  clear hB hc ho
  obtain ⟨e0, e1, e2, e3⟩ := four_cells HB.out.cf
  have le := lt_of HB.out.cf
  have y0 : w.cell? ⟨B1, 0, none⟩ = some (.int .i64 x) := cell_of HB.out.cx 0
  have ly := lt_of HB.out.cx
  unfold chk1
  generalize badOf c = bo at *
  obtain ⟨b0, b1, b2⟩ := bo
  rcases Decidable.em (b0 = 0) with hz | hz
  · obtain ⟨rfl, rfl, rfl⟩ : b0 = 0 ∧ b1 = 0 ∧ b2 = 0 := by simpa using HZ.out hz
    clear hz
    go_enter Try.func27, Try.ntmps27
    go_wp2_with fail
    refine (HC.out _ (Keeps.refl _ _)).mono ?_
    rintro e w2 ⟨rfl, k2⟩
    replace HB := Lib.hid (HB.out.none k2)
    clear e0 e1 e2 e3 le y0 ly
    obtain ⟨e0, e1, e2, e3⟩ := four_cells HB.out.cf
    have y0 : w2.cell? ⟨B1, 0, none⟩ = some (.int .i64 x) := cell_of HB.out.cx 0
    go_wp2_with fail
    refine (HH.out _).mono ?_
    rintro e w3 ⟨rfl, k3⟩
    have HK := Lib.hid (k2.trans k3)
    clear k2 k3 e0 e1 e2 e3 y0
    go_wp2_with fail
    refine (when_any _ _ _).mono ?_
    rintro e w4 ⟨rfl, k4⟩
    go_wp2
    go_ret
    exact ⟨ret_i64 (by simp), HK.out.trans k4⟩
  · have hb : (b0 == 0) = false := beq_eq_false_iff_ne.mpr hz
    have hb' : (b0 != 0) = true := by rw [bne, hb]; rfl
    clear hz
    go_enter Try.func27, Try.ntmps27
    go_wp2_with fail
    refine (HC.out _ (Keeps.refl _ _)).mono ?_
    rintro e w2 ⟨rfl, k2⟩
    have HK := Lib.hid k2
    clear k2
    go_wp2_with fail
    refine (when_any _ _ _).mono ?_
    rintro e w4 ⟨rfl, k4⟩
    go_wp2
    go_ret
    exact ⟨ret_i64 (by simp [hb]), HK.out.trans k4⟩
def chk2 (x k : Int) : Bool := decide (x < 0) && blocksF k
theorem first2_any (c : CfD) (x k o : Int) (v : Nat → Int) (n : Int) (B0 B1 B2 : Nat) (w : World) (hB : RuB w c x k o v n B0 B1 B2) :
    Calls Try.prog 30 #[.pointer (some ⟨B1, 0, none⟩), .pointer (some ⟨B2, 0, none⟩)] w fun e w' => e = .returned (.int .i64 (whenF (chk2 x k) 11)) ∧ Keeps (fun _ => False) w w' := by
  have HB := Lib.hid hB
  clear hB
  have y0 : w.cell? ⟨B1, 0, none⟩ = some (.int .i64 x) := cell_of HB.out.cx 0
  have ly := lt_of HB.out.cx
  unfold chk2
  by_cases hx : x < 0
  · have d0 : decide (x < 0) = true := decide_eq_true hx
    clear hx
    go_enter Try.func30, Try.ntmps30
    go_wp2_with fail
    refine (handler_any _ _).mono ?_
    rintro e w2 ⟨rfl, k2⟩
    replace HB := Lib.hid (HB.out.none k2)
    obtain ⟨z0, z1, z2, z3, z4, z5, z6⟩ := seven_at HB.out.ca
    go_wp2_with fail
    refine (blocks_any _ _).mono ?_
    rintro e w3 ⟨rfl, k3⟩
    have HK := Lib.hid (k2.trans k3)
    clear k2 k3
    go_wp2_with fail
    refine (when_any _ _ _).mono ?_
    rintro e w4 ⟨rfl, k4⟩
    go_wp2
    go_ret
    exact ⟨ret_i64 (by simp [d0]), HK.out.trans k4⟩
  · have d0 : decide (x < 0) = false := decide_eq_false hx
    clear hx
    go_enter Try.func30, Try.ntmps30
    go_wp2_with fail
    refine (handler_any _ _).mono ?_
    rintro e w2 ⟨rfl, k2⟩
    have HK := Lib.hid k2
    clear k2
    go_wp2_with fail
    refine (when_any _ _ _).mono ?_
    rintro e w4 ⟨rfl, k4⟩
    go_wp2
    go_ret
    exact ⟨ret_i64 (by simp [d0]), HK.out.trans k4⟩
def chk3 (k : Int) : Bool := decide (k < 1) || decide (19 < k)
theorem first3_any (c : CfD) (x k o : Int) (v : Nat → Int) (n : Int) (B0 B1 B2 : Nat) (w : World) (hB : RuB w c x k o v n B0 B1 B2) :
    Calls Try.prog 32 #[.pointer (some ⟨B2, 0, none⟩)] w fun e w' => e = .returned (.int .i64 (whenF (chk3 k) 1)) ∧ Keeps (fun _ => False) w w' := by
  have HB := Lib.hid hB
  clear hB
  obtain ⟨z0, z1, z2, z3, z4, z5, z6⟩ := seven_at HB.out.ca
  have lz := lt_of HB.out.ca
  unfold chk3
  rcases hd : decide (k < 1)
  all_goals
    go_enter Try.func32, Try.ntmps32
    go_wp2_with fail
    refine (when_any _ _ _).mono ?_
    rintro e w4 ⟨rfl, k4⟩
    go_wp2
    go_ret
    exact ⟨ret_i64 (by simp), k4⟩
def chk4 (c : CfD) (k o : Int) : Bool := (k == 10) && (decide (o < 0) || decide ((c.nT : Int) ≤ o))
theorem first4_any (c : CfD) (x k o : Int) (v : Nat → Int) (n : Int) (B0 B1 B2 : Nat) (w : World) (hB : RuB w c x k o v n B0 B1 B2) :
    Calls Try.prog 33 #[.pointer (some ⟨B2, 0, none⟩), .pointer (some ⟨B0, 0, none⟩)] w fun e w' => e = .returned (.int .i64 (whenF (chk4 c k o) 4)) ∧ Keeps (fun _ => False) w w' := by
  have HB := Lib.hid hB
  clear hB
  obtain ⟨z0, z1, z2, z3, z4, z5, z6⟩ := seven_at HB.out.ca
  have lz := lt_of HB.out.ca
  obtain ⟨e0, e1, e2, e3⟩ := four_cells HB.out.cf
  have le := lt_of HB.out.cf
  unfold chk4
  rcases hk : k == 10 <;> rcases hd : decide (o < 0)
  all_goals
    go_enter Try.func33, Try.ntmps33
    go_wp2_with fail
    refine (when_any _ _ _).mono ?_
    rintro e w4 ⟨rfl, k4⟩
    go_wp2
    go_ret
    exact ⟨ret_i64 (by simp), k4⟩
def chk5 (k : Int) (v : Nat → Int) : Bool := (k == 10) && decide (65535 < v 0)
theorem first5_any (c : CfD) (x k o : Int) (v : Nat → Int) (n : Int) (B0 B1 B2 : Nat) (w : World) (hB : RuB w c x k o v n B0 B1 B2) :
    Calls Try.prog 34 #[.pointer (some ⟨B2, 0, none⟩)] w fun e w' => e = .returned (.int .i64 (whenF (chk5 k v) 2)) ∧ Keeps (fun _ => False) w w' := by
  have HB := Lib.hid hB
  clear hB
  obtain ⟨z0, z1, z2, z3, z4, z5, z6⟩ := seven_at HB.out.ca
  have lz := lt_of HB.out.ca
  unfold chk5
  rcases hk : k == 10
  all_goals
    go_enter Try.func34, Try.ntmps34
    go_wp2_with fail
    refine (when_any _ _ _).mono ?_
    rintro e w4 ⟨rfl, k4⟩
    go_wp2
    go_ret
    exact ⟨ret_i64 (by simp), k4⟩
def chk6 (c : CfD) (x k : Int) : Bool := (k == 11) && !ticksF c x
theorem first6_any (c : CfD) (x k o : Int) (v : Nat → Int) (n : Int) (B0 B1 B2 : Nat) (w : World) (hB : RuB w c x k o v n B0 B1 B2) (ho : c.Ok) :
    Calls Try.prog 35 #[.pointer (some ⟨B2, 0, none⟩), .pointer (some ⟨B0, 0, none⟩), .pointer (some ⟨B1, 0, none⟩)] w fun e w' => e = .returned (.int .i64 (whenF (chk6 c x k) 10)) ∧ Keeps (fun _ => False) w w' := by
  have HB := Lib.hid hB
  have HT := Lib.hid (fun w' => ticks_any c x w' ho)
  clear hB ho
  obtain ⟨z0, z1, z2, z3, z4, z5, z6⟩ := seven_at HB.out.ca
  have lz := lt_of HB.out.ca
  obtain ⟨e0, e1, e2, e3⟩ := four_cells HB.out.cf
  have le := lt_of HB.out.cf
  have y0 : w.cell? ⟨B1, 0, none⟩ = some (.int .i64 x) := cell_of HB.out.cx 0
  have ly := lt_of HB.out.cx
  unfold chk6
  rcases hk : k == 11
  · skip
    go_enter Try.func35, Try.ntmps35
    go_wp2_with fail
    refine (when_any _ _ _).mono ?_
    rintro e w4 ⟨rfl, k4⟩
    go_wp2
    go_ret
    exact ⟨ret_i64 (by simp), k4⟩
  · skip
    go_enter Try.func35, Try.ntmps35
    go_wp2_with fail
    refine (HT.out _).mono ?_
    rintro e w2 ⟨rfl, k2⟩
    have HK := Lib.hid k2
    clear k2
    go_wp2_with fail
    refine (when_any _ _ _).mono ?_
    rintro e w4 ⟨rfl, k4⟩
    go_wp2
    go_ret
    exact ⟨ret_i64 (by simp), HK.out.trans k4⟩
end Go.Proofs.Ytdhfppflhmoejac
