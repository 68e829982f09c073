import Derived.Test.YtkhmfjfclpehfaaGreatMeEz
import Derived.BigRegion
import Derived.Deep.RegionHeld3
namespace Go.Proofs.YtkhmfjfclpehfaaGreat
open Go.ChangeShapes Go.WideShapes Go.ChangeAt Go.RowKit
set_option linter.unusedVariables false
set_option linter.unusedSimpArgs false
set_option maxRecDepth 100000
def TellsM (w : World) (P : Nat → Prop) (a : MoA) (M : ScM) (tk : Int) (A : Nat → AskX) (e : Ending) (w' : World) : Prop := ∃ b : Bool, e = .returned (.bool b) ∧ MoW w' P a M tk A ∧ KeepsM P w w'
@[reducible] def wtC (q : WaitT) : Array Value := #[.int .i64 q.1, .int .i64 q.2.1, .int .i64 q.2.2.1, .int .u32 (q.2.2.2 : Int)]
theorem waits_four : ∀ (W : List WaitT) (i : Nat) (q : WaitT), W[i]? = some q → ∀ j v, (wtC q)[j]? = some v → (waitsC W)[i * 4 + j]? = some v
  | [], i, q, h, j, v, hv => by simp at h
  | u :: W, 0, q, h, j, v, hv => by
    have e : u = q := by simpa using h
    subst e
    have hj : j < 4 := by
      have := (Array.getElem?_eq_some_iff.1 hv).1
      simpa using this
    unfold waitsC
    rw [List.flatMap_cons, show 0 * 4 + j = j by omega, List.getElem?_append_left (by show j < 4; exact hj)]
    rcases (by omega : j = 0 ∨ j = 1 ∨ j = 2 ∨ j = 3) with rfl | rfl | rfl | rfl <;> simpa using hv
  | u :: W, i + 1, q, h, j, v, hv => by
    have := waits_four W i q (by simpa using h) j v hv
    unfold waitsC at this ⊢
    rw [List.flatMap_cons, show (i + 1) * 4 + j = 4 + (i * 4 + j) by omega, List.getElem?_append_right (by show 4 ≤ 4 + (i * 4 + j); omega)]
    show (List.flatMap _ W)[4 + (i * 4 + j) - 4]? = _
    rw [show 4 + (i * 4 + j) - 4 = i * 4 + j by omega]
    exact this
theorem waits_at4 {w : World} {B : Nat} {v : Value} {W : List WaitT} (h : w.ownsRow B 120 4 v W.length (waitsC W)) : ∃ a c, v = .slice a W.length c ∧ (0 < W.length → ∃ g, a = some ⟨g, 0, none⟩ ∧ g < w.heap.size ∧ ∀ i q, W[i]? = some q → w.cell? ⟨g, i * 4, none⟩ = some (.int .i64 q.1) ∧ w.cell? ⟨g, i * 4 + 1, none⟩ = some (.int .i64 q.2.1) ∧ w.cell? ⟨g, i * 4 + 2, none⟩ = some (.int .i64 q.2.2.1) ∧ w.cell? ⟨g, i * 4 + 3, none⟩ = some (.int .u32 (q.2.2.2 : Int))) := by
  obtain ⟨_, h | ⟨g, cap, cur, rfl, hB, hg, hc, hm, hs, ht⟩⟩ := h
  · exact ⟨none, 0, by rw [h.1, h.2], fun hp => by have := h.2; omega⟩
  · refine ⟨_, cap, rfl, fun hp => ⟨g, rfl, lt_of hg, fun i q hi => ?_⟩⟩
    have hil : i < W.length := (List.getElem?_eq_some_iff.1 hi).1
    have key : ∀ j v, (wtC q)[j]? = some v → w.cell? ⟨g, i * 4 + j, none⟩ = some v := fun j v hv => by
      have hj : j < 4 := by
        have := (Array.getElem?_eq_some_iff.1 hv).1
        simpa using this
      have h1 := waits_four W i q hi j v hv
      rw [← ht, List.getElem?_take_of_lt (by omega)] at h1
      rw [cell_of hg, ← Array.getElem?_toList]; exact h1
    exact ⟨key 0 _ rfl, key 1 _ rfl, key 2 _ rfl, key 3 _ rfl⟩
section
variable (w : World) (P : Nat → Prop) (a : MoA) (M : ScM) (tk : Int) (A : Nat → AskX) (h : MoW w P a M tk A) (b0 b1 : Nat) (t : Int) (hb0 : w.heap[b0]? = some (.cells #[.pointer (some ⟨a.m, 0, none⟩)] 30 (0, 0))) (hb1 : w.heap[b1]? = some (.cells #[.int .i64 t] 3 (0, 0)))
include h hb0 hb1
set_option maxHeartbeats 4000000 in
theorem could_due (q0 q2 q3 : Int) : Calls Tryz.prog 81 #[.agg #[.int .i64 q0, .int .i64 18, .int .i64 q2, .int .u32 q3], .pointer (some ⟨b0, 0, none⟩), .pointer (some ⟨b1, 0, none⟩)] w (TellsM w P a M tk A) := by
  obtain ⟨P1, hP1⟩ : ∃ W, W = w.alloc (.cells #[.int .i64 q0, .int .i64 18, .int .i64 q2, .int .u32 q3] 120) := ⟨_, rfl⟩
  have kP : Keeps (fun _ => False) w P1 := by rw [hP1]; exact (Keeps.refl _ w).alloc _
  have HQ := Lib.hid (h.quiet kP)
  have HSS := Lib.hid (show P1.cell? ⟨b0, 0, none⟩ = some (.pointer (some ⟨a.m, 0, none⟩)) ∧ P1.cell? ⟨a.m, 1, none⟩ = some (.pointer (some ⟨a.sa.s, 0, none⟩)) ∧ P1.cell? ⟨b1, 0, none⟩ = some (.int .i64 t) from ⟨cell_of (kP.at hb0 fun h => h) 0, cell_of HQ.out.blk 1, cell_of (kP.at hb1 fun h => h) 0⟩)
  have hbw : P1.heap[w.heap.size]? = some (.cells #[.int .i64 q0, .int .i64 18, .int .i64 q2, .int .u32 q3] 120 (0, 0)) := by rw [hP1]; exact heap_new _ _
  have x1 := cell_of hbw 1
  have lx := lt_of hbw
  have HP1 := Lib.hid hP1
  have HKP := Lib.hid kP
  obtain ⟨s0, s1, s2⟩ := HSS.out
  have HB0 := Lib.hid (kP.at hb0 fun h => h)
  have HB1 := Lib.hid (kP.at hb1 fun h => h)
  have l0 := lt_of (kP.at hb0 fun h => h)
  have l1 := lt_of (kP.at hb1 fun h => h)
  have lm := HQ.out.lt
  clear h hb0 hb1 hP1 kP hbw
  go_enter Tryz.func81, Tryz.ntmps81
  go_wp2_with (first
    | (refine Great.wpList_boxTo rfl 120 (.tmp 0) rfl (some 3) rfl w.heap.size rfl #[.int .i64 q0, .int .i64 18, .int .i64 q2, .int .u32 q3] rfl ?_; rw [← HP1.out]))
  go_region_held3 (fun w' => w'.cell? ⟨b0, 0, none⟩ = some (.pointer (some ⟨a.m, 0, none⟩)) ∧ w'.cell? ⟨a.m, 1, none⟩ = some (.pointer (some ⟨a.sa.s, 0, none⟩)) ∧ w'.cell? ⟨b1, 0, none⟩ = some (.int .i64 t))
    (first
      | exact HSS.out
      | exact HS4.out
      | go_keep)
    (first
      | (go_at_call 82; refine (sdue_any _ P a.sa M HQ.out.drew'.sch HQ.out.n t).mono ?_; rintro e4 w4 ⟨yes, rfl, hs4, k4⟩; have HQ4 := Lib.hid (HQ.out.drew'.sched k4 hs4 rfl); have HK4 := Lib.hid (kM (kM_none (P := P) (HKP.out.trans (Keeps.refl _ P1).drew)) (kM_S k4)); have HS4 := Lib.hid (show w4.cell? ⟨b0, 0, none⟩ = some (.pointer (some ⟨a.m, 0, none⟩)) ∧ w4.cell? ⟨a.m, 1, none⟩ = some (.pointer (some ⟨a.sa.s, 0, none⟩)) ∧ w4.cell? ⟨b1, 0, none⟩ = some (.int .i64 t) from ⟨cell_of (k4.at (show P1.drew.heap[b0]? = _ from HB0.out) (by decide)) 0, cell_of HQ4.out.blk 1, cell_of (k4.at (show P1.drew.heap[b1]? = _ from HB1.out) (by decide)) 0⟩); clear hs4 k4)
      | fail)
  all_goals
    go_wp2_with fail
    go_ret
    exact ⟨yes, rfl, HQ4.out, HK4.out⟩
set_option maxHeartbeats 4000000 in
theorem could_spec (g0 c0 : Nat) (S : List ItemD) (hit : a.items = .slice (some ⟨g0, 0, none⟩) S.length c0) (hst : StateAt w g0 S) (hok : ∀ y, y ∈ S → y.Ok) (hn : S.length ≤ 1000) (q0 q1 q2 q3 : Int) (hq3 : u32B q3) (hq1 : q1 ≠ 18) : Calls Tryz.prog 81 #[.agg #[.int .i64 q0, .int .i64 q1, .int .i64 q2, .int .u32 q3], .pointer (some ⟨b0, 0, none⟩), .pointer (some ⟨b1, 0, none⟩)] w (TellsM w P a M tk A) := by
  obtain ⟨P1, hP1⟩ : ∃ W, W = w.alloc (.cells #[.int .i64 q0, .int .i64 q1, .int .i64 q2, .int .u32 q3] 120) := ⟨_, rfl⟩
  have kP : Keeps (fun _ => False) w P1 := by rw [hP1]; exact (Keeps.refl _ w).alloc _
  have HQ := Lib.hid (h.quiet kP)
  have hbw : P1.heap[w.heap.size]? = some (.cells #[.int .i64 q0, .int .i64 q1, .int .i64 q2, .int .u32 q3] 120 (0, 0)) := by rw [hP1]; exact heap_new _ _
  have HSX := Lib.hid (fun (W : World) (k : Keeps (fun _ => False) P1 W) => show W.cell? ⟨b0, 0, none⟩ = some (.pointer (some ⟨a.m, 0, none⟩)) ∧ W.cell? ⟨a.m, 0, none⟩ = some (.slice (some ⟨g0, 0, none⟩) S.length c0) ∧ W.cell? ⟨w.heap.size, 1, none⟩ = some (.int .i64 q1) ∧ W.cell? ⟨w.heap.size, 2, none⟩ = some (.int .i64 q2) ∧ W.cell? ⟨w.heap.size, 3, none⟩ = some (.int .u32 q3) from
    ⟨cell_of (k.at (kP.at hb0 fun h => h) fun h => h) 0, by rw [← hit]; exact cell_of (HQ.out.quiet k).blk 0, cell_of (k.at hbw fun h => h) 1, cell_of (k.at hbw fun h => h) 2, cell_of (k.at hbw fun h => h) 3⟩)
  have HDO := Lib.hid (fun (W : World) (k : Keeps (fun _ => False) P1 W) => do_any W g0 c0 S ((hst.none kP).none k) hok hn (plainP q1) q2 0 ⟨q3, 0, 0, 0⟩ ⟨hq3, W4.zero_ok.b, W4.zero_ok.c, W4.zero_ok.d⟩)
  have HPL := Lib.hid (fun (W : World) => plain_any W q1)
  obtain ⟨D, hD⟩ : ∃ D, doP S (plainP q1) q2 ⟨q3, 0, 0, 0⟩ = D := ⟨_, rfl⟩
  rw [hD] at HDO
  obtain ⟨S2, r⟩ := D
  have x1 := cell_of hbw 1
  have lx := lt_of hbw
  have HP1 := Lib.hid hP1
  have HKP := Lib.hid kP
  obtain ⟨s0, s1, s2, s3, s4⟩ := HSX.out P1 (Keeps.refl _ P1)
  have HB0 := Lib.hid (kP.at hb0 fun h => h)
  have HB1 := Lib.hid (kP.at hb1 fun h => h)
  have l0 := lt_of (kP.at hb0 fun h => h)
  have l1 := lt_of (kP.at hb1 fun h => h)
  have lm := HQ.out.lt
  have d0 : (q1 == 18) = false := beq_eq_false_iff_ne.mpr hq1
  have d1 : (q1 = 18) = False := eq_false hq1
  obtain ⟨sn, hsn⟩ : ∃ sn, S.length = sn := ⟨_, rfl⟩
  rw [hsn] at s1 HSX HDO
  have hne0 : ¬ P1.heap.size = b0 := by omega
  have hne1 : ¬ P1.heap.size = a.m := by omega
  have hne2 : ¬ P1.heap.size = w.heap.size := by omega
  have hnf0 : ¬ b0 = P1.heap.size := by omega
  have hnf1 : ¬ a.m = P1.heap.size := by omega
  have hnf2 : ¬ w.heap.size = P1.heap.size := by omega
  clear h hb0 hb1 hP1 kP hbw hit hst hok hn hq3 hq1 hD hsn
  go_enter Tryz.func81, Tryz.ntmps81
  go_wp2_with (first
    | (refine Great.wpList_boxTo rfl 120 (.tmp 0) rfl (some 3) rfl w.heap.size rfl #[.int .i64 q0, .int .i64 q1, .int .i64 q2, .int .u32 q3] rfl ?_; rw [← HP1.out]))
  go_region_held3 (fun w' => w'.cell? ⟨b0, 0, none⟩ = some (.pointer (some ⟨a.m, 0, none⟩)) ∧ w'.cell? ⟨a.m, 0, none⟩ = some (.slice (some ⟨g0, 0, none⟩) sn c0) ∧ w'.cell? ⟨w.heap.size, 1, none⟩ = some (.int .i64 q1) ∧ w'.cell? ⟨w.heap.size, 2, none⟩ = some (.int .i64 q2) ∧ w'.cell? ⟨w.heap.size, 3, none⟩ = some (.int .u32 q3))
    (first
      | go_keep
      | exact ⟨z0, z1, z2, z3, z4⟩)
    (first
      | (go_at_call 83; refine (HPL.out _).mono ?_; rintro e4 w4 ⟨rfl, hw4⟩; subst hw4)
      | (go_at_call 68; refine (HDO.out _ (Keeps.refl _ P1).drew).mono ?_; rintro e5 w5 ⟨b5, g5, c5, rfl, hs5⟩; have HK5 := Lib.hid ((Keeps.refl (fun _ => False) P1).drew.trans (Keeps.ofBelow b5)); have HN5 := Lib.hid True.intro; obtain ⟨z0, z1, z2, z3, z4⟩ := HSX.out _ HK5.out; have y0 := Nat.lt_of_lt_of_le l0 HK5.out.size; have y1 := Nat.lt_of_lt_of_le lm HK5.out.size; have y2 := Nat.lt_of_lt_of_le lx HK5.out.size; clear b5 hs5)
      | (go_at_call 68; refine (HDO.out _ ((Keeps.refl _ P1).alloc _).drew).mono ?_; rintro e5 w5 ⟨b5, g5, c5, rfl, hs5⟩; have HK5 := Lib.hid (((Keeps.refl (fun _ => False) P1).alloc _).drew.trans (Keeps.ofBelow b5)); have HN5 := Lib.hid ((Keeps.ofBelow b5).at (show (P1.alloc (.cells #[.int .i64 0, .int .u32 0, .int .u32 0, .int .u32 0, .int .u32 0] 41)).drew.heap[P1.heap.size]? = _ from heap_new P1 _) fun h => h); obtain ⟨z0, z1, z2, z3, z4⟩ := HSX.out _ HK5.out; have y0 := Nat.lt_of_lt_of_le l0 HK5.out.size; have y1 := Nat.lt_of_lt_of_le lm HK5.out.size; have y2 := Nat.lt_of_lt_of_le lx HK5.out.size; have lr5 := lt_of HN5.out; have n0 := cell_of HN5.out 0; have n1 := cell_of HN5.out 1; have n2 := cell_of HN5.out 2; have n3 := cell_of HN5.out 3; have n4 := cell_of HN5.out 4; have m0 := free_of HN5.out 0; have m1 := free_of HN5.out 1; have m2 := free_of HN5.out 2; have m3 := free_of HN5.out 3; have m4 := free_of HN5.out 4; clear b5 hs5)
      | fail)
  all_goals
    first
      | have HK9 := Lib.hid (show Keeps (fun _ => False) P1 (((((w5.setCell ⟨P1.heap.size, 0, none⟩ (.int .i64 r.f)).setCell ⟨P1.heap.size, 1, none⟩ (.int .u32 r.v.a)).setCell ⟨P1.heap.size, 2, none⟩ (.int .u32 r.v.b)).setCell ⟨P1.heap.size, 3, none⟩ (.int .u32 r.v.c)).setCell ⟨P1.heap.size, 4, none⟩ (.int .u32 r.v.d)) from (((((HK5.out.setCell (p := ⟨P1.heap.size, 0, none⟩) (.inr (Nat.le_refl _)) _).setCell (p := ⟨P1.heap.size, 1, none⟩) (.inr (Nat.le_refl _)) _).setCell (p := ⟨P1.heap.size, 2, none⟩) (.inr (Nat.le_refl _)) _).setCell (p := ⟨P1.heap.size, 3, none⟩) (.inr (Nat.le_refl _)) _).setCell (p := ⟨P1.heap.size, 4, none⟩) (.inr (Nat.le_refl _)) _))
      | have HK9 := Lib.hid (show Keeps (fun _ => False) P1 (w5.alloc (.cells #[.int .i64 r.f, .int .u32 r.v.a, .int .u32 r.v.b, .int .u32 r.v.c, .int .u32 r.v.d] 41)) from HK5.out.alloc _)
    go_wp2_with fail
    go_ret
    first
      | exact ⟨_, rfl, HQ.out.quiet HK9.out, kM_none (HKP.out.trans HK9.out)⟩
      | exact ⟨_, rfl, HQ.out.quiet (HK5.out.alloc _), kM_none (HKP.out.trans (HK5.out.alloc _))⟩
end
end Go.Proofs.YtkhmfjfclpehfaaGreat
namespace Go.Proofs.YtkhmfjfclpehfaaGreat
open Go.ChangeShapes Go.WideShapes Go.ChangeAt Go.RowKit
set_option linter.unusedVariables false
set_option linter.unusedSimpArgs false
set_option maxRecDepth 100000
set_option maxHeartbeats 8000000 in
theorem enabled_any (w : World) (P : Nat → Prop) (a : MoA) (M : ScM) (tk : Int) (A : Nat → AskX) (h : MoW w P a M tk A) (hv : Inv2 M) (g0 c0 : Nat) (S : List ItemD) (hit : a.items = .slice (some ⟨g0, 0, none⟩) S.length c0) (hst : StateAt w g0 S) (hok : ∀ y, y ∈ S → y.Ok) (hn : S.length ≤ 1000) (t : Int) : Calls Tryz.prog 48 #[.pointer (some ⟨a.m, 0, none⟩), .int .i64 t] w (TellsM w P a M tk A) := by
  have hmf : ∀ (fn : Fn) (first cap : Array Value) (w : World), (Instr.makeFunc fn first cap).run Tryz.prog w = .ok (.func fn first cap) w := fun _ _ _ _ => rfl
  have hnl := fun W => mo_nil a.m W
  obtain ⟨W0, hW0⟩ : ∃ W, W = w.alloc (.cells #[.pointer (some ⟨a.m, 0, none⟩)] 30) := ⟨_, rfl⟩
  obtain ⟨W1, hW1⟩ : ∃ W, W = W0.alloc (.cells #[.int .i64 t] 3) := ⟨_, rfl⟩
  have k0 : Keeps (fun _ => False) w W0 := by rw [hW0]; exact (Keeps.refl _ w).alloc _
  have k01 : Keeps (fun _ => False) W0 W1 := by rw [hW1]; exact (Keeps.refl _ W0).alloc _
  have hb0 : W1.heap[w.heap.size]? = some (.cells #[.pointer (some ⟨a.m, 0, none⟩)] 30 (0, 0)) := k01.at (by rw [hW0]; exact heap_new _ _) fun h => h
  have hb1 : W1.heap[w.heap.size + 1]? = some (.cells #[.int .i64 t] 3 (0, 0)) := by
    have e : W0.heap.size = w.heap.size + 1 := by rw [hW0]; exact World.size_alloc _ _
    rw [hW1, ← e]; exact heap_new _ _
  have hq := h.quiet (k0.trans k01)
  have hw16 := hq.sch.w_nodup.2
  have HWT := Lib.hid (swaits_any W1 P a.sa M hq.sch (by omega))
  have c1 := cell_of hq.blk 1
  have c0 := cell_of hb0 0
  have lm := hq.lt
  have l0 := lt_of hb0
  have HQ := Lib.hid hq
  have HB0 := Lib.hid hb0
  have HB1 := Lib.hid hb1
  have HK1 := Lib.hid (k0.trans k01)
  have HIT := Lib.hid hit
  have HST := Lib.hid (hst.none (k0.trans k01))
  have HOK := Lib.hid (And.intro hok hn)
  have HU := Lib.hid hv.w
  rw [hW0] at hW1
  have HW1 := Lib.hid hW1
  rw [hW1] at c1 c0 lm l0
  clear h hv hit hst hok hn k0 k01 hb0 hb1 hq hW0 hW1
  go_enter Tryz.func48, Tryz.ntmps48
  go_wp2_with fail
  rw [← HW1.out]
  refine HWT.out.mono ?_
  rintro e w2 ⟨v, rfl, hown, hs2, k2⟩
  obtain ⟨va, vc, rfl, hrow⟩ := waits_at4 hown
  obtain ⟨n, hne⟩ : ∃ n, M.W.length = n := ⟨_, rfl⟩
  have HN := Lib.hid hne
  have HR := Lib.hid hrow
  have HK2 := Lib.hid k2
  rw [hne]
  rw [hne] at hw16
  clear hown hs2 hrow k2 hne c1 c0 lm l0 HWT
  go_wp2_with fail
  go_loopw [7, 17] (fun _ i wr => ∃ k : Nat, i = .int .i64 (k : Int) ∧ k ≤ n ∧ Keeps (fun _ => False) w2 wr) (fun _ i _ => n - (intOf i).toNat)
  case atStart => exact ⟨0, rfl, by omega, Keeps.refl _ _⟩
  case round =>
    obtain ⟨k, rfl, hk, hkr⟩ := hrel
    have HKR := Lib.hid (HK2.out.trans hkr)
    by_cases hlt : k < n
    · obtain ⟨g, rfl, hg, hfour⟩ := HR.out (by rw [HN.out]; omega)
      obtain ⟨q, hq⟩ : ∃ q, M.W[k]? = some q := ⟨_, List.getElem?_eq_getElem (by rw [HN.out]; exact hlt)⟩
      have dl : decide (k < n) = true := decide_eq_true hlt
      have dl2 : decide ((k : Int) < (n : Int)) = true := decide_eq_true (by omega)
      obtain ⟨f0, f1, f2, f3⟩ := hfour k q hq
      have y0 := (hkr.none.cell (p := ⟨g, k * 4, none⟩) hg).trans f0
      have y1 := (hkr.none.cell (p := ⟨g, k * 4 + 1, none⟩) hg).trans f1
      have y2 := (hkr.none.cell (p := ⟨g, k * 4 + 2, none⟩) hg).trans f2
      have y3 := (hkr.none.cell (p := ⟨g, k * 4 + 3, none⟩) hg).trans f3
      have lg := Nat.lt_of_lt_of_le hg hkr.size
      have x0 := cell_of (HKR.out.at HB0.out fun h => h) 0
      have x1 := cell_of (HKR.out.at HB1.out fun h => h) 0
      have lx0 := lt_of (HKR.out.at HB0.out fun h => h)
      have lx1 := lt_of (HKR.out.at HB1.out fun h => h)
      obtain ⟨q0, q1, q2, q3⟩ := q
      have HMQ := Lib.hid (show u32B (q3 : Int) from ⟨by omega, by have := HU.out _ (List.mem_of_getElem? hq); have h2 : q3 < 4294967296 := this; omega⟩)
      obtain ⟨W4, hW4⟩ : ∃ W, W = wr.alloc (.cells #[.int .i64 q0, .int .i64 q1, .int .i64 q2, .int .u32 (q3 : Int)] 120) := ⟨_, rfl⟩
      have k4 : Keeps (fun _ => False) wr W4 := by rw [hW4]; exact (Keeps.refl _ wr).alloc _
      have HK4 := Lib.hid (HKR.out.trans k4)
      have HW4 := Lib.hid hW4
      have HLT := Lib.hid (And.intro hlt (hkr.trans k4))
      clear hfour f0 f1 f2 f3 hg hkr hk hq k4 hW4
      by_cases ht : q0 = t
      · have hc : Calls Tryz.prog 81 #[.agg #[.int .i64 q0, .int .i64 q1, .int .i64 q2, .int .u32 (q3 : Int)], .pointer (some ⟨w.heap.size, 0, none⟩), .pointer (some ⟨w.heap.size + 1, 0, none⟩)] W4 (TellsM W4 P a M tk A) := by
          by_cases h18 : q1 = 18
          · subst h18
            exact could_due W4 P a M tk A (HQ.out.quiet HK4.out) w.heap.size (w.heap.size + 1) t (HK4.out.at HB0.out fun h => h) (HK4.out.at HB1.out fun h => h) q0 q2 (q3 : Int)
          · exact could_spec W4 P a M tk A (HQ.out.quiet HK4.out) w.heap.size (w.heap.size + 1) t (HK4.out.at HB0.out fun h => h) (HK4.out.at HB1.out fun h => h) g0 c0 S HIT.out (HST.out.none HK4.out) HOK.out.1 HOK.out.2 q0 q1 q2 (q3 : Int) HMQ.out h18
        have HC := Lib.hid hc
        clear hc
        subst ht
        have deq : (q0 == q0) = true := beq_self_eq_true q0
        go_wp2_with fail
        rw [← HW4.out]
        refine HC.out.mono ?_
        rintro e w5 ⟨yes, rfl, hm5, k5⟩
        have HM5 := Lib.hid hm5
        have HK5 := Lib.hid k5
        clear hm5 k5
        go_wp2_with fail
        go_ret
        exact ⟨yes, rfl, HM5.out, kM (kM_none (HK1.out.trans HK4.out)) HK5.out⟩
      · have deq : (q0 == t) = false := beq_eq_false_iff_ne.mpr ht
        have deq2 : (q0 = t) = False := eq_false ht
        go_wp2_with fail
        go_roundw
        case rel => exact ⟨k + 1, by go_num, HLT.out.1, by rw [← HW4.out]; exact HLT.out.2⟩
        case measure => simp [intOf]; have := HLT.out.1; omega
    · have dl : decide (k < n) = false := decide_eq_false hlt
      have dl2 : decide ((k : Int) < (n : Int)) = false := decide_eq_false (by omega)
      go_wp2_with fail
      go_ret
      exact ⟨false, rfl, HQ.out.quiet HKR.out, kM_none (HK1.out.trans HKR.out)⟩
end Go.Proofs.YtkhmfjfclpehfaaGreat
namespace Go.Proofs.YtkhmfjfclpehfaaGreat
open Go.ChangeShapes Go.WideShapes Go.ChangeAt Go.RowKit
set_option linter.unusedVariables false
set_option linter.unusedSimpArgs false
set_option maxRecDepth 100000
set_option maxHeartbeats 8000000 in
theorem wake_any (w : World) (P Q : Nat → Prop) (a : MoA) (M : ScM) (tk : Int) (A : Nat → AskX) (h : MoW w P a M tk A) (hPQ : ∀ k, P k → Q k) (vv : Int) (Z : Nat → Int) (x : AskX) (who : Int) (g0 c0 : Nat) (S : List ItemD) (hit : a.items = .slice (some ⟨g0, 0, none⟩) S.length c0) (hst : StateAt w g0 S) (hok : ∀ y, y ∈ S → y.Ok) (hn : S.length ≤ 1000) (hi : Inv2 M) : Calls Tryz.prog 28 #[.pointer (some ⟨a.m, 0, none⟩), .agg (moC 8 who vv Z x)] w (MvQ P w (fun f V v l n2 c g w1 => GoneOn P a M tk A w1)) := by
  obtain ⟨P1, hP1⟩ : ∃ W, W = w.alloc (.cells (moC 8 who vv Z x) 45) := ⟨_, rfl⟩
  obtain ⟨W1, hW1⟩ : ∃ W, W = P1.alloc (.cells (outC 0 zV 0 none 0 0) 51) := ⟨_, rfl⟩
  have kP : Keeps (fun _ => False) w P1 := by rw [hP1]; exact (Keeps.refl _ w).alloc _
  have hb1 : P1.heap[w.heap.size]? = some (.cells (moC 8 who vv Z x) 45 (0, 0)) := by rw [hP1]; exact heap_new _ _
  have k1 : Keeps (fun _ => False) w W1 := by rw [hW1]; exact kP.alloc _
  have hb2 : W1.heap[w.heap.size]? = some (.cells (moC 8 who vv Z x) 45 (0, 0)) := by rw [hW1]; exact ((Keeps.refl (fun _ => False) P1).alloc _).at hb1 fun h => h
  have ho : W1.heap[P1.heap.size]? = some (.cells (outC 0 zV 0 none 0 0) 51 (0, 0)) := by rw [hW1]; exact heap_new _ _
  have hq := h.quiet k1
  have HZ := Lib.hid kP.size
  have HB2 := Lib.hid hb2
  have HO := Lib.hid ho
  have HQ := Lib.hid hq
  have HK1 := Lib.hid k1
  have HP1 := Lib.hid hP1
  have HW1 := Lib.hid hW1
  have k1r := HK1.out
  clear hP1 hW1 kP hb1 k1 hb2 ho
  have HE := Lib.hid (enabled_any W1 P a M tk A hq hi g0 c0 S hit (hst.none k1r) hok hn who)
  have HI := Lib.hid hi
  have x1 := cell_of HB2.out 1
  have lx := lt_of HB2.out
  clear hq h k1r hPQ hit hst hok hn hi
  go_enter Tryz.func28, Tryz.ntmps28
  go_wp2_with (first
    | (refine Great.wpList_boxTo rfl 45 (.tmp 1) rfl (some 3) rfl w.heap.size rfl (moC 8 who vv Z x) rfl ?_; rw [← HP1.out])
    | (refine wpList_alloc_as rfl 51 rfl (some 4) rfl P1.heap.size rfl _ (out_zero _) (outC 0 zV 0 none 0 0) rfl ?_; rw [← HW1.out]))
  refine HE.out.mono ?_
  rintro e w2 ⟨yes, rfl, hm2, k2⟩
  have HM2 := Lib.hid hm2
  have HO2 := Lib.hid (k2.at HO.out (by decide))
  have HB3 := Lib.hid (k2.at HB2.out (by decide))
  have HK2 := Lib.hid (kM (kM_none (P := P) HK1.out) k2)
  have HSS := Lib.hid (show w2.cell? ⟨a.m, 1, none⟩ = some (.pointer (some ⟨a.sa.s, 0, none⟩)) ∧ w2.cell? ⟨w.heap.size, 1, none⟩ = some (.int .i64 who) from ⟨cell_of hm2.blk 1, cell_of (k2.at HB2.out (by decide)) 1⟩)
  obtain ⟨s0, s1⟩ := HSS.out
  have lm := hm2.lt
  have lx2 := lt_of HB3.out
  clear hm2 k2 x1 lx
  cases yes
  · clear s0 s1 lm lx2 HSS
    go_wp2_with (first
      | (refine Great.wpList_buildTo rfl 51 _ rfl (some 11) rfl (outC 0 zV 0 none 0 0) (by kernel_rfl) ?_)
      | (refine wpList_store_row rfl 51 (.tmp 4) (.tmp 11) rfl P1.heap.size (outC 0 zV 0 none 0 0) rfl rfl 51 _ HO2.out out_info rfl (out_one _ _ _ _ _ _) ?_))
    have kq : KeepsTy [51] w2 (World.setRow w2 P1.heap.size (outC 0 zV 0 none 0 0)) := ((Keeps.refl (fun k => k = P1.heap.size) w2).setRow (.inl rfl) _).mono (fun k _ e => ⟨_, .head _, by obtain rfl : k = P1.heap.size := e; exact ⟨_, _, HO2.out⟩⟩)
    refine bodyPost_ret (v := .tuple #[.agg (outC 0 zV 0 none 0 0), .int .i64 15]) (res_out _ Tryz.results28 _ _ P1.heap.size _ _ rfl rfl rfl (setRow_heap _ _ _ _ _ _ HO2.out)) rfl ?_
    exact ⟨0, zV, 0, none, 0, 0, 15, rfl, ⟨M, HM2.out.out kq, HI.out, rfl⟩, Keeps.setRow HK2.out (.inr HZ.out) _⟩
  · go_wp2_with fail
    go_region_held3 (fun w' => w'.cell? ⟨a.m, 1, none⟩ = some (.pointer (some ⟨a.sa.s, 0, none⟩)) ∧ w'.cell? ⟨w.heap.size, 1, none⟩ = some (.int .i64 who))
      (first
        | exact HSS.out
        | exact HS4.out
        | go_keep)
      (first
        | (go_at_call 49; refine (went2_wake _ P a.sa M HM2.out.drew'.sch HI.out HM2.out.n who).mono ?_; rintro e4 w4 ⟨v4, M4, rfl, hs4, hi4, hmm4, k4⟩; have HM4 := Lib.hid (HM2.out.drew'.sched k4 hs4 hmm4); have HI4 := Lib.hid (And.intro hi4 hmm4); have HO4 := Lib.hid (k4.at (show w2.drew.heap[P1.heap.size]? = _ from HO2.out) (by decide)); have HK4 := Lib.hid (kM (kM HK2.out (kM_none (Keeps.refl _ w2).drew)) (kM_S k4)); have HS4 := Lib.hid (show w4.cell? ⟨a.m, 1, none⟩ = some (.pointer (some ⟨a.sa.s, 0, none⟩)) ∧ w4.cell? ⟨w.heap.size, 1, none⟩ = some (.int .i64 who) from ⟨cell_of HM4.out.blk 1, cell_of (k4.at (show w2.drew.heap[w.heap.size]? = _ from HB3.out) (by decide)) 1⟩); clear hs4 hi4 hmm4 k4)
        | fail)
    all_goals
      go_wp2_with (first
        | (refine Great.wpList_buildTo rfl 51 _ rfl (some 19) rfl (outC 0 zV 0 none 0 0) (by kernel_rfl) ?_)
        | (refine wpList_store_row rfl 51 (.tmp 4) (.tmp 19) rfl P1.heap.size (outC 0 zV 0 none 0 0) rfl rfl 51 _ HO4.out out_info rfl (out_one _ _ _ _ _ _) ?_))
      have kq : KeepsTy [51] w4 (World.setRow w4 P1.heap.size (outC 0 zV 0 none 0 0)) := ((Keeps.refl (fun k => k = P1.heap.size) w4).setRow (.inl rfl) _).mono (fun k _ e => ⟨_, .head _, by obtain rfl : k = P1.heap.size := e; exact ⟨_, _, HO4.out⟩⟩)
      refine bodyPost_ret (v := .tuple #[.agg (outC 0 zV 0 none 0 0), .int .i64 0]) (res_out _ Tryz.results28 _ _ P1.heap.size _ _ rfl rfl rfl (setRow_heap _ _ _ _ _ _ HO4.out)) rfl ?_
      exact ⟨0, zV, 0, none, 0, 0, 0, rfl, ⟨M4, HM4.out.out kq, HI4.out.1, HI4.out.2⟩, Keeps.setRow HK4.out (.inr HZ.out) _⟩
set_option maxHeartbeats 4000000 in
theorem do_miss (w : World) (P : Nat → Prop) (a : MoA) (M : ScM) (tk : Int) (A : Nat → AskX) (h : MoW w P a M tk A) (k who v : Int) (Z : Nat → Int) (x : AskX) (hk : k < 1 ∨ 9 < k) :
    Calls Tryz.prog 9 #[.pointer (some ⟨a.m, 0, none⟩), .agg (moC k who v Z x)] w (OutQ P w (SayR P a M tk A 12)) := by
  obtain ⟨P1, hP1⟩ : ∃ W, W = w.alloc (.cells (moC k who v Z x) 45) := ⟨_, rfl⟩
  obtain ⟨W1, hW1⟩ : ∃ W, W = P1.alloc (.cells (outC 0 zV 0 none 0 0) 51) := ⟨_, rfl⟩
  have kP : Keeps (fun _ => False) w P1 := by rw [hP1]; exact (Keeps.refl _ w).alloc _
  have hb1 : P1.heap[w.heap.size]? = some (.cells (moC k who v Z x) 45 (0, 0)) := by rw [hP1]; exact heap_new _ _
  have k1 : Keeps (fun _ => False) w W1 := by rw [hW1]; exact kP.alloc _
  have hb2 : W1.heap[w.heap.size]? = some (.cells (moC k who v Z x) 45 (0, 0)) := by rw [hW1]; exact ((Keeps.refl (fun _ => False) P1).alloc _).at hb1 fun h => h
  have ho : W1.heap[P1.heap.size]? = some (.cells (outC 0 zV 0 none 0 0) 51 (0, 0)) := by rw [hW1]; exact heap_new _ _
  have hq := h.quiet k1
  have HZ := Lib.hid kP.size
  have HB2 := Lib.hid hb2
  have HO := Lib.hid ho
  have HQ := Lib.hid hq
  have HK1 := Lib.hid k1
  have HP1 := Lib.hid hP1
  have HW1 := Lib.hid hW1
  clear hP1 hW1 kP hb1 k1 hb2 ho
  have c5 := cell_of hq.blk 5
  have lm := hq.lt
  have x0 := cell_of HB2.out 0
  have lx := lt_of HB2.out
  have hl : ∀ n, (Instr.lookup 78 (.map (some a.mb)) (.int .i64 k) true).run Tryz.prog (W1.drewN n) = .ok (.tuple #[.nilFunc, .bool false]) (W1.drewN n) := fun n => run_lookI_miss (P := Tryz.prog) 78 _ _ a.mb 9 (movesE a.m 9) k _ Tryz.underlying78 Tryz.underlying3 (show (W1.drewN n).heap[a.mb]? = _ from hq.map) (zero_move _) (moves_miss a.m k hk)
  have hn := fun W => mo_nil a.m W
  clear hq h hk
  go_enter Tryz.func9, Tryz.ntmps9
  go_wp2_with (first
    | (refine Great.wpList_boxTo rfl 45 (.tmp 1) rfl (some 3) rfl w.heap.size rfl (moC k who v Z x) rfl ?_; rw [← HP1.out])
    | (refine wpList_alloc_as rfl 51 rfl (some 4) rfl P1.heap.size rfl _ (out_zero _) (outC 0 zV 0 none 0 0) rfl ?_; rw [← HW1.out]))
  go_quiet (fail)
  all_goals
    have HKD := Lib.hid (HK1.out.drewN nq)
    clear hl c5 lm x0 lx hn
    go_wp2_with (first
      | (refine Great.wpList_buildTo rfl 51 _ rfl (some 23) rfl (outC 0 zV 0 none 0 0) (by kernel_rfl) ?_)
      | (refine wpList_store_row rfl 51 (.tmp 4) (.tmp 23) rfl P1.heap.size (outC 0 zV 0 none 0 0) rfl rfl 51 _ (show (W1.drewN nq).heap[P1.heap.size]? = _ from HO.out) out_info rfl (out_one _ _ _ _ _ _) ?_))
    have kq : KeepsTy [51] (W1.drewN nq) (World.setRow (W1.drewN nq) P1.heap.size (outC 0 zV 0 none 0 0)) := ((Keeps.refl (fun k => k = P1.heap.size) (W1.drewN nq)).setRow (.inl rfl) _).mono (fun k _ e => ⟨_, .head _, by obtain rfl : k = P1.heap.size := e; exact ⟨_, _, (show (W1.drewN nq).heap[P1.heap.size]? = _ from HO.out)⟩⟩)
    refine bodyPost_ret (v := .tuple #[.agg (outC 0 zV 0 none 0 0), .int .i64 12]) (res_out _ Tryz.results9 _ _ P1.heap.size _ _ rfl rfl rfl (setRow_heap _ _ _ _ _ _ (show (W1.drewN nq).heap[P1.heap.size]? = _ from HO.out))) rfl ?_
    exact ⟨0, zV, 0, none, 0, 0, 12, W1.drewN nq, rfl, ⟨rfl, rfl, HQ.out.quiet ((Keeps.refl _ W1).drewN nq)⟩, kq, Keeps.setRow (kM_none (P := P) HKD.out) (.inr HZ.out) _⟩
end Go.Proofs.YtkhmfjfclpehfaaGreat
