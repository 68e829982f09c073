import Derived.Test.YtdhfppflhmoejacRuleC
namespace Go.Proofs.Ytdhfppflhmoejac
open Go.ChangeShapes Go.WideShapes Go.ChangeAt Go.RowKit
set_option linter.unusedVariables false
set_option linter.unusedSimpArgs false
theorem first7_any (c : CfD) (x k o : Int) (v : Nat → Int) (n : Int) (B0 B1 B2 : Nat) (w : World) (hB : RuB w c x k o v n B0 B1 B2) (hc : CfIn w c) (ho : c.Ok) :
    Calls Try.prog 37 #[.pointer (some ⟨B0, 0, none⟩), .pointer (some ⟨B1, 0, none⟩), .pointer (some ⟨B2, 0, none⟩)] w fun e w' => e = .returned (.int .i64 (objectF c x k o)) ∧ Keeps (fun _ => False) w w' := by
  have HO := Lib.hid (object_any c x k o v n w hc ho)
  obtain ⟨e0, e1, e2, e3⟩ := four_cells hB.cf
  have y0 : w.cell? ⟨B1, 0, none⟩ = some (.int .i64 x) := cell_of hB.cx 0
  obtain ⟨z0, z1, z2, z3, z4, z5, z6⟩ := seven_at hB.ca
  clear hc ho hB
  go_enter Try.func37, Try.ntmps37
  go_wp2_with fail
  refine HO.out.mono ?_
  rintro e w2 ⟨rfl, k2⟩
  have HK := Lib.hid k2
  clear k2
  go_wp2
  go_ret
  exact ⟨rfl, HK.out⟩
def pickF (a b : Int) : Int := if a = 0 then b else a
/-- What First returns. -/
def firstF (c : CfD) (x k o : Int) (v : Nat → Int) : Int := pickF (whenF (chk1 c x) 1) (pickF (whenF (chk2 x k) 11) (pickF (whenF (chk3 k) 1) (pickF (whenF (chk4 c k o) 4) (pickF (whenF (chk5 k v) 2) (pickF (whenF (chk6 c x k) 10) (objectF c x k o))))))
theorem store_fn (w : World) (q : Addr) (f : Fn) (bs cs : Array Value) (m : Mode) : (store q (.func f bs cs) m).run Try.prog w = stored Try.prog w q (.func f bs cs) m := run_store Try.prog w q _ m rfl
structure FiB (w wr : World) (c : CfD) (x k o : Int) (v : Nat → Int) (n : Int) : Prop where
  keeps : Keeps (fun _ => False) w wr
  rub : RuB wr c x k o v n w.heap.size (w.heap.size + 1) (w.heap.size + 1 + 1)
theorem FiB.none {w wr w2 : World} {c : CfD} {x k o : Int} {v : Nat → Int} {n : Int} (h : FiB w wr c x k o v n) (kk : Keeps (fun _ => False) wr w2) : FiB w w2 c x k o v n := ⟨h.keeps.trans kk, h.rub.none kk⟩
set_option maxHeartbeats 4000000 in
set_option maxRecDepth 20000 in
theorem first_any (c : CfD) (x k o : Int) (v : Nat → Int) (n : Int) (w : World) (hc : CfIn w c) (ho : c.Ok) :
    Calls Try.prog 19 #[.agg c.cells, .int .i64 x, .agg (callC k o v n)] w fun e w' => e = .returned (.int .i64 (firstF c x k o v)) ∧ Keeps (fun _ => False) w w' := by
  have HB := Lib.hid (show FiB w (((w.alloc (.cells c.cells 46)).alloc (.cells #[.int .i64 x] 3)).alloc (.cells (callC k o v n) 59)) c x k o v n from by
    have h := (((Has.start w).alloc (.cells c.cells 46)).alloc (.cells #[.int .i64 x] 3)).alloc (.cells (callC k o v n) 59)
    have h0 := h.at 0 rfl
    have h1 := h.at 1 rfl
    have h2 := h.at 2 rfl
    exact ⟨h.keeps, by simpa using h2, by simpa using h1, by simpa using h0⟩)
  have H1 := Lib.hid (fun w' (h : FiB w w' c x k o v n) => by
    have kk := h.keeps
    replace h := h.rub
    exact first1_any c x k o v n _ _ _ w' h (hc.none kk) ho)
  have H2 := Lib.hid (fun w' (h : FiB w w' c x k o v n) => by
    have kk := h.keeps
    replace h := h.rub
    exact first2_any c x k o v n _ _ _ w' h)
  have H3 := Lib.hid (fun w' (h : FiB w w' c x k o v n) => by
    have kk := h.keeps
    replace h := h.rub
    exact first3_any c x k o v n _ _ _ w' h)
  have H4 := Lib.hid (fun w' (h : FiB w w' c x k o v n) => by
    have kk := h.keeps
    replace h := h.rub
    exact first4_any c x k o v n _ _ _ w' h)
  have H5 := Lib.hid (fun w' (h : FiB w w' c x k o v n) => by
    have kk := h.keeps
    replace h := h.rub
    exact first5_any c x k o v n _ _ _ w' h)
  have H6 := Lib.hid (fun w' (h : FiB w w' c x k o v n) => by
    have kk := h.keeps
    replace h := h.rub
    exact first6_any c x k o v n _ _ _ w' h ho)
  have H7 := Lib.hid (fun w' (h : FiB w w' c x k o v n) => by
    have kk := h.keeps
    replace h := h.rub
    exact first7_any c x k o v n _ _ _ w' h (hc.none kk) ho)
  have HV := Lib.hid (show firstF c x k o v = pickF (whenF (chk1 c x) 1) (pickF (whenF (chk2 x k) 11) (pickF (whenF (chk3 k) 1) (pickF (whenF (chk4 c k o) 4) (pickF (whenF (chk5 k v) 2) (pickF (whenF (chk6 c x k) 10) (objectF c x k o)))))) from rfl)
  generalize firstF c x k o v = ff at *
  generalize whenF (chk1 c x) 1 = a1 at *
  generalize whenF (chk2 x k) 11 = a2 at *
  generalize whenF (chk3 k) 1 = a3 at *
  generalize whenF (chk4 c k o) 4 = a4 at *
  generalize whenF (chk5 k v) 2 = a5 at *
  generalize whenF (chk6 c x k) 10 = a6 at *
  generalize objectF c x k o = a7 at *
  have X0 : ∀ (f0 f1 f2 f3 f4 f5 f6 : Value) (w : World), (Instr.index 77 (.agg #[f0, f1, f2, f3, f4, f5, f6]) (.int .i64 0)).run Try.prog w = .ok f0 w := fun _ _ _ _ _ _ _ _ => by kernel_rfl
  have X1 : ∀ (f0 f1 f2 f3 f4 f5 f6 : Value) (w : World), (Instr.index 77 (.agg #[f0, f1, f2, f3, f4, f5, f6]) (.int .i64 1)).run Try.prog w = .ok f1 w := fun _ _ _ _ _ _ _ _ => by kernel_rfl
  have X2 : ∀ (f0 f1 f2 f3 f4 f5 f6 : Value) (w : World), (Instr.index 77 (.agg #[f0, f1, f2, f3, f4, f5, f6]) (.int .i64 2)).run Try.prog w = .ok f2 w := fun _ _ _ _ _ _ _ _ => by kernel_rfl
  have X3 : ∀ (f0 f1 f2 f3 f4 f5 f6 : Value) (w : World), (Instr.index 77 (.agg #[f0, f1, f2, f3, f4, f5, f6]) (.int .i64 3)).run Try.prog w = .ok f3 w := fun _ _ _ _ _ _ _ _ => by kernel_rfl
  have X4 : ∀ (f0 f1 f2 f3 f4 f5 f6 : Value) (w : World), (Instr.index 77 (.agg #[f0, f1, f2, f3, f4, f5, f6]) (.int .i64 4)).run Try.prog w = .ok f4 w := fun _ _ _ _ _ _ _ _ => by kernel_rfl
  have X5 : ∀ (f0 f1 f2 f3 f4 f5 f6 : Value) (w : World), (Instr.index 77 (.agg #[f0, f1, f2, f3, f4, f5, f6]) (.int .i64 5)).run Try.prog w = .ok f5 w := fun _ _ _ _ _ _ _ _ => by kernel_rfl
  have X6 : ∀ (f0 f1 f2 f3 f4 f5 f6 : Value) (w : World), (Instr.index 77 (.agg #[f0, f1, f2, f3, f4, f5, f6]) (.int .i64 6)).run Try.prog w = .ok f6 w := fun _ _ _ _ _ _ _ _ => by kernel_rfl
  have hst := store_fn
  clear hc ho
  go_enter Try.func19, Try.ntmps19
  go_wp2_with fail
  go_step3
  replace HB := Lib.hid (HB.out.none ((Keeps.refl _ _).alloc (.cells #[.func (.func 27) #[] #[.pointer (some ⟨w.heap.size, 0, none⟩), .pointer (some ⟨w.heap.size + 1, 0, none⟩)], .func (.func 30) #[] #[.pointer (some ⟨w.heap.size + 1, 0, none⟩), .pointer (some ⟨w.heap.size + 1 + 1, 0, none⟩)], .func (.func 32) #[] #[.pointer (some ⟨w.heap.size + 1 + 1, 0, none⟩)], .func (.func 33) #[] #[.pointer (some ⟨w.heap.size + 1 + 1, 0, none⟩), .pointer (some ⟨w.heap.size, 0, none⟩)], .func (.func 34) #[] #[.pointer (some ⟨w.heap.size + 1 + 1, 0, none⟩)], .func (.func 35) #[] #[.pointer (some ⟨w.heap.size + 1 + 1, 0, none⟩), .pointer (some ⟨w.heap.size, 0, none⟩), .pointer (some ⟨w.heap.size + 1, 0, none⟩)], .func (.func 37) #[] #[.pointer (some ⟨w.heap.size, 0, none⟩), .pointer (some ⟨w.heap.size + 1, 0, none⟩), .pointer (some ⟨w.heap.size + 1 + 1, 0, none⟩)]] 77)))
  go_wp2_with fail
  go_step3
  go_wp2_with fail
  refine wp_loop_rounds 8 ?_
  rw [rounds_succ]
  go_wp2_with fail
  refine (H1.out _ HB.out).mono ?_
  rintro e w2 ⟨rfl, k2⟩
  replace HB := Lib.hid (HB.out.none k2)
  clear k2
  rcases Decidable.em (a1 = 0) with hz | hz
  · subst hz
    go_wp2_with fail
    rw [rounds_succ]
    go_wp2_with fail
    refine (H2.out _ HB.out).mono ?_
    rintro e w3 ⟨rfl, k3⟩
    replace HB := Lib.hid (HB.out.none k3)
    clear k3
    rcases Decidable.em (a2 = 0) with hz | hz
    · subst hz
      go_wp2_with fail
      rw [rounds_succ]
      go_wp2_with fail
      refine (H3.out _ HB.out).mono ?_
      rintro e w4 ⟨rfl, k4⟩
      replace HB := Lib.hid (HB.out.none k4)
      clear k4
      rcases Decidable.em (a3 = 0) with hz | hz
      · subst hz
        go_wp2_with fail
        rw [rounds_succ]
        go_wp2_with fail
        refine (H4.out _ HB.out).mono ?_
        rintro e w5 ⟨rfl, k5⟩
        replace HB := Lib.hid (HB.out.none k5)
        clear k5
        rcases Decidable.em (a4 = 0) with hz | hz
        · subst hz
          go_wp2_with fail
          rw [rounds_succ]
          go_wp2_with fail
          refine (H5.out _ HB.out).mono ?_
          rintro e w6 ⟨rfl, k6⟩
          replace HB := Lib.hid (HB.out.none k6)
          clear k6
          rcases Decidable.em (a5 = 0) with hz | hz
          · subst hz
            go_wp2_with fail
            rw [rounds_succ]
            go_wp2_with fail
            refine (H6.out _ HB.out).mono ?_
            rintro e w7 ⟨rfl, k7⟩
            replace HB := Lib.hid (HB.out.none k7)
            clear k7
            rcases Decidable.em (a6 = 0) with hz | hz
            · subst hz
              go_wp2_with fail
              rw [rounds_succ]
              go_wp2_with fail
              refine (H7.out _ HB.out).mono ?_
              rintro e w8 ⟨rfl, k8⟩
              replace HB := Lib.hid (HB.out.none k8)
              clear k8
              rcases Decidable.em (a7 = 0) with hz | hz
              · subst hz
                have HVV := Lib.hid (show ff = 0 from by rw [HV.out]; simp [pickF])
                go_wp2_with fail
                rw [rounds_succ]
                go_wp2
                (try rw [Exit.noGoto_ret])
                go_ret
                exact ⟨ret_i64 HVV.out.symm, HB.out.keeps⟩
              · have hb0 : (a7 == 0) = false := beq_eq_false_iff_ne.mpr hz
                have hb1 : (a7 != 0) = true := by rw [bne, hb0]; rfl
                have HVV := Lib.hid (show ff = a7 from by rw [HV.out]; simp [pickF, hz])
                clear hz
                go_wp2
                (try rw [Exit.noGoto_ret])
                go_ret
                exact ⟨ret_i64 HVV.out.symm, HB.out.keeps⟩
            · have hb0 : (a6 == 0) = false := beq_eq_false_iff_ne.mpr hz
              have hb1 : (a6 != 0) = true := by rw [bne, hb0]; rfl
              have HVV := Lib.hid (show ff = a6 from by rw [HV.out]; simp [pickF, hz])
              clear hz
              go_wp2
              (try rw [Exit.noGoto_ret])
              go_ret
              exact ⟨ret_i64 HVV.out.symm, HB.out.keeps⟩
          · have hb0 : (a5 == 0) = false := beq_eq_false_iff_ne.mpr hz
            have hb1 : (a5 != 0) = true := by rw [bne, hb0]; rfl
            have HVV := Lib.hid (show ff = a5 from by rw [HV.out]; simp [pickF, hz])
            clear hz
            go_wp2
            (try rw [Exit.noGoto_ret])
            go_ret
            exact ⟨ret_i64 HVV.out.symm, HB.out.keeps⟩
        · have hb0 : (a4 == 0) = false := beq_eq_false_iff_ne.mpr hz
          have hb1 : (a4 != 0) = true := by rw [bne, hb0]; rfl
          have HVV := Lib.hid (show ff = a4 from by rw [HV.out]; simp [pickF, hz])
          clear hz
          go_wp2
          (try rw [Exit.noGoto_ret])
          go_ret
          exact ⟨ret_i64 HVV.out.symm, HB.out.keeps⟩
      · have hb0 : (a3 == 0) = false := beq_eq_false_iff_ne.mpr hz
        have hb1 : (a3 != 0) = true := by rw [bne, hb0]; rfl
        have HVV := Lib.hid (show ff = a3 from by rw [HV.out]; simp [pickF, hz])
        clear hz
        go_wp2
        (try rw [Exit.noGoto_ret])
        go_ret
        exact ⟨ret_i64 HVV.out.symm, HB.out.keeps⟩
    · have hb0 : (a2 == 0) = false := beq_eq_false_iff_ne.mpr hz
      have hb1 : (a2 != 0) = true := by rw [bne, hb0]; rfl
      have HVV := Lib.hid (show ff = a2 from by rw [HV.out]; simp [pickF, hz])
      clear hz
      go_wp2
      (try rw [Exit.noGoto_ret])
      go_ret
      exact ⟨ret_i64 HVV.out.symm, HB.out.keeps⟩
  · have hb0 : (a1 == 0) = false := beq_eq_false_iff_ne.mpr hz
    have hb1 : (a1 != 0) = true := by rw [bne, hb0]; rfl
    have HVV := Lib.hid (show ff = a1 from by rw [HV.out]; simp [pickF, hz])
    clear hz
    go_wp2
    (try rw [Exit.noGoto_ret])
    go_ret
    exact ⟨ret_i64 HVV.out.symm, HB.out.keeps⟩
end Go.Proofs.Ytdhfppflhmoejac
