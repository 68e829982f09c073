import Derived.Test.YtkhmfjfclpehfaaGreatMdJz
import Derived.Test.YtkhmfjfclpehfaaGreatSchXz
namespace Go.Proofs.YtkhmfjfclpehfaaGreat
open Go.ChangeShapes Go.WideShapes Go.ChangeAt Go.RowKit
set_option linter.unusedVariables false
set_option linter.unusedSimpArgs false
set_option maxRecDepth 100000
/-- What Do answers where only the code matters. -/
def SayO (P : Nat → Prop) (a : MoA) (M : ScM) (tk : Int) (A : Nat → AskX) (q : Int) (w : World) (e : Ending) (w' : World) : Prop := ∃ V v l n c, e = .returned (.tuple #[.agg (outC 0 V v l n c), .int .i64 q]) ∧ MoW w' P a M tk A ∧ KeepsM P w w'
/-- What Do answers of Choose. -/
def ChO (P : Nat → Prop) (a : MoA) (M : ScM) (tk : Int) (A : Nat → AskX) (w : World) (e : Ending) (w' : World) : Prop := ∃ V v b c, e = .returned (.tuple #[.agg (outC 0 V v (some ⟨b, 0, none⟩) 1 c), .int .i64 0]) ∧ w'.heap[b]? = some (.cells #[.int .i64 (firstM M)] 3 (0, 0)) ∧ MoW w' P a (dispM M) tk A ∧ KeepsM P w w'
theorem say_out {P : Nat → Prop} {a : MoA} {M : ScM} {tk : Int} {A : Nat → AskX} {q : Int} {w w' : World} {e : Ending} (h : OutQ P w (SayR P a M tk A q) e w') : SayO P a M tk A q w e w' := by
  obtain ⟨f, V, v, l, n, c, g, w1, rfl, ⟨rfl, rfl, hm⟩, kt, km⟩ := h
  exact ⟨V, v, l, n, c, rfl, hm.out kt, km⟩
section
variable (w : World) (P : Nat → Prop) (a : MoA) (M : ScM) (tk : Int) (A : Nat → AskX) (h : MoW w P a M tk A) (t : Int) (x : AskX)
include h
theorem do_ask_out (ho : t < 0 ∨ (M.many : Int) ≤ t) : Calls Tryz.prog 9 #[.pointer (some ⟨a.m, 0, none⟩), .agg (moC 4 t 0 zV x)] w (SayO P a M tk A 4 w) :=
  (do_hit w P a M tk A h 4 t 0 zV x 3 24 (moves_hit4 a.m) (fun args W => rfl) _ (fun W k => ho.elim (fun h0 => askin_low W P a M tk A (h.quiet k) 4 t 0 zV x h0) (fun h0 => askin_high W P a M tk A (h.quiet k) 4 t 0 zV x h0))).mono fun e w' => say_out
theorem do_ask_had (i : Nat) (hi : i < M.many) (ht : t = (i : Int)) (hs : (A i).is = true) : Calls Tryz.prog 9 #[.pointer (some ⟨a.m, 0, none⟩), .agg (moC 4 t 0 zV x)] w (SayO P a M tk A 15 w) :=
  (do_hit w P a M tk A h 4 t 0 zV x 3 24 (moves_hit4 a.m) (fun args W => rfl) _ (fun W k => askin_had W P a M tk A (h.quiet k) 4 t 0 zV x i hi ht hs)).mono fun e w' => say_out
theorem do_ask_new (i : Nat) (hi : i < M.many) (ht : t = (i : Int)) (hs : (A i).is = false) (hx : x.Ok) (hP : P a.ab) : Calls Tryz.prog 9 #[.pointer (some ⟨a.m, 0, none⟩), .agg (moC 4 t 0 zV x)] w (SayO P a M tk (upd A i ⟨true, x.k, x.o, x.m, x.d, x.b⟩) 0 w) :=
  (do_hit w P a M tk A h 4 t 0 zV x 3 24 (moves_hit4 a.m) (fun args W => rfl) _ (fun W k => askin_new W P a M tk A (h.quiet k) 4 t 0 zV x i hi ht hs hx hP)).mono fun e w' => say_out
theorem do_serve_not (hn : t ≠ M.cur ∨ asksP M A M.cur = false) : Calls Tryz.prog 9 #[.pointer (some ⟨a.m, 0, none⟩), .agg (moC 5 t 0 zV x)] w (SayO P a M tk A 15 w) := by
  by_cases hc : t = M.cur
  · have h2 : asksP M A M.cur = false := hn.resolve_left fun h => h hc
    subst hc
    exact (do_hit w P a M tk A h 5 M.cur 0 zV x 4 25 (moves_hit5 a.m) (fun args W => rfl) _ (fun W k => serve_none W P a M tk A (h.quiet k) 5 0 zV x h2)).mono fun e w' => say_out
  · exact (do_hit w P a M tk A h 5 t 0 zV x 4 25 (moves_hit5 a.m) (fun args W => rfl) _ (fun W k => serve_not W P a M tk A (h.quiet k) 5 t 0 zV x hc)).mono fun e w' => say_out
theorem do_serve_yes (i : Nat) (hi : i < M.many) (ht : t = (i : Int)) (hc : M.cur = (i : Int)) (ha : asksP M A (i : Int) = true) (hP : P a.ab) : Calls Tryz.prog 9 #[.pointer (some ⟨a.m, 0, none⟩), .agg (moC 5 t 0 zV x)] w (SayO P a (serveM M (A i).k (A i).o (A i).m (A i).d (A i).b).1 tk (upd A i AskX.no) 0 w) := by
  subst ht
  exact (do_hit w P a M tk A h 5 (i : Int) 0 zV x 4 25 (moves_hit5 a.m) (fun args W => rfl) (SayR P a (serveM M (A i).k (A i).o (A i).m (A i).d (A i).b).1 tk (upd A i AskX.no) 0) (fun W k => serve_yes W P a M tk A (h.quiet k) 5 0 zV x i hi hc ha hP)).mono fun e w' => say_out
theorem do_choose (who : Int) : Calls Tryz.prog 9 #[.pointer (some ⟨a.m, 0, none⟩), .agg (moC 9 who 0 zV x)] w (ChO P a M tk A w) := by
  refine (do_hit w P a M tk A h 9 who 0 zV x 8 29 (moves_hit9 a.m) (fun args W => rfl) _ (fun W k => choose_any W P a M tk A (h.quiet k) 9 who 0 zV x)).mono ?_
  rintro e w' ⟨f, V, v, l, n, c, g, w1, rfl, ⟨rfl, rfl, rfl, ⟨b, rfl, hb⟩, hm⟩, kt, km⟩
  exact ⟨V, v, b, c, rfl, kt.at hb (by decide), hm.out kt, km⟩
end
theorem vcurrent_any (w : World) (a : ScA) (M : ScM) (h : ScV w a M)  :
    Calls Tryz.prog 15 #[.pointer (some ⟨a.s, 0, none⟩)] w fun e w' => e = .returned (.int .i64 M.cur) ∧ w = w' := by
  have c33 : w.cell? ⟨a.s, 33, none⟩ = some (.int .i64 M.cur) := by
    obtain ⟨cs, hb, hc⟩ := h.blk
    exact (cell_of hb 33).trans hc.cur
  clear h
  go_enter Tryz.func15, Tryz.ntmps15
  go_wp2
  go_ret
  exact ⟨rfl, rfl⟩
set_option maxHeartbeats 4000000 in
theorem sched_of (w : World) (P : Nat → Prop) (a : MoA) (M : ScM) (tk : Int) (A : Nat → AskX) (h : MoW w P a M tk A) :
    Calls Tryz.prog 14 #[.pointer (some ⟨a.m, 0, none⟩)] w fun e w' => ∃ a' : ScA, e = .returned (.pointer (some ⟨a'.s, 0, none⟩)) ∧ ScV w' a' M ∧ Keeps (fun _ => False) w w' := by
  have c1 := cell_of h.blk 1
  have lm := h.lt
  have hn := fun W => mo_nil a.m W
  have HC := Lib.hid (scopy_any w P a.sa M h.sch)
  clear h
  go_enter Tryz.func14, Tryz.ntmps14
  go_wp2_with fail
  refine HC.out.mono ?_
  rintro e w1 ⟨a', rfl, _, hv, _, _, _, k1⟩
  go_wp2_with fail
  go_ret
  exact ⟨a', rfl, hv, k1⟩
end Go.Proofs.YtkhmfjfclpehfaaGreat
namespace Go.Proofs.YtkhmfjfclpehfaaGreat
open Go.ChangeShapes Go.WideShapes Go.ChangeAt Go.RowKit
set_option linter.unusedVariables false
set_option linter.unusedSimpArgs false
set_option maxRecDepth 100000
/-- The law's two boxes lie as they were. -/
structure BxW (w : World) (c : CfD) (r : Array Value) (W : World) : Prop where
  keeps : Keeps (fun _ => False) w W
  cf : W.heap[w.heap.size]? = some (.cells c.cells 26 (0, 0))
  rq : W.heap[w.heap.size + 1]? = some (.cells r 47 (0, 0))
theorem BxW.start (w : World) (c : CfD) (r : Array Value) : BxW w c r ((w.alloc (.cells c.cells 26)).alloc (.cells r 47)) := by
  have h1 := heap_new w (.cells c.cells 26)
  have h2 := heap_new (w.alloc (.cells c.cells 26)) (.cells r 47)
  rw [World.size_alloc] at h2
  exact ⟨((Keeps.refl _ w).alloc _).alloc _, heap_old h1 _, h2⟩
theorem BxW.quiet {w W W' : World} {c : CfD} {r : Array Value} (h : BxW w c r W) (k : Keeps (fun _ => False) W W') : BxW w c r W' := ⟨h.keeps.trans k, k.at h.cf fun h => h, k.at h.rq fun h => h⟩
theorem BxW.kM {w W W' : World} {P : Nat → Prop} {c : CfD} {r : Array Value} (h : BxW w c r W) (k : KeepsM P W W') (hP : ∀ x, P x → w.heap.size ≤ x) : BxW w c r W' := ⟨h.keeps.farM k (fun X hX => hP X hX.1), k.at h.cf (by decide), k.at h.rq (by decide)⟩
theorem BxW.cells {w W : World} {c : CfD} {k o m d b : Int} (h : BxW w c (rqC k o m d b) W) : W.cell? ⟨w.heap.size, 0, none⟩ = some (.slice c.ta c.nT c.tc) ∧ W.cell? ⟨w.heap.size, 1, none⟩ = some (.slice c.la c.nL c.lc) ∧ W.cell? ⟨w.heap.size, 2, none⟩ = some (.slice c.oa c.nO c.oc) ∧ W.cell? ⟨w.heap.size, 3, none⟩ = some (.int .i64 c.tick) ∧ W.cell? ⟨w.heap.size + 1, 0, none⟩ = some (.int .i64 k) ∧ W.cell? ⟨w.heap.size + 1, 1, none⟩ = some (.int .i64 o) ∧ W.cell? ⟨w.heap.size + 1, 2, none⟩ = some (.int .u32 m) ∧ W.cell? ⟨w.heap.size + 1, 3, none⟩ = some (.int .u32 d) ∧ W.cell? ⟨w.heap.size + 1, 4, none⟩ = some (.int .u32 b) ∧ w.heap.size < W.heap.size ∧ w.heap.size + 1 < W.heap.size :=
  ⟨cell_of h.cf 0, cell_of h.cf 1, cell_of h.cf 2, cell_of h.cf 3, cell_of h.rq 0, cell_of h.rq 1, cell_of h.rq 2, cell_of h.rq 3, cell_of h.rq 4, lt_of h.cf, lt_of h.rq⟩
/-- What the law answers. -/
def LawQ (w : World) (e : Ending) (w' : World) : Prop := e = .returned (.bool true) ∧ Keeps (fun _ => False) w w'
theorem lawQ {w w' : World} (h : Keeps (fun _ => False) w w') : LawQ w (.returned (.bool true)) w' := ⟨rfl, h⟩
theorem al37 {w W : World} (h : Keeps (fun _ => False) w W) : Calls Tryz.prog 6 #[] W fun e w' => e = .returned (.bool true) ∧ Keeps (fun _ => False) w w' :=
  (alive37_any W).mono fun e w' k => ⟨k.1, h.trans k.2⟩
set_option maxHeartbeats 8000000 in
theorem serves_bad (c : CfD) (w : World) (hc : CfIn w c) (ho : c.Ok) (k o : Int) (m d b : Nat) (t : Int) (hv : badOf c ≠ (0, 0, 0)) : Calls Tryz.prog 4 #[.agg c.cells, .agg (rqC k o m d b), .int .i64 t] w (LawQ w) := by
  have HL := Lib.hid (fun W (k : Keeps (fun _ => False) w W) => light3_any c W (hc.none k) ho)
  have HR := Lib.hid (fun W (kk : Keeps (fun _ => False) w W) => right34_any c W (hc.none kk) k o m d b)
  have HN := Lib.hid (fun W (k : Keeps (fun _ => False) w W) => new_bad c W (hc.none k) ho hv)
  clear hc ho hv
  have HB := Lib.hid (BxW.start w c (rqC k o m d b))
  obtain ⟨q0, q1, q2, q3, r0, r1, r2, r3, r4, l0, l1⟩ := HB.out.cells
  go_enter Tryz.func4, Tryz.ntmps4
  go_wp2_with fail
  refine (HL.out _ HB.out.keeps).mono ?_
  rintro e1 w1 ⟨p, rfl, _, k1⟩
  replace HB := Lib.hid (HB.out.quiet k1)
  clear k1
  clear q0 q1 q2 q3 r0 r1 r2 r3 r4 l0 l1
  obtain ⟨q0, q1, q2, q3, r0, r1, r2, r3, r4, l0, l1⟩ := HB.out.cells
  rcases p with _ | _
  · go_wp2_with fail
    refine (al37 HB.out.keeps).mono ?_
    rintro e9 w9 ⟨rfl, k9⟩
    have HK := Lib.hid k9
    clear k9
    go_wp2_with fail
    go_ret
    exact lawQ HK.out
  go_wp2_with fail
  refine (HR.out _ HB.out.keeps).mono ?_
  rintro e2 w2 ⟨p, rfl, k2⟩
  replace HB := Lib.hid (HB.out.quiet k2)
  clear k2
  clear q0 q1 q2 q3 r0 r1 r2 r3 r4 l0 l1
  obtain ⟨q0, q1, q2, q3, r0, r1, r2, r3, r4, l0, l1⟩ := HB.out.cells
  rcases p with _ | _
  · go_wp2_with fail
    refine (al37 HB.out.keeps).mono ?_
    rintro e9 w9 ⟨rfl, k9⟩
    have HK := Lib.hid k9
    clear k9
    go_wp2_with fail
    go_ret
    exact lawQ HK.out
  go_wp2_with fail
  refine (HN.out _ HB.out.keeps).mono ?_
  rintro e3 w3 ⟨rfl, k3⟩
  replace HB := Lib.hid (HB.out.quiet k3)
  clear k3
  clear q0 q1 q2 q3 r0 r1 r2 r3 r4 l0 l1
  obtain ⟨q0, q1, q2, q3, r0, r1, r2, r3, r4, l0, l1⟩ := HB.out.cells
  go_wp2_with fail
  refine (al37 HB.out.keeps).mono ?_
  rintro e9 w9 ⟨rfl, k9⟩
  have HK := Lib.hid k9
  clear k9
  go_wp2_with fail
  go_ret
  exact lawQ HK.out
end Go.Proofs.YtkhmfjfclpehfaaGreat
namespace Go.Proofs.YtkhmfjfclpehfaaGreat
open Go.ChangeShapes Go.WideShapes Go.ChangeAt Go.RowKit
set_option linter.unusedVariables false
set_option linter.unusedSimpArgs false
set_option maxRecDepth 100000
set_option maxHeartbeats 8000000 in
theorem serves_low (c : CfD) (w : World) (hc : CfIn w c) (ho : c.Ok) (k o : Int) (m d b : Nat) (t : Int) (hv : badOf c = (0, 0, 0)) (hu : ∀ i, i < c.nO → ∀ j, j < 4 → 0 ≤ c.oi i j ∧ c.oi i j < 4294967296) (hh : t < 0) : Calls Tryz.prog 4 #[.agg c.cells, .agg (rqC k o m d b), .int .i64 t] w (LawQ w) := by
  have d0 : decide (0 ≤ t) = false := decide_eq_false (by omega)
  have HH := Lib.hid hh
  clear hh
  have HL := Lib.hid (fun W (k : Keeps (fun _ => False) w W) => light3_any c W (hc.none k) ho)
  have HR := Lib.hid (fun W (kk : Keeps (fun _ => False) w W) => right34_any c W (hc.none kk) k o m d b)
  have HN := Lib.hid (fun W (k : Keeps (fun _ => False) w W) => new_good c W (hc.none k) ho hu hv)
  have HG := Lib.hid (good_of hv)
  clear hc ho hv hu
  have HB := Lib.hid (BxW.start w c (rqC k o m d b))
  obtain ⟨q0, q1, q2, q3, r0, r1, r2, r3, r4, l0, l1⟩ := HB.out.cells
  go_enter Tryz.func4, Tryz.ntmps4
  go_wp2_with fail
  refine (HL.out _ HB.out.keeps).mono ?_
  rintro e1 w1 ⟨p, rfl, _, k1⟩
  replace HB := Lib.hid (HB.out.quiet k1)
  clear k1
  clear q0 q1 q2 q3 r0 r1 r2 r3 r4 l0 l1
  obtain ⟨q0, q1, q2, q3, r0, r1, r2, r3, r4, l0, l1⟩ := HB.out.cells
  rcases p with _ | _
  · go_wp2_with fail
    refine (al37 HB.out.keeps).mono ?_
    rintro e9 w9 ⟨rfl, k9⟩
    have HK := Lib.hid k9
    clear k9
    go_wp2_with fail
    go_ret
    exact lawQ HK.out
  go_wp2_with fail
  refine (HR.out _ HB.out.keeps).mono ?_
  rintro e2 w2 ⟨p, rfl, k2⟩
  replace HB := Lib.hid (HB.out.quiet k2)
  clear k2
  clear q0 q1 q2 q3 r0 r1 r2 r3 r4 l0 l1
  obtain ⟨q0, q1, q2, q3, r0, r1, r2, r3, r4, l0, l1⟩ := HB.out.cells
  rcases p with _ | _
  · go_wp2_with fail
    refine (al37 HB.out.keeps).mono ?_
    rintro e9 w9 ⟨rfl, k9⟩
    have HK := Lib.hid k9
    clear k9
    go_wp2_with fail
    go_ret
    exact lawQ HK.out
  go_wp2_with fail
  refine (HN.out _ HB.out.keeps).mono ?_
  rintro e3 w3 ⟨a, g, rfl, hm, _, hab, _, _, _, k3⟩
  have HP := Lib.hid (show ∀ x, w2.heap.size ≤ x → w.heap.size ≤ x from fun x h => Nat.le_trans HB.out.keeps.size h)
  replace HB := Lib.hid (HB.out.quiet k3)
  have HAB := Lib.hid hab
  have HMY := Lib.hid (show (dispM (newM ((List.range c.nT).map c.tp))).many = c.nT from new_many HG.out.t)
  generalize dispM (newM ((List.range c.nT).map c.tp)) = M at hm HMY
  have HM := Lib.hid hm
  have hn := fun W => mo_nil a.m W
  clear k3 hm hab
  clear q0 q1 q2 q3 r0 r1 r2 r3 r4 l0 l1
  obtain ⟨q0, q1, q2, q3, r0, r1, r2, r3, r4, l0, l1⟩ := HB.out.cells
  go_wp2_with (first
    | (refine wpList_buildTo rfl 45 _ rfl (some 48) rfl (moC 4 t 0 zV ⟨true, k, o, m, d, b⟩) (by kernel_rfl) ?_))
  refine ((do_ask_out _ _ a M 0 _ HM.out t ⟨true, k, o, m, d, b⟩ (by have := HH.out; have := HMY.out; omega))).mono ?_
  rintro e w4 ⟨V4, v4, l4, n4, c4, rfl, hm, km⟩
  replace HM := Lib.hid hm
  replace HB := Lib.hid (HB.out.kM km HP.out)
  clear hm km
  obtain ⟨W4, hW4⟩ : ∃ W, W = w4.alloc (.cells (outC 0 V4 v4 l4 n4 c4) 51) := ⟨_, rfl⟩
  have kx : Keeps (fun _ => False) w4 W4 := by rw [hW4]; exact (Keeps.refl _ w4).alloc _
  have ob4 : W4.heap[w4.heap.size]? = some (.cells (outC 0 V4 v4 l4 n4 c4) 51 (0, 0)) := by rw [hW4]; exact heap_new _ _
  replace HM := Lib.hid (HM.out.quiet kx)
  have HW4 := Lib.hid hW4
  have HO4 := Lib.hid ob4
  replace HB := Lib.hid (HB.out.quiet kx)
  clear kx ob4 hW4
  clear q0 q1 q2 q3 r0 r1 r2 r3 r4 l0 l1
  obtain ⟨q0, q1, q2, q3, r0, r1, r2, r3, r4, l0, l1⟩ := HB.out.cells
  go_wp2_with (first
    | (refine wpList_buildTo rfl 45 _ rfl (some 56) rfl (moC 4 t 0 zV ⟨true, k, o, m, d, b⟩) (by kernel_rfl) ?_)
    | (refine wpList_alloc_as rfl 51 rfl (some 9) rfl w4.heap.size rfl _ (out_zero _) (outC 0 zV 0 none 0 0) rfl ?_)
    | (refine wpList_store_row rfl 51 (.tmp 9) (.tmp 50) rfl w4.heap.size (outC 0 V4 v4 l4 n4 c4) rfl rfl 51 _ (heap_new _ _) out_info rfl (out_one _ _ _ _ _ _) ?_; rw [World.setRow_alloc_new, ← HW4.out]))
  refine ((do_ask_out _ _ a M 0 _ HM.out t ⟨true, k, o, m, d, b⟩ (by have := HH.out; have := HMY.out; omega))).mono ?_
  rintro e w5 ⟨V5, v5, l5, n5, c5, rfl, hm, km⟩
  replace HM := Lib.hid hm
  replace HB := Lib.hid (HB.out.kM km HP.out)
  clear hm km
  obtain ⟨W5, hW5⟩ : ∃ W, W = w5.alloc (.cells (outC 0 V5 v5 l5 n5 c5) 51) := ⟨_, rfl⟩
  have kx : Keeps (fun _ => False) w5 W5 := by rw [hW5]; exact (Keeps.refl _ w5).alloc _
  have ob5 : W5.heap[w5.heap.size]? = some (.cells (outC 0 V5 v5 l5 n5 c5) 51 (0, 0)) := by rw [hW5]; exact heap_new _ _
  replace HM := Lib.hid (HM.out.quiet kx)
  have HW5 := Lib.hid hW5
  have HO5 := Lib.hid ob5
  replace HB := Lib.hid (HB.out.quiet kx)
  clear kx ob5 hW5
  clear q0 q1 q2 q3 r0 r1 r2 r3 r4 l0 l1
  obtain ⟨q0, q1, q2, q3, r0, r1, r2, r3, r4, l0, l1⟩ := HB.out.cells
  go_wp2_with (first
    | (refine wpList_alloc_as rfl 51 rfl (some 11) rfl w5.heap.size rfl _ (out_zero _) (outC 0 zV 0 none 0 0) rfl ?_)
    | (refine wpList_store_row rfl 51 (.tmp 11) (.tmp 58) rfl w5.heap.size (outC 0 V5 v5 l5 n5 c5) rfl rfl 51 _ (heap_new _ _) out_info rfl (out_one _ _ _ _ _ _) ?_; rw [World.setRow_alloc_new, ← HW5.out]))
  refine (al37 HB.out.keeps).mono ?_
  rintro e9 w9 ⟨rfl, k9⟩
  have HK := Lib.hid k9
  clear k9
  go_wp2_with fail
  go_ret
  exact lawQ HK.out
set_option maxHeartbeats 8000000 in
theorem serves_high (c : CfD) (w : World) (hc : CfIn w c) (ho : c.Ok) (k o : Int) (m d b : Nat) (t : Int) (hv : badOf c = (0, 0, 0)) (hu : ∀ i, i < c.nO → ∀ j, j < 4 → 0 ≤ c.oi i j ∧ c.oi i j < 4294967296) (hh : 0 ≤ t ∧ (c.nT : Int) ≤ t) : Calls Tryz.prog 4 #[.agg c.cells, .agg (rqC k o m d b), .int .i64 t] w (LawQ w) := by
  have d0 : decide (0 ≤ t) = true := decide_eq_true hh.1
  have d1 : decide (t < (c.nT : Int)) = false := decide_eq_false (by omega)
  have HH := Lib.hid hh
  clear hh
  have HL := Lib.hid (fun W (k : Keeps (fun _ => False) w W) => light3_any c W (hc.none k) ho)
  have HR := Lib.hid (fun W (kk : Keeps (fun _ => False) w W) => right34_any c W (hc.none kk) k o m d b)
  have HN := Lib.hid (fun W (k : Keeps (fun _ => False) w W) => new_good c W (hc.none k) ho hu hv)
  have HG := Lib.hid (good_of hv)
  clear hc ho hv hu
  have HB := Lib.hid (BxW.start w c (rqC k o m d b))
  obtain ⟨q0, q1, q2, q3, r0, r1, r2, r3, r4, l0, l1⟩ := HB.out.cells
  go_enter Tryz.func4, Tryz.ntmps4
  go_wp2_with fail
  refine (HL.out _ HB.out.keeps).mono ?_
  rintro e1 w1 ⟨p, rfl, _, k1⟩
  replace HB := Lib.hid (HB.out.quiet k1)
  clear k1
  clear q0 q1 q2 q3 r0 r1 r2 r3 r4 l0 l1
  obtain ⟨q0, q1, q2, q3, r0, r1, r2, r3, r4, l0, l1⟩ := HB.out.cells
  rcases p with _ | _
  · go_wp2_with fail
    refine (al37 HB.out.keeps).mono ?_
    rintro e9 w9 ⟨rfl, k9⟩
    have HK := Lib.hid k9
    clear k9
    go_wp2_with fail
    go_ret
    exact lawQ HK.out
  go_wp2_with fail
  refine (HR.out _ HB.out.keeps).mono ?_
  rintro e2 w2 ⟨p, rfl, k2⟩
  replace HB := Lib.hid (HB.out.quiet k2)
  clear k2
  clear q0 q1 q2 q3 r0 r1 r2 r3 r4 l0 l1
  obtain ⟨q0, q1, q2, q3, r0, r1, r2, r3, r4, l0, l1⟩ := HB.out.cells
  rcases p with _ | _
  · go_wp2_with fail
    refine (al37 HB.out.keeps).mono ?_
    rintro e9 w9 ⟨rfl, k9⟩
    have HK := Lib.hid k9
    clear k9
    go_wp2_with fail
    go_ret
    exact lawQ HK.out
  go_wp2_with fail
  refine (HN.out _ HB.out.keeps).mono ?_
  rintro e3 w3 ⟨a, g, rfl, hm, _, hab, _, _, _, k3⟩
  have HP := Lib.hid (show ∀ x, w2.heap.size ≤ x → w.heap.size ≤ x from fun x h => Nat.le_trans HB.out.keeps.size h)
  replace HB := Lib.hid (HB.out.quiet k3)
  have HAB := Lib.hid hab
  have HMY := Lib.hid (show (dispM (newM ((List.range c.nT).map c.tp))).many = c.nT from new_many HG.out.t)
  generalize dispM (newM ((List.range c.nT).map c.tp)) = M at hm HMY
  have HM := Lib.hid hm
  have hn := fun W => mo_nil a.m W
  clear k3 hm hab
  clear q0 q1 q2 q3 r0 r1 r2 r3 r4 l0 l1
  obtain ⟨q0, q1, q2, q3, r0, r1, r2, r3, r4, l0, l1⟩ := HB.out.cells
  go_wp2_with (first
    | (refine wpList_buildTo rfl 45 _ rfl (some 48) rfl (moC 4 t 0 zV ⟨true, k, o, m, d, b⟩) (by kernel_rfl) ?_))
  refine ((do_ask_out _ _ a M 0 _ HM.out t ⟨true, k, o, m, d, b⟩ (by have := HH.out; have := HMY.out; omega))).mono ?_
  rintro e w4 ⟨V4, v4, l4, n4, c4, rfl, hm, km⟩
  replace HM := Lib.hid hm
  replace HB := Lib.hid (HB.out.kM km HP.out)
  clear hm km
  obtain ⟨W4, hW4⟩ : ∃ W, W = w4.alloc (.cells (outC 0 V4 v4 l4 n4 c4) 51) := ⟨_, rfl⟩
  have kx : Keeps (fun _ => False) w4 W4 := by rw [hW4]; exact (Keeps.refl _ w4).alloc _
  have ob4 : W4.heap[w4.heap.size]? = some (.cells (outC 0 V4 v4 l4 n4 c4) 51 (0, 0)) := by rw [hW4]; exact heap_new _ _
  replace HM := Lib.hid (HM.out.quiet kx)
  have HW4 := Lib.hid hW4
  have HO4 := Lib.hid ob4
  replace HB := Lib.hid (HB.out.quiet kx)
  clear kx ob4 hW4
  clear q0 q1 q2 q3 r0 r1 r2 r3 r4 l0 l1
  obtain ⟨q0, q1, q2, q3, r0, r1, r2, r3, r4, l0, l1⟩ := HB.out.cells
  go_wp2_with (first
    | (refine wpList_buildTo rfl 45 _ rfl (some 56) rfl (moC 4 t 0 zV ⟨true, k, o, m, d, b⟩) (by kernel_rfl) ?_)
    | (refine wpList_alloc_as rfl 51 rfl (some 9) rfl w4.heap.size rfl _ (out_zero _) (outC 0 zV 0 none 0 0) rfl ?_)
    | (refine wpList_store_row rfl 51 (.tmp 9) (.tmp 50) rfl w4.heap.size (outC 0 V4 v4 l4 n4 c4) rfl rfl 51 _ (heap_new _ _) out_info rfl (out_one _ _ _ _ _ _) ?_; rw [World.setRow_alloc_new, ← HW4.out]))
  refine ((do_ask_out _ _ a M 0 _ HM.out t ⟨true, k, o, m, d, b⟩ (by have := HH.out; have := HMY.out; omega))).mono ?_
  rintro e w5 ⟨V5, v5, l5, n5, c5, rfl, hm, km⟩
  replace HM := Lib.hid hm
  replace HB := Lib.hid (HB.out.kM km HP.out)
  clear hm km
  obtain ⟨W5, hW5⟩ : ∃ W, W = w5.alloc (.cells (outC 0 V5 v5 l5 n5 c5) 51) := ⟨_, rfl⟩
  have kx : Keeps (fun _ => False) w5 W5 := by rw [hW5]; exact (Keeps.refl _ w5).alloc _
  have ob5 : W5.heap[w5.heap.size]? = some (.cells (outC 0 V5 v5 l5 n5 c5) 51 (0, 0)) := by rw [hW5]; exact heap_new _ _
  replace HM := Lib.hid (HM.out.quiet kx)
  have HW5 := Lib.hid hW5
  have HO5 := Lib.hid ob5
  replace HB := Lib.hid (HB.out.quiet kx)
  clear kx ob5 hW5
  clear q0 q1 q2 q3 r0 r1 r2 r3 r4 l0 l1
  obtain ⟨q0, q1, q2, q3, r0, r1, r2, r3, r4, l0, l1⟩ := HB.out.cells
  go_wp2_with (first
    | (refine wpList_alloc_as rfl 51 rfl (some 11) rfl w5.heap.size rfl _ (out_zero _) (outC 0 zV 0 none 0 0) rfl ?_)
    | (refine wpList_store_row rfl 51 (.tmp 11) (.tmp 58) rfl w5.heap.size (outC 0 V5 v5 l5 n5 c5) rfl rfl 51 _ (heap_new _ _) out_info rfl (out_one _ _ _ _ _ _) ?_; rw [World.setRow_alloc_new, ← HW5.out]))
  refine (al37 HB.out.keeps).mono ?_
  rintro e9 w9 ⟨rfl, k9⟩
  have HK := Lib.hid k9
  clear k9
  go_wp2_with fail
  go_ret
  exact lawQ HK.out
end Go.Proofs.YtkhmfjfclpehfaaGreat
