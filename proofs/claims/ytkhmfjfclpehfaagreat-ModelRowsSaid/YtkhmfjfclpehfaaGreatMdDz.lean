import Derived.Test.YtkhmfjfclpehfaaGreatSchG
import Derived.Test.YtkhmfjfclpehfaaGreatMdAz
import Derived.BigRegion
import Derived.Deep.RegionHeld3
import Derived.Great.BuildSlice
import Derived.Great.Walk
import Derived.Deep.RegionLaw
import Derived.Test.YtkhmfjfclpehfaaGreatSchAz
namespace Go.Proofs.YtkhmfjfclpehfaaGreat
open Go.ChangeShapes Go.WideShapes Go.ChangeAt Go.RowKit
set_option linter.unusedVariables false
set_option linter.unusedSimpArgs false
theorem serve_any (w : World) (P : Nat → Prop) (a : ScA) (M : ScM) (h : ScW w P a M) (hn : a.n = M.many) (k o : Int) (m n b : Nat) (hn32 : n < 4294967296) (hb32 : b < 4294967296) :
    Calls Tryz.prog 44 #[.pointer (some ⟨a.s, 0, none⟩), .agg #[.int .i64 k, .int .i64 o, .int .u32 (m : Int), .int .u32 (n : Int), .int .u32 (b : Int)]] w fun e w' => e = .returned (.int .i64 (serveM M k o m n b).2) ∧ ScW w' P a (serveM M k o m n b).1 ∧ KeepsS P w w' := by
  unfold serveM
  by_cases hc : M.cur = -1
  · rw [if_pos hc]
    exact serve_nobody w P a M h hn o m n b hn32 hb32 k hc
  rw [if_neg hc]
  obtain ⟨t, ht⟩ : ∃ t : Nat, M.cur = (t : Int) := ⟨M.cur.toNat, by have := h.cin; omega⟩
  have htm : t < M.many := by have := h.cin; omega
  have hct : M.cur.toNat = t := by omega
  rw [hct]
  by_cases h19 : k = 19
  · rw [if_pos h19]; subst h19
    exact serve_exit w P a M h hn t htm ht o m n b hn32 hb32
  rw [if_neg h19]
  by_cases h10 : k = 10
  · rw [if_pos h10]; subst h10
    cases ho : hasM M o with
    | true =>
      rw [if_pos rfl]
      have ho' := of_decide_eq_true (show decide (0 ≤ o ∧ o < (M.many : Int)) = true from ho)
      exact serve_post w P a M h hn t htm ht o m n b hn32 hb32 o.toNat (by omega) (by omega)
    | false =>
      rw [if_neg (by simp)]
      exact serve_post_no w P a M h hn t htm ht o m n b hn32 hb32 ho
  rw [if_neg h10]
  by_cases h13 : k = 13
  · rw [if_pos h13]; subst h13
    by_cases h0 : 0 < n
    · rw [if_pos h0]
      exact serve_sleep w P a M h hn t htm ht o m n b hn32 hb32 h0
    · rw [if_neg h0]
      exact serve_yield0 w P a M h hn t htm ht o m n b hn32 hb32 (by omega)
  rw [if_neg h13]
  by_cases h12 : k = 12
  · rw [if_pos h12]; subst h12
    exact serve_yield w P a M h hn t htm ht o m n b hn32 hb32
  rw [if_neg h12]
  by_cases h18 : k = 18
  · rw [if_pos h18]; subst h18
    unfold awaitM
    by_cases hb : M.bits t = 0
    · rw [if_neg (by simp [hb])]
      by_cases h0 : n = 0
      · rw [if_pos h0]
        exact serve_await_zero w P a M h hn t htm ht o m n b hn32 hb32 hb h0
      · rw [if_neg h0]
        exact serve_await_wait w P a M h hn t htm ht o m n b hn32 hb32 hb (by omega)
    · rw [if_pos hb]
      exact serve_await_some w P a M h hn t htm ht o m n b hn32 hb32 hb
  rw [if_neg h18]
  by_cases h14 : k = 14 ∨ k = 15 ∨ k = 16 ∨ k = 17
  · rw [if_pos h14]
    by_cases h0 : n = 0
    · rw [if_pos h0]
      rcases h14 with rfl | rfl | rfl | rfl
      · exact serve_w14_zero w P a M h hn t htm ht o m n b hn32 hb32 h0
      · exact serve_w15_zero w P a M h hn t htm ht o m n b hn32 hb32 h0
      · exact serve_w16_zero w P a M h hn t htm ht o m n b hn32 hb32 h0
      · exact serve_w17_zero w P a M h hn t htm ht o m n b hn32 hb32 h0
    · rw [if_neg h0]
      rcases h14 with rfl | rfl | rfl | rfl
      · exact serve_w14 w P a M h hn t htm ht o m n b hn32 hb32 (by omega)
      · exact serve_w15 w P a M h hn t htm ht o m n b hn32 hb32 (by omega)
      · exact serve_w16 w P a M h hn t htm ht o m n b hn32 hb32 (by omega)
      · exact serve_w17 w P a M h hn t htm ht o m n b hn32 hb32 (by omega)
  rw [if_neg h14]
  exact serve_other w P a M h hn t htm ht o m n b hn32 hb32 k (by omega)
set_option maxRecDepth 20000 in
set_option maxHeartbeats 2000000 in
theorem swake_out (w : World) (P : Nat → Prop) (a : ScA) (M : ScM) (h : ScW w P a M) (hn : a.n = M.many) (t : Int) (ht : hasM M t = false) :
    Calls Tryz.prog 49 #[.pointer (some ⟨a.s, 0, none⟩), .int .i64 t] w fun e w' => e = .returned (.bool false) ∧ w = w' := by
  have HH := Lib.hid (shas_any w P a M h hn t)
  rw [ht] at HH
  clear h
  go_enter Tryz.func49, Tryz.ntmps49
  go_wp2_with fail
  refine HH.out.mono ?_
  rintro e w' ⟨rfl, rfl⟩
  go_wp2_with fail
  go_ret
  exact ⟨rfl, rfl⟩
set_option maxRecDepth 20000 in
set_option maxHeartbeats 2000000 in
theorem swake_no (w : World) (P : Nat → Prop) (a : ScA) (M : ScM) (h : ScW w P a M) (hn : a.n = M.many) (t : Nat) (ht : t < M.many) (hs : M.st t ≠ 2) :
    Calls Tryz.prog 49 #[.pointer (some ⟨a.s, 0, none⟩), .int .i64 (t : Int)] w fun e w' => e = .returned (.bool false) ∧ w = w' := by
  have le := h.le
  have HH := Lib.hid (has_yes w P a M h hn (t : Int) ⟨by omega, by omega⟩)
  have ct := h.cTask t ht
  have HS := Lib.hid (sc_state w P a M h t ht)
  have e1 : (M.st t != 2) = true := bne_iff_ne.2 hs
  have e2 : (M.st t == 2) = false := beq_eq_false_iff_ne.2 hs
  have d1 : decide ((t : Int) < 16) = true := decide_eq_true (by omega)
  have d2 : t < 16 := by omega
  have d3 : (0 : Int) ≤ (t : Int) := by omega
  have d4 : (t : Int) < 16 := by omega
  clear h hs
  go_enter Tryz.func49, Tryz.ntmps49
  go_wp2_with fail
  refine HH.out.mono ?_
  rintro e w' ⟨rfl, rfl⟩
  go_wp2_with fail
  refine HS.out.mono ?_
  rintro e w' ⟨rfl, rfl⟩
  go_wp2_with fail
  go_ret
  exact ⟨rfl, rfl⟩
end Go.Proofs.YtkhmfjfclpehfaaGreat
namespace Go.Proofs.YtkhmfjfclpehfaaGreat
open Go.ChangeShapes Go.WideShapes Go.ChangeAt Go.RowKit
set_option linter.unusedVariables false
set_option linter.unusedSimpArgs false
set_option maxRecDepth 100000
def asksP (M : ScM) (A : Nat → AskX) (t : Int) : Bool := decide (0 ≤ t ∧ t < (M.many : Int)) && (A t.toNat).is
theorem mo_neq (b : Nat) (w : World) : (binOp .neq 30 (.pointer (some ⟨b, 0, none⟩)) (.pointer none)).run Tryz.prog w = .ok (.bool true) w := by kernel_rfl
theorem MoW.six {w : World} {P : Nat → Prop} {a : MoA} {M : ScM} {tk : Int} {A : Nat → AskX} (h : MoW w P a M tk A) {t : Nat} (ht : t < M.many) :
    w.cell? ⟨a.ab, t * 6, none⟩ = some (.bool (A t).is) ∧ w.cell? ⟨a.ab, t * 6 + 1, none⟩ = some (.int .i64 (A t).k) ∧ w.cell? ⟨a.ab, t * 6 + 2, none⟩ = some (.int .i64 (A t).o) ∧ w.cell? ⟨a.ab, t * 6 + 3, none⟩ = some (.int .u32 ((A t).m : Int)) ∧ w.cell? ⟨a.ab, t * 6 + 4, none⟩ = some (.int .u32 ((A t).d : Int)) ∧ w.cell? ⟨a.ab, t * 6 + 5, none⟩ = some (.int .u32 ((A t).b : Int)) :=
  ⟨h.asks.cell (j := 0) ht rfl, h.asks.cell (j := 1) ht rfl, h.asks.cell (j := 2) ht rfl, h.asks.cell (j := 3) ht rfl, h.asks.cell (j := 4) ht rfl, h.asks.cell (j := 5) ht rfl⟩
theorem MoW.le {w : World} {P : Nat → Prop} {a : MoA} {M : ScM} {tk : Int} {A : Nat → AskX} (h : MoW w P a M tk A) : M.many ≤ 16 := h.sch.le
set_option maxHeartbeats 4000000 in
theorem asks_any (w : World) (P : Nat → Prop) (a : MoA) (M : ScM) (tk : Int) (A : Nat → AskX) (h : MoW w P a M tk A) (t : Int) :
    Calls Tryz.prog 16 #[.pointer (some ⟨a.m, 0, none⟩), .int .i64 t] w fun e w' => e = .returned (.bool (asksP M A t)) ∧ w' = w := by
  have hn := fun W => mo_neq a.m W
  have c4 := cell_of h.blk 4
  have lm := h.lt
  have la := h.asks.lt
  have le := h.le
  unfold asksP
  by_cases h0 : t < 0
  · have d0 : decide (0 ≤ t) = false := decide_eq_false (by omega)
    have HE := Lib.hid (show decide (0 ≤ t ∧ t < (M.many : Int)) = false from decide_eq_false (by omega))
    clear h0 h
    go_enter Tryz.func16, Tryz.ntmps16
    go_wp2_with fail
    go_ret
    exact ⟨by rw [HE.out]; rfl, rfl⟩
  · have d0 : decide (0 ≤ t) = true := decide_eq_true (by omega)
    by_cases h1 : t < (M.many : Int)
    · obtain ⟨n, rfl⟩ := Int.eq_ofNat_of_zero_le (show 0 ≤ t by omega)
      have d1 : decide ((n : Int) < (M.many : Int)) = true := decide_eq_true h1
      have hn' : n < M.many := by omega
      have s0 := (h.six hn').1
      have HE := Lib.hid (show decide (0 ≤ (n : Int) ∧ (n : Int) < (M.many : Int)) = true from decide_eq_true (by omega))
      have HT := Lib.hid (show (n : Int).toNat = n from rfl)
      clear h0 h
      go_enter Tryz.func16, Tryz.ntmps16
      go_wp2_with fail
      go_ret
      exact ⟨by rw [HE.out, HT.out]; rfl, rfl⟩
    · have d1 : decide (t < (M.many : Int)) = false := decide_eq_false h1
      have HE := Lib.hid (show decide (0 ≤ t ∧ t < (M.many : Int)) = false from decide_eq_false (by omega))
      clear h0 h1 h
      go_enter Tryz.func16, Tryz.ntmps16
      go_wp2_with fail
      go_ret
      exact ⟨by rw [HE.out]; rfl, rfl⟩
end Go.Proofs.YtkhmfjfclpehfaaGreat
namespace Go.Proofs.YtkhmfjfclpehfaaGreat
open Go.ChangeShapes Go.WideShapes Go.ChangeAt Go.RowKit
set_option linter.unusedVariables false
set_option linter.unusedSimpArgs false
set_option maxRecDepth 100000
def ChooseR (P : Nat → Prop) (a : MoA) (M : ScM) (tk : Int) (A : Nat → AskX) : Int → (Nat → Int) → Int → Option Addr → Nat → Nat → Int → World → Prop := fun f V v l n c g w1 => g = 0 ∧ f = 0 ∧ n = 1 ∧ (∃ b, l = some ⟨b, 0, none⟩ ∧ w1.heap[b]? = some (.cells #[.int .i64 (firstM M)] 3 (0, 0))) ∧ MoW w1 P a (dispM M) tk A
set_option maxHeartbeats 4000000 in
theorem choose_any (w : World) (P : Nat → Prop) (a : MoA) (M : ScM) (tk : Int) (A : Nat → AskX) (h : MoW w P a M tk A) (k who v : Int) (Z : Nat → Int) (x : AskX) : Calls Tryz.prog 29 #[.pointer (some ⟨a.m, 0, none⟩), .agg (moC k who v Z x)] w (MvQ P w (ChooseR P a M tk A)) := by
  obtain ⟨P1, hP1⟩ : ∃ W, W = w.alloc (.cells (moC k who v Z x) 45) := ⟨_, rfl⟩
  obtain ⟨W1, hW1⟩ : ∃ W, W = P1.alloc (.cells (outC 0 zV 0 none 0 0) 51) := ⟨_, rfl⟩
  have kP : Keeps (fun _ => False) w P1 := by rw [hP1]; exact (Keeps.refl _ w).alloc _
  have hb1 : P1.heap[w.heap.size]? = some (.cells (moC k who v Z x) 45 (0, 0)) := by rw [hP1]; exact heap_new _ _
  have k1 : Keeps (fun _ => False) w W1 := by rw [hW1]; exact kP.alloc _
  have hb2 : W1.heap[w.heap.size]? = some (.cells (moC k who v Z x) 45 (0, 0)) := by rw [hW1]; exact ((Keeps.refl (fun _ => False) P1).alloc _).at hb1 fun h => h
  have ho : W1.heap[P1.heap.size]? = some (.cells (outC 0 zV 0 none 0 0) 51 (0, 0)) := by rw [hW1]; exact heap_new _ _
  have hq := h.quiet k1
  have HZ := Lib.hid kP.size
  have HB2 := Lib.hid hb2
  have HO := Lib.hid ho
  have HQ := Lib.hid hq
  have HK1 := Lib.hid k1
  have HP1 := Lib.hid hP1
  have HW1 := Lib.hid hW1
  clear hP1 hW1 kP hb1 k1 hb2 ho
  have c1 := cell_of hq.blk 1
  have lm := hq.lt
  clear hq h
  go_enter Tryz.func29, Tryz.ntmps29
  go_wp2_with (first
    | (refine Great.wpList_boxTo rfl 45 (.tmp 1) rfl (some 3) rfl w.heap.size rfl (moC k who v Z x) rfl ?_; rw [← HP1.out])
    | (refine wpList_alloc_as rfl 51 rfl (some 4) rfl P1.heap.size rfl _ (out_zero _) (outC 0 zV 0 none 0 0) rfl ?_; rw [← HW1.out]))
  refine (disp_any W1 P a.sa M HQ.out.sch).mono ?_
  rintro e w2 ⟨rfl, hs, k2⟩
  have HM := Lib.hid (HQ.out.sched k2 hs rfl)
  have HO2 := Lib.hid (k2.at HO.out (by decide))
  have HK2 := Lib.hid (kM (kM_none (P := P) HK1.out) (kM_S k2))
  clear hs k2 c1 lm
  obtain ⟨W3, hW3⟩ : ∃ W, W = w2.alloc (.cells #[.int .i64 (firstM M)] 3) := ⟨_, rfl⟩
  have k3 : Keeps (fun _ => False) w2 W3 := by rw [hW3]; exact (Keeps.refl _ w2).alloc _
  have hL : W3.heap[w2.heap.size]? = some (.cells #[.int .i64 (firstM M)] 3 (0, 0)) := by rw [hW3]; exact heap_new _ _
  have HL := Lib.hid hL
  have HM3 := Lib.hid (HM.out.quiet k3)
  have HO3 := Lib.hid (k3.at HO2.out fun h => h)
  have HK3 := Lib.hid (kM HK2.out (kM_none (P := P) k3))
  have HW3 := Lib.hid hW3
  have HZ3 := Lib.hid (lt_of HO2.out)
  clear k3 hL hW3
  go_wp2_with (first
    | (refine Great.wpList_buildSliceTo rfl 33 3 1 _ rfl w2.heap.size rfl (some 17) rfl Tryz.underlying33 #[.int .i64 (firstM M)] (by kernel_rfl) ?_; rw [← HW3.out])
    | (refine Great.wpList_buildTo rfl 51 _ rfl (some 18) rfl (outC 0 zV 0 (some ⟨w2.heap.size, 0, none⟩) 1 1) (by kernel_rfl) ?_)
    | (refine wpList_store_row rfl 51 (.tmp 4) (.tmp 18) rfl P1.heap.size (outC 0 zV 0 (some ⟨w2.heap.size, 0, none⟩) 1 1) rfl rfl 51 _ HO3.out out_info rfl (out_one _ _ _ _ _ _) ?_))
  have kq : KeepsTy [51] W3 (W3.setRow P1.heap.size (outC 0 zV 0 (some ⟨w2.heap.size, 0, none⟩) 1 1)) := ((Keeps.refl (fun k => k = P1.heap.size) W3).setRow (.inl rfl) _).mono (fun k _ e => ⟨_, .head _, by obtain rfl : k = P1.heap.size := e; exact ⟨_, _, HO3.out⟩⟩)
  refine bodyPost_ret (v := .tuple #[.agg (outC 0 zV 0 (some ⟨w2.heap.size, 0, none⟩) 1 1), .int .i64 0]) (res_out _ Tryz.results29 _ _ P1.heap.size _ _ rfl rfl rfl (setRow_heap _ _ _ _ _ _ HO3.out)) rfl ?_
  exact ⟨0, zV, 0, some ⟨w2.heap.size, 0, none⟩, 1, 1, 0, rfl, ⟨rfl, rfl, rfl, ⟨w2.heap.size, rfl, (setRow_other _ _ _ _ (Ne.symm (Nat.ne_of_lt HZ3.out))).trans HL.out⟩, HM3.out.out kq⟩, Keeps.setRow HK3.out (.inr HZ.out) _⟩
end Go.Proofs.YtkhmfjfclpehfaaGreat
namespace Go.Proofs.YtkhmfjfclpehfaaGreat
open Go.ChangeShapes Go.WideShapes Go.ChangeAt Go.RowKit
set_option linter.unusedVariables false
set_option linter.unusedSimpArgs false
set_option maxRecDepth 100000
def SayR (P : Nat → Prop) (a : MoA) (M : ScM) (tk : Int) (A : Nat → AskX) (q : Int) : Int → (Nat → Int) → Int → Option Addr → Nat → Nat → Int → World → Prop := fun f V v l n c g w1 => g = q ∧ f = 0 ∧ MoW w1 P a M tk A
set_option maxHeartbeats 4000000 in
theorem askin_low (w : World) (P : Nat → Prop) (a : MoA) (M : ScM) (tk : Int) (A : Nat → AskX) (h : MoW w P a M tk A) (k who v : Int) (Z : Nat → Int) (x : AskX) (hh : who < 0) : Calls Tryz.prog 24 #[.pointer (some ⟨a.m, 0, none⟩), .agg (moC k who v Z x)] w (MvQ P w (SayR P a M tk A 4)) := by
  obtain ⟨P1, hP1⟩ : ∃ W, W = w.alloc (.cells (moC k who v Z x) 45) := ⟨_, rfl⟩
  obtain ⟨W1, hW1⟩ : ∃ W, W = P1.alloc (.cells (outC 0 zV 0 none 0 0) 51) := ⟨_, rfl⟩
  have kP : Keeps (fun _ => False) w P1 := by rw [hP1]; exact (Keeps.refl _ w).alloc _
  have hb1 : P1.heap[w.heap.size]? = some (.cells (moC k who v Z x) 45 (0, 0)) := by rw [hP1]; exact heap_new _ _
  have k1 : Keeps (fun _ => False) w W1 := by rw [hW1]; exact kP.alloc _
  have hb2 : W1.heap[w.heap.size]? = some (.cells (moC k who v Z x) 45 (0, 0)) := by rw [hW1]; exact ((Keeps.refl (fun _ => False) P1).alloc _).at hb1 fun h => h
  have ho : W1.heap[P1.heap.size]? = some (.cells (outC 0 zV 0 none 0 0) 51 (0, 0)) := by rw [hW1]; exact heap_new _ _
  have hq := h.quiet k1
  have HZ := Lib.hid kP.size
  have HB2 := Lib.hid hb2
  have HO := Lib.hid ho
  have HQ := Lib.hid hq
  have HK1 := Lib.hid k1
  have HP1 := Lib.hid hP1
  have HW1 := Lib.hid hW1
  clear hP1 hW1 kP hb1 k1 hb2 ho
  have c4 := cell_of hq.blk 4
  have lm := hq.lt
  have x1 := cell_of HB2.out 1
  have lx := lt_of HB2.out
  have le := h.le
  have d0 : decide (who < 0) = true := decide_eq_true hh
  clear hq h hh
  go_enter Tryz.func24, Tryz.ntmps24
  go_wp2_with (first
    | (refine Great.wpList_boxTo rfl 45 (.tmp 1) rfl (some 3) rfl w.heap.size rfl (moC k who v Z x) rfl ?_; rw [← HP1.out])
    | (refine wpList_alloc_as rfl 51 rfl (some 4) rfl P1.heap.size rfl _ (out_zero _) (outC 0 zV 0 none 0 0) rfl ?_; rw [← HW1.out]))
  go_quiet (fail)
  all_goals
    go_wp2_with (first
      | (refine Great.wpList_buildTo rfl 51 _ rfl (some 19) rfl (outC 0 zV 0 none 0 0) (by kernel_rfl) ?_)
      | (refine wpList_store_row rfl 51 (.tmp 4) (.tmp 19) rfl P1.heap.size (outC 0 zV 0 none 0 0) rfl rfl 51 _ (show (W1.drewN nq).heap[P1.heap.size]? = _ from HO.out) out_info rfl (out_one _ _ _ _ _ _) ?_))
    have kq : KeepsTy [51] (W1.drewN nq) (World.setRow (W1.drewN nq) P1.heap.size (outC 0 zV 0 none 0 0)) := ((Keeps.refl (fun k => k = P1.heap.size) (W1.drewN nq)).setRow (.inl rfl) _).mono (fun k _ e => ⟨_, .head _, by obtain rfl : k = P1.heap.size := e; exact ⟨_, _, (show (W1.drewN nq).heap[P1.heap.size]? = _ from HO.out)⟩⟩)
    refine bodyPost_ret (v := .tuple #[.agg (outC 0 zV 0 none 0 0), .int .i64 4]) (res_out _ Tryz.results24 _ _ P1.heap.size _ _ rfl rfl rfl (setRow_heap _ _ _ _ _ _ (show (W1.drewN nq).heap[P1.heap.size]? = _ from HO.out))) rfl ?_
    exact ⟨0, zV, 0, none, 0, 0, 4, rfl, ⟨rfl, rfl, (HQ.out.quiet ((Keeps.refl _ W1).drewN nq)).out kq⟩, Keeps.setRow (kM_none (P := P) (HK1.out.drewN nq)) (.inr HZ.out) _⟩
set_option maxHeartbeats 4000000 in
theorem askin_high (w : World) (P : Nat → Prop) (a : MoA) (M : ScM) (tk : Int) (A : Nat → AskX) (h : MoW w P a M tk A) (k who v : Int) (Z : Nat → Int) (x : AskX) (hh : (M.many : Int) ≤ who) : Calls Tryz.prog 24 #[.pointer (some ⟨a.m, 0, none⟩), .agg (moC k who v Z x)] w (MvQ P w (SayR P a M tk A 4)) := by
  obtain ⟨P1, hP1⟩ : ∃ W, W = w.alloc (.cells (moC k who v Z x) 45) := ⟨_, rfl⟩
  obtain ⟨W1, hW1⟩ : ∃ W, W = P1.alloc (.cells (outC 0 zV 0 none 0 0) 51) := ⟨_, rfl⟩
  have kP : Keeps (fun _ => False) w P1 := by rw [hP1]; exact (Keeps.refl _ w).alloc _
  have hb1 : P1.heap[w.heap.size]? = some (.cells (moC k who v Z x) 45 (0, 0)) := by rw [hP1]; exact heap_new _ _
  have k1 : Keeps (fun _ => False) w W1 := by rw [hW1]; exact kP.alloc _
  have hb2 : W1.heap[w.heap.size]? = some (.cells (moC k who v Z x) 45 (0, 0)) := by rw [hW1]; exact ((Keeps.refl (fun _ => False) P1).alloc _).at hb1 fun h => h
  have ho : W1.heap[P1.heap.size]? = some (.cells (outC 0 zV 0 none 0 0) 51 (0, 0)) := by rw [hW1]; exact heap_new _ _
  have hq := h.quiet k1
  have HZ := Lib.hid kP.size
  have HB2 := Lib.hid hb2
  have HO := Lib.hid ho
  have HQ := Lib.hid hq
  have HK1 := Lib.hid k1
  have HP1 := Lib.hid hP1
  have HW1 := Lib.hid hW1
  clear hP1 hW1 kP hb1 k1 hb2 ho
  have c4 := cell_of hq.blk 4
  have lm := hq.lt
  have x1 := cell_of HB2.out 1
  have lx := lt_of HB2.out
  have le := h.le
  have d0 : decide (who < 0) = false := decide_eq_false (by omega)
  have d1 : decide ((M.many : Int) ≤ who) = true := decide_eq_true hh
  clear hq h hh
  go_enter Tryz.func24, Tryz.ntmps24
  go_wp2_with (first
    | (refine Great.wpList_boxTo rfl 45 (.tmp 1) rfl (some 3) rfl w.heap.size rfl (moC k who v Z x) rfl ?_; rw [← HP1.out])
    | (refine wpList_alloc_as rfl 51 rfl (some 4) rfl P1.heap.size rfl _ (out_zero _) (outC 0 zV 0 none 0 0) rfl ?_; rw [← HW1.out]))
  go_quiet (fail)
  all_goals
    go_wp2_with (first
      | (refine Great.wpList_buildTo rfl 51 _ rfl (some 19) rfl (outC 0 zV 0 none 0 0) (by kernel_rfl) ?_)
      | (refine wpList_store_row rfl 51 (.tmp 4) (.tmp 19) rfl P1.heap.size (outC 0 zV 0 none 0 0) rfl rfl 51 _ (show (W1.drewN nq).heap[P1.heap.size]? = _ from HO.out) out_info rfl (out_one _ _ _ _ _ _) ?_))
    have kq : KeepsTy [51] (W1.drewN nq) (World.setRow (W1.drewN nq) P1.heap.size (outC 0 zV 0 none 0 0)) := ((Keeps.refl (fun k => k = P1.heap.size) (W1.drewN nq)).setRow (.inl rfl) _).mono (fun k _ e => ⟨_, .head _, by obtain rfl : k = P1.heap.size := e; exact ⟨_, _, (show (W1.drewN nq).heap[P1.heap.size]? = _ from HO.out)⟩⟩)
    refine bodyPost_ret (v := .tuple #[.agg (outC 0 zV 0 none 0 0), .int .i64 4]) (res_out _ Tryz.results24 _ _ P1.heap.size _ _ rfl rfl rfl (setRow_heap _ _ _ _ _ _ (show (W1.drewN nq).heap[P1.heap.size]? = _ from HO.out))) rfl ?_
    exact ⟨0, zV, 0, none, 0, 0, 4, rfl, ⟨rfl, rfl, (HQ.out.quiet ((Keeps.refl _ W1).drewN nq)).out kq⟩, Keeps.setRow (kM_none (P := P) (HK1.out.drewN nq)) (.inr HZ.out) _⟩
set_option maxHeartbeats 4000000 in
theorem askin_had (w : World) (P : Nat → Prop) (a : MoA) (M : ScM) (tk : Int) (A : Nat → AskX) (h : MoW w P a M tk A) (k who v : Int) (Z : Nat → Int) (x : AskX) (t : Nat) (ht : t < M.many) (hw : who = (t : Int)) (hi : (A t).is = true) : Calls Tryz.prog 24 #[.pointer (some ⟨a.m, 0, none⟩), .agg (moC k who v Z x)] w (MvQ P w (SayR P a M tk A 15)) := by
  subst hw
  obtain ⟨P1, hP1⟩ : ∃ W, W = w.alloc (.cells (moC k (t : Int) v Z x) 45) := ⟨_, rfl⟩
  obtain ⟨W1, hW1⟩ : ∃ W, W = P1.alloc (.cells (outC 0 zV 0 none 0 0) 51) := ⟨_, rfl⟩
  have kP : Keeps (fun _ => False) w P1 := by rw [hP1]; exact (Keeps.refl _ w).alloc _
  have hb1 : P1.heap[w.heap.size]? = some (.cells (moC k (t : Int) v Z x) 45 (0, 0)) := by rw [hP1]; exact heap_new _ _
  have k1 : Keeps (fun _ => False) w W1 := by rw [hW1]; exact kP.alloc _
  have hb2 : W1.heap[w.heap.size]? = some (.cells (moC k (t : Int) v Z x) 45 (0, 0)) := by rw [hW1]; exact ((Keeps.refl (fun _ => False) P1).alloc _).at hb1 fun h => h
  have ho : W1.heap[P1.heap.size]? = some (.cells (outC 0 zV 0 none 0 0) 51 (0, 0)) := by rw [hW1]; exact heap_new _ _
  have hq := h.quiet k1
  have HZ := Lib.hid kP.size
  have HB2 := Lib.hid hb2
  have HO := Lib.hid ho
  have HQ := Lib.hid hq
  have HK1 := Lib.hid k1
  have HP1 := Lib.hid hP1
  have HW1 := Lib.hid hW1
  clear hP1 hW1 kP hb1 k1 hb2 ho
  have c4 := cell_of hq.blk 4
  have lm := hq.lt
  have x1 := cell_of HB2.out 1
  have lx := lt_of HB2.out
  have le := h.le
  have d0 : decide ((t : Int) < 0) = false := decide_eq_false (by omega)
  have d1 : decide ((M.many : Int) ≤ (t : Int)) = false := decide_eq_false (by omega)
  have d2 : decide (M.many ≤ t) = false := decide_eq_false (by omega)
  have HA := Lib.hid (fun n => asks_any (W1.drewN n) P a M tk A (hq.quiet ((Keeps.refl _ W1).drewN n)) (t : Int))
  have HP := Lib.hid (show asksP M A (t : Int) = true from by unfold asksP; rw [decide_eq_true (by omega)]; exact hi)
  clear hq h ht hi
  go_enter Tryz.func24, Tryz.ntmps24
  go_wp2_with (first
    | (refine Great.wpList_boxTo rfl 45 (.tmp 1) rfl (some 3) rfl w.heap.size rfl (moC k (t : Int) v Z x) rfl ?_; rw [← HP1.out])
    | (refine wpList_alloc_as rfl 51 rfl (some 4) rfl P1.heap.size rfl _ (out_zero _) (outC 0 zV 0 none 0 0) rfl ?_; rw [← HW1.out]))
  go_quiet (fail)
  all_goals
    go_wp2_with fail
    refine (HA.out nq).mono ?_
    rintro e w2 ⟨rfl, hw2⟩
    subst hw2
    rw [HP.out]
    go_wp2_with (first
      | (refine Great.wpList_buildTo rfl 51 _ rfl (some 24) rfl (outC 0 zV 0 none 0 0) (by kernel_rfl) ?_)
      | (refine wpList_store_row rfl 51 (.tmp 4) (.tmp 24) rfl P1.heap.size (outC 0 zV 0 none 0 0) rfl rfl 51 _ (show (W1.drewN nq).heap[P1.heap.size]? = _ from HO.out) out_info rfl (out_one _ _ _ _ _ _) ?_))
    have kq : KeepsTy [51] (W1.drewN nq) (World.setRow (W1.drewN nq) P1.heap.size (outC 0 zV 0 none 0 0)) := ((Keeps.refl (fun k => k = P1.heap.size) (W1.drewN nq)).setRow (.inl rfl) _).mono (fun k _ e => ⟨_, .head _, by obtain rfl : k = P1.heap.size := e; exact ⟨_, _, (show (W1.drewN nq).heap[P1.heap.size]? = _ from HO.out)⟩⟩)
    refine bodyPost_ret (v := .tuple #[.agg (outC 0 zV 0 none 0 0), .int .i64 15]) (res_out _ Tryz.results24 _ _ P1.heap.size _ _ rfl rfl rfl (setRow_heap _ _ _ _ _ _ (show (W1.drewN nq).heap[P1.heap.size]? = _ from HO.out))) rfl ?_
    exact ⟨0, zV, 0, none, 0, 0, 15, rfl, ⟨rfl, rfl, (HQ.out.quiet ((Keeps.refl _ W1).drewN nq)).out kq⟩, Keeps.setRow (kM_none (P := P) (HK1.out.drewN nq)) (.inr HZ.out) _⟩
theorem MoW.ask {w : World} {P : Nat → Prop} {a : MoA} {M : ScM} {tk : Int} {A : Nat → AskX} (h : MoW w P a M tk A) {t : Nat} (ht : t < M.many) (y : AskX) (hy : y.Ok) (hP : P a.ab) :
    MoW ((((((w.setCell ⟨a.ab, t * 6, none⟩ (.bool y.is)).setCell ⟨a.ab, t * 6 + 1, none⟩ (.int .i64 y.k)).setCell ⟨a.ab, t * 6 + 2, none⟩ (.int .i64 y.o)).setCell ⟨a.ab, t * 6 + 3, none⟩ (.int .u32 (y.m : Int))).setCell ⟨a.ab, t * 6 + 4, none⟩ (.int .u32 (y.d : Int))).setCell ⟨a.ab, t * 6 + 5, none⟩ (.int .u32 (y.b : Int))) P a M tk (upd A t y) ∧
    Keeps (fun k => k = a.ab) w ((((((w.setCell ⟨a.ab, t * 6, none⟩ (.bool y.is)).setCell ⟨a.ab, t * 6 + 1, none⟩ (.int .i64 y.k)).setCell ⟨a.ab, t * 6 + 2, none⟩ (.int .i64 y.o)).setCell ⟨a.ab, t * 6 + 3, none⟩ (.int .u32 (y.m : Int))).setCell ⟨a.ab, t * 6 + 4, none⟩ (.int .u32 (y.d : Int))).setCell ⟨a.ab, t * 6 + 5, none⟩ (.int .u32 (y.b : Int))) := by
  have kk : Keeps (fun k => k = a.ab) w ((((((w.setCell ⟨a.ab, t * 6, none⟩ (.bool y.is)).setCell ⟨a.ab, t * 6 + 1, none⟩ (.int .i64 y.k)).setCell ⟨a.ab, t * 6 + 2, none⟩ (.int .i64 y.o)).setCell ⟨a.ab, t * 6 + 3, none⟩ (.int .u32 (y.m : Int))).setCell ⟨a.ab, t * 6 + 4, none⟩ (.int .u32 (y.d : Int))).setCell ⟨a.ab, t * 6 + 5, none⟩ (.int .u32 (y.b : Int))) := ((((((Keeps.refl (fun k => k = a.ab) w).setCell (p := ⟨a.ab, t * 6, none⟩) (.inl rfl) _).setCell (p := ⟨a.ab, t * 6 + 1, none⟩) (.inl rfl) _).setCell (p := ⟨a.ab, t * 6 + 2, none⟩) (.inl rfl) _).setCell (p := ⟨a.ab, t * 6 + 3, none⟩) (.inl rfl) _).setCell (p := ⟨a.ab, t * 6 + 4, none⟩) (.inl rfl) _).setCell (p := ⟨a.ab, t * 6 + 5, none⟩) (.inl rfl) _
  have kt : KeepsTy [99] w _ := kk.mono (fun k _ e => ⟨_, .head _, by obtain rfl : k = a.ab := e; exact h.asks.ty⟩)
  have hl : ∀ (B : Nat → List Value), (∀ i, i < M.many → (B i).length = 6) → ∀ (j : Nat) (u : Value), ∀ i, i < M.many → ((fun z => if z = t then (B t).set j u else B z) i).length = 6 := by
    intro B hB j u i hi
    by_cases e : i = t
    · simp only [if_pos e, List.length_set]; exact hB t ht
    · simp only [if_neg e]; exact hB i hi
  have l0 : ∀ i, i < M.many → ((fun i => (A i).l) i).length = 6 := fun i _ => rfl
  have r0 := h.asks.set (j := 0) ht (by omega) l0 (.bool y.is)
  have l1 := hl _ l0 0 (.bool y.is)
  have r1 := r0.set (j := 1) ht (by omega) l1 (.int .i64 y.k)
  have l2 := hl _ l1 1 (.int .i64 y.k)
  have r2 := r1.set (j := 2) ht (by omega) l2 (.int .i64 y.o)
  have l3 := hl _ l2 2 (.int .i64 y.o)
  have r3 := r2.set (j := 3) ht (by omega) l3 (.int .u32 (y.m : Int))
  have l4 := hl _ l3 3 (.int .u32 (y.m : Int))
  have r4 := r3.set (j := 4) ht (by omega) l4 (.int .u32 (y.d : Int))
  have l5 := hl _ l4 4 (.int .u32 (y.d : Int))
  have r5 := r4.set (j := 5) ht (by omega) l5 (.int .u32 (y.b : Int))
  refine ⟨⟨kt.at h.blk (by decide), Keeps.at kt h.map fun ⟨T, _, e⟩ => map_no h.map e, h.sch.keepTy kt (by intro T hT; obtain rfl := List.mem_singleton.1 hT; decide), h.n, r5.same ?_, ?_⟩, kk⟩
  · intro i hi
    by_cases e : i = t
    · subst e; simp [upd_at]
    · simp [upd_ne _ _ e, e]
  · intro i hi
    by_cases e : i = t
    · subst e; rw [upd_at]; exact hy
    · rw [upd_ne _ _ e]; exact h.aok i hi
end Go.Proofs.YtkhmfjfclpehfaaGreat
namespace Go.Proofs.YtkhmfjfclpehfaaGreat
open Go.ChangeShapes Go.WideShapes Go.ChangeAt Go.RowKit
set_option linter.unusedVariables false
set_option linter.unusedSimpArgs false
set_option maxRecDepth 100000
set_option maxHeartbeats 4000000 in
theorem askin_new (w : World) (P : Nat → Prop) (a : MoA) (M : ScM) (tk : Int) (A : Nat → AskX) (h : MoW w P a M tk A) (k who v : Int) (Z : Nat → Int) (x : AskX) (t : Nat) (ht : t < M.many) (hw : who = (t : Int)) (hi : (A t).is = false) (hx : x.Ok) (hP : P a.ab) : Calls Tryz.prog 24 #[.pointer (some ⟨a.m, 0, none⟩), .agg (moC k who v Z x)] w (MvQ P w (SayR P a M tk (upd A t ⟨true, x.k, x.o, x.m, x.d, x.b⟩) 0)) := by
  subst hw
  obtain ⟨P1, hP1⟩ : ∃ W, W = w.alloc (.cells (moC k (t : Int) v Z x) 45) := ⟨_, rfl⟩
  obtain ⟨W1, hW1⟩ : ∃ W, W = P1.alloc (.cells (outC 0 zV 0 none 0 0) 51) := ⟨_, rfl⟩
  have kP : Keeps (fun _ => False) w P1 := by rw [hP1]; exact (Keeps.refl _ w).alloc _
  have hb1 : P1.heap[w.heap.size]? = some (.cells (moC k (t : Int) v Z x) 45 (0, 0)) := by rw [hP1]; exact heap_new _ _
  have k1 : Keeps (fun _ => False) w W1 := by rw [hW1]; exact kP.alloc _
  have hb2 : W1.heap[w.heap.size]? = some (.cells (moC k (t : Int) v Z x) 45 (0, 0)) := by rw [hW1]; exact ((Keeps.refl (fun _ => False) P1).alloc _).at hb1 fun h => h
  have ho : W1.heap[P1.heap.size]? = some (.cells (outC 0 zV 0 none 0 0) 51 (0, 0)) := by rw [hW1]; exact heap_new _ _
  have hq := h.quiet k1
  have HZ := Lib.hid kP.size
  have HB2 := Lib.hid hb2
  have HO := Lib.hid ho
  have HQ := Lib.hid hq
  have HK1 := Lib.hid k1
  have HP1 := Lib.hid hP1
  have HW1 := Lib.hid hW1
  clear hP1 hW1 kP hb1 k1 hb2 ho
  have c4 := cell_of hq.blk 4
  have lm := hq.lt
  have x1 := cell_of HB2.out 1
  have lx := lt_of HB2.out
  have le := h.le
  have d0 : decide ((t : Int) < 0) = false := decide_eq_false (by omega)
  have d1 : decide ((M.many : Int) ≤ (t : Int)) = false := decide_eq_false (by omega)
  have d2 : decide (M.many ≤ t) = false := decide_eq_false (by omega)
  have HA := Lib.hid (fun n => asks_any (W1.drewN n) P a M tk A (hq.quiet ((Keeps.refl _ W1).drewN n)) (t : Int))
  have HP := Lib.hid (show asksP M A (t : Int) = false from by unfold asksP; rw [show (A (t : Int).toNat).is = false from hi]; exact Bool.and_false _)
  have HT := Lib.hid ht
  have HX := Lib.hid (And.intro hx hP)
  clear hq h ht hi hx hP
  go_enter Tryz.func24, Tryz.ntmps24
  go_wp2_with (first
    | (refine Great.wpList_boxTo rfl 45 (.tmp 1) rfl (some 3) rfl w.heap.size rfl (moC k (t : Int) v Z x) rfl ?_; rw [← HP1.out])
    | (refine wpList_alloc_as rfl 51 rfl (some 4) rfl P1.heap.size rfl _ (out_zero _) (outC 0 zV 0 none 0 0) rfl ?_; rw [← HW1.out]))
  go_quiet (fail)
  all_goals
    go_wp2_with fail
    refine (HA.out nq).mono ?_
    rintro e w2 ⟨rfl, hw2⟩
    subst hw2
    rw [HP.out]
    go_wp2_with fail
    have k3 : Keeps (fun _ => False) W1 (W1.drewN nq) := (Keeps.refl _ W1).drewN nq
    have HQ3 := Lib.hid (HQ.out.quiet k3)
    have HO3 := Lib.hid (k3.at HO.out fun h => h)
    have HB3 := Lib.hid (k3.at HB2.out fun h => h)
    have HK3 := Lib.hid (HK1.out.trans k3)
    clear k3 c4 lm x1 lx
    generalize W1.drewN nq = Wg at *
    have htl := HT.out
    have htl2 : (t : Int) < (M.many : Int) := by omega
    obtain ⟨s0, s1, s2, s3, s4, s5⟩ := HQ3.out.six HT.out
    have u0 := HQ3.out.asks.free (t * 6)
    have u1 := HQ3.out.asks.free (t * 6 + 1)
    have u2 := HQ3.out.asks.free (t * 6 + 2)
    have u3 := HQ3.out.asks.free (t * 6 + 3)
    have u4 := HQ3.out.asks.free (t * 6 + 4)
    have u5 := HQ3.out.asks.free (t * 6 + 5)
    have la := HQ3.out.asks.lt
    have c4 := cell_of HQ3.out.blk 4
    have lm := HQ3.out.lt
    have x1 := cell_of HB3.out 1
    have y0 := cell_of HB3.out 15
    have y1 := cell_of HB3.out 16
    have y2 := cell_of HB3.out 17
    have y3 := cell_of HB3.out 18
    have y4 := cell_of HB3.out 19
    have lx := lt_of HB3.out
    have hne : w.heap.size ≠ a.ab := fun e => by
      have h1 := HQ3.out.asks.ty
      rw [← e] at h1
      exact Ty.ne ⟨_, _, HB3.out⟩ h1 (by decide) rfl
    have hne2 : a.m ≠ a.ab := Ty.ne ⟨_, _, HQ3.out.blk⟩ HQ3.out.asks.ty (by decide)
    go_region
    all_goals
      obtain ⟨hm5, kk5⟩ := HQ3.out.ask HT.out ⟨true, x.k, x.o, x.m, x.d, x.b⟩ ⟨HX.out.1.d, HX.out.1.b⟩ HX.out.2
      have hm9 := hm5.quiet ((Keeps.refl (fun _ => False) _).drew)
      have kk9 := kk5.drew
      clear hm5 kk5 s0 s1 s2 s3 s4 s5 u0 u1 u2 u3 u4 u5 la c4 lm
      generalize hW9 : World.drew _ = W9 at hm9 kk9 ⊢
      have HM9 := Lib.hid hm9
      have HO9 := Lib.hid (kk9.at HO3.out (Ty.ne ⟨_, _, HO3.out⟩ HQ3.out.asks.ty (by decide)))
      have HK9 := Lib.hid (kM (kM_none (P := P) HK3.out) (kM_one kk9 HQ3.out.asks.ty (by decide) HX.out.2))
      clear hm9 kk9 hW9
      go_wp2_with (first
        | (refine Great.wpList_buildTo rfl 51 _ rfl (some 35) rfl (outC 0 zV 0 none 0 0) (by kernel_rfl) ?_)
        | (refine wpList_store_row rfl 51 (.tmp 4) (.tmp 35) rfl P1.heap.size (outC 0 zV 0 none 0 0) rfl rfl 51 _ HO9.out out_info rfl (out_one _ _ _ _ _ _) ?_))
      have kq : KeepsTy [51] W9 (World.setRow W9 P1.heap.size (outC 0 zV 0 none 0 0)) := ((Keeps.refl (fun k => k = P1.heap.size) W9).setRow (.inl rfl) _).mono (fun k _ e => ⟨_, .head _, by obtain rfl : k = P1.heap.size := e; exact ⟨_, _, HO9.out⟩⟩)
      refine bodyPost_ret (v := .tuple #[.agg (outC 0 zV 0 none 0 0), .int .i64 0]) (res_out _ Tryz.results24 _ _ P1.heap.size _ _ rfl rfl rfl (setRow_heap _ _ _ _ _ _ HO9.out)) rfl ?_
      exact ⟨0, zV, 0, none, 0, 0, 0, rfl, ⟨rfl, rfl, HM9.out.out kq⟩, Keeps.setRow HK9.out (.inr HZ.out) _⟩
end Go.Proofs.YtkhmfjfclpehfaaGreat
namespace Go.Proofs.YtkhmfjfclpehfaaGreat
open Go.ChangeShapes Go.WideShapes Go.ChangeAt Go.RowKit
set_option linter.unusedVariables false
set_option linter.unusedSimpArgs false
theorem leaveM_many (M : ScM) (t : Nat) (s : Int) : (leaveM M t s).many = M.many := leave_many t s
theorem limitM_many (M : ScM) (t n : Nat) : (limitM M t n).many = M.many := by unfold limitM; split <;> rfl
theorem giveM_many (M : ScM) (t : Nat) (x : Bool × Int × Int) : (giveM M t x).many = M.many := by unfold giveM; split <;> rfl
theorem waitM_many (M : ScM) (t : Nat) (k o : Int) (m n : Nat) : (waitM M t k o m n).many = M.many := by
  unfold waitM
  split
  · rw [limitM_many]; exact leaveM_many M t 2
  · exact leaveM_many M t 2
theorem serve_many (M : ScM) (k o : Int) (m d b : Nat) : (serveM M k o m d b).1.many = M.many := by
  unfold serveM sleepM yieldM awaitM
  repeat' split
  all_goals first
    | rfl
    | exact leaveM_many _ _ _
    | exact giveM_many _ _ _
    | (rw [limitM_many]; exact leaveM_many _ _ _)
    | exact waitM_many _ _ _ _ _ _
theorem wakeS_many (M : ScM) (t : Nat) : (wakeS M t).many = M.many := by
  unfold wakeS resumeM
  have e : ({ endM M t with T := fun z => if z = (t : Int) then 0 else M.T z, W := remW M.W (t : Int) } : ScM).many = M.many := by
    unfold endM
    split <;> rfl
  generalize ({ endM M t with T := fun z => if z = (t : Int) then 0 else M.T z, W := remW M.W (t : Int) } : ScM) = M' at e
  split
  · rw [← e]; unfold wakeM; split <;> rfl
  · exact e
end Go.Proofs.YtkhmfjfclpehfaaGreat
namespace Go.Proofs.YtkhmfjfclpehfaaGreat
open Go.ChangeShapes Go.WideShapes Go.ChangeAt Go.RowKit
set_option linter.unusedVariables false
set_option linter.unusedSimpArgs false
set_option maxRecDepth 100000
set_option maxHeartbeats 4000000 in
theorem serve_not (w : World) (P : Nat → Prop) (a : MoA) (M : ScM) (tk : Int) (A : Nat → AskX) (h : MoW w P a M tk A) (k who v : Int) (Z : Nat → Int) (x : AskX) (hw : who ≠ M.cur) : Calls Tryz.prog 25 #[.pointer (some ⟨a.m, 0, none⟩), .agg (moC k who v Z x)] w (MvQ P w (SayR P a M tk A 15)) := by
  obtain ⟨P1, hP1⟩ : ∃ W, W = w.alloc (.cells (moC k who v Z x) 45) := ⟨_, rfl⟩
  obtain ⟨W1, hW1⟩ : ∃ W, W = P1.alloc (.cells (outC 0 zV 0 none 0 0) 51) := ⟨_, rfl⟩
  have kP : Keeps (fun _ => False) w P1 := by rw [hP1]; exact (Keeps.refl _ w).alloc _
  have hb1 : P1.heap[w.heap.size]? = some (.cells (moC k who v Z x) 45 (0, 0)) := by rw [hP1]; exact heap_new _ _
  have k1 : Keeps (fun _ => False) w W1 := by rw [hW1]; exact kP.alloc _
  have hb2 : W1.heap[w.heap.size]? = some (.cells (moC k who v Z x) 45 (0, 0)) := by rw [hW1]; exact ((Keeps.refl (fun _ => False) P1).alloc _).at hb1 fun h => h
  have ho : W1.heap[P1.heap.size]? = some (.cells (outC 0 zV 0 none 0 0) 51 (0, 0)) := by rw [hW1]; exact heap_new _ _
  have hq := h.quiet k1
  have HZ := Lib.hid kP.size
  have HB2 := Lib.hid hb2
  have HO := Lib.hid ho
  have HQ := Lib.hid hq
  have HK1 := Lib.hid k1
  have HP1 := Lib.hid hP1
  have HW1 := Lib.hid hW1
  clear hP1 hW1 kP hb1 k1 hb2 ho
  have c1 := cell_of hq.blk 1
  have lm := hq.lt
  have x1 := cell_of HB2.out 1
  have lx := lt_of HB2.out
  have HCU1 := Lib.hid (fun (W : World) (k : Keeps (fun _ => False) W1 W) => current_any W P a.sa M (hq.quiet k).sch)
  have HAS1 := Lib.hid (fun (W : World) (k : Keeps (fun _ => False) W1 W) (t : Int) => asks_any W P a M tk A (hq.quiet k) t)
  have HSS := Lib.hid (show W1.drew.cell? ⟨w.heap.size, 1, none⟩ = some (.int .i64 who) ∧ W1.drew.cell? ⟨a.m, 1, none⟩ = some (.pointer (some ⟨a.sa.s, 0, none⟩)) from And.intro x1 c1)
  have d0 : (who != M.cur) = true := by rw [bne_iff_ne]; exact hw
  clear hq h
  go_enter Tryz.func25, Tryz.ntmps25
  go_wp2_with (first
    | (refine Great.wpList_boxTo rfl 45 (.tmp 1) rfl (some 3) rfl w.heap.size rfl (moC k who v Z x) rfl ?_; rw [← HP1.out])
    | (refine wpList_alloc_as rfl 51 rfl (some 4) rfl P1.heap.size rfl _ (out_zero _) (outC 0 zV 0 none 0 0) rfl ?_; rw [← HW1.out]))
  refine wp_region_noPanic ?_
  refine wp_region_held_drew (S := (fun w' => w'.cell? ⟨w.heap.size, 1, none⟩ = some (.int .i64 who) ∧ w'.cell? ⟨a.m, 1, none⟩ = some (.pointer (some ⟨a.sa.s, 0, none⟩)))) (by kernel_rfl) ?_ (fun hHeld => ?_)
  · exact HSS.out
  refine wpAnyH_take (i := 0) (v := ?_) rfl (by kernel_rfl) (by kernel_rfl) (by kernel_rfl) (fun _ _ _ h => h) (Or.inl ⟨by rfl, ?_⟩) (by assumption) ?_
  rotate_left
  · (intro w hSw; (try dsimp only at hSw); go_simp; try with_reducible rfl)
  simp only [Act.put, List.getElem_toArray, List.getElem_cons_zero, List.getElem_cons_succ, List.setIfInBounds_toArray, List.set_cons_zero, List.set_cons_succ]
  refine wpAnyH_take (i := 1) (v := ?_) rfl (by kernel_rfl) (by kernel_rfl) (by kernel_rfl) (fun _ _ _ h => h) (Or.inl ⟨by rfl, ?_⟩) (by assumption) ?_
  rotate_left
  · (intro w hSw; (try dsimp only at hSw); go_simp; try with_reducible rfl)
  simp only [Act.put, List.getElem_toArray, List.getElem_cons_zero, List.getElem_cons_succ, List.setIfInBounds_toArray, List.set_cons_zero, List.set_cons_succ]
  refine wpAnyH_take (i := 2) (v := ?_) rfl (by kernel_rfl) (by kernel_rfl) (by kernel_rfl) (fun _ _ _ h => h) (Or.inl ⟨by rfl, ?_⟩) (by assumption) ?_
  rotate_left
  · (intro w hSw; (try dsimp only at hSw); go_simp; try with_reducible rfl)
  simp only [Act.put, List.getElem_toArray, List.getElem_cons_zero, List.getElem_cons_succ, List.setIfInBounds_toArray, List.set_cons_zero, List.set_cons_succ]
  refine wpAnyH_take (i := 3) (v := ?_) rfl (by kernel_rfl) (by kernel_rfl) (by kernel_rfl) (fun _ _ _ h => h) (Or.inl ⟨by rfl, ?_⟩) (by assumption) ?_
  rotate_left
  · (intro w hSw; (try dsimp only at hSw); go_simp; try with_reducible rfl)
  simp only [Act.put, List.getElem_toArray, List.getElem_cons_zero, List.getElem_cons_succ, List.setIfInBounds_toArray, List.set_cons_zero, List.set_cons_succ]
  refine wpAnyH_take (i := 4) (v := ?_) rfl (by kernel_rfl) (by kernel_rfl) (by kernel_rfl) (fun _ _ _ h => h) (Or.inl ⟨by rfl, ?_⟩) (by assumption) ?_
  rotate_left
  · (intro w hSw; (try dsimp only at hSw); go_simp; try with_reducible rfl)
  simp only [Act.put, List.getElem_toArray, List.getElem_cons_zero, List.getElem_cons_succ, List.setIfInBounds_toArray, List.set_cons_zero, List.set_cons_succ]
  refine wpAnyH_take (i := 5) (v := ?_) rfl (by kernel_rfl) (by kernel_rfl) (by kernel_rfl) (fun _ _ _ h => h) (Or.inl ⟨by rfl, ?_⟩) (by assumption) ?_
  rotate_left
  · (intro w hSw; (try dsimp only at hSw); go_simp; try with_reducible rfl)
  simp only [Act.put, List.getElem_toArray, List.getElem_cons_zero, List.getElem_cons_succ, List.setIfInBounds_toArray, List.set_cons_zero, List.set_cons_succ]
  refine wpAnyH_ready (rs := [6]) (by kernel_rfl) (by simp) ?_
  refine AllReadyH.cons rfl (fun K hK => ?_) AllReadyH.nil
  go_simp
  (go_at_call 15; refine (HCU1.out _ (Keeps.refl _ W1).drew).mono ?_; rintro e9 w9 ⟨rfl, hw9⟩; subst hw9)
  go_wp2_with fail
  refine hK.out _ _ ?_ (fun hHeld => ?_)
  · ((try dsimp only); exact HSS.out)
  clear hK K
  try simp only [Act.put, List.getElem_toArray, List.getElem_cons_zero, List.getElem_cons_succ, List.setIfInBounds_toArray, List.set_cons_zero, List.set_cons_succ]
  refine wpAnyH_take (i := 7) (v := ?_) rfl (by kernel_rfl) (by kernel_rfl) (by kernel_rfl) (fun _ _ _ h => h) (Or.inl ⟨by rfl, ?_⟩) (by assumption) ?_
  rotate_left
  · (intro w hSw; (try dsimp only at hSw); go_simp; try with_reducible rfl)
  simp only [Act.put, List.getElem_toArray, List.getElem_cons_zero, List.getElem_cons_succ, List.setIfInBounds_toArray, List.set_cons_zero, List.set_cons_succ]
  refine wpAnyH_take (i := 8) (v := ?_) rfl (by kernel_rfl) (by kernel_rfl) (by kernel_rfl) (fun _ _ _ h => h) (Or.inl ⟨by rfl, ?_⟩) (by assumption) ?_
  rotate_left
  · (intro w hSw; (try dsimp only at hSw); go_simp; try with_reducible rfl)
  simp only [Act.put, List.getElem_toArray, List.getElem_cons_zero, List.getElem_cons_succ, List.setIfInBounds_toArray, List.set_cons_zero, List.set_cons_succ]
  refine wpAnyH_take (i := 9) (v := undef) rfl (by kernel_rfl) (by kernel_rfl) (by kernel_rfl) (fun _ _ _ h => h) (Or.inr ⟨by rfl, rfl⟩) (by assumption) ?_
  simp only [Act.put, List.getElem_toArray, List.getElem_cons_zero, List.getElem_cons_succ, List.setIfInBounds_toArray, List.set_cons_zero, List.set_cons_succ]
  refine wpAnyH_take (i := 10) (v := undef) rfl (by kernel_rfl) (by kernel_rfl) (by kernel_rfl) (fun _ _ _ h => h) (Or.inr ⟨by rfl, rfl⟩) (by assumption) ?_
  simp only [Act.put, List.getElem_toArray, List.getElem_cons_zero, List.getElem_cons_succ, List.setIfInBounds_toArray, List.set_cons_zero, List.set_cons_succ]
  refine wpAnyH_take (i := 11) (v := undef) rfl (by kernel_rfl) (by kernel_rfl) (by kernel_rfl) (fun _ _ _ h => h) (Or.inr ⟨by rfl, rfl⟩) (by assumption) ?_
  simp only [Act.put, List.getElem_toArray, List.getElem_cons_zero, List.getElem_cons_succ, List.setIfInBounds_toArray, List.set_cons_zero, List.set_cons_succ]
  refine wpAnyH_take (i := 12) (v := undef) rfl (by kernel_rfl) (by kernel_rfl) (by kernel_rfl) (fun _ _ _ h => h) (Or.inr ⟨by rfl, rfl⟩) (by assumption) ?_
  simp only [Act.put, List.getElem_toArray, List.getElem_cons_zero, List.getElem_cons_succ, List.setIfInBounds_toArray, List.set_cons_zero, List.set_cons_succ]
  refine wpAnyH_take (i := 13) (v := undef) rfl (by kernel_rfl) (by kernel_rfl) (by kernel_rfl) (fun _ _ _ h => h) (Or.inr ⟨by rfl, rfl⟩) (by assumption) ?_
  simp only [Act.put, List.getElem_toArray, List.getElem_cons_zero, List.getElem_cons_succ, List.setIfInBounds_toArray, List.set_cons_zero, List.set_cons_succ]
  refine wpAnyH_take (i := 14) (v := ?_) rfl (by kernel_rfl) (by kernel_rfl) (by kernel_rfl) (fun _ _ _ h => h) (Or.inl ⟨by rfl, ?_⟩) (by assumption) ?_
  rotate_left
  · (intro w hSw; (try dsimp only at hSw); go_simp; try with_reducible rfl)
  simp only [Act.put, List.getElem_toArray, List.getElem_cons_zero, List.getElem_cons_succ, List.setIfInBounds_toArray, List.set_cons_zero, List.set_cons_succ]
  refine wpAnyH_done (by kernel_rfl) ?_ _
  refine NoPanic.normal ?_
  clear c1 lm x1 lx d0
  go_wp2_with (first
    | (refine Great.wpList_buildTo rfl 51 _ rfl (some 22) rfl (outC 0 zV 0 none 0 0) (by kernel_rfl) ?_)
    | (refine wpList_store_row rfl 51 (.tmp 4) (.tmp 22) rfl P1.heap.size (outC 0 zV 0 none 0 0) rfl rfl 51 _ (show W1.drew.heap[P1.heap.size]? = _ from HO.out) out_info rfl (out_one _ _ _ _ _ _) ?_))
  have kq : KeepsTy [51] W1.drew (World.setRow W1.drew P1.heap.size (outC 0 zV 0 none 0 0)) := ((Keeps.refl (fun k => k = P1.heap.size) W1.drew).setRow (.inl rfl) _).mono (fun k _ e => ⟨_, .head _, by obtain rfl : k = P1.heap.size := e; exact ⟨_, _, (show W1.drew.heap[P1.heap.size]? = _ from HO.out)⟩⟩)
  refine bodyPost_ret (v := .tuple #[.agg (outC 0 zV 0 none 0 0), .int .i64 15]) (res_out _ Tryz.results25 _ _ P1.heap.size _ _ rfl rfl rfl (setRow_heap _ _ _ _ _ _ (show W1.drew.heap[P1.heap.size]? = _ from HO.out))) rfl ?_
  exact ⟨0, zV, 0, none, 0, 0, 15, rfl, ⟨rfl, rfl, (HQ.out.quiet (Keeps.refl _ W1).drew).out kq⟩, Keeps.setRow (kM_none (P := P) HK1.out.drew) (.inr HZ.out) _⟩
set_option maxHeartbeats 4000000 in
theorem serve_none (w : World) (P : Nat → Prop) (a : MoA) (M : ScM) (tk : Int) (A : Nat → AskX) (h : MoW w P a M tk A) (k v : Int) (Z : Nat → Int) (x : AskX) (ha : asksP M A M.cur = false) : Calls Tryz.prog 25 #[.pointer (some ⟨a.m, 0, none⟩), .agg (moC k M.cur v Z x)] w (MvQ P w (SayR P a M tk A 15)) := by
  have HPA := Lib.hid ha
  obtain ⟨P1, hP1⟩ : ∃ W, W = w.alloc (.cells (moC k M.cur v Z x) 45) := ⟨_, rfl⟩
  obtain ⟨W1, hW1⟩ : ∃ W, W = P1.alloc (.cells (outC 0 zV 0 none 0 0) 51) := ⟨_, rfl⟩
  have kP : Keeps (fun _ => False) w P1 := by rw [hP1]; exact (Keeps.refl _ w).alloc _
  have hb1 : P1.heap[w.heap.size]? = some (.cells (moC k M.cur v Z x) 45 (0, 0)) := by rw [hP1]; exact heap_new _ _
  have k1 : Keeps (fun _ => False) w W1 := by rw [hW1]; exact kP.alloc _
  have hb2 : W1.heap[w.heap.size]? = some (.cells (moC k M.cur v Z x) 45 (0, 0)) := by rw [hW1]; exact ((Keeps.refl (fun _ => False) P1).alloc _).at hb1 fun h => h
  have ho : W1.heap[P1.heap.size]? = some (.cells (outC 0 zV 0 none 0 0) 51 (0, 0)) := by rw [hW1]; exact heap_new _ _
  have hq := h.quiet k1
  have HZ := Lib.hid kP.size
  have HB2 := Lib.hid hb2
  have HO := Lib.hid ho
  have HQ := Lib.hid hq
  have HK1 := Lib.hid k1
  have HP1 := Lib.hid hP1
  have HW1 := Lib.hid hW1
  clear hP1 hW1 kP hb1 k1 hb2 ho
  have c1 := cell_of hq.blk 1
  have lm := hq.lt
  have x1 := cell_of HB2.out 1
  have lx := lt_of HB2.out
  have HCU1 := Lib.hid (fun (W : World) (k : Keeps (fun _ => False) W1 W) => current_any W P a.sa M (hq.quiet k).sch)
  have HAS1 := Lib.hid (fun (W : World) (k : Keeps (fun _ => False) W1 W) (t : Int) => asks_any W P a M tk A (hq.quiet k) t)
  have HSS := Lib.hid (show W1.drew.cell? ⟨w.heap.size, 1, none⟩ = some (.int .i64 M.cur) ∧ W1.drew.cell? ⟨a.m, 1, none⟩ = some (.pointer (some ⟨a.sa.s, 0, none⟩)) from And.intro x1 c1)
  have d0 : (M.cur != M.cur) = false := by simp
  clear hq h ha
  go_enter Tryz.func25, Tryz.ntmps25
  go_wp2_with (first
    | (refine Great.wpList_boxTo rfl 45 (.tmp 1) rfl (some 3) rfl w.heap.size rfl (moC k M.cur v Z x) rfl ?_; rw [← HP1.out])
    | (refine wpList_alloc_as rfl 51 rfl (some 4) rfl P1.heap.size rfl _ (out_zero _) (outC 0 zV 0 none 0 0) rfl ?_; rw [← HW1.out]))
  refine wp_region_noPanic ?_
  refine wp_region_held_drew (S := (fun w' => w'.cell? ⟨w.heap.size, 1, none⟩ = some (.int .i64 M.cur) ∧ w'.cell? ⟨a.m, 1, none⟩ = some (.pointer (some ⟨a.sa.s, 0, none⟩)))) (by kernel_rfl) ?_ (fun hHeld => ?_)
  · exact HSS.out
  refine wpAnyH_take (i := 0) (v := ?_) rfl (by kernel_rfl) (by kernel_rfl) (by kernel_rfl) (fun _ _ _ h => h) (Or.inl ⟨by rfl, ?_⟩) (by assumption) ?_
  rotate_left
  · (intro w hSw; (try dsimp only at hSw); go_simp; try with_reducible rfl)
  simp only [Act.put, List.getElem_toArray, List.getElem_cons_zero, List.getElem_cons_succ, List.setIfInBounds_toArray, List.set_cons_zero, List.set_cons_succ]
  refine wpAnyH_take (i := 1) (v := ?_) rfl (by kernel_rfl) (by kernel_rfl) (by kernel_rfl) (fun _ _ _ h => h) (Or.inl ⟨by rfl, ?_⟩) (by assumption) ?_
  rotate_left
  · (intro w hSw; (try dsimp only at hSw); go_simp; try with_reducible rfl)
  simp only [Act.put, List.getElem_toArray, List.getElem_cons_zero, List.getElem_cons_succ, List.setIfInBounds_toArray, List.set_cons_zero, List.set_cons_succ]
  refine wpAnyH_take (i := 2) (v := ?_) rfl (by kernel_rfl) (by kernel_rfl) (by kernel_rfl) (fun _ _ _ h => h) (Or.inl ⟨by rfl, ?_⟩) (by assumption) ?_
  rotate_left
  · (intro w hSw; (try dsimp only at hSw); go_simp; try with_reducible rfl)
  simp only [Act.put, List.getElem_toArray, List.getElem_cons_zero, List.getElem_cons_succ, List.setIfInBounds_toArray, List.set_cons_zero, List.set_cons_succ]
  refine wpAnyH_take (i := 3) (v := ?_) rfl (by kernel_rfl) (by kernel_rfl) (by kernel_rfl) (fun _ _ _ h => h) (Or.inl ⟨by rfl, ?_⟩) (by assumption) ?_
  rotate_left
  · (intro w hSw; (try dsimp only at hSw); go_simp; try with_reducible rfl)
  simp only [Act.put, List.getElem_toArray, List.getElem_cons_zero, List.getElem_cons_succ, List.setIfInBounds_toArray, List.set_cons_zero, List.set_cons_succ]
  refine wpAnyH_take (i := 4) (v := ?_) rfl (by kernel_rfl) (by kernel_rfl) (by kernel_rfl) (fun _ _ _ h => h) (Or.inl ⟨by rfl, ?_⟩) (by assumption) ?_
  rotate_left
  · (intro w hSw; (try dsimp only at hSw); go_simp; try with_reducible rfl)
  simp only [Act.put, List.getElem_toArray, List.getElem_cons_zero, List.getElem_cons_succ, List.setIfInBounds_toArray, List.set_cons_zero, List.set_cons_succ]
  refine wpAnyH_take (i := 5) (v := ?_) rfl (by kernel_rfl) (by kernel_rfl) (by kernel_rfl) (fun _ _ _ h => h) (Or.inl ⟨by rfl, ?_⟩) (by assumption) ?_
  rotate_left
  · (intro w hSw; (try dsimp only at hSw); go_simp; try with_reducible rfl)
  simp only [Act.put, List.getElem_toArray, List.getElem_cons_zero, List.getElem_cons_succ, List.setIfInBounds_toArray, List.set_cons_zero, List.set_cons_succ]
  refine wpAnyH_ready (rs := [6]) (by kernel_rfl) (by simp) ?_
  refine AllReadyH.cons rfl (fun K hK => ?_) AllReadyH.nil
  go_simp
  (go_at_call 15; refine (HCU1.out _ (Keeps.refl _ W1).drew).mono ?_; rintro e9 w9 ⟨rfl, hw9⟩; subst hw9)
  go_wp2_with fail
  refine hK.out _ _ ?_ (fun hHeld => ?_)
  · ((try dsimp only); exact HSS.out)
  clear hK K
  try simp only [Act.put, List.getElem_toArray, List.getElem_cons_zero, List.getElem_cons_succ, List.setIfInBounds_toArray, List.set_cons_zero, List.set_cons_succ]
  refine wpAnyH_take (i := 7) (v := ?_) rfl (by kernel_rfl) (by kernel_rfl) (by kernel_rfl) (fun _ _ _ h => h) (Or.inl ⟨by rfl, ?_⟩) (by assumption) ?_
  rotate_left
  · (intro w hSw; (try dsimp only at hSw); go_simp; try with_reducible rfl)
  simp only [Act.put, List.getElem_toArray, List.getElem_cons_zero, List.getElem_cons_succ, List.setIfInBounds_toArray, List.set_cons_zero, List.set_cons_succ]
  refine wpAnyH_take (i := 8) (v := ?_) rfl (by kernel_rfl) (by kernel_rfl) (by kernel_rfl) (fun _ _ _ h => h) (Or.inl ⟨by rfl, ?_⟩) (by assumption) ?_
  rotate_left
  · (intro w hSw; (try dsimp only at hSw); go_simp; try with_reducible rfl)
  simp only [Act.put, List.getElem_toArray, List.getElem_cons_zero, List.getElem_cons_succ, List.setIfInBounds_toArray, List.set_cons_zero, List.set_cons_succ]
  refine wpAnyH_take (i := 9) (v := ?_) rfl (by kernel_rfl) (by kernel_rfl) (by kernel_rfl) (fun _ _ _ h => h) (Or.inl ⟨by rfl, ?_⟩) (by assumption) ?_
  rotate_left
  · (intro w hSw; (try dsimp only at hSw); go_simp; try with_reducible rfl)
  simp only [Act.put, List.getElem_toArray, List.getElem_cons_zero, List.getElem_cons_succ, List.setIfInBounds_toArray, List.set_cons_zero, List.set_cons_succ]
  refine wpAnyH_take (i := 10) (v := ?_) rfl (by kernel_rfl) (by kernel_rfl) (by kernel_rfl) (fun _ _ _ h => h) (Or.inl ⟨by rfl, ?_⟩) (by assumption) ?_
  rotate_left
  · (intro w hSw; (try dsimp only at hSw); go_simp; try with_reducible rfl)
  simp only [Act.put, List.getElem_toArray, List.getElem_cons_zero, List.getElem_cons_succ, List.setIfInBounds_toArray, List.set_cons_zero, List.set_cons_succ]
  refine wpAnyH_take (i := 11) (v := ?_) rfl (by kernel_rfl) (by kernel_rfl) (by kernel_rfl) (fun _ _ _ h => h) (Or.inl ⟨by rfl, ?_⟩) (by assumption) ?_
  rotate_left
  · (intro w hSw; (try dsimp only at hSw); go_simp; try with_reducible rfl)
  simp only [Act.put, List.getElem_toArray, List.getElem_cons_zero, List.getElem_cons_succ, List.setIfInBounds_toArray, List.set_cons_zero, List.set_cons_succ]
  refine wpAnyH_ready (rs := [12]) (by kernel_rfl) (by simp) ?_
  refine AllReadyH.cons rfl (fun K hK => ?_) AllReadyH.nil
  go_simp
  (go_at_call 16; refine (HAS1.out _ (Keeps.refl _ W1).drew _).mono ?_; rintro e9 w9 ⟨rfl, hw9⟩; subst hw9; rw [HPA.out])
  go_wp2_with fail
  refine hK.out _ _ ?_ (fun hHeld => ?_)
  · ((try dsimp only); exact HSS.out)
  clear hK K
  try simp only [Act.put, List.getElem_toArray, List.getElem_cons_zero, List.getElem_cons_succ, List.setIfInBounds_toArray, List.set_cons_zero, List.set_cons_succ]
  refine wpAnyH_take (i := 13) (v := ?_) rfl (by kernel_rfl) (by kernel_rfl) (by kernel_rfl) (fun _ _ _ h => h) (Or.inl ⟨by rfl, ?_⟩) (by assumption) ?_
  rotate_left
  · (intro w hSw; (try dsimp only at hSw); go_simp; try with_reducible rfl)
  simp only [Act.put, List.getElem_toArray, List.getElem_cons_zero, List.getElem_cons_succ, List.setIfInBounds_toArray, List.set_cons_zero, List.set_cons_succ]
  refine wpAnyH_take (i := 14) (v := ?_) rfl (by kernel_rfl) (by kernel_rfl) (by kernel_rfl) (fun _ _ _ h => h) (Or.inl ⟨by rfl, ?_⟩) (by assumption) ?_
  rotate_left
  · (intro w hSw; (try dsimp only at hSw); go_simp; try with_reducible rfl)
  simp only [Act.put, List.getElem_toArray, List.getElem_cons_zero, List.getElem_cons_succ, List.setIfInBounds_toArray, List.set_cons_zero, List.set_cons_succ]
  refine wpAnyH_done (by kernel_rfl) ?_ _
  refine NoPanic.normal ?_
  clear c1 lm x1 lx d0
  go_wp2_with (first
    | (refine Great.wpList_buildTo rfl 51 _ rfl (some 22) rfl (outC 0 zV 0 none 0 0) (by kernel_rfl) ?_)
    | (refine wpList_store_row rfl 51 (.tmp 4) (.tmp 22) rfl P1.heap.size (outC 0 zV 0 none 0 0) rfl rfl 51 _ (show W1.drew.heap[P1.heap.size]? = _ from HO.out) out_info rfl (out_one _ _ _ _ _ _) ?_))
  have kq : KeepsTy [51] W1.drew (World.setRow W1.drew P1.heap.size (outC 0 zV 0 none 0 0)) := ((Keeps.refl (fun k => k = P1.heap.size) W1.drew).setRow (.inl rfl) _).mono (fun k _ e => ⟨_, .head _, by obtain rfl : k = P1.heap.size := e; exact ⟨_, _, (show W1.drew.heap[P1.heap.size]? = _ from HO.out)⟩⟩)
  refine bodyPost_ret (v := .tuple #[.agg (outC 0 zV 0 none 0 0), .int .i64 15]) (res_out _ Tryz.results25 _ _ P1.heap.size _ _ rfl rfl rfl (setRow_heap _ _ _ _ _ _ (show W1.drew.heap[P1.heap.size]? = _ from HO.out))) rfl ?_
  exact ⟨0, zV, 0, none, 0, 0, 15, rfl, ⟨rfl, rfl, (HQ.out.quiet (Keeps.refl _ W1).drew).out kq⟩, Keeps.setRow (kM_none (P := P) HK1.out.drew) (.inr HZ.out) _⟩
theorem cur_is {P : Program} {f : FuncId} {args : Array Value} {w : World} {x y : Int} (h : x = y) (hc : Calls P f args w fun e w' => e = .returned (.int .i64 x) ∧ w = w') : Calls P f args w fun e w' => e = .returned (.int .i64 y) ∧ w = w' := h ▸ hc
theorem MoW.drew' {w : World} {P : Nat → Prop} {a : MoA} {M : ScM} {tk : Int} {A : Nat → AskX} (h : MoW w P a M tk A) : MoW w.drew P a M tk A := h.quiet (Keeps.refl _ w).drew
theorem MoW.ask0 {w : World} {P : Nat → Prop} {a : MoA} {M : ScM} {tk : Int} {A : Nat → AskX} (h : MoW w P a M tk A) {t : Nat} (ht : t < M.many) (hP : P a.ab) : MoW ((((((w.setCell ⟨a.ab, t * 6, none⟩ (.bool false)).setCell ⟨a.ab, t * 6 + 1, none⟩ (.int .i64 0)).setCell ⟨a.ab, t * 6 + 2, none⟩ (.int .i64 0)).setCell ⟨a.ab, t * 6 + 3, none⟩ (.int .u32 0)).setCell ⟨a.ab, t * 6 + 4, none⟩ (.int .u32 0)).setCell ⟨a.ab, t * 6 + 5, none⟩ (.int .u32 0)) P a M tk (upd A t AskX.no) ∧ Keeps (fun k => k = a.ab) w ((((((w.setCell ⟨a.ab, t * 6, none⟩ (.bool false)).setCell ⟨a.ab, t * 6 + 1, none⟩ (.int .i64 0)).setCell ⟨a.ab, t * 6 + 2, none⟩ (.int .i64 0)).setCell ⟨a.ab, t * 6 + 3, none⟩ (.int .u32 0)).setCell ⟨a.ab, t * 6 + 4, none⟩ (.int .u32 0)).setCell ⟨a.ab, t * 6 + 5, none⟩ (.int .u32 0)) := h.ask ht AskX.no ⟨by decide, by decide⟩ hP
theorem serve_cells {w w9 : World} {P : Nat → Prop} {a : MoA} {M M' : ScM} {tk : Int} {A : Nat → AskX} (h : MoW w9 P a M' tk A) (hm : M'.many = M.many) {t : Nat} (ht : t < M.many) {k v : Int} {Z : Nat → Int} {x : AskX} (hb : w9.heap[w.heap.size]? = some (.cells (moC k (t : Int) v Z x) 45 (0, 0))) :
    w9.cell? ⟨a.m, 1, none⟩ = some (.pointer (some ⟨a.sa.s, 0, none⟩)) ∧ w9.cell? ⟨a.m, 4, none⟩ = some (.slice (some ⟨a.ab, 0, none⟩) M.many M.many) ∧ w9.cell? ⟨w.heap.size, 1, none⟩ = some (.int .i64 (t : Int)) ∧ w9.cell? ⟨a.ab, t * 6 + 1, none⟩ = some (.int .i64 (A t).k) ∧ w9.cell? ⟨a.ab, t * 6 + 2, none⟩ = some (.int .i64 (A t).o) ∧ w9.cell? ⟨a.ab, t * 6 + 3, none⟩ = some (.int .u32 ((A t).m : Int)) ∧ w9.cell? ⟨a.ab, t * 6 + 4, none⟩ = some (.int .u32 ((A t).d : Int)) ∧ w9.cell? ⟨a.ab, t * 6 + 5, none⟩ = some (.int .u32 ((A t).b : Int)) := by
  have h6 := (h.six (t := t) (by omega)).2
  have h4 := cell_of h.blk 4
  rw [hm] at h4
  exact ⟨cell_of h.blk 1, h4, cell_of hb 1, h6⟩
set_option maxHeartbeats 4000000 in
theorem serve_yes (w : World) (P : Nat → Prop) (a : MoA) (M : ScM) (tk : Int) (A : Nat → AskX) (h : MoW w P a M tk A) (k v : Int) (Z : Nat → Int) (x : AskX) (t : Nat) (ht : t < M.many) (hc : M.cur = (t : Int)) (ha : asksP M A (t : Int) = true) (hP : P a.ab) : Calls Tryz.prog 25 #[.pointer (some ⟨a.m, 0, none⟩), .agg (moC k (t : Int) v Z x)] w (MvQ P w (fun f V v l n c g w1 => g = 0 ∧ f = 0 ∧ MoW w1 P a (serveM M (A t).k (A t).o (A t).m (A t).d (A t).b).1 tk (upd A t AskX.no))) := by
  have HPA := Lib.hid ha
  have HT := Lib.hid ht
  have HC := Lib.hid hc
  have HP := Lib.hid hP
  obtain ⟨P1, hP1⟩ : ∃ W, W = w.alloc (.cells (moC k (t : Int) v Z x) 45) := ⟨_, rfl⟩
  obtain ⟨W1, hW1⟩ : ∃ W, W = P1.alloc (.cells (outC 0 zV 0 none 0 0) 51) := ⟨_, rfl⟩
  have kP : Keeps (fun _ => False) w P1 := by rw [hP1]; exact (Keeps.refl _ w).alloc _
  have hb1 : P1.heap[w.heap.size]? = some (.cells (moC k (t : Int) v Z x) 45 (0, 0)) := by rw [hP1]; exact heap_new _ _
  have k1 : Keeps (fun _ => False) w W1 := by rw [hW1]; exact kP.alloc _
  have hb2 : W1.heap[w.heap.size]? = some (.cells (moC k (t : Int) v Z x) 45 (0, 0)) := by rw [hW1]; exact ((Keeps.refl (fun _ => False) P1).alloc _).at hb1 fun h => h
  have ho : W1.heap[P1.heap.size]? = some (.cells (outC 0 zV 0 none 0 0) 51 (0, 0)) := by rw [hW1]; exact heap_new _ _
  have hq := h.quiet k1
  have HZ := Lib.hid kP.size
  have HB2 := Lib.hid hb2
  have HO := Lib.hid ho
  have HQ := Lib.hid hq
  have HK1 := Lib.hid k1
  have HP1 := Lib.hid hP1
  have HW1 := Lib.hid hW1
  clear hP1 hW1 kP hb1 k1 hb2 ho
  have c1 := cell_of hq.blk 1
  have lm := hq.lt
  have x1 := cell_of HB2.out 1
  have lx := lt_of HB2.out
  have HCU1 := Lib.hid (fun (W : World) (k : Keeps (fun _ => False) W1 W) => cur_is HC.out (current_any W P a.sa M (hq.quiet k).sch))
  have HAS1 := Lib.hid (fun (W : World) (k : Keeps (fun _ => False) W1 W) (t : Int) => asks_any W P a M tk A (hq.quiet k) t)
  have HSS := Lib.hid (show W1.drew.cell? ⟨w.heap.size, 1, none⟩ = some (.int .i64 (t : Int)) ∧ W1.drew.cell? ⟨a.m, 1, none⟩ = some (.pointer (some ⟨a.sa.s, 0, none⟩)) from And.intro x1 c1)
  have d0 : ((t : Int) != (t : Int)) = false := by simp
  have HQ2 := Lib.hid (hq.drew')
  clear hq h ha ht hc hP
  go_enter Tryz.func25, Tryz.ntmps25
  go_wp2_with (first
    | (refine Great.wpList_boxTo rfl 45 (.tmp 1) rfl (some 3) rfl w.heap.size rfl (moC k (t : Int) v Z x) rfl ?_; rw [← HP1.out])
    | (refine wpList_alloc_as rfl 51 rfl (some 4) rfl P1.heap.size rfl _ (out_zero _) (outC 0 zV 0 none 0 0) rfl ?_; rw [← HW1.out]))
  refine wp_region_noPanic ?_
  refine wp_region_held_drew (S := (fun w' => w'.cell? ⟨w.heap.size, 1, none⟩ = some (.int .i64 (t : Int)) ∧ w'.cell? ⟨a.m, 1, none⟩ = some (.pointer (some ⟨a.sa.s, 0, none⟩)))) (by kernel_rfl) ?_ (fun hHeld => ?_)
  · exact HSS.out
  refine wpAnyH_take (i := 0) (v := ?_) rfl (by kernel_rfl) (by kernel_rfl) (by kernel_rfl) (fun _ _ _ h => h) (Or.inl ⟨by rfl, ?_⟩) (by assumption) ?_
  rotate_left
  · (intro w hSw; (try dsimp only at hSw); go_simp; try with_reducible rfl)
  simp only [Act.put, List.getElem_toArray, List.getElem_cons_zero, List.getElem_cons_succ, List.setIfInBounds_toArray, List.set_cons_zero, List.set_cons_succ]
  refine wpAnyH_take (i := 1) (v := ?_) rfl (by kernel_rfl) (by kernel_rfl) (by kernel_rfl) (fun _ _ _ h => h) (Or.inl ⟨by rfl, ?_⟩) (by assumption) ?_
  rotate_left
  · (intro w hSw; (try dsimp only at hSw); go_simp; try with_reducible rfl)
  simp only [Act.put, List.getElem_toArray, List.getElem_cons_zero, List.getElem_cons_succ, List.setIfInBounds_toArray, List.set_cons_zero, List.set_cons_succ]
  refine wpAnyH_take (i := 2) (v := ?_) rfl (by kernel_rfl) (by kernel_rfl) (by kernel_rfl) (fun _ _ _ h => h) (Or.inl ⟨by rfl, ?_⟩) (by assumption) ?_
  rotate_left
  · (intro w hSw; (try dsimp only at hSw); go_simp; try with_reducible rfl)
  simp only [Act.put, List.getElem_toArray, List.getElem_cons_zero, List.getElem_cons_succ, List.setIfInBounds_toArray, List.set_cons_zero, List.set_cons_succ]
  refine wpAnyH_take (i := 3) (v := ?_) rfl (by kernel_rfl) (by kernel_rfl) (by kernel_rfl) (fun _ _ _ h => h) (Or.inl ⟨by rfl, ?_⟩) (by assumption) ?_
  rotate_left
  · (intro w hSw; (try dsimp only at hSw); go_simp; try with_reducible rfl)
  simp only [Act.put, List.getElem_toArray, List.getElem_cons_zero, List.getElem_cons_succ, List.setIfInBounds_toArray, List.set_cons_zero, List.set_cons_succ]
  refine wpAnyH_take (i := 4) (v := ?_) rfl (by kernel_rfl) (by kernel_rfl) (by kernel_rfl) (fun _ _ _ h => h) (Or.inl ⟨by rfl, ?_⟩) (by assumption) ?_
  rotate_left
  · (intro w hSw; (try dsimp only at hSw); go_simp; try with_reducible rfl)
  simp only [Act.put, List.getElem_toArray, List.getElem_cons_zero, List.getElem_cons_succ, List.setIfInBounds_toArray, List.set_cons_zero, List.set_cons_succ]
  refine wpAnyH_take (i := 5) (v := ?_) rfl (by kernel_rfl) (by kernel_rfl) (by kernel_rfl) (fun _ _ _ h => h) (Or.inl ⟨by rfl, ?_⟩) (by assumption) ?_
  rotate_left
  · (intro w hSw; (try dsimp only at hSw); go_simp; try with_reducible rfl)
  simp only [Act.put, List.getElem_toArray, List.getElem_cons_zero, List.getElem_cons_succ, List.setIfInBounds_toArray, List.set_cons_zero, List.set_cons_succ]
  refine wpAnyH_ready (rs := [6]) (by kernel_rfl) (by simp) ?_
  refine AllReadyH.cons rfl (fun K hK => ?_) AllReadyH.nil
  go_simp
  (go_at_call 15; refine (HCU1.out _ (Keeps.refl _ W1).drew).mono ?_; rintro e9 w9 ⟨rfl, hw9⟩; subst hw9)
  go_wp2_with fail
  refine hK.out _ _ ?_ (fun hHeld => ?_)
  · ((try dsimp only); exact HSS.out)
  clear hK K
  try simp only [Act.put, List.getElem_toArray, List.getElem_cons_zero, List.getElem_cons_succ, List.setIfInBounds_toArray, List.set_cons_zero, List.set_cons_succ]
  refine wpAnyH_take (i := 7) (v := ?_) rfl (by kernel_rfl) (by kernel_rfl) (by kernel_rfl) (fun _ _ _ h => h) (Or.inl ⟨by rfl, ?_⟩) (by assumption) ?_
  rotate_left
  · (intro w hSw; (try dsimp only at hSw); go_simp; try with_reducible rfl)
  simp only [Act.put, List.getElem_toArray, List.getElem_cons_zero, List.getElem_cons_succ, List.setIfInBounds_toArray, List.set_cons_zero, List.set_cons_succ]
  refine wpAnyH_take (i := 8) (v := ?_) rfl (by kernel_rfl) (by kernel_rfl) (by kernel_rfl) (fun _ _ _ h => h) (Or.inl ⟨by rfl, ?_⟩) (by assumption) ?_
  rotate_left
  · (intro w hSw; (try dsimp only at hSw); go_simp; try with_reducible rfl)
  simp only [Act.put, List.getElem_toArray, List.getElem_cons_zero, List.getElem_cons_succ, List.setIfInBounds_toArray, List.set_cons_zero, List.set_cons_succ]
  refine wpAnyH_take (i := 9) (v := ?_) rfl (by kernel_rfl) (by kernel_rfl) (by kernel_rfl) (fun _ _ _ h => h) (Or.inl ⟨by rfl, ?_⟩) (by assumption) ?_
  rotate_left
  · (intro w hSw; (try dsimp only at hSw); go_simp; try with_reducible rfl)
  simp only [Act.put, List.getElem_toArray, List.getElem_cons_zero, List.getElem_cons_succ, List.setIfInBounds_toArray, List.set_cons_zero, List.set_cons_succ]
  refine wpAnyH_take (i := 10) (v := ?_) rfl (by kernel_rfl) (by kernel_rfl) (by kernel_rfl) (fun _ _ _ h => h) (Or.inl ⟨by rfl, ?_⟩) (by assumption) ?_
  rotate_left
  · (intro w hSw; (try dsimp only at hSw); go_simp; try with_reducible rfl)
  simp only [Act.put, List.getElem_toArray, List.getElem_cons_zero, List.getElem_cons_succ, List.setIfInBounds_toArray, List.set_cons_zero, List.set_cons_succ]
  refine wpAnyH_take (i := 11) (v := ?_) rfl (by kernel_rfl) (by kernel_rfl) (by kernel_rfl) (fun _ _ _ h => h) (Or.inl ⟨by rfl, ?_⟩) (by assumption) ?_
  rotate_left
  · (intro w hSw; (try dsimp only at hSw); go_simp; try with_reducible rfl)
  simp only [Act.put, List.getElem_toArray, List.getElem_cons_zero, List.getElem_cons_succ, List.setIfInBounds_toArray, List.set_cons_zero, List.set_cons_succ]
  refine wpAnyH_ready (rs := [12]) (by kernel_rfl) (by simp) ?_
  refine AllReadyH.cons rfl (fun K hK => ?_) AllReadyH.nil
  go_simp
  (go_at_call 16; refine (HAS1.out _ (Keeps.refl _ W1).drew _).mono ?_; rintro e9 w9 ⟨rfl, hw9⟩; subst hw9; rw [HPA.out])
  go_wp2_with fail
  refine hK.out _ _ ?_ (fun hHeld => ?_)
  · ((try dsimp only); exact HSS.out)
  clear hK K
  try simp only [Act.put, List.getElem_toArray, List.getElem_cons_zero, List.getElem_cons_succ, List.setIfInBounds_toArray, List.set_cons_zero, List.set_cons_succ]
  refine wpAnyH_take (i := 13) (v := ?_) rfl (by kernel_rfl) (by kernel_rfl) (by kernel_rfl) (fun _ _ _ h => h) (Or.inl ⟨by rfl, ?_⟩) (by assumption) ?_
  rotate_left
  · (intro w hSw; (try dsimp only at hSw); go_simp; try with_reducible rfl)
  simp only [Act.put, List.getElem_toArray, List.getElem_cons_zero, List.getElem_cons_succ, List.setIfInBounds_toArray, List.set_cons_zero, List.set_cons_succ]
  refine wpAnyH_take (i := 14) (v := ?_) rfl (by kernel_rfl) (by kernel_rfl) (by kernel_rfl) (fun _ _ _ h => h) (Or.inl ⟨by rfl, ?_⟩) (by assumption) ?_
  rotate_left
  · (intro w hSw; (try dsimp only at hSw); go_simp; try with_reducible rfl)
  simp only [Act.put, List.getElem_toArray, List.getElem_cons_zero, List.getElem_cons_succ, List.setIfInBounds_toArray, List.set_cons_zero, List.set_cons_succ]
  refine wpAnyH_done (by kernel_rfl) ?_ _
  refine NoPanic.normal ?_
  clear c1 lm x1 lx d0
  have HS3 := Lib.hid (serve_cells (w := w) HQ2.out rfl HT.out (show W1.drew.heap[w.heap.size]? = _ from HB2.out))
  have htl := HT.out
  have htl2 : (t : Int) < (M.many : Int) := by omega
  have le := HQ2.out.le
  have lm := HQ2.out.lt
  have la := HQ2.out.asks.lt
  have lx := lt_of (show W1.drew.heap[w.heap.size]? = _ from HB2.out)
  obtain ⟨z1, z4, zw, z6, z7, z8, z9, z10⟩ := HS3.out
  go_wp2_with fail
  go_region_held3 (fun w' => w'.cell? ⟨a.m, 1, none⟩ = some (.pointer (some ⟨a.sa.s, 0, none⟩)) ∧ w'.cell? ⟨a.m, 4, none⟩ = some (.slice (some ⟨a.ab, 0, none⟩) M.many M.many) ∧ w'.cell? ⟨w.heap.size, 1, none⟩ = some (.int .i64 (t : Int)) ∧ w'.cell? ⟨a.ab, t * 6 + 1, none⟩ = some (.int .i64 (A t).k) ∧ w'.cell? ⟨a.ab, t * 6 + 2, none⟩ = some (.int .i64 (A t).o) ∧ w'.cell? ⟨a.ab, t * 6 + 3, none⟩ = some (.int .u32 ((A t).m : Int)) ∧ w'.cell? ⟨a.ab, t * 6 + 4, none⟩ = some (.int .u32 ((A t).d : Int)) ∧ w'.cell? ⟨a.ab, t * 6 + 5, none⟩ = some (.int .u32 ((A t).b : Int)))
    (first
      | exact HS3.out
      | exact HS4.out
      | go_keep)
    (first
      | (go_at_call 44; refine (serve_any _ P a.sa M HQ2.out.drew'.sch HQ2.out.n _ _ _ _ _ (HQ2.out.aok t HT.out).d (HQ2.out.aok t HT.out).b).mono ?_; rintro e9 w9 ⟨rfl, hs9, k9⟩; have HQ9 := Lib.hid (HQ2.out.drew'.sched k9 hs9 (serve_many M _ _ _ _ _)); have HO9a := Lib.hid (k9.at (show W1.drew.drew.heap[P1.heap.size]? = _ from HO.out) (by decide)); have HB9 := Lib.hid (k9.at (show W1.drew.drew.heap[w.heap.size]? = _ from HB2.out) (by decide)); have HK9a := Lib.hid (kM (kM_none (P := P) HK1.out.drew.drew) (kM_S k9)); have HS4 := Lib.hid (serve_cells HQ9.out (serve_many M _ _ _ _ _) HT.out HB9.out); clear hs9 k9)
      | fail)
  all_goals
    generalize hMM : (serveM M (A t).k (A t).o (A t).m (A t).d (A t).b) = SM at HQ9 ⊢
    have HMM := Lib.hid hMM
    have HMC := Lib.hid (show SM.1.many = M.many from by rw [← hMM]; exact serve_many M _ _ _ _ _)
    clear hMM z1 z4 zw z6 z7 z8 z9 z10 lm la lx
    have HT2 := Lib.hid (show t < SM.1.many from by have := HMC.out; omega)
    have HQ3 := HQ9
    have HO3 := HO9a
    have HK3 := HK9a
    generalize w9 = Wg at *
    obtain ⟨s0, s1, s2, s3, s4, s5⟩ := HQ3.out.six HT2.out
    have u0 := HQ3.out.asks.free (t * 6)
    have u1 := HQ3.out.asks.free (t * 6 + 1)
    have u2 := HQ3.out.asks.free (t * 6 + 2)
    have u3 := HQ3.out.asks.free (t * 6 + 3)
    have u4 := HQ3.out.asks.free (t * 6 + 4)
    have u5 := HQ3.out.asks.free (t * 6 + 5)
    have la := HQ3.out.asks.lt
    have c4 := cell_of HQ3.out.blk 4
    rw [HMC.out] at c4
    have lm := HQ3.out.lt
    have x1 := cell_of HB9.out 1
    have lx := lt_of HB9.out
    have hne : w.heap.size ≠ a.ab := Ty.ne ⟨_, _, HB9.out⟩ HQ3.out.asks.ty (by decide)
    have hne2 : a.m ≠ a.ab := Ty.ne ⟨_, _, HQ3.out.blk⟩ HQ3.out.asks.ty (by decide)
    go_wp2_with fail
    go_region
    all_goals
      obtain ⟨hm5, kk5⟩ := HQ3.out.ask0 HT2.out HP.out
      have hm9 := hm5.quiet ((Keeps.refl (fun _ => False) _).drew)
      have kk9 := kk5.drew
      clear hm5 kk5 s0 s1 s2 s3 s4 s5 u0 u1 u2 u3 u4 u5 la c4 lm
      generalize hW9 : World.drew _ = W9 at hm9 kk9 ⊢
      have HM9 := Lib.hid hm9
      have HO9 := Lib.hid (kk9.at HO3.out (Ty.ne ⟨_, _, HO3.out⟩ HQ3.out.asks.ty (by decide)))
      have HK9 := Lib.hid (kM HK3.out (kM_one kk9 HQ3.out.asks.ty (by decide) HP.out))
      clear hm9 kk9 hW9
      go_wp2_with (first
        | (refine Great.wpList_buildTo rfl 51 _ rfl (some 47) rfl (outC 0 zV (SM.2 % 4294967296) none 0 0) (by kernel_rfl) ?_)
        | (refine wpList_store_row rfl 51 (.tmp 4) (.tmp 47) rfl P1.heap.size (outC 0 zV (SM.2 % 4294967296) none 0 0) rfl rfl 51 _ HO9.out out_info rfl (out_one _ _ _ _ _ _) ?_))
      have kq : KeepsTy [51] W9 (World.setRow W9 P1.heap.size (outC 0 zV (SM.2 % 4294967296) none 0 0)) := ((Keeps.refl (fun k => k = P1.heap.size) W9).setRow (.inl rfl) _).mono (fun k _ e => ⟨_, .head _, by obtain rfl : k = P1.heap.size := e; exact ⟨_, _, HO9.out⟩⟩)
      refine bodyPost_ret (v := .tuple #[.agg (outC 0 zV (SM.2 % 4294967296) none 0 0), .int .i64 0]) (res_out _ Tryz.results25 _ _ P1.heap.size _ _ rfl rfl rfl (setRow_heap _ _ _ _ _ _ HO9.out)) rfl ?_
      exact ⟨0, zV, (SM.2 % 4294967296), none, 0, 0, 0, rfl, ⟨rfl, rfl, by rw [HMM.out]; exact HM9.out.out kq⟩, Keeps.setRow HK9.out (.inr HZ.out) _⟩
end Go.Proofs.YtkhmfjfclpehfaaGreat
