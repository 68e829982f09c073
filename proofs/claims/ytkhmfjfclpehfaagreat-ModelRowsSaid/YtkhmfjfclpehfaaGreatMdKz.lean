import Derived.Test.YtkhmfjfclpehfaaGreatMdIz
import Derived.Test.YtkhmfjfclpehfaaGreatConfAz
import Derived.Test.YtkhmfjfclpehfaaGreatBaseZ
import Derived.WalkKit
import Derived.ProofKit
import Derived.WalkLawsBesides
import Derived.WalkSpells
import Derived.Lib.Hide
import Derived.Handy
import Derived.Test.YtkhmfjfclpehfaaGreatSchPz
namespace Go.Proofs.YtkhmfjfclpehfaaGreat
open Go.ChangeShapes Go.WideShapes Go.ChangeAt Go.RowKit
set_option linter.unusedVariables false
set_option linter.unusedSimpArgs false
set_option maxRecDepth 100000
set_option maxHeartbeats 4000000 in
theorem apply_one (w : World) (P : Nat → Prop) (a : MoA) (M : ScM) (tk : Int) (A : Nat → AskX) (h : MoW w P a M tk A) (v : Int) (Z : Nat → Int) (x : AskX) (lb cap : Nat) (hl : a.lines = .slice (some ⟨lb, 0, none⟩) 1 cap) (hP : P lb) (q qc : Nat) (ov : Int) (hr : RecAt w lb 82 1 3 (fun _ => lnL 1 (.slice (some ⟨q, 0, none⟩) 1 qc) ov)) (hqc : 1 ≤ qc) (cur : Array Value) (hq7 : w.heap[q]? = some (.cells cur 34 (0, 0))) (h7 : cur[0]? = some (.int .u32 7)) (hm : 0 < M.many) : Calls Tryz.prog 27 #[.pointer (some ⟨a.m, 0, none⟩), .agg (moC 7 1 v Z x)] w (MvQ P w (fun f V v l n c g w1 => g = 0 ∧ f = 0 ∧ v = 7 ∧ MoW w1 P a (noteM M 0 7) tk A ∧ ∃ qv, RecAt w1 lb 82 1 3 (fun _ => lnL 1 qv ov))) := by
  obtain ⟨P1, hP1⟩ : ∃ W, W = w.alloc (.cells (moC 7 1 v Z x) 45) := ⟨_, rfl⟩
  obtain ⟨W1, hW1⟩ : ∃ W, W = P1.alloc (.cells (outC 0 zV 0 none 0 0) 51) := ⟨_, rfl⟩
  have kP : Keeps (fun _ => False) w P1 := by rw [hP1]; exact (Keeps.refl _ w).alloc _
  have hb1 : P1.heap[w.heap.size]? = some (.cells (moC 7 1 v Z x) 45 (0, 0)) := by rw [hP1]; exact heap_new _ _
  have k1 : Keeps (fun _ => False) w W1 := by rw [hW1]; exact kP.alloc _
  have hb2 : W1.heap[w.heap.size]? = some (.cells (moC 7 1 v Z x) 45 (0, 0)) := by rw [hW1]; exact ((Keeps.refl (fun _ => False) P1).alloc _).at hb1 fun h => h
  have ho : W1.heap[P1.heap.size]? = some (.cells (outC 0 zV 0 none 0 0) 51 (0, 0)) := by rw [hW1]; exact heap_new _ _
  have hq := h.quiet k1
  have HZ := Lib.hid kP.size
  have HB2 := Lib.hid hb2
  have HO := Lib.hid ho
  have HQ := Lib.hid hq
  have HK1 := Lib.hid k1
  have HP1 := Lib.hid hP1
  have HW1 := Lib.hid hW1
  have k1r := HK1.out
  clear hP1 hW1 kP hb1 k1 hb2 ho
  have HL := Lib.hid (fun (W : World) (k : Keeps (fun _ => False) W1 W) => line_one W P a M tk A (hq.quiet k) lb cap hl)
  have HRL := Lib.hid (hr.keep k1r fun h => h)
  have hn := fun W => ln_nil lb 0 W
  have x1 := cell_of HB2.out 1
  have lx := lt_of HB2.out
  have HPL := Lib.hid hP
  have HM0 := Lib.hid hm
  have HR7 := Lib.hid (k1r.at hq7 fun h => h)
  have hlq : W1.cell? ⟨q, 0, none⟩ = some (.int .u32 7) := (cell_of HR7.out 0).trans h7
  have lq := lt_of HR7.out
  clear hq h hl hr hP k1r hm hq7 h7
  go_enter Tryz.func27, Tryz.ntmps27
  go_wp2_with (first
    | (refine Great.wpList_boxTo rfl 45 (.tmp 1) rfl (some 3) rfl w.heap.size rfl (moC 7 1 v Z x) rfl ?_; rw [← HP1.out])
    | (refine wpList_alloc_as rfl 51 rfl (some 4) rfl P1.heap.size rfl _ (out_zero _) (outC 0 zV 0 none 0 0) rfl ?_; rw [← HW1.out]))
  refine (HL.out _ (Keeps.refl _ W1)).mono ?_
  rintro e w1 ⟨rfl, hw1⟩
  subst hw1
  obtain ⟨r0, r1, r2⟩ := HRL.out.three
  have f1 := HRL.out.free 1
  have lr := HRL.out.lt
  go_wp2_with fail
  refine (read_seven _).mono ?_
  rintro e w2 ⟨rfl, hw2⟩
  subst hw2
  obtain ⟨hm3, kk3⟩ := HQ.out.lineSet HRL.out 1 (.slice (some ⟨q, 0, none⟩) 0 0)
  have ho3 := kk3.at HO.out (Ty.ne ⟨_, _, HO.out⟩ HRL.out.ty (by decide))
  have kw3 := kM (kM_none (P := P) HK1.out) (kM_one kk3 HRL.out.ty (by decide) HPL.out)
  have hr3 := HRL.out.setQ (.slice (some ⟨q, 0, none⟩) 0 0)
  obtain ⟨W3, hW3⟩ : ∃ W, W = w1.setCell ⟨lb, 1, none⟩ (.slice (some ⟨q, 0, none⟩) 0 0) := ⟨_, rfl⟩
  rw [← hW3] at hm3 ho3 kw3 hr3 ⊢
  have HM3 := Lib.hid hm3
  have HO3 := Lib.hid ho3
  have HK3 := Lib.hid kw3
  have HR3 := Lib.hid hr3
  have c1 := cell_of hm3.blk 1
  have lm := hm3.lt
  clear hm3 kk3 ho3 kw3 hr3 hW3 r0 r1 r2 f1 lr hlq lq x1 lx
  go_wp2_with fail
  refine (snote_any _ P a.sa M HM3.out.sch HM3.out.n 0 HM0.out 7 (by omega)).mono ?_
  rintro e w4 ⟨rfl, hs4, k4⟩
  have HM4 := Lib.hid (HM3.out.sched k4 hs4 rfl)
  have HO4 := Lib.hid (k4.at HO3.out (by decide))
  have HK4 := Lib.hid (kM HK3.out (kM_S k4))
  have HR4 := Lib.hid (HR3.out.keep k4 (fun e => by obtain ⟨_, T, hT, hy⟩ := e; exact Ty.ne hy HR3.out.ty (by rintro rfl; revert hT; decide) rfl))
  clear hs4 k4
  go_wp2_with (first
    | (refine wpList_buildTo rfl 51 _ rfl (some 55) rfl (outC 0 zV 7 none 0 0) (by kernel_rfl) ?_)
    | (refine wpList_store_row rfl 51 (.tmp 4) (.tmp 55) rfl P1.heap.size (outC 0 zV 7 none 0 0) rfl rfl 51 _ HO4.out out_info rfl (out_one _ _ _ _ _ _) ?_))
  have kq : KeepsTy [51] w4 (World.setRow w4 P1.heap.size (outC 0 zV 7 none 0 0)) := ((Keeps.refl (fun k => k = P1.heap.size) w4).setRow (.inl rfl) _).mono (fun k _ e => ⟨_, .head _, by obtain rfl : k = P1.heap.size := e; exact ⟨_, _, HO4.out⟩⟩)
  refine bodyPost_ret (v := .tuple #[.agg (outC 0 zV 7 none 0 0), .int .i64 0]) (res_out _ Tryz.results27 _ _ P1.heap.size _ _ rfl rfl rfl (setRow_heap _ _ _ _ _ _ HO4.out)) rfl ?_
  exact ⟨0, zV, 7, none, 0, 0, 0, rfl, ⟨rfl, rfl, rfl, HM4.out.out kq, _, HR4.out.keep kq (fun e => KeepsTy.apart HR4.out.ty (by decide) e)⟩, Keeps.setRow HK4.out (.inr HZ.out) _⟩
end Go.Proofs.YtkhmfjfclpehfaaGreat
namespace Go.Proofs.YtkhmfjfclpehfaaGreat
open Go.ChangeShapes Go.WideShapes Go.ChangeAt Go.RowKit
set_option linter.unusedVariables false
set_option linter.unusedSimpArgs false
set_option maxRecDepth 100000
def cA (T L : Nat) : CfD := ⟨1, 1, 0, 0, some ⟨T, 0, none⟩, some ⟨L, 0, none⟩, none, 1, 1, 0, fun _ => 0, fun _ => false, fun _ => 0, fun _ => none, fun _ => 0, fun _ => 1, fun _ => 0, fun _ => none, fun _ => 0, fun _ _ => 0, fun _ _ => 0⟩
theorem cA_bad (T L : Nat) : badOf (cA T L) = (0, 0, 0) := by kernel_rfl
theorem cA_in {w : World} {T L : Nat} (h1 : w.heap[T]? = some (.cells #[.int .i64 0, .bool false, .slice none 0 0] 68 (0, 0))) (h2 : w.heap[L]? = some (.cells #[.int .i64 1, .slice none 0 0] 58 (0, 0))) : CfIn w (cA T L) :=
  ⟨fun _ => ⟨T, 0, rfl, lt_of h1, fun i hi => by
    obtain rfl : i = 0 := by have : i < 1 := hi; omega
    exact ⟨cell_of h1 0, cell_of h1 1, cell_of h1 2⟩⟩, fun _ => ⟨L, 0, rfl, lt_of h2, fun i hi => by
    obtain rfl : i = 0 := by have : i < 1 := hi; omega
    exact ⟨cell_of h2 0, cell_of h2 1⟩⟩, fun h => absurd h (by simp [cA])⟩
theorem cA_ok (T L : Nat) : (cA T L).Ok := ⟨by show 1 ≤ maxLen; unfold maxLen; omega, by show 1 ≤ maxLen; unfold maxLen; omega, by show 0 ≤ maxLen; omega, by show -9223372036854775808 ≤ (0 : Int) ∧ (0 : Int) ≤ 9223372036854775807; omega, fun i hi => by show -9223372036854775808 ≤ (1 : Int) ∧ (1 : Int) ≤ 9223372036854775807; omega, fun i hi => absurd hi (by simp [cA])⟩
def eM : ScM := dispM (newM [0])
theorem eM_many : eM.many = 1 := by kernel_rfl
theorem line_new {w : World} {B : Nat} {v : Value} (h : w.ownsRow B 82 3 v 1 [.int .i64 1, .slice none 0 0, .int .u32 0]) : ∃ lb cap, v = .slice (some ⟨lb, 0, none⟩) 1 cap ∧ B ≤ lb ∧ RecAt w lb 82 1 3 (fun _ => lnL 1 (.slice none 0 0) 0) := by
  obtain ⟨_, h | ⟨g, cap, cur, e1, hB, hb, hcp, _, hs, ht⟩⟩ := h
  · exact absurd h.2 (by decide)
  · refine ⟨g, cap, e1, hB, cur, hb, by rw [hs]; omega, fun i hi j u hu => ?_⟩
    obtain rfl : i = 0 := by omega
    have hj : j < 3 := by
      have := (List.getElem?_eq_some_iff.1 hu).1
      simpa using this
    rw [show 0 * 3 + j = j by omega, ← Array.getElem?_toList, ← List.getElem?_take_of_lt (show j < 1 * 3 by omega), ht]
    exact hu
theorem cA_new (T L : Nat) (w : World) (h1 : w.heap[T]? = some (.cells #[.int .i64 0, .bool false, .slice none 0 0] 68 (0, 0))) (h2 : w.heap[L]? = some (.cells #[.int .i64 1, .slice none 0 0] 58 (0, 0))) :
    Calls Tryz.prog 7 #[.agg #[.slice (some ⟨T, 0, none⟩) 1 1, .slice (some ⟨L, 0, none⟩) 1 1, .slice none 0 0, .int .i64 0]] w fun e w' => ∃ (a : MoA) (lb cap : Nat), e = .returned (.pointer (some ⟨a.m, 0, none⟩)) ∧ MoW w' (fun k => w.heap.size ≤ k) a eM 0 (fun _ => AskX.no) ∧ a.lines = .slice (some ⟨lb, 0, none⟩) 1 cap ∧ w.heap.size ≤ lb ∧ RecAt w' lb 82 1 3 (fun _ => lnL 1 (.slice none 0 0) 0) ∧ Keeps (fun _ => False) w w' := by
  refine (new_good (cA T L) w (cA_in h1 h2) (cA_ok T L) (fun i hi => absurd hi (by simp [cA])) (cA_bad T L)).mono ?_
  rintro e w' ⟨a, g, rfl, hm, ho, _, hm2, _, _, hk⟩
  obtain ⟨lb, cap, e1, hB, hr⟩ := line_new ho
  exact ⟨a, lb, cap, rfl, hm, e1, Nat.le_trans hm2 hB, hr, hk⟩
section
variable (w : World) (P : Nat → Prop) (a : MoA) (M : ScM) (tk : Int) (A : Nat → AskX) (h : MoW w P a M tk A) (lb cap : Nat) (hl : a.lines = .slice (some ⟨lb, 0, none⟩) 1 cap) (hP : P lb)
include h hl hP
theorem ex_post (hr : RecAt w lb 82 1 3 (fun _ => lnL 1 (.slice none 0 0) 0)) :
    Calls Tryz.prog 9 #[.pointer (some ⟨a.m, 0, none⟩), .agg (moC 2 1 7 zV AskX.no)] w fun e w' => ∃ V v l n c, e = .returned (.tuple #[.agg (outC 0 V v l n c), .int .i64 0]) ∧ MoW w' P a M tk A ∧ (∃ q qc cur, RecAt w' lb 82 1 3 (fun _ => lnL 1 (.slice (some ⟨q, 0, none⟩) 1 qc) 0) ∧ w'.heap[q]? = some (.cells cur 34 (0, 0)) ∧ cur[0]? = some (.int .u32 7) ∧ 1 ≤ qc) ∧ KeepsM P w w' := by
  refine (do_hit w P a M tk A h 2 1 7 zV AskX.no 1 22 (moves_hit2 a.m) (fun args W => rfl) _ (fun W k => post_first W P a M tk A (h.quiet k) 7 zV AskX.no lb cap hl hP (hr.keep k fun h => h))).mono ?_
  rintro e w' ⟨f, V, v, l, n, c, g, w1, rfl, ⟨rfl, rfl, hm, q, qc, hr1, cur, hc, h7, hq⟩, kt, km⟩
  exact ⟨V, v, l, n, c, rfl, hm.out kt, ⟨q, qc, cur, hr1.keep kt (fun e => KeepsTy.apart hr1.ty (by decide) e), kt.at hc (by decide), h7, hq⟩, km⟩
theorem ex_full (q qc : Nat) (hr : RecAt w lb 82 1 3 (fun _ => lnL 1 (.slice (some ⟨q, 0, none⟩) 1 qc) 0)) :
    Calls Tryz.prog 9 #[.pointer (some ⟨a.m, 0, none⟩), .agg (moC 2 1 8 zV AskX.no)] w fun e w' => ∃ V v l n c, e = .returned (.tuple #[.agg (outC 6 V v l n c), .int .i64 0]) ∧ MoW w' P a M tk A ∧ RecAt w' lb 82 1 3 (fun _ => lnL 1 (.slice (some ⟨q, 0, none⟩) 1 qc) 1) ∧ KeepsM P w w' := by
  refine (do_hit w P a M tk A h 2 1 8 zV AskX.no 1 22 (moves_hit2 a.m) (fun args W => rfl) _ (fun W k => post_full W P a M tk A (h.quiet k) 8 zV AskX.no lb cap hl hP q qc (hr.keep k fun h => h))).mono ?_
  rintro e w' ⟨f, V, v, l, n, c, g, w1, rfl, ⟨rfl, rfl, hm, hr1⟩, kt, km⟩
  exact ⟨V, v, l, n, c, rfl, hm.out kt, hr1.keep kt (fun e => KeepsTy.apart hr1.ty (by decide) e), km⟩
theorem ex_apply (q qc : Nat) (ov : Int) (hr : RecAt w lb 82 1 3 (fun _ => lnL 1 (.slice (some ⟨q, 0, none⟩) 1 qc) ov)) (hqc : 1 ≤ qc) (cur : Array Value) (hq7 : w.heap[q]? = some (.cells cur 34 (0, 0))) (h7 : cur[0]? = some (.int .u32 7)) (hm : 0 < M.many) :
    Calls Tryz.prog 9 #[.pointer (some ⟨a.m, 0, none⟩), .agg (moC 7 1 0 zV AskX.no)] w fun e w' => ∃ V l n c, e = .returned (.tuple #[.agg (outC 0 V 7 l n c), .int .i64 0]) ∧ MoW w' P a (noteM M 0 7) tk A ∧ (∃ qv, RecAt w' lb 82 1 3 (fun _ => lnL 1 qv ov)) ∧ KeepsM P w w' := by
  refine (do_hit w P a M tk A h 7 1 0 zV AskX.no 6 27 (moves_hit7 a.m) (fun args W => rfl) _ (fun W k => apply_one W P a M tk A (h.quiet k) 0 zV AskX.no lb cap hl hP q qc ov (hr.keep k fun h => h) hqc cur (k.at hq7 fun h => h) h7 hm)).mono ?_
  rintro e w' ⟨f, V, v, l, n, c, g, w1, rfl, ⟨rfl, rfl, rfl, hm, qv, hr1⟩, kt, km⟩
  exact ⟨V, l, n, c, rfl, hm.out kt, ⟨qv, hr1.keep kt (fun e => KeepsTy.apart hr1.ty (by decide) e)⟩, km⟩
end
end Go.Proofs.YtkhmfjfclpehfaaGreat
namespace Go.Proofs.YtkhmfjfclpehfaaGreat
open Go.ChangeShapes Go.WideShapes Go.ChangeAt Go.RowKit
set_option linter.unusedVariables false
set_option linter.unusedSimpArgs false
set_option maxRecDepth 100000
set_option maxHeartbeats 4000000 in
theorem alive37_any (w : World) : Calls Tryz.prog 6 #[] w fun e w' => e = .returned (.bool true) ∧ Keeps (fun _ => False) w w' := by
  go_enter Tryz.func6, Tryz.ntmps6
  go_wp2_with fail
  have hT := heap_old (heap_new w (.cells #[.int .i64 0, .bool false, .slice none 0 0] 68)) (.cells #[.int .i64 1, .slice none 0 0] 58)
  have hL := heap_new (w.alloc (.cells #[.int .i64 0, .bool false, .slice none 0 0] 68)) (.cells #[.int .i64 1, .slice none 0 0] 58)
  rw [World.size_alloc] at hL
  refine (cA_new _ _ _ hT hL).mono ?_
  rintro e w2 ⟨a, lb, cap, rfl, hm, hl, hlb, hr, k2⟩
  clear hT hL
  have hK2 := ((Keeps.refl (fun _ => False) w).alloc (.cells #[.int .i64 0, .bool false, .slice none 0 0] 68)).alloc (.cells #[.int .i64 1, .slice none 0 0] 58)
  obtain ⟨W0, hW0⟩ : ∃ W, W = (w.alloc (.cells #[.int .i64 0, .bool false, .slice none 0 0] 68)).alloc (.cells #[.int .i64 1, .slice none 0 0] 58) := ⟨_, rfl⟩
  rw [← hW0] at hm hlb k2 hK2
  have HW0 := Lib.hid (hK2)
  have HM := Lib.hid hm
  have HL := Lib.hid hl
  have HP := Lib.hid hlb
  have HR := Lib.hid hr
  have HK := Lib.hid k2
  clear hm hl hlb hr k2 hK2 hW0
  go_wp2_with (refine wpList_buildTo rfl 45 _ rfl (some 16) rfl (moC 2 1 7 zV AskX.no) (by kernel_rfl) ?_)
  refine (ex_post w2 _ a eM 0 _ HM.out lb cap HL.out HP.out HR.out).mono ?_
  rintro e w3 ⟨V3, v3, l3, n3, c3, rfl, hm3, ⟨q, qc, cur, hr3, hc3, h7, hqc⟩, k3⟩
  have HM3 := Lib.hid hm3
  have HR3 := Lib.hid hr3
  have HC3 := Lib.hid hc3
  have H7 := Lib.hid h7
  have HQ := Lib.hid hqc
  have HK3 := Lib.hid k3
  clear hm3 hr3 hc3 h7 hqc k3
  go_wp2_with (first
    | (refine wpList_buildTo rfl 45 _ rfl (some 22) rfl (moC 2 1 8 zV AskX.no) (by kernel_rfl) ?_)
    | (refine wpList_alloc_as rfl 51 rfl (some 2) rfl w3.heap.size rfl _ (out_zero _) (outC 0 zV 0 none 0 0) rfl ?_)
    | (refine wpList_store_row rfl 51 (.tmp 2) (.tmp 18) rfl w3.heap.size (outC 0 V3 v3 l3 n3 c3) rfl rfl 51 _ (heap_new _ _) out_info rfl (out_one _ _ _ _ _ _) ?_; rw [World.setRow_alloc_new]))
  obtain ⟨W3, hW3⟩ : ∃ W, W = w3.alloc (.cells (outC 0 V3 v3 l3 n3 c3) 51) := ⟨_, rfl⟩
  have q3 : Keeps (fun _ => False) w3 W3 := by rw [hW3]; exact (Keeps.refl _ w3).alloc _
  have o3 : W3.heap[w3.heap.size]? = some (.cells (outC 0 V3 v3 l3 n3 c3) 51 (0, 0)) := by rw [hW3]; exact heap_new _ _
  rw [← hW3]
  refine (ex_full W3 _ a eM 0 _ (HM3.out.quiet q3) lb cap HL.out HP.out q qc (HR3.out.keep q3 fun h => h)).mono ?_
  rintro e w4 ⟨V4, v4, l4, n4, c4, rfl, hm4, hr4, k4⟩
  have HM4 := Lib.hid hm4
  have HR4 := Lib.hid hr4
  have HC4 := Lib.hid (k4.at (q3.at HC3.out fun h => h) (by decide))
  have HO4 := Lib.hid (k4.at o3 (by decide))
  have HK4 := Lib.hid (kM (kM HK3.out (kM_none q3)) k4)
  clear hm4 hr4 k4 q3 o3 hW3 HM3 HR3 HC3 HK3
  go_wp2_with (first
    | (refine wpList_buildTo rfl 45 _ rfl (some 28) rfl (moC 7 1 0 zV AskX.no) (by kernel_rfl) ?_)
    | (refine wpList_alloc_as rfl 51 rfl (some 4) rfl w4.heap.size rfl _ (out_zero _) (outC 0 zV 0 none 0 0) rfl ?_)
    | (refine wpList_store_row rfl 51 (.tmp 4) (.tmp 24) rfl w4.heap.size (outC 6 V4 v4 l4 n4 c4) rfl rfl 51 _ (heap_new _ _) out_info rfl (out_one _ _ _ _ _ _) ?_; rw [World.setRow_alloc_new]))
  obtain ⟨W4, hW4⟩ : ∃ W, W = w4.alloc (.cells (outC 6 V4 v4 l4 n4 c4) 51) := ⟨_, rfl⟩
  have q4 : Keeps (fun _ => False) w4 W4 := by rw [hW4]; exact (Keeps.refl _ w4).alloc _
  have o4 : W4.heap[w4.heap.size]? = some (.cells (outC 6 V4 v4 l4 n4 c4) 51 (0, 0)) := by rw [hW4]; exact heap_new _ _
  rw [← hW4]
  refine (ex_apply W4 _ a eM 0 _ (HM4.out.quiet q4) lb cap HL.out HP.out q qc 1 (HR4.out.keep q4 fun h => h) HQ.out cur (q4.at HC4.out fun h => h) H7.out (by rw [eM_many]; decide)).mono ?_
  rintro e w5 ⟨V5, l5, n5, c5, rfl, hm5, ⟨qv, hr5⟩, k5⟩
  have HM5 := Lib.hid hm5
  have HR5 := Lib.hid hr5
  have HO5 := Lib.hid (k5.at (q4.at HO4.out fun h => h) (by decide))
  have HP5 := Lib.hid (k5.at o4 (by decide))
  have HK5 := Lib.hid (kM (kM HK4.out (kM_none q4)) k5)
  clear hm5 hr5 k5 q4 o4 hW4 HM4 HR4 HC4 HK4 HO4
  have HX := Lib.hid (show ∀ W, W = w5.alloc (.cells (outC 0 V5 7 l5 n5 c5) 51) → W.heap[w5.heap.size]? = some (.cells (outC 0 V5 7 l5 n5 c5) 51 (0, 0)) ∧ Keeps (fun _ => False) w5 W from fun W e => by rw [e]; exact ⟨heap_new _ _, (Keeps.refl _ w5).alloc _⟩)
  have z3 := (show ∀ o, (w5.alloc (.cells (outC 0 V5 7 l5 n5 c5) 51)).cell? ⟨w3.heap.size, o, none⟩ = (outC 0 V3 v3 l3 n3 c3)[o]? from fun o => cell_of ((HX.out _ rfl).2.at HO5.out fun h => h) o) 0
  have z4 := (show ∀ o, (w5.alloc (.cells (outC 0 V5 7 l5 n5 c5) 51)).cell? ⟨w4.heap.size, o, none⟩ = (outC 6 V4 v4 l4 n4 c4)[o]? from fun o => cell_of ((HX.out _ rfl).2.at HP5.out fun h => h) o) 0
  have z5 := (show ∀ o, (w5.alloc (.cells (outC 0 V5 7 l5 n5 c5) 51)).cell? ⟨w5.heap.size, o, none⟩ = (outC 0 V5 7 l5 n5 c5)[o]? from fun o => cell_of (HX.out _ rfl).1 o) 5
  have HOV := Lib.hid (over_one _ _ a _ 0 _ (HM5.out.quiet (HX.out _ rfl).2) lb cap HL.out 1 1 qv (HR5.out.keep (HX.out _ rfl).2 fun h => h))
  go_wp2_with (first
    | (refine wpList_buildTo rfl 45 _ rfl (some 0) rfl (moC 7 1 0 zV AskX.no) (by kernel_rfl) ?_)
    | (refine wpList_alloc_as rfl 51 rfl (some 6) rfl w5.heap.size rfl _ (out_zero _) (outC 0 zV 0 none 0 0) rfl ?_)
    | (refine wpList_store_row rfl 51 (.tmp 6) (.tmp 30) rfl w5.heap.size (outC 0 V5 7 l5 n5 c5) rfl rfl 51 _ (heap_new _ _) out_info rfl (out_one _ _ _ _ _ _) ?_; rw [World.setRow_alloc_new]))
  refine HOV.out.mono ?_
  rintro e w6 ⟨rfl, hw6⟩
  go_wp2_with fail
  go_ret
  refine ⟨rfl, ?_⟩
  exact ((HW0.out.trans HK.out).farM HK5.out (fun X hX => Nat.le_trans HW0.out.size hX.1)).trans (HX.out _ rfl).2
end Go.Proofs.YtkhmfjfclpehfaaGreat
namespace Go.Proofs.YtkhmfjfclpehfaaGreat
open Go.ChangeShapes Go.WideShapes Go.ChangeAt Go.RowKit
set_option linter.unusedVariables false
set_option linter.unusedSimpArgs false
theorem light3_any (c : CfD) (w : World) (hc : CfIn w c) (ho : c.Ok) :
    Calls Tryz.prog 12 #[.agg c.cells] w fun e w' => ∃ b, e = .returned (.bool b) ∧ (b = true → c.nT ≤ 20 ∧ c.nL ≤ 40 ∧ c.nO ≤ 20 ∧ (∀ i, i < c.nT → c.tl i ≤ 70) ∧ (∀ i, i < c.nL → c.ll i ≤ 70)) ∧ Keeps (fun _ => False) w w' := by
  have h1 := ho.t
  have h2 := ho.l
  unfold maxLen at h1 h2
  by_cases hT : 20 < c.nT
  · have d0 : decide ((20 : Int) < (c.nT : Int)) = true := decide_eq_true (by omega)
    clear hT h1 h2 hc ho
    go_enter Tryz.func12, Tryz.ntmps12
    go_wp2
    go_ret
    exact ⟨_, rfl, (fun h => by cases h), (Keeps.refl _ _).alloc _⟩
  have d0 : decide ((20 : Int) < (c.nT : Int)) = false := decide_eq_false (by omega)
  have HT := Lib.hid (show c.nT ≤ 20 from by omega)
  have HB := Lib.hid ((Has.start w).alloc (.cells c.cells 26))
  have HC := Lib.hid (show CfIn (w.alloc (.cells c.cells 26)) c from hc.none ((Keeps.refl _ _).alloc _))
  clear hT hc ho
  by_cases hL : 40 < c.nL
  · have d1 : decide ((40 : Int) < (c.nL : Int)) = true := decide_eq_true (by omega)
    clear hL h1 h2
    go_enter Tryz.func12, Tryz.ntmps12
    go_wp2
    go_ret
    exact ⟨_, rfl, (fun h => by cases h), HB.out.keeps⟩
  have d1 : decide ((40 : Int) < (c.nL : Int)) = false := decide_eq_false (by omega)
  have HL := Lib.hid (show c.nL ≤ 40 from by omega)
  clear hL
  by_cases hO : 20 < c.nO
  · have d2 : decide ((20 : Int) < (c.nO : Int)) = true := decide_eq_true (by omega)
    clear hO h1 h2
    go_enter Tryz.func12, Tryz.ntmps12
    go_wp2
    go_ret
    exact ⟨_, rfl, (fun h => by cases h), HB.out.keeps⟩
  have d2 : decide ((20 : Int) < (c.nO : Int)) = false := decide_eq_false (by omega)
  have HO := Lib.hid (show c.nO ≤ 20 from by omega)
  clear hO
  go_enter Tryz.func12, Tryz.ntmps12
  go_wp2_with fail
  obtain ⟨W, hW⟩ : ∃ W : World, W = w.alloc (.cells c.cells 26) := ⟨_, rfl⟩
  rw [← hW] at HB HC ⊢
  have HWW := Lib.hid hW
  clear hW
  go_loopw [3] (fun i wr => ∃ j : Nat, j ≤ c.nT ∧ i = .int .i64 j ∧ wr = W ∧ ∀ i, i < j → c.tl i ≤ 70) (fun i _ => c.nT - (intOf i).toNat)
  case atStart => exact ⟨0, by omega, rfl, rfl, fun i hi => by omega⟩
  case round =>
    obtain ⟨j, hj, rfl, rfl, ha⟩ := hrel
    have HA := Lib.hid ha
    clear ha
    obtain ⟨e0, e1, e2, e3⟩ := four_cells (HB.out.at 0 rfl)
    have lx := lt_of (HB.out.at 0 rfl)
    by_cases hlt : j < c.nT
    · obtain ⟨b, off, hta, hbl, hrow⟩ := HC.out.t (by omega)
      have c2 := (hrow j hlt).2.2
      rw [hta] at e0
      clear hrow hta
      rcases Nat.lt_or_ge 70 (c.tl j) with h7 | h7
      · have d7 : decide ((70 : Int) < (c.tl j : Int)) = true := decide_eq_true (by omega)
        clear h7
        go_wp2
        go_ret
        exact ⟨_, rfl, (fun h => by cases h), HB.out.keeps⟩
      · have d7 : decide ((70 : Int) < (c.tl j : Int)) = false := decide_eq_false (by omega)
        have H7 := Lib.hid h7
        clear h7
        go_wp2
        go_roundw
        case rel => exact ⟨j + 1, by omega, by go_num, by first | rfl | trivial, fun i hi => by rcases Nat.lt_or_ge i j with h | h; exact HA.out i h; rw [show i = j by omega]; exact H7.out⟩
        case measure => simp [intOf]; omega
    · obtain rfl : j = c.nT := by omega
      go_wp2_with fail
      go_loopw [4] (fun i wq => ∃ j : Nat, j ≤ c.nL ∧ i = .int .i64 j ∧ wq = wr ∧ ∀ i, i < j → c.ll i ≤ 70) (fun i _ => c.nL - (intOf i).toNat)
      case atStart => exact ⟨0, by omega, rfl, rfl, fun i hi => by omega⟩
      case round =>
        obtain ⟨j, hj2, rfl, rfl, ha⟩ := hrel
        have HB2 := Lib.hid ha
        clear ha
        by_cases hlt : j < c.nL
        · obtain ⟨b, off, hta, hbl, hrow⟩ := HC.out.l (by omega)
          have c2 := (hrow j hlt).2
          rw [hta] at e1
          clear hrow hta
          rcases Nat.lt_or_ge 70 (c.ll j) with h7 | h7
          · have d7 : decide ((70 : Int) < (c.ll j : Int)) = true := decide_eq_true (by omega)
            clear h7
            go_wp2
            go_ret
            exact ⟨_, rfl, (fun h => by cases h), HB.out.keeps⟩
          · have d7 : decide ((70 : Int) < (c.ll j : Int)) = false := decide_eq_false (by omega)
            have H7 := Lib.hid h7
            clear h7
            go_wp2
            go_roundw
            case rel => exact ⟨j + 1, by omega, by go_num, by first | rfl | trivial, fun i hi => by rcases Nat.lt_or_ge i j with h | h; exact HB2.out i h; rw [show i = j by omega]; exact H7.out⟩
            case measure => simp [intOf]; omega
        · obtain rfl : j = c.nL := by omega
          go_wp2
          go_ret
          exact ⟨_, rfl, fun _ => ⟨HT.out, HL.out, HO.out, HA.out, HB2.out⟩, HB.out.keeps⟩
end Go.Proofs.YtkhmfjfclpehfaaGreat
namespace Go.Proofs.YtkhmfjfclpehfaaGreat
open Go.ChangeShapes Go.WideShapes Go.ChangeAt Go.RowKit
set_option linter.unusedVariables false
set_option maxRecDepth 100000 in
theorem task_cells {w : World} {cs : List Value} (h : Reads Tryz.prog w 68 cs) : ∃ (p : Int) (b : Bool) (a : Option Addr) (n c : Nat), cs = [.int .i64 p, .bool b, .slice a n c] := by
  obtain ⟨hl, hf⟩ := h.struct Tryz.underlying68
  have hc : Tryz.prog.cellsOf 68 = 3 := by kernel_rfl
  rw [hc] at hl
  match cs, hl with
  | [v0, v1, v2], _ =>
    obtain ⟨p, e0, _⟩ := (h.field Tryz.underlying68 0 3 0 1 rfl (by kernel_rfl)).int Tryz.underlying3
    obtain ⟨b, e1⟩ := (h.field Tryz.underlying68 1 4 1 1 rfl (by kernel_rfl)).bool Tryz.underlying4
    obtain ⟨a, n, c, e2, _⟩ := (h.field Tryz.underlying68 2 56 2 1 rfl (by kernel_rfl)).slice Tryz.underlying56
    simp at e0 e1 e2
    exact ⟨p, b, a, n, c, by simp [e0, e1, e2]⟩
set_option maxRecDepth 100000 in
theorem level_cells {w : World} {cs : List Value} (h : Reads Tryz.prog w 58 cs) : ∃ (p : Int) (a : Option Addr) (n c : Nat), cs = [.int .i64 p, .slice a n c] ∧ (-9223372036854775808 ≤ p ∧ p ≤ 9223372036854775807) := by
  obtain ⟨hl, hf⟩ := h.struct Tryz.underlying58
  have hc : Tryz.prog.cellsOf 58 = 2 := by kernel_rfl
  rw [hc] at hl
  match cs, hl with
  | [v0, v1], _ =>
    obtain ⟨p, e0, hp⟩ := (h.field Tryz.underlying58 0 3 0 1 rfl (by kernel_rfl)).int Tryz.underlying3
    obtain ⟨a, n, c, e2, _⟩ := (h.field Tryz.underlying58 1 56 1 1 rfl (by kernel_rfl)).slice Tryz.underlying56
    simp at e0 e2
    exact ⟨p, a, n, c, by simp [e0, e2], by simpa [Lit.wf, IntKind.min, IntKind.max, IntKind.signed, IntKind.bits] using hp⟩
end Go.Proofs.YtkhmfjfclpehfaaGreat
namespace Go.Proofs.YtkhmfjfclpehfaaGreat
open Go.ChangeShapes Go.WideShapes Go.ChangeAt Go.RowKit
set_option linter.unusedVariables false
set_option linter.unusedSimpArgs false
set_option maxRecDepth 100000 in
theorem object_cells3 {w : World} {cs : List Value} (h : Reads Tryz.prog w 87 cs) : ∃ o oi : Nat → Int, cs = [.int .i64 (o 0), .int .i64 (o 1), .int .i64 (o 2), .int .i64 (o 3), .int .i64 (o 4), .int .i64 (o 5), .int .u32 (oi 0), .int .u32 (oi 1), .int .u32 (oi 2), .int .u32 (oi 3)] ∧ (∀ j, j < 4 → 0 ≤ oi j ∧ oi j < 4294967296) ∧ ∀ j, j < 6 → -9223372036854775808 ≤ o j ∧ o j ≤ 9223372036854775807 := by
  obtain ⟨hl, hf⟩ := h.struct Tryz.underlying87
  have hc : Tryz.prog.cellsOf 87 = 10 := by kernel_rfl
  rw [hc] at hl
  match cs, hl with
  | [v0, v1, v2, v3, v4, v5, v6, v7, v8, v9], _ =>
    obtain ⟨p0, e0, h0⟩ := (h.field Tryz.underlying87 0 3 0 1 rfl (by kernel_rfl)).int Tryz.underlying3
    obtain ⟨p1, e1, h1⟩ := (h.field Tryz.underlying87 1 3 1 1 rfl (by kernel_rfl)).int Tryz.underlying3
    obtain ⟨p2, e2, h2⟩ := (h.field Tryz.underlying87 2 3 2 1 rfl (by kernel_rfl)).int Tryz.underlying3
    obtain ⟨p3, e3, h3⟩ := (h.field Tryz.underlying87 3 3 3 1 rfl (by kernel_rfl)).int Tryz.underlying3
    obtain ⟨p4, e4, h4⟩ := (h.field Tryz.underlying87 4 3 4 1 rfl (by kernel_rfl)).int Tryz.underlying3
    obtain ⟨p5, e5, h5⟩ := (h.field Tryz.underlying87 5 3 5 1 rfl (by kernel_rfl)).int Tryz.underlying3
    have hv := (h.field Tryz.underlying87 6 36 6 4 rfl (by kernel_rfl)).array Tryz.underlying36
    have hu : Tryz.prog.cellsOf 34 = 1 := by kernel_rfl
    obtain ⟨q0, f0, g0⟩ := (hv.2 0 (by omega)).int Tryz.underlying34
    obtain ⟨q1, f1, g1⟩ := (hv.2 1 (by omega)).int Tryz.underlying34
    obtain ⟨q2, f2, g2⟩ := (hv.2 2 (by omega)).int Tryz.underlying34
    obtain ⟨q3, f3, g3⟩ := (hv.2 3 (by omega)).int Tryz.underlying34
    rw [hu] at f0 f1 f2 f3
    simp at e0 e1 e2 e3 e4 e5 f0 f1 f2 f3
    refine ⟨fun j => match j with | 0 => p0 | 1 => p1 | 2 => p2 | 3 => p3 | 4 => p4 | _ => p5, fun j => match j with | 0 => q0 | 1 => q1 | 2 => q2 | _ => q3, by simp [e0, e1, e2, e3, e4, e5, f0, f1, f2, f3], fun j hj => ?_, fun j hj => ?_⟩
    · have bu : ∀ q : Int, (Lit.int .u32 q).wf = true → 0 ≤ q ∧ q < 4294967296 := fun q hp => by
        have h2 : 0 ≤ q ∧ q ≤ 4294967295 := by simpa [Lit.wf, IntKind.min, IntKind.max, IntKind.signed, IntKind.bits] using hp
        exact ⟨h2.1, by omega⟩
      rcases (by omega : j = 0 ∨ j = 1 ∨ j = 2 ∨ j = 3) with rfl | rfl | rfl | rfl
      · exact bu _ g0
      · exact bu _ g1
      · exact bu _ g2
      · exact bu _ g3
    have bd : ∀ q : Int, (Lit.int .i64 q).wf = true → -9223372036854775808 ≤ q ∧ q ≤ 9223372036854775807 := fun q hp => by simpa [Lit.wf, IntKind.min, IntKind.max, IntKind.signed, IntKind.bits] using hp
    rcases (by omega : j = 0 ∨ j = 1 ∨ j = 2 ∨ j = 3 ∨ j = 4 ∨ j = 5) with rfl | rfl | rfl | rfl | rfl | rfl
    · exact bd _ h0
    · exact bd _ h1
    · exact bd _ h2
    · exact bd _ h3
    · exact bd _ h4
    · exact bd _ h5
set_option maxRecDepth 100000 in
theorem cfg_of3 {w : World} {cs : List Value} (h : Reads Tryz.prog w 26 cs) : ∃ c : CfD, cs = c.cells.toList ∧ CfIn w c ∧ c.Ok ∧ ∀ i, i < c.nO → ∀ j, j < 4 → 0 ≤ c.oi i j ∧ c.oi i j < 4294967296 := by
  obtain ⟨hl, hf⟩ := h.struct Tryz.underlying26
  have hc : Tryz.prog.cellsOf 26 = 4 := by kernel_rfl
  rw [hc] at hl
  match cs, hl with
  | [v0, v1, v2, v3], _ =>
    obtain ⟨ta, nT, tc, e0, lt1, lt2, rt⟩ := (h.field Tryz.underlying26 0 22 0 1 rfl (by kernel_rfl)).rows Tryz.underlying22 (n := 3) (by kernel_rfl) (by omega)
    obtain ⟨la, nL, lc, e1, ll1, ll2, rl⟩ := (h.field Tryz.underlying26 1 23 1 1 rfl (by kernel_rfl)).rows Tryz.underlying23 (n := 2) (by kernel_rfl) (by omega)
    obtain ⟨oa, nO, oc, e2, lo1, lo2, ro⟩ := (h.field Tryz.underlying26 2 24 2 1 rfl (by kernel_rfl)).rows Tryz.underlying24 (n := 10) (by kernel_rfl) (by omega)
    obtain ⟨tick, e3, ht⟩ := (h.field Tryz.underlying26 3 3 3 1 rfl (by kernel_rfl)).int Tryz.underlying3
    simp at e0 e1 e2 e3
    have hT : ∃ (tp : Nat → Int) (tb : Nat → Bool) (tl : Nat → Nat) (tca : Nat → Option Addr) (tcc : Nat → Nat), 0 < nT → ∃ b off, ta = some ⟨b, off, none⟩ ∧ b < w.heap.size ∧ ∀ i, i < nT → w.cell? ⟨b, off + i * 3, none⟩ = some (.int .i64 (tp i)) ∧ w.cell? ⟨b, off + i * 3 + 1, none⟩ = some (.bool (tb i)) ∧ w.cell? ⟨b, off + i * 3 + 2, none⟩ = some (.slice (tca i) (tl i) (tcc i)) := by
      by_cases hn : 0 < nT
      · obtain ⟨b, off, ha, hb, hr⟩ := rt hn
        obtain ⟨F, hF⟩ := Deep.choose_lt (n := nT) (p := fun i (x : Int × Bool × Option Addr × Nat × Nat) => w.cell? ⟨b, off + i * 3, none⟩ = some (.int .i64 x.1) ∧ w.cell? ⟨b, off + i * 3 + 1, none⟩ = some (.bool x.2.1) ∧ w.cell? ⟨b, off + i * 3 + 2, none⟩ = some (.slice x.2.2.1 x.2.2.2.1 x.2.2.2.2)) (fun i hi => by
          obtain ⟨cs', _, hcell, hrd⟩ := hr i hi
          obtain ⟨p, q, a, n, c, rfl⟩ := task_cells hrd
          exact ⟨(p, q, a, n, c), hcell 0 (by omega), hcell 1 (by omega), hcell 2 (by omega)⟩)
        exact ⟨fun i => (F i).1, fun i => (F i).2.1, fun i => (F i).2.2.2.1, fun i => (F i).2.2.1, fun i => (F i).2.2.2.2, fun _ => ⟨b, off, ha, hb, hF⟩⟩
      · exact ⟨fun _ => 0, fun _ => false, fun _ => 0, fun _ => none, fun _ => 0, fun h => absurd h hn⟩
    have hL : ∃ (lr : Nat → Int) (ll : Nat → Nat) (lca : Nat → Option Addr) (lcc : Nat → Nat), (∀ i, i < nL → -9223372036854775808 ≤ lr i ∧ lr i ≤ 9223372036854775807) ∧ (0 < nL → ∃ b off, la = some ⟨b, off, none⟩ ∧ b < w.heap.size ∧ ∀ i, i < nL → w.cell? ⟨b, off + i * 2, none⟩ = some (.int .i64 (lr i)) ∧ w.cell? ⟨b, off + i * 2 + 1, none⟩ = some (.slice (lca i) (ll i) (lcc i))) := by
      by_cases hn : 0 < nL
      · obtain ⟨b, off, ha, hb, hr⟩ := rl hn
        obtain ⟨F, hF⟩ := Deep.choose_lt (n := nL) (p := fun i (x : Int × Option Addr × Nat × Nat) => (-9223372036854775808 ≤ x.1 ∧ x.1 ≤ 9223372036854775807) ∧ w.cell? ⟨b, off + i * 2, none⟩ = some (.int .i64 x.1) ∧ w.cell? ⟨b, off + i * 2 + 1, none⟩ = some (.slice x.2.1 x.2.2.1 x.2.2.2)) (fun i hi => by
          obtain ⟨cs', _, hcell, hrd⟩ := hr i hi
          obtain ⟨p, a, n, c, rfl, hp⟩ := level_cells hrd
          exact ⟨(p, a, n, c), hp, hcell 0 (by omega), hcell 1 (by omega)⟩)
        exact ⟨fun i => (F i).1, fun i => (F i).2.2.1, fun i => (F i).2.1, fun i => (F i).2.2.2, fun i hi => (hF i hi).1, fun _ => ⟨b, off, ha, hb, fun i hi => (hF i hi).2⟩⟩
      · exact ⟨fun _ => 0, fun _ => 0, fun _ => none, fun _ => 0, fun i hi => by omega, fun h => absurd h hn⟩
    have hO : ∃ (ob oi : Nat → Nat → Int), ((∀ i, i < nO → ∀ j, j < 6 → -9223372036854775808 ≤ ob i j ∧ ob i j ≤ 9223372036854775807) ∧ (∀ i, i < nO → ∀ j, j < 4 → 0 ≤ oi i j ∧ oi i j < 4294967296)) ∧ (0 < nO → ∃ b off, oa = some ⟨b, off, none⟩ ∧ b < w.heap.size ∧ ∀ i, i < nO → ∀ j, j < 10 → w.cell? ⟨b, off + i * 10 + j, none⟩ = (#[.int .i64 (ob i 0), .int .i64 (ob i 1), .int .i64 (ob i 2), .int .i64 (ob i 3), .int .i64 (ob i 4), .int .i64 (ob i 5), .int .u32 (oi i 0), .int .u32 (oi i 1), .int .u32 (oi i 2), .int .u32 (oi i 3)] : Array Value)[j]?) := by
      by_cases hn : 0 < nO
      · obtain ⟨b, off, ha, hb, hr⟩ := ro hn
        obtain ⟨F, hF⟩ := Deep.choose_lt (n := nO) (p := fun i (x : (Nat → Int) × (Nat → Int)) => ((∀ j, j < 6 → -9223372036854775808 ≤ x.1 j ∧ x.1 j ≤ 9223372036854775807) ∧ ∀ j, j < 4 → 0 ≤ x.2 j ∧ x.2 j < 4294967296) ∧ ∀ j, j < 10 → w.cell? ⟨b, off + i * 10 + j, none⟩ = (#[.int .i64 (x.1 0), .int .i64 (x.1 1), .int .i64 (x.1 2), .int .i64 (x.1 3), .int .i64 (x.1 4), .int .i64 (x.1 5), .int .u32 (x.2 0), .int .u32 (x.2 1), .int .u32 (x.2 2), .int .u32 (x.2 3)] : Array Value)[j]?) (fun i hi => by
          obtain ⟨cs', _, hcell, hrd⟩ := hr i hi
          obtain ⟨o, oi, rfl, hu, ho⟩ := object_cells3 hrd
          exact ⟨(o, oi), ⟨ho, hu⟩, fun j hj => (hcell j hj).trans (by simp)⟩)
        exact ⟨fun i => (F i).1, fun i => (F i).2, ⟨fun i hi => (hF i hi).1.1, fun i hi => (hF i hi).1.2⟩, fun _ => ⟨b, off, ha, hb, fun i hi => (hF i hi).2⟩⟩
      · exact ⟨fun _ _ => 0, fun _ _ => 0, ⟨fun i hi => by omega, fun i hi => by omega⟩, fun h => absurd h hn⟩
    obtain ⟨tp, tb, tl, tca, tcc, hT⟩ := hT
    obtain ⟨lr, ll, lca, lcc, hLb, hL⟩ := hL
    obtain ⟨ob, oi, ⟨hOb, hOu⟩, hO⟩ := hO
    refine ⟨⟨nT, nL, nO, tick, ta, la, oa, tc, lc, oc, tp, tb, tl, tca, tcc, lr, ll, lca, lcc, ob, oi⟩, by simp [e0, e1, e2, e3], ⟨hT, hL, hO⟩, ⟨by show nT ≤ maxLen; omega, by show nL ≤ maxLen; omega, by show nO ≤ maxLen; omega, ?_, hLb, hOb⟩, hOu⟩
    simpa [Lit.wf, IntKind.min, IntKind.max, IntKind.signed, IntKind.bits] using ht
end Go.Proofs.YtkhmfjfclpehfaaGreat
namespace Go.Proofs.YtkhmfjfclpehfaaGreat
open Go.ChangeShapes Go.WideShapes Go.ChangeAt Go.RowKit
set_option linter.unusedVariables false
set_option linter.unusedSimpArgs false
set_option maxRecDepth 100000
@[reducible] def rqC (k o m d b : Int) : Array Value := #[.int .i64 k, .int .i64 o, .int .u32 m, .int .u32 d, .int .u32 b]
def RgtQ (w : World) (e : Ending) (w' : World) : Prop := ∃ r, e = .returned (.bool r) ∧ Keeps (fun _ => False) w w'
theorem rgt {w w' : World} {r : Bool} (h : Keeps (fun _ => False) w w') : RgtQ w (.returned (.bool r)) w' := ⟨r, rfl, h⟩
set_option maxHeartbeats 8000000 in
theorem right34_any (c : CfD) (w : World) (hc : CfIn w c) (k o m d b : Int) :
    Calls Tryz.prog 13 #[.agg c.cells, .agg (rqC k o m d b)] w (RgtQ w) := by
  obtain ⟨W1, hW1⟩ : ∃ W, W = w.alloc (.cells c.cells 26) := ⟨_, rfl⟩
  obtain ⟨W2, hW2⟩ : ∃ W, W = W1.alloc (.cells (rqC k o m d b) 47) := ⟨_, rfl⟩
  have k1 : Keeps (fun _ => False) w W1 := by rw [hW1]; exact (Keeps.refl _ w).alloc _
  have k2 : Keeps (fun _ => False) W1 W2 := by rw [hW2]; exact (Keeps.refl _ W1).alloc _
  have h1 : W2.heap[w.heap.size]? = some (.cells c.cells 26 (0, 0)) := k2.at (by rw [hW1]; exact heap_new _ _) fun h => h
  have h2 : W2.heap[W1.heap.size]? = some (.cells (rqC k o m d b) 47 (0, 0)) := by rw [hW2]; exact heap_new _ _
  have HK := Lib.hid (k1.trans k2)
  have q0 := cell_of h2 0
  have q1 := cell_of h2 1
  have p2 := cell_of h1 2
  have l1 := lt_of h1
  have l2 := lt_of h2
  have hc2 := hc.none (k1.trans k2)
  have HW1 := Lib.hid hW1
  have HW2 := Lib.hid hW2
  clear hc k1 k2 h1 h2 HW1 HW2
  subst hW2
  subst hW1
  rw [World.size_alloc] at q0 q1 l2
  by_cases e0 : 0 ≤ o
  · have d0 : decide (0 ≤ o) = true := decide_eq_true e0
    by_cases e1 : o < (c.nO : Int)
    · have d1 : decide (o < (c.nO : Int)) = true := decide_eq_true e1
      obtain ⟨i, rfl⟩ : ∃ i : Nat, o = (i : Int) := ⟨o.toNat, by omega⟩
      have hi : i < c.nO := by omega
      obtain ⟨ob, off, ha, hl, hx⟩ := hc2.o (by omega)
      have hx0 : ((w.alloc (.cells c.cells 26)).alloc (.cells (rqC k (i : Int) m d b) 47)).cell? ⟨ob, off + i * 10, none⟩ = some (.int .i64 (c.ob i 0)) := hx i hi 0 (by omega)
      have hy0 : ((w.alloc (.cells c.cells 26)).alloc (.cells (rqC k (i : Int) m d b) 47)).cell? ⟨ob, off + i * 10 + 0, none⟩ = some (.int .i64 (c.ob i 0)) := hx0
      have d1n : decide (i < c.nO) = true := decide_eq_true hi
      have d0n : decide (0 ≤ i) = true := decide_eq_true (by omega)
      clear hc2
      rcases Decidable.em (k = 14) with f1 | f1
      · subst f1
        go_enter Tryz.func13, Tryz.ntmps13
        go_wp2_with fail
        go_ret
        exact rgt HK.out
      have g1 : (k == 14) = false := beq_eq_false_iff_ne.2 f1
      rcases Decidable.em (k = 15) with f2 | f2
      · subst f2
        go_enter Tryz.func13, Tryz.ntmps13
        go_wp2_with fail
        go_ret
        exact rgt HK.out
      have g2 : (k == 15) = false := beq_eq_false_iff_ne.2 f2
      rcases Decidable.em (k = 16) with f3 | f3
      · subst f3
        go_enter Tryz.func13, Tryz.ntmps13
        go_wp2_with fail
        go_ret
        exact rgt HK.out
      have g3 : (k == 16) = false := beq_eq_false_iff_ne.2 f3
      rcases Decidable.em (k = 17) with f4 | f4
      · subst f4
        go_enter Tryz.func13, Tryz.ntmps13
        go_wp2_with fail
        go_ret
        exact rgt HK.out
      have g4 : (k == 17) = false := beq_eq_false_iff_ne.2 f4
      go_enter Tryz.func13, Tryz.ntmps13
      go_wp2_with fail
      go_ret
      exact rgt HK.out
    · have d1 : decide (o < (c.nO : Int)) = false := decide_eq_false e1
      clear hc2
      rcases Decidable.em (k = 14) with f1 | f1
      · subst f1
        go_enter Tryz.func13, Tryz.ntmps13
        go_wp2_with fail
        go_ret
        exact rgt HK.out
      have g1 : (k == 14) = false := beq_eq_false_iff_ne.2 f1
      rcases Decidable.em (k = 15) with f2 | f2
      · subst f2
        go_enter Tryz.func13, Tryz.ntmps13
        go_wp2_with fail
        go_ret
        exact rgt HK.out
      have g2 : (k == 15) = false := beq_eq_false_iff_ne.2 f2
      rcases Decidable.em (k = 16) with f3 | f3
      · subst f3
        go_enter Tryz.func13, Tryz.ntmps13
        go_wp2_with fail
        go_ret
        exact rgt HK.out
      have g3 : (k == 16) = false := beq_eq_false_iff_ne.2 f3
      rcases Decidable.em (k = 17) with f4 | f4
      · subst f4
        go_enter Tryz.func13, Tryz.ntmps13
        go_wp2_with fail
        go_ret
        exact rgt HK.out
      have g4 : (k == 17) = false := beq_eq_false_iff_ne.2 f4
      go_enter Tryz.func13, Tryz.ntmps13
      go_wp2_with fail
      go_ret
      exact rgt HK.out
  · have d0 : decide (0 ≤ o) = false := decide_eq_false e0
    clear hc2
    rcases Decidable.em (k = 14) with f1 | f1
    · subst f1
      go_enter Tryz.func13, Tryz.ntmps13
      go_wp2_with fail
      go_ret
      exact rgt HK.out
    have g1 : (k == 14) = false := beq_eq_false_iff_ne.2 f1
    rcases Decidable.em (k = 15) with f2 | f2
    · subst f2
      go_enter Tryz.func13, Tryz.ntmps13
      go_wp2_with fail
      go_ret
      exact rgt HK.out
    have g2 : (k == 15) = false := beq_eq_false_iff_ne.2 f2
    rcases Decidable.em (k = 16) with f3 | f3
    · subst f3
      go_enter Tryz.func13, Tryz.ntmps13
      go_wp2_with fail
      go_ret
      exact rgt HK.out
    have g3 : (k == 16) = false := beq_eq_false_iff_ne.2 f3
    rcases Decidable.em (k = 17) with f4 | f4
    · subst f4
      go_enter Tryz.func13, Tryz.ntmps13
      go_wp2_with fail
      go_ret
      exact rgt HK.out
    have g4 : (k == 17) = false := beq_eq_false_iff_ne.2 f4
    go_enter Tryz.func13, Tryz.ntmps13
    go_wp2_with fail
    go_ret
    exact rgt HK.out
end Go.Proofs.YtkhmfjfclpehfaaGreat
namespace Go.Proofs.YtkhmfjfclpehfaaGreat
open Go.ChangeShapes Go.WideShapes Go.ChangeAt Go.RowKit
set_option linter.unusedVariables false
set_option linter.unusedSimpArgs false
set_option maxRecDepth 100000
section
variable (w : World) (P : Nat → Prop) (a : MoA) (M : ScM) (tk : Int) (A : Nat → AskX) (h : MoW w P a M tk A) (t : Int) (x : AskX)
include h
end
end Go.Proofs.YtkhmfjfclpehfaaGreat
namespace Go.Proofs.YtkhmfjfclpehfaaGreat
open Go.ChangeShapes Go.WideShapes Go.ChangeAt Go.RowKit
set_option linter.unusedVariables false
set_option linter.unusedSimpArgs false
set_option maxRecDepth 100000
structure BxW (w : World) (c : CfD) (r : Array Value) (W : World) : Prop where
  keeps : Keeps (fun _ => False) w W
  cf : W.heap[w.heap.size]? = some (.cells c.cells 26 (0, 0))
  rq : W.heap[w.heap.size + 1]? = some (.cells r 47 (0, 0))
theorem BxW.start (w : World) (c : CfD) (r : Array Value) : BxW w c r ((w.alloc (.cells c.cells 26)).alloc (.cells r 47)) := by
  have h1 := heap_new w (.cells c.cells 26)
  have h2 := heap_new (w.alloc (.cells c.cells 26)) (.cells r 47)
  rw [World.size_alloc] at h2
  exact ⟨((Keeps.refl _ w).alloc _).alloc _, heap_old h1 _, h2⟩
theorem BxW.quiet {w W W' : World} {c : CfD} {r : Array Value} (h : BxW w c r W) (k : Keeps (fun _ => False) W W') : BxW w c r W' := ⟨h.keeps.trans k, k.at h.cf fun h => h, k.at h.rq fun h => h⟩
theorem BxW.kM {w W W' : World} {P : Nat → Prop} {c : CfD} {r : Array Value} (h : BxW w c r W) (k : KeepsM P W W') (hP : ∀ x, P x → w.heap.size ≤ x) : BxW w c r W' := ⟨h.keeps.farM k (fun X hX => hP X hX.1), k.at h.cf (by decide), k.at h.rq (by decide)⟩
theorem BxW.cells {w W : World} {c : CfD} {k o m d b : Int} (h : BxW w c (rqC k o m d b) W) : W.cell? ⟨w.heap.size, 0, none⟩ = some (.slice c.ta c.nT c.tc) ∧ W.cell? ⟨w.heap.size, 1, none⟩ = some (.slice c.la c.nL c.lc) ∧ W.cell? ⟨w.heap.size, 2, none⟩ = some (.slice c.oa c.nO c.oc) ∧ W.cell? ⟨w.heap.size, 3, none⟩ = some (.int .i64 c.tick) ∧ W.cell? ⟨w.heap.size + 1, 0, none⟩ = some (.int .i64 k) ∧ W.cell? ⟨w.heap.size + 1, 1, none⟩ = some (.int .i64 o) ∧ W.cell? ⟨w.heap.size + 1, 2, none⟩ = some (.int .u32 m) ∧ W.cell? ⟨w.heap.size + 1, 3, none⟩ = some (.int .u32 d) ∧ W.cell? ⟨w.heap.size + 1, 4, none⟩ = some (.int .u32 b) ∧ w.heap.size < W.heap.size ∧ w.heap.size + 1 < W.heap.size :=
  ⟨cell_of h.cf 0, cell_of h.cf 1, cell_of h.cf 2, cell_of h.cf 3, cell_of h.rq 0, cell_of h.rq 1, cell_of h.rq 2, cell_of h.rq 3, cell_of h.rq 4, lt_of h.cf, lt_of h.rq⟩
def LawQ (w : World) (e : Ending) (w' : World) : Prop := e = .returned (.bool true) ∧ Keeps (fun _ => False) w w'
theorem lawQ {w w' : World} (h : Keeps (fun _ => False) w w') : LawQ w (.returned (.bool true)) w' := ⟨rfl, h⟩
theorem al37 {w W : World} (h : Keeps (fun _ => False) w W) : Calls Tryz.prog 6 #[] W fun e w' => e = .returned (.bool true) ∧ Keeps (fun _ => False) w w' :=
  (alive37_any W).mono fun e w' k => ⟨k.1, h.trans k.2⟩
end Go.Proofs.YtkhmfjfclpehfaaGreat
