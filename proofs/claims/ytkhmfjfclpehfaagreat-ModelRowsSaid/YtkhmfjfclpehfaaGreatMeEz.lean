import Derived.Test.YtkhmfjfclpehfaaGreatMeAz
import Derived.Test.YtkhmfjfclpehfaaGreatSpecNz
import Derived.Deep.RegionHeld3
namespace Go.Proofs.YtkhmfjfclpehfaaGreat
open Go.ChangeShapes Go.WideShapes Go.ChangeAt Go.RowKit
set_option linter.unusedVariables false
set_option linter.unusedSimpArgs false
set_option maxRecDepth 100000
def GoneOn (P : Nat → Prop) (a : MoA) (M : ScM) (tk : Int) (A : Nat → AskX) (w1 : World) : Prop := ∃ M', MoW w1 P a M' tk A ∧ Inv2 M' ∧ M'.many = M.many
theorem GoneOn.out {P : Nat → Prop} {a : MoA} {M : ScM} {tk : Int} {A : Nat → AskX} {w w' : World} (h : GoneOn P a M tk A w) (k : KeepsTy [51] w w') : GoneOn P a M tk A w' := by
  obtain ⟨M', h1, h2⟩ := h
  exact ⟨M', h1.out k, h2⟩
set_option maxHeartbeats 8000000 in
theorem tickout_ok (w : World) (P Q : Nat → Prop) (a : MoA) (M : ScM) (tk : Int) (A : Nat → AskX) (h : MoW w P a M tk A) (hPQ : ∀ k, P k → Q k) (vv : Int) (Z : Nat → Int) (x : AskX) (who : Int) (hP : P a.m) (h0 : 0 < tk) (ht : tk ≤ 4294967295) (hi : Inv2 M) : Calls Tryz.prog 26 #[.pointer (some ⟨a.m, 0, none⟩), .agg (moC 6 who vv Z x)] w (MvQ P w (fun f V v l n2 c g w1 => g = 0 ∧ f = 0 ∧ GoneOn P a M (tk - 1) A w1)) := by
  obtain ⟨P1, hP1⟩ : ∃ W, W = w.alloc (.cells (moC 6 who vv Z x) 45) := ⟨_, rfl⟩
  obtain ⟨W1, hW1⟩ : ∃ W, W = P1.alloc (.cells (outC 0 zV 0 none 0 0) 51) := ⟨_, rfl⟩
  have kP : Keeps (fun _ => False) w P1 := by rw [hP1]; exact (Keeps.refl _ w).alloc _
  have hb1 : P1.heap[w.heap.size]? = some (.cells (moC 6 who vv Z x) 45 (0, 0)) := by rw [hP1]; exact heap_new _ _
  have k1 : Keeps (fun _ => False) w W1 := by rw [hW1]; exact kP.alloc _
  have hb2 : W1.heap[w.heap.size]? = some (.cells (moC 6 who vv Z x) 45 (0, 0)) := by rw [hW1]; exact ((Keeps.refl (fun _ => False) P1).alloc _).at hb1 fun h => h
  have ho : W1.heap[P1.heap.size]? = some (.cells (outC 0 zV 0 none 0 0) 51 (0, 0)) := by rw [hW1]; exact heap_new _ _
  have hq := h.quiet k1
  have HZ := Lib.hid kP.size
  have HB2 := Lib.hid hb2
  have HO := Lib.hid ho
  have HQ := Lib.hid hq
  have HK1 := Lib.hid k1
  have HP1 := Lib.hid hP1
  have HW1 := Lib.hid hW1
  have k1r := HK1.out
  clear hP1 hW1 kP hb1 k1 hb2 ho
  have c3 := cell_of hq.blk 3
  have f3 := free_of hq.blk 3
  have lm := hq.lt
  have d0 : (tk == 0) = false := beq_eq_false_iff_ne.mpr (by omega)
  have d1 : (tk = 0) = False := eq_false (by omega)
  have d2 : (tk - 1) % 4294967296 = tk - 1 := by omega
  have HTK := Lib.hid (hq.setTk (tk - 1))
  have HKK := Lib.hid (hq.oneM 3 (.int .u32 (tk - 1)))
  have HTY := Lib.hid (show Ty W1 a.m 80 from ⟨_, _, hq.blk⟩)
  have HPM := Lib.hid hP
  have HI := Lib.hid hi
  obtain ⟨W3, hW3⟩ : ∃ W, W = W1.setCell ⟨a.m, 3, none⟩ (.int .u32 (tk - 1)) := ⟨_, rfl⟩
  have ho3 := HKK.out.at HO.out (Ty.ne ⟨_, _, HO.out⟩ HTY.out (by decide))
  have hk3 := kM (kM_none (P := P) HK1.out) (kM_one HKK.out HTY.out (by decide) HPM.out)
  have hm3 := HTK.out
  rw [← hW3] at ho3 hk3 hm3
  have HM3 := Lib.hid hm3
  have HO3 := Lib.hid ho3
  have HK3 := Lib.hid hk3
  have HW3 := Lib.hid hW3
  have e1 := cell_of hm3.blk 1
  have lm3 := hm3.lt
  rw [hW3] at e1 lm3
  clear hq h k1r hPQ hP hi ho3 hk3 hm3 hW3
  go_enter Tryz.func26, Tryz.ntmps26
  go_wp2_with (first
    | (refine Great.wpList_boxTo rfl 45 (.tmp 1) rfl (some 3) rfl w.heap.size rfl (moC 6 who vv Z x) rfl ?_; rw [← HP1.out])
    | (refine wpList_alloc_as rfl 51 rfl (some 4) rfl P1.heap.size rfl _ (out_zero _) (outC 0 zV 0 none 0 0) rfl ?_; rw [← HW1.out]))
  try rw [← HW3.out]
  refine (stick_any _ P a.sa M HM3.out.sch HM3.out.n).mono ?_
  rintro e w4 ⟨v0, l0, rfl, ht4, hown4, hs4, k4⟩
  obtain ⟨va, vc, rfl⟩ := own_sliceM hown4
  have HM4 := Lib.hid (HM3.out.sched k4 hs4 (overs_many M l0 _))
  have HI4 := Lib.hid (Inv2.mk (HI.out.inv.tick ht4 HM3.out.sch.tin) (HI.out.w.tick l0))
  have HO4 := Lib.hid (k4.at HO3.out (by decide))
  have HK4 := Lib.hid (kM HK3.out (kM_S k4))
  clear ht4 hown4 hs4 k4 c3 f3 lm e1 lm3
  go_wp2_with (first
    | (refine Great.wpList_buildTo rfl 51 _ rfl (some 24) rfl (outC 0 zV 0 va l0.length vc) (by kernel_rfl) ?_)
    | (refine wpList_store_row rfl 51 (.tmp 4) (.tmp 24) rfl P1.heap.size (outC 0 zV 0 va l0.length vc) rfl rfl 51 _ HO4.out out_info rfl (out_one _ _ _ _ _ _) ?_))
  have kq : KeepsTy [51] w4 (World.setRow w4 P1.heap.size (outC 0 zV 0 va l0.length vc)) := ((Keeps.refl (fun k => k = P1.heap.size) w4).setRow (.inl rfl) _).mono (fun k _ e => ⟨_, .head _, by obtain rfl : k = P1.heap.size := e; exact ⟨_, _, HO4.out⟩⟩)
  refine bodyPost_ret (v := .tuple #[.agg (outC 0 zV 0 va l0.length vc), .int .i64 0]) (res_out _ Tryz.results26 _ _ P1.heap.size _ _ rfl rfl rfl (setRow_heap _ _ _ _ _ _ HO4.out)) rfl ?_
  exact ⟨0, zV, 0, va, l0.length, vc, 0, rfl, ⟨rfl, rfl, _, HM4.out.out kq, HI4.out, overs_many M l0 _⟩, Keeps.setRow HK4.out (.inr HZ.out) _⟩
theorem point_cells {w1 : World} {a : MoA} {P : Nat → Prop} {M : ScM} {tk : Int} {A : Nat → AskX} {b g0 c0 n : Nat} {k who v : Int} {Z : Nat → Int} {x : AskX} (h : MoW w1 P a M tk A) (he : a.items = .slice (some ⟨g0, 0, none⟩) n c0) (hb : w1.heap[b]? = some (.cells (moC k who v Z x) 45 (0, 0))) : w1.cell? ⟨a.m, 0, none⟩ = some (.slice (some ⟨g0, 0, none⟩) n c0) ∧ w1.cell? ⟨b, 3, none⟩ = some (.int .i64 (Z 0)) ∧ w1.cell? ⟨b, 4, none⟩ = some (.int .i64 (Z 1)) ∧ w1.cell? ⟨b, 5, none⟩ = some (.int .u32 (Z 2)) ∧ w1.cell? ⟨b, 6, none⟩ = some (.int .u32 (Z 3)) ∧ w1.cell? ⟨b, 7, none⟩ = some (.int .u32 (Z 4)) ∧ w1.cell? ⟨b, 8, none⟩ = some (.int .u32 (Z 5)) ∧ w1.cell? ⟨b, 9, none⟩ = some (.int .u32 (Z 6)) ∧ w1.cell? ⟨b, 10, none⟩ = some (.int .i64 (Z 7)) ∧ w1.cell? ⟨b, 11, none⟩ = some (.int .u32 (Z 8)) ∧ w1.cell? ⟨b, 12, none⟩ = some (.int .u32 (Z 9)) ∧ w1.cell? ⟨b, 13, none⟩ = some (.int .u32 (Z 10)) ∧ w1.cell? ⟨b, 14, none⟩ = some (.int .u32 (Z 11)) := by
  have hm := h.blk
  rw [he] at hm
  exact And.intro (cell_of hm 0) (And.intro (cell_of hb 3) ( And.intro (cell_of hb 4) ( And.intro (cell_of hb 5) ( And.intro (cell_of hb 6) ( And.intro (cell_of hb 7) ( And.intro (cell_of hb 8) ( And.intro (cell_of hb 9) ( And.intro (cell_of hb 10) ( And.intro (cell_of hb 11) ( And.intro (cell_of hb 12) ( And.intro (cell_of hb 13) (cell_of hb 14))))))))))))
set_option maxHeartbeats 8000000 in
theorem point_any (w : World) (P Q : Nat → Prop) (a : MoA) (M : ScM) (tk : Int) (A : Nat → AskX) (h : MoW w P a M tk A) (hPQ : ∀ k, P k → Q k) (vv : Int) (Z : Nat → Int) (x : AskX) (who : Int) (hz : ∀ j, 2 ≤ j → j ≤ 5 → u32B (Z j)) (g0 c0 : Nat) (S : List ItemD) (hit : a.items = .slice (some ⟨g0, 0, none⟩) S.length c0) (hst : StateAt w g0 S) (hok : ∀ y, y ∈ S → y.Ok) (hn : S.length ≤ 1000) (hP : P a.m) : Calls Tryz.prog 21 #[.pointer (some ⟨a.m, 0, none⟩), .agg (moC 1 who vv Z x)] w (MvQ P w (fun f V v l n2 c g w1 => ((g = 2 ∧ MoW w1 P a M tk A ∧ StateAt w1 g0 S) ∨ (g = 0 ∧ ∃ g1 c1, MoW w1 P { a with items := .slice (some ⟨g1, 0, none⟩) S.length c1 } M tk A ∧ StateAt w1 g1 (allowsP S (Z 0) (Z 1) ⟨Z 2, Z 3, Z 4, Z 5⟩ ⟨Z 7, ⟨Z 8, Z 9, Z 10, Z 11⟩⟩).1)) ∧ f = 0)) := by
  obtain ⟨P1, hP1⟩ : ∃ W, W = w.alloc (.cells (moC 1 who vv Z x) 45) := ⟨_, rfl⟩
  obtain ⟨W1, hW1⟩ : ∃ W, W = P1.alloc (.cells (outC 0 zV 0 none 0 0) 51) := ⟨_, rfl⟩
  have kP : Keeps (fun _ => False) w P1 := by rw [hP1]; exact (Keeps.refl _ w).alloc _
  have hb1 : P1.heap[w.heap.size]? = some (.cells (moC 1 who vv Z x) 45 (0, 0)) := by rw [hP1]; exact heap_new _ _
  have k1 : Keeps (fun _ => False) w W1 := by rw [hW1]; exact kP.alloc _
  have hb2 : W1.heap[w.heap.size]? = some (.cells (moC 1 who vv Z x) 45 (0, 0)) := by rw [hW1]; exact ((Keeps.refl (fun _ => False) P1).alloc _).at hb1 fun h => h
  have ho : W1.heap[P1.heap.size]? = some (.cells (outC 0 zV 0 none 0 0) 51 (0, 0)) := by rw [hW1]; exact heap_new _ _
  have hq := h.quiet k1
  have HZ := Lib.hid kP.size
  have HB2 := Lib.hid hb2
  have HO := Lib.hid ho
  have HQ := Lib.hid hq
  have HK1 := Lib.hid k1
  have HP1 := Lib.hid hP1
  have HW1 := Lib.hid hW1
  have k1r := HK1.out
  clear hP1 hW1 kP hb1 k1 hb2 ho
  have HC := Lib.hid (fun (W : World) (k : Keeps (fun _ => False) W1 W) => allows_any W g0 c0 S ((hst.none k1r).none k) hok hn (Z 0) (Z 1) (Z 6) ⟨Z 2, Z 3, Z 4, Z 5⟩ ⟨hz 2 (by omega) (by omega), hz 3 (by omega) (by omega), hz 4 (by omega) (by omega), hz 5 (by omega) (by omega)⟩ ⟨Z 7, ⟨Z 8, Z 9, Z 10, Z 11⟩⟩)
  have HST := Lib.hid (hst.none k1r)
  have HPM := Lib.hid hP
  have HIT := Lib.hid hit
  have HSS := Lib.hid (point_cells (hq.quiet (Keeps.refl _ W1)) hit HB2.out)
  have lm := hq.lt
  have lx := lt_of HB2.out
  obtain ⟨s0, s3, s4, s5, s6, s7, s8, s9, s10, s11, s12, s13, s14⟩ := HSS.out
  obtain ⟨AP, hAP⟩ : ∃ AP, (allowsP S (Z 0) (Z 1) ⟨Z 2, Z 3, Z 4, Z 5⟩ ⟨Z 7, ⟨Z 8, Z 9, Z 10, Z 11⟩⟩) = AP := ⟨_, rfl⟩
  have HAP := Lib.hid hAP
  rw [hAP] at HC
  obtain ⟨S2, yes⟩ := AP
  rw [hAP]
  obtain ⟨sn, hsn⟩ : ∃ sn, S.length = sn := ⟨_, rfl⟩
  have HSN := Lib.hid hsn
  rw [hsn] at s0 HSS HIT HC ⊢
  clear hq h k1r hPQ hP hit hst hok hn hz hAP hsn
  go_enter Tryz.func21, Tryz.ntmps21
  go_wp2_with (first
    | (refine Great.wpList_boxTo rfl 45 (.tmp 1) rfl (some 3) rfl w.heap.size rfl (moC 1 who vv Z x) rfl ?_; rw [← HP1.out])
    | (refine wpList_alloc_as rfl 51 rfl (some 4) rfl P1.heap.size rfl _ (out_zero _) (outC 0 zV 0 none 0 0) rfl ?_; rw [← HW1.out]))
  go_region_held3 (fun w' => w'.cell? ⟨a.m, 0, none⟩ = some (.slice (some ⟨g0, 0, none⟩) sn c0) ∧ w'.cell? ⟨w.heap.size, 3, none⟩ = some (.int .i64 (Z 0)) ∧ w'.cell? ⟨w.heap.size, 4, none⟩ = some (.int .i64 (Z 1)) ∧ w'.cell? ⟨w.heap.size, 5, none⟩ = some (.int .u32 (Z 2)) ∧ w'.cell? ⟨w.heap.size, 6, none⟩ = some (.int .u32 (Z 3)) ∧ w'.cell? ⟨w.heap.size, 7, none⟩ = some (.int .u32 (Z 4)) ∧ w'.cell? ⟨w.heap.size, 8, none⟩ = some (.int .u32 (Z 5)) ∧ w'.cell? ⟨w.heap.size, 9, none⟩ = some (.int .u32 (Z 6)) ∧ w'.cell? ⟨w.heap.size, 10, none⟩ = some (.int .i64 (Z 7)) ∧ w'.cell? ⟨w.heap.size, 11, none⟩ = some (.int .u32 (Z 8)) ∧ w'.cell? ⟨w.heap.size, 12, none⟩ = some (.int .u32 (Z 9)) ∧ w'.cell? ⟨w.heap.size, 13, none⟩ = some (.int .u32 (Z 10)) ∧ w'.cell? ⟨w.heap.size, 14, none⟩ = some (.int .u32 (Z 11)))
    (first
      | exact HSS.out
      | exact HS4.out
      | go_keep)
    (first
      | (go_at_call 42; refine (HC.out _ (Keeps.refl _ W1).drew).mono ?_; rintro e4 w4 ⟨b4, g4, c4, rfl, hs4⟩; have HT4 := Lib.hid hs4; have HK4 := Lib.hid ((Keeps.refl (fun _ => False) W1).drew.trans (Keeps.ofBelow b4)); have HQ4 := Lib.hid (HQ.out.quiet HK4.out); have HS4 := Lib.hid (point_cells HQ4.out HIT.out (HK4.out.at HB2.out fun h => h)); clear b4 hs4)
      | fail)
  all_goals
    have HO4 := Lib.hid (HK4.out.at HO.out fun h => h)
    have HKM := Lib.hid (kM_none (P := P) (HK1.out.trans HK4.out))
    have HI4 := Lib.hid (HST.out.none HK4.out)
    have lm4 := HQ4.out.lt
    have c04 := cell_of HQ4.out.blk 0
    have f04 := free_of HQ4.out.blk 0
    have HTY := Lib.hid (show Ty w4 a.m 80 from ⟨_, _, HQ4.out.blk⟩)
    clear s0 s3 s4 s5 s6 s7 s8 s9 s10 s11 s12 s13 s14 lm lx
    cases yes
    · go_wp2_with (first
        | (refine Great.wpList_buildTo rfl 51 _ rfl (some 22) rfl (outC 0 zV 0 none 0 0) (by kernel_rfl) ?_)
        | (refine wpList_store_row rfl 51 (.tmp 4) (.tmp 22) rfl P1.heap.size (outC 0 zV 0 none 0 0) rfl rfl 51 _ HO4.out out_info rfl (out_one _ _ _ _ _ _) ?_))
      have kq : KeepsTy [51] w4 (World.setRow w4 P1.heap.size (outC 0 zV 0 none 0 0)) := ((Keeps.refl (fun k => k = P1.heap.size) w4).setRow (.inl rfl) _).mono (fun k _ e => ⟨_, .head _, by obtain rfl : k = P1.heap.size := e; exact ⟨_, _, HO4.out⟩⟩)
      refine bodyPost_ret (v := .tuple #[.agg (outC 0 zV 0 none 0 0), .int .i64 2]) (res_out _ Tryz.results21 _ _ P1.heap.size _ _ rfl rfl rfl (setRow_heap _ _ _ _ _ _ HO4.out)) rfl ?_
      exact ⟨0, zV, 0, none, 0, 0, 2, rfl, ⟨.inl ⟨rfl, HQ4.out.out kq, HI4.out.outM kq⟩, rfl⟩, Keeps.setRow HKM.out (.inr HZ.out) _⟩
    · have ho5 := (HQ4.out.oneM 0 (.slice (some ⟨g4, 0, none⟩) sn c4)).at HO4.out (Ty.ne ⟨_, _, HO4.out⟩ HTY.out (by decide))
      have hk5 := kM HKM.out (kM_one (HQ4.out.oneM 0 (.slice (some ⟨g4, 0, none⟩) sn c4)) HTY.out (by decide) HPM.out)
      have hm5 := HQ4.out.setIt (.slice (some ⟨g4, 0, none⟩) sn c4)
      have hs5 := HT4.out.keepM (P := P) (kM_one (HQ4.out.oneM 0 (.slice (some ⟨g4, 0, none⟩) sn c4)) HTY.out (by decide) HPM.out)
      obtain ⟨W5, hW5⟩ : ∃ W, W = w4.setCell ⟨a.m, 0, none⟩ (.slice (some ⟨g4, 0, none⟩) sn c4) := ⟨_, rfl⟩
      have HOX := Lib.hid ho5
      rw [← hW5] at ho5 hk5 hm5 hs5
      have HW5 := Lib.hid hW5
      have HM5 := Lib.hid hm5
      have HO5 := Lib.hid ho5
      have HK5 := Lib.hid hk5
      have HS5 := Lib.hid hs5
      clear hW5 hm5 ho5 hk5 hs5
      go_wp2_with (first
        | (refine Great.wpList_buildTo rfl 51 _ rfl (some 27) rfl (outC 0 zV 0 none 0 0) (by kernel_rfl) ?_)
        | (refine wpList_store_row rfl 51 (.tmp 4) (.tmp 27) rfl P1.heap.size (outC 0 zV 0 none 0 0) rfl rfl 51 _ HOX.out out_info rfl (out_one _ _ _ _ _ _) ?_))
      rw [← HW5.out]
      have kq : KeepsTy [51] W5 (World.setRow W5 P1.heap.size (outC 0 zV 0 none 0 0)) := ((Keeps.refl (fun k => k = P1.heap.size) W5).setRow (.inl rfl) _).mono (fun k _ e => ⟨_, .head _, by obtain rfl : k = P1.heap.size := e; exact ⟨_, _, HO5.out⟩⟩)
      refine bodyPost_ret (v := .tuple #[.agg (outC 0 zV 0 none 0 0), .int .i64 0]) (res_out _ Tryz.results21 _ _ P1.heap.size _ _ rfl rfl rfl (setRow_heap _ _ _ _ _ _ HO5.out)) rfl ?_
      exact ⟨0, zV, 0, none, 0, 0, 0, rfl, ⟨.inr ⟨rfl, g4, c4, HM5.out.out kq, HS5.out.outM kq⟩, rfl⟩, Keeps.setRow HK5.out (.inr HZ.out) _⟩
set_option maxHeartbeats 8000000 in
theorem apply_last (w : World) (P Q : Nat → Prop) (a : MoA) (M : ScM) (tk : Int) (A : Nat → AskX) (h : MoW w P a M tk A) (hPQ : ∀ k, P k → Q k) (vv : Int) (Z : Nat → Int) (x : AskX) (lb n : Nat) (F : Nat → LnX) (hl : LinesAt w P lb a.lines n F) (hQ : Q lb) (i : Nat) (hi : i < n) (hn1 : n ≤ 1000) (y : Nat) (hy : (F i).q = y :: []) (hinv : Inv2 M) : Calls Tryz.prog 27 #[.pointer (some ⟨a.m, 0, none⟩), .agg (moC 7 ((i : Int) + 1) vv Z x)] w (MvQ Q w (fun f V v l n2 c g w1 => g = 0 ∧ f = 0 ∧ v = (y : Int) ∧ ∃ M', MoW w1 P a M' tk A ∧ Inv2 M' ∧ M'.many = M.many ∧ LinesAt w1 P lb a.lines n (upd F i ⟨(F i).r, [], (F i).o⟩))) := by
  obtain ⟨la, cap, hl, h3⟩ := hl
  obtain ⟨rfl, V, hr, hqs⟩ := h3 (by omega)
  obtain ⟨⟨qa, qc, ev, hqc, hqd⟩, hok⟩ := hqs i hi
  obtain ⟨q, hq0⟩ : ∃ q, (F i).q = q := ⟨_, rfl⟩
  obtain ⟨r, hr0⟩ : ∃ r, (F i).r = r := ⟨_, rfl⟩
  obtain ⟨o, ho0⟩ : ∃ o, (F i).o = o := ⟨_, rfl⟩
  obtain ⟨P1, hP1⟩ : ∃ W, W = w.alloc (.cells (moC 7 ((i : Int) + 1) vv Z x) 45) := ⟨_, rfl⟩
  obtain ⟨W1, hW1⟩ : ∃ W, W = P1.alloc (.cells (outC 0 zV 0 none 0 0) 51) := ⟨_, rfl⟩
  have kP : Keeps (fun _ => False) w P1 := by rw [hP1]; exact (Keeps.refl _ w).alloc _
  have hb1 : P1.heap[w.heap.size]? = some (.cells (moC 7 ((i : Int) + 1) vv Z x) 45 (0, 0)) := by rw [hP1]; exact heap_new _ _
  have k1 : Keeps (fun _ => False) w W1 := by rw [hW1]; exact kP.alloc _
  have hb2 : W1.heap[w.heap.size]? = some (.cells (moC 7 ((i : Int) + 1) vv Z x) 45 (0, 0)) := by rw [hW1]; exact ((Keeps.refl (fun _ => False) P1).alloc _).at hb1 fun h => h
  have ho : W1.heap[P1.heap.size]? = some (.cells (outC 0 zV 0 none 0 0) 51 (0, 0)) := by rw [hW1]; exact heap_new _ _
  have hq := h.quiet k1
  have HZ := Lib.hid kP.size
  have HB2 := Lib.hid hb2
  have HO := Lib.hid ho
  have HQ := Lib.hid hq
  have HK1 := Lib.hid k1
  have HP1 := Lib.hid hP1
  have HW1 := Lib.hid hW1
  have k1r := HK1.out
  clear hP1 hW1 kP hb1 k1 hb2 ho
  have HL := Lib.hid (fun (W : World) (k : Keeps (fun _ => False) W1 W) => line_in W P a M tk A (hq.quiet k) lb n cap hl i hi hn1)
  have HRL := Lib.hid (hr.keep k1r fun h => h)
  have HQS := Lib.hid (fun j (hj : j < n) => And.intro ((hqs j hj).1.none k1r) (hqs j hj).2)
  have HQL := Lib.hid hQ
  have HPQ := Lib.hid hPQ
  have HI := Lib.hid hi
  have HE := Lib.hid hl
  have hn := fun W => ln_nil lb (i * 3) W
  have x1 := cell_of HB2.out 1
  have lx := lt_of HB2.out
  have HOK := Lib.hid hok
  have HY := Lib.hid hy
  have HINV := Lib.hid hinv
  rw [hy] at ev hqc hqd
  obtain ⟨b, off, cs, rfl, hpb, hb0, hcs⟩ := hqd (by simp)
  have HPB := Lib.hid hpb
  clear hpb
  have HEV := Lib.hid ev
  have hb := k1r.at hb0 fun h => h
  have HBB := Lib.hid (And.intro hb hcs)
  have hlq : W1.cell? ⟨b, off, none⟩ = some (.int .u32 (y : Int)) := (cell_of hb off).trans (hcs 0 y rfl)
  have lq := lt_of hb
  have hc1 : 1 ≤ qc := hqc
  have d3 : decide (1 ≤ qc) = true := decide_eq_true hc1
  have hyy : y < 4294967296 := hok.q y (by rw [hy]; exact List.mem_cons_self)
  have HYY := Lib.hid hyy
  have r1 := (HRL.out.ln HI.out).2.1
  rw [HEV.out] at r1
  rw [show (y :: ([] : List Nat)).length = 1 from rfl] at r1
  have f1 := HRL.out.free (i * 3 + 1)
  have lr := HRL.out.lt
  clear hq h hl h3 hr hQ k1r hPQ hqs hqd hok hq0 hr0 ho0 ev hinv hb hb0 hcs hyy hy
  go_enter Tryz.func27, Tryz.ntmps27
  go_wp2_with (first
    | (refine Great.wpList_boxTo rfl 45 (.tmp 1) rfl (some 3) rfl w.heap.size rfl (moC 7 ((i : Int) + 1) vv Z x) rfl ?_; rw [← HP1.out])
    | (refine wpList_alloc_as rfl 51 rfl (some 4) rfl P1.heap.size rfl _ (out_zero _) (outC 0 zV 0 none 0 0) rfl ?_; rw [← HW1.out]))
  refine (HL.out _ (Keeps.refl _ W1)).mono ?_
  rintro e w1 ⟨rfl, hw1⟩
  subst hw1
  go_wp2_with fail
  obtain ⟨hm3, kk3⟩ := HQ.out.lnSet HRL.out (i * 3 + 1) (.slice (some ⟨b, off, none⟩) 0 0)
  have ho3 := kk3.at HO.out (Ty.ne ⟨_, _, HO.out⟩ HRL.out.ty (by decide))
  have kw3 := kM (kM_none (P := Q) HK1.out) (kM_one kk3 HRL.out.ty (by decide) HQL.out)
  have hr3 := HRL.out.lnQ HI.out (.slice (some ⟨b, off, none⟩) 0 0) []
  have hqs3 := fun j (hj : j < n) => (HQS.out j hj).1.keep kk3 fun b _ hb e => Ty.ne hb HRL.out.ty (by decide) e
  have hb3 := kk3.at HBB.out.1 (Ty.ne ⟨_, _, HBB.out.1⟩ HRL.out.ty (by decide))
  obtain ⟨W3, hW3⟩ : ∃ W, W = w1.setCell ⟨lb, i * 3 + 1, none⟩ (.slice (some ⟨b, off, none⟩) 0 0) := ⟨_, rfl⟩
  rw [← hW3] at hm3 ho3 kw3 hr3 hqs3 hb3 ⊢
  have hqv : QAt W3 P (.slice (some ⟨b, off, none⟩) 0 0) [] := by
    exact ⟨_, 0, rfl, Nat.le_refl _, fun hp => absurd hp (by simp)⟩
  have hla : LinesAt W3 P lb a.lines n (upd F i ⟨(F i).r, [], (F i).o⟩) := by
    refine ⟨_, cap, HE.out, fun _ => ⟨rfl, _, hr3, fun j hj => ?_⟩⟩
    by_cases e : j = i
    · subst e
      rw [upd_at, upd_at]
      refine ⟨hqv, HOK.out.o, fun u hu => HOK.out.q u (by rw [HY.out]; exact List.mem_cons_of_mem _ hu), ?_, HOK.out.r⟩
      have h1 := HOK.out.len
      rw [HY.out, List.length_cons] at h1
      show (([] : List Nat).length : Int) ≤ (F j).r
      omega
    · rw [upd_ne _ _ e, upd_ne _ _ e]
      exact ⟨hqs3 j hj, (HQS.out j hj).2⟩
  have HM3 := Lib.hid hm3
  have HO3 := Lib.hid ho3
  have HK3 := Lib.hid kw3
  have HLA := Lib.hid hla
  have HTR := Lib.hid hr3.ty
  have c1 := cell_of hm3.blk 1
  have lm := hm3.lt
  clear hm3 kk3 ho3 kw3 hr3 hqs3 hb3 hqv hla hW3 r1 f1 lr hlq lq x1 lx
  refine (read_any _ y HYY.out).mono ?_
  rintro e w2 ⟨t0, b0, hb0, rfl, hw2⟩
  subst hw2
  go_wp2_with fail
  refine (went2_note _ P a.sa M HM3.out.sch HINV.out HM3.out.n t0 b0 hb0).mono ?_
  rintro e w4 ⟨v4, M4, rfl, hs4, hi4, hmm4, k4⟩
  have HM4 := Lib.hid (HM3.out.sched k4 hs4 hmm4)
  have HO4 := Lib.hid (k4.at HO3.out (by decide))
  have HK4 := Lib.hid (kM HK3.out (kM_mono (kM_S k4) HPQ.out))
  have HL4 := Lib.hid (HLA.out.keep k4 (fun b _ hb e => KeepsTy.apart hb (by decide) e.2) fun _ e => KeepsTy.apart HTR.out (by decide) e.2)
  have HI4 := Lib.hid (And.intro hi4 hmm4)
  clear hs4 k4 hi4 hmm4 c1 lm
  go_wp2_with (first
    | (refine Great.wpList_buildTo rfl 51 _ rfl (some 55) rfl (outC 0 zV (y : Int) none 0 0) (by kernel_rfl) ?_)
    | (refine wpList_store_row rfl 51 (.tmp 4) (.tmp 55) rfl P1.heap.size (outC 0 zV (y : Int) none 0 0) rfl rfl 51 _ HO4.out out_info rfl (out_one _ _ _ _ _ _) ?_))
  have kq : KeepsTy [51] w4 (World.setRow w4 P1.heap.size (outC 0 zV (y : Int) none 0 0)) := ((Keeps.refl (fun k => k = P1.heap.size) w4).setRow (.inl rfl) _).mono (fun k _ e => ⟨_, .head _, by obtain rfl : k = P1.heap.size := e; exact ⟨_, _, HO4.out⟩⟩)
  refine bodyPost_ret (v := .tuple #[.agg (outC 0 zV (y : Int) none 0 0), .int .i64 0]) (res_out _ Tryz.results27 _ _ P1.heap.size _ _ rfl rfl rfl (setRow_heap _ _ _ _ _ _ HO4.out)) rfl ?_
  exact ⟨0, zV, (y : Int), none, 0, 0, 0, rfl, ⟨rfl, rfl, rfl, M4, HM4.out.out kq, HI4.out.1, HI4.out.2, HL4.out.out kq⟩, Keeps.setRow HK4.out (.inr HZ.out) _⟩
set_option maxHeartbeats 8000000 in
theorem apply_more (w : World) (P Q : Nat → Prop) (a : MoA) (M : ScM) (tk : Int) (A : Nat → AskX) (h : MoW w P a M tk A) (hPQ : ∀ k, P k → Q k) (vv : Int) (Z : Nat → Int) (x : AskX) (lb n : Nat) (F : Nat → LnX) (hl : LinesAt w P lb a.lines n F) (hQ : Q lb) (i : Nat) (hi : i < n) (hn1 : n ≤ 1000) (y z : Nat) (t : List Nat) (hy : (F i).q = y :: (z :: t)) (hinv : Inv2 M) : Calls Tryz.prog 27 #[.pointer (some ⟨a.m, 0, none⟩), .agg (moC 7 ((i : Int) + 1) vv Z x)] w (MvQ Q w (fun f V v l n2 c g w1 => g = 0 ∧ f = 0 ∧ v = (y : Int) ∧ ∃ M', MoW w1 P a M' tk A ∧ Inv2 M' ∧ M'.many = M.many ∧ LinesAt w1 P lb a.lines n (upd F i ⟨(F i).r, (z :: t), (F i).o⟩))) := by
  obtain ⟨la, cap, hl, h3⟩ := hl
  obtain ⟨rfl, V, hr, hqs⟩ := h3 (by omega)
  obtain ⟨⟨qa, qc, ev, hqc, hqd⟩, hok⟩ := hqs i hi
  obtain ⟨q, hq0⟩ : ∃ q, (F i).q = q := ⟨_, rfl⟩
  obtain ⟨r, hr0⟩ : ∃ r, (F i).r = r := ⟨_, rfl⟩
  obtain ⟨o, ho0⟩ : ∃ o, (F i).o = o := ⟨_, rfl⟩
  obtain ⟨P1, hP1⟩ : ∃ W, W = w.alloc (.cells (moC 7 ((i : Int) + 1) vv Z x) 45) := ⟨_, rfl⟩
  obtain ⟨W1, hW1⟩ : ∃ W, W = P1.alloc (.cells (outC 0 zV 0 none 0 0) 51) := ⟨_, rfl⟩
  have kP : Keeps (fun _ => False) w P1 := by rw [hP1]; exact (Keeps.refl _ w).alloc _
  have hb1 : P1.heap[w.heap.size]? = some (.cells (moC 7 ((i : Int) + 1) vv Z x) 45 (0, 0)) := by rw [hP1]; exact heap_new _ _
  have k1 : Keeps (fun _ => False) w W1 := by rw [hW1]; exact kP.alloc _
  have hb2 : W1.heap[w.heap.size]? = some (.cells (moC 7 ((i : Int) + 1) vv Z x) 45 (0, 0)) := by rw [hW1]; exact ((Keeps.refl (fun _ => False) P1).alloc _).at hb1 fun h => h
  have ho : W1.heap[P1.heap.size]? = some (.cells (outC 0 zV 0 none 0 0) 51 (0, 0)) := by rw [hW1]; exact heap_new _ _
  have hq := h.quiet k1
  have HZ := Lib.hid kP.size
  have HB2 := Lib.hid hb2
  have HO := Lib.hid ho
  have HQ := Lib.hid hq
  have HK1 := Lib.hid k1
  have HP1 := Lib.hid hP1
  have HW1 := Lib.hid hW1
  have k1r := HK1.out
  clear hP1 hW1 kP hb1 k1 hb2 ho
  have HL := Lib.hid (fun (W : World) (k : Keeps (fun _ => False) W1 W) => line_in W P a M tk A (hq.quiet k) lb n cap hl i hi hn1)
  have HRL := Lib.hid (hr.keep k1r fun h => h)
  have HQS := Lib.hid (fun j (hj : j < n) => And.intro ((hqs j hj).1.none k1r) (hqs j hj).2)
  have HQL := Lib.hid hQ
  have HPQ := Lib.hid hPQ
  have HI := Lib.hid hi
  have HE := Lib.hid hl
  have hn := fun W => ln_nil lb (i * 3) W
  have x1 := cell_of HB2.out 1
  have lx := lt_of HB2.out
  have HOK := Lib.hid hok
  have HY := Lib.hid hy
  have HINV := Lib.hid hinv
  rw [hy] at ev hqc hqd
  obtain ⟨b, off, cs, rfl, hpb, hb0, hcs⟩ := hqd (by simp)
  have HPB := Lib.hid hpb
  clear hpb
  have HEV := Lib.hid ev
  have hb := k1r.at hb0 fun h => h
  have HBB := Lib.hid (And.intro hb hcs)
  have hlq : W1.cell? ⟨b, off, none⟩ = some (.int .u32 (y : Int)) := (cell_of hb off).trans (hcs 0 y rfl)
  have lq := lt_of hb
  obtain ⟨tn, htn⟩ : ∃ tn, t.length = tn := ⟨_, rfl⟩
  have HTN := Lib.hid htn
  have hc1 : tn + 2 ≤ qc := by rw [← htn]; exact hqc
  have d3 : decide (tn + 2 ≤ qc) = true := decide_eq_true hc1
  have d0 : ((tn : Int) + 2 == 0) = false := beq_eq_false_iff_ne.mpr (by omega)
  have d1 : ((tn : Int) + 2 = 0) = False := eq_false (by omega)
  have hyy : y < 4294967296 := hok.q y (by rw [hy]; exact List.mem_cons_self)
  have HYY := Lib.hid hyy
  have r1 := (HRL.out.ln HI.out).2.1
  rw [HEV.out] at r1
  rw [show (y :: z :: t).length = tn + 2 from by rw [← htn]; rfl] at r1
  have f1 := HRL.out.free (i * 3 + 1)
  have lr := HRL.out.lt
  clear hq h hl h3 hr hQ k1r hPQ hqs hqd hok hq0 hr0 ho0 ev hinv hb hb0 hcs hyy hy
  go_enter Tryz.func27, Tryz.ntmps27
  go_wp2_with (first
    | (refine Great.wpList_boxTo rfl 45 (.tmp 1) rfl (some 3) rfl w.heap.size rfl (moC 7 ((i : Int) + 1) vv Z x) rfl ?_; rw [← HP1.out])
    | (refine wpList_alloc_as rfl 51 rfl (some 4) rfl P1.heap.size rfl _ (out_zero _) (outC 0 zV 0 none 0 0) rfl ?_; rw [← HW1.out]))
  refine (HL.out _ (Keeps.refl _ W1)).mono ?_
  rintro e w1 ⟨rfl, hw1⟩
  subst hw1
  go_wp2_with fail
  obtain ⟨hm3, kk3⟩ := HQ.out.lnSet HRL.out (i * 3 + 1) (.slice (some ⟨b, off + 1, none⟩) (tn + 1) (tn + 1))
  have ho3 := kk3.at HO.out (Ty.ne ⟨_, _, HO.out⟩ HRL.out.ty (by decide))
  have kw3 := kM (kM_none (P := Q) HK1.out) (kM_one kk3 HRL.out.ty (by decide) HQL.out)
  have hr3 := HRL.out.lnQ HI.out (.slice (some ⟨b, off + 1, none⟩) (tn + 1) (tn + 1)) (z :: t)
  have hqs3 := fun j (hj : j < n) => (HQS.out j hj).1.keep kk3 fun b _ hb e => Ty.ne hb HRL.out.ty (by decide) e
  have hb3 := kk3.at HBB.out.1 (Ty.ne ⟨_, _, HBB.out.1⟩ HRL.out.ty (by decide))
  obtain ⟨W3, hW3⟩ : ∃ W, W = w1.setCell ⟨lb, i * 3 + 1, none⟩ (.slice (some ⟨b, off + 1, none⟩) (tn + 1) (tn + 1)) := ⟨_, rfl⟩
  rw [← hW3] at hm3 ho3 kw3 hr3 hqs3 hb3 ⊢
  have hqv : QAt W3 P (.slice (some ⟨b, off + 1, none⟩) (tn + 1) (tn + 1)) (z :: t) := by
    refine ⟨_, tn + 1, by rw [List.length_cons, HTN.out], by rw [List.length_cons, HTN.out]; omega, fun _ => ⟨b, off + 1, cs, rfl, HPB.out, hb3, fun j u hj => ?_⟩⟩
    rw [show off + 1 + j = off + (j + 1) by omega]
    exact HBB.out.2 (j + 1) u hj
  have hla : LinesAt W3 P lb a.lines n (upd F i ⟨(F i).r, (z :: t), (F i).o⟩) := by
    refine ⟨_, cap, HE.out, fun _ => ⟨rfl, _, hr3, fun j hj => ?_⟩⟩
    by_cases e : j = i
    · subst e
      rw [upd_at, upd_at]
      refine ⟨hqv, HOK.out.o, fun u hu => HOK.out.q u (by rw [HY.out]; exact List.mem_cons_of_mem _ hu), ?_, HOK.out.r⟩
      have h1 := HOK.out.len
      rw [HY.out, List.length_cons] at h1
      show (((z :: t) : List Nat).length : Int) ≤ (F j).r
      omega
    · rw [upd_ne _ _ e, upd_ne _ _ e]
      exact ⟨hqs3 j hj, (HQS.out j hj).2⟩
  have HM3 := Lib.hid hm3
  have HO3 := Lib.hid ho3
  have HK3 := Lib.hid kw3
  have HLA := Lib.hid hla
  have HTR := Lib.hid hr3.ty
  have c1 := cell_of hm3.blk 1
  have lm := hm3.lt
  clear hm3 kk3 ho3 kw3 hr3 hqs3 hb3 hqv hla hW3 r1 f1 lr hlq lq x1 lx
  refine (read_any _ y HYY.out).mono ?_
  rintro e w2 ⟨t0, b0, hb0, rfl, hw2⟩
  subst hw2
  go_wp2_with fail
  refine (went2_note _ P a.sa M HM3.out.sch HINV.out HM3.out.n t0 b0 hb0).mono ?_
  rintro e w4 ⟨v4, M4, rfl, hs4, hi4, hmm4, k4⟩
  have HM4 := Lib.hid (HM3.out.sched k4 hs4 hmm4)
  have HO4 := Lib.hid (k4.at HO3.out (by decide))
  have HK4 := Lib.hid (kM HK3.out (kM_mono (kM_S k4) HPQ.out))
  have HL4 := Lib.hid (HLA.out.keep k4 (fun b _ hb e => KeepsTy.apart hb (by decide) e.2) fun _ e => KeepsTy.apart HTR.out (by decide) e.2)
  have HI4 := Lib.hid (And.intro hi4 hmm4)
  clear hs4 k4 hi4 hmm4 c1 lm
  go_wp2_with (first
    | (refine Great.wpList_buildTo rfl 51 _ rfl (some 55) rfl (outC 0 zV (y : Int) none 0 0) (by kernel_rfl) ?_)
    | (refine wpList_store_row rfl 51 (.tmp 4) (.tmp 55) rfl P1.heap.size (outC 0 zV (y : Int) none 0 0) rfl rfl 51 _ HO4.out out_info rfl (out_one _ _ _ _ _ _) ?_))
  have kq : KeepsTy [51] w4 (World.setRow w4 P1.heap.size (outC 0 zV (y : Int) none 0 0)) := ((Keeps.refl (fun k => k = P1.heap.size) w4).setRow (.inl rfl) _).mono (fun k _ e => ⟨_, .head _, by obtain rfl : k = P1.heap.size := e; exact ⟨_, _, HO4.out⟩⟩)
  refine bodyPost_ret (v := .tuple #[.agg (outC 0 zV (y : Int) none 0 0), .int .i64 0]) (res_out _ Tryz.results27 _ _ P1.heap.size _ _ rfl rfl rfl (setRow_heap _ _ _ _ _ _ HO4.out)) rfl ?_
  exact ⟨0, zV, (y : Int), none, 0, 0, 0, rfl, ⟨rfl, rfl, rfl, M4, HM4.out.out kq, HI4.out.1, HI4.out.2, HL4.out.out kq⟩, Keeps.setRow HK4.out (.inr HZ.out) _⟩
end Go.Proofs.YtkhmfjfclpehfaaGreat
namespace Go.Proofs.YtkhmfjfclpehfaaGreat
open Go.ChangeShapes Go.WideShapes Go.ChangeAt Go.RowKit
set_option linter.unusedVariables false
set_option linter.unusedSimpArgs false
set_option maxRecDepth 100000
def Tells (w : World) (P : Nat → Prop) (a : ScA) (M : ScM) (e : Ending) (w' : World) : Prop := ∃ b : Bool, e = .returned (.bool b) ∧ ScW w' P a M ∧ KeepsS P w w'
section
variable (w : World) (P : Nat → Prop) (a : ScA) (M : ScM) (h : ScW w P a M) (hn : a.n = M.many)
include h hn
theorem sdue_out (t : Int) (ho : hasM M t = false) : Calls Tryz.prog 82 #[.pointer (some ⟨a.s, 0, none⟩), .int .i64 t] w (Tells w P a M) := by
  have HH := Lib.hid (shas_any w P a M h hn t)
  rw [ho] at HH
  have HS := Lib.hid h
  clear h
  go_enter Tryz.func82, Tryz.ntmps82
  go_wp2_with fail
  refine HH.out.mono ?_
  rintro e w1 ⟨rfl, hw⟩
  subst hw
  go_wp2_with fail
  go_ret
  exact ⟨false, rfl, HS.out, Keeps.refl _ _⟩
theorem sdue_none (x : Nat) (hx : x < M.many) (hq : fndW M.W (x : Int) = none) : Calls Tryz.prog 82 #[.pointer (some ⟨a.s, 0, none⟩), .int .i64 (x : Int)] w (Tells w P a M) := by
  have HH := Lib.hid (shas_any w P a M h hn (x : Int))
  rw [show hasM M (x : Int) = true from decide_eq_true (by omega)] at HH
  have le := h.le
  have hqr := sc_qfind w P a M h (x : Int)
  rw [hq, show waitV none = .agg #[.int .i64 0, .int .i64 0, .int .i64 0, .int .u32 0] from rfl, show (none : Option WaitT).isSome = false from rfl] at hqr
  have HQR := Lib.hid hqr
  have c36 := h.cQ
  have HS := Lib.hid h
  have HX := Lib.hid hx
  have d1 : decide ((x : Int) < 16) = true := decide_eq_true (by omega)
  have d2 : x < 16 := by omega
  have d3 : (0 : Int) ≤ (x : Int) := by omega
  have d4 : (x : Int) < 16 := by omega
  clear h hqr hq hx 
  go_enter Tryz.func82, Tryz.ntmps82
  go_wp2_with fail
  refine HH.out.mono ?_
  rintro e w1 ⟨rfl, hw⟩
  subst hw
  go_wp2_with fail
  refine HQR.out.mono ?_
  rintro e w2 ⟨rfl, h2, k2⟩
  obtain ⟨w3, hw3⟩ : ∃ w3, w3 = w2.alloc (.cells #[.int .i64 0, .int .i64 0, .int .i64 0, .int .u32 0] 120) := ⟨_, rfl⟩
  have k3 : Keeps (fun _ => False) w2 w3 := by rw [hw3]; exact (Keeps.refl _ w2).alloc _
  have h3 := h2.quiet k3
  have HK3 := Lib.hid (kS k2 (kS_none k3))
  have HW3 := Lib.hid hw3
  have HS3 := Lib.hid h3
  have ct := h3.cTask x HX.out
  have HBT := Lib.hid (sc_bits w3 P a M h3 x HX.out)
  rw [hw3] at ct HBT
  clear h2 k2 k3 h3 hw3 c36
  go_wp2_with fail
  go_ret
  try rw [← HW3.out]
  exact ⟨false, rfl, HS3.out, HK3.out⟩
theorem sdue_other (x : Nat) (hx : x < M.many) (q0 q1 q2 : Int) (q3 : Nat) (hq : fndW M.W (x : Int) = some (q0, q1, q2, q3)) (hk : q1 ≠ 18) : Calls Tryz.prog 82 #[.pointer (some ⟨a.s, 0, none⟩), .int .i64 (x : Int)] w (Tells w P a M) := by
  have HH := Lib.hid (shas_any w P a M h hn (x : Int))
  rw [show hasM M (x : Int) = true from decide_eq_true (by omega)] at HH
  have le := h.le
  have hqr := sc_qfind w P a M h (x : Int)
  rw [hq, show waitV (some (q0, q1, q2, q3)) = .agg #[.int .i64 q0, .int .i64 q1, .int .i64 q2, .int .u32 (q3 : Int)] from rfl, show (some (q0, q1, q2, q3)).isSome = true from rfl] at hqr
  have d5 : (q1 == 18) = false := beq_eq_false_iff_ne.mpr hk
  have d6 : (q1 = 18) = False := eq_false hk
  have HQR := Lib.hid hqr
  have c36 := h.cQ
  have HS := Lib.hid h
  have HX := Lib.hid hx
  have d1 : decide ((x : Int) < 16) = true := decide_eq_true (by omega)
  have d2 : x < 16 := by omega
  have d3 : (0 : Int) ≤ (x : Int) := by omega
  have d4 : (x : Int) < 16 := by omega
  clear h hqr hq hx hk
  go_enter Tryz.func82, Tryz.ntmps82
  go_wp2_with fail
  refine HH.out.mono ?_
  rintro e w1 ⟨rfl, hw⟩
  subst hw
  go_wp2_with fail
  refine HQR.out.mono ?_
  rintro e w2 ⟨rfl, h2, k2⟩
  obtain ⟨w3, hw3⟩ : ∃ w3, w3 = w2.alloc (.cells #[.int .i64 q0, .int .i64 q1, .int .i64 q2, .int .u32 (q3 : Int)] 120) := ⟨_, rfl⟩
  have k3 : Keeps (fun _ => False) w2 w3 := by rw [hw3]; exact (Keeps.refl _ w2).alloc _
  have h3 := h2.quiet k3
  have HK3 := Lib.hid (kS k2 (kS_none k3))
  have HW3 := Lib.hid hw3
  have HS3 := Lib.hid h3
  have ct := h3.cTask x HX.out
  have HBT := Lib.hid (sc_bits w3 P a M h3 x HX.out)
  rw [hw3] at ct HBT
  clear h2 k2 k3 h3 hw3 c36
  go_wp2_with fail
  go_ret
  try rw [← HW3.out]
  exact ⟨false, rfl, HS3.out, HK3.out⟩
theorem sdue_await (x : Nat) (hx : x < M.many) (q0 q2 : Int) (q3 : Nat) (hq : fndW M.W (x : Int) = some (q0, 18, q2, q3)) : Calls Tryz.prog 82 #[.pointer (some ⟨a.s, 0, none⟩), .int .i64 (x : Int)] w (Tells w P a M) := by
  have HH := Lib.hid (shas_any w P a M h hn (x : Int))
  rw [show hasM M (x : Int) = true from decide_eq_true (by omega)] at HH
  have le := h.le
  have hqr := sc_qfind w P a M h (x : Int)
  rw [hq, show waitV (some (q0, 18, q2, q3)) = .agg #[.int .i64 q0, .int .i64 18, .int .i64 q2, .int .u32 (q3 : Int)] from rfl, show (some (q0, (18 : Int), q2, q3)).isSome = true from rfl] at hqr
  have HQR := Lib.hid hqr
  have c36 := h.cQ
  have HS := Lib.hid h
  have HX := Lib.hid hx
  have d1 : decide ((x : Int) < 16) = true := decide_eq_true (by omega)
  have d2 : x < 16 := by omega
  have d3 : (0 : Int) ≤ (x : Int) := by omega
  have d4 : (x : Int) < 16 := by omega
  clear h hqr hq hx 
  go_enter Tryz.func82, Tryz.ntmps82
  go_wp2_with fail
  refine HH.out.mono ?_
  rintro e w1 ⟨rfl, hw⟩
  subst hw
  go_wp2_with fail
  refine HQR.out.mono ?_
  rintro e w2 ⟨rfl, h2, k2⟩
  obtain ⟨w3, hw3⟩ : ∃ w3, w3 = w2.alloc (.cells #[.int .i64 q0, .int .i64 18, .int .i64 q2, .int .u32 (q3 : Int)] 120) := ⟨_, rfl⟩
  have k3 : Keeps (fun _ => False) w2 w3 := by rw [hw3]; exact (Keeps.refl _ w2).alloc _
  have h3 := h2.quiet k3
  have HK3 := Lib.hid (kS k2 (kS_none k3))
  have HW3 := Lib.hid hw3
  have HS3 := Lib.hid h3
  have ct := h3.cTask x HX.out
  have HBT := Lib.hid (sc_bits w3 P a M h3 x HX.out)
  rw [hw3] at ct HBT
  clear h2 k2 k3 h3 hw3 c36
  go_wp2_with fail
  refine HBT.out.mono ?_
  rintro e w4 ⟨rfl, h4, k4⟩
  rw [← HW3.out] at k4
  have HS4 := Lib.hid h4
  have HK4 := Lib.hid (kS HK3.out k4)
  clear h4 k4
  go_wp2_with fail
  go_ret
  exact ⟨_, rfl, HS4.out, HK4.out⟩
theorem sdue_any (t : Int) : Calls Tryz.prog 82 #[.pointer (some ⟨a.s, 0, none⟩), .int .i64 t] w (Tells w P a M) := by
  cases ho : hasM M t with
  | false => exact sdue_out w P a M h hn t ho
  | true =>
    have ho' := of_decide_eq_true (show decide (0 ≤ t ∧ t < (M.many : Int)) = true from ho)
    obtain ⟨x, rfl⟩ := Int.eq_ofNat_of_zero_le ho'.1
    have hx : x < M.many := by omega
    cases hq : fndW M.W (x : Int) with
    | none => exact sdue_none w P a M h hn x hx hq
    | some q =>
      obtain ⟨q0, q1, q2, q3⟩ := q
      by_cases hk : q1 = 18
      · subst hk; exact sdue_await w P a M h hn x hx q0 q2 q3 hq
      · exact sdue_other w P a M h hn x hx q0 q1 q2 q3 hq hk
end
end Go.Proofs.YtkhmfjfclpehfaaGreat
