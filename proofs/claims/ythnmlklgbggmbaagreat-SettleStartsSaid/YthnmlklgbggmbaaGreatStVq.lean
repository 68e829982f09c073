import Derived.Test.YthnmlklgbggmbaaGreatStGq
import Derived.Test.YthnmlklgbggmbaaGreatStOq
import Derived.Test.YthnmlklgbggmbaaGreatStBq
import Derived.Laws.Rows
import Derived.Deep.RegionHeld3
namespace Go.Proofs.YthnmlklgbggmbaaGreat
open Go.ChangeShapes Go.WideShapes Go.ChangeAt Go.RowKit
set_option linter.unusedVariables false
set_option linter.unusedSimpArgs false
attribute [local irreducible] wpList
theorem own_ok {c : CfD} (h : c.Ok) (ta la oa : Option Addr) (tc lc oc : Nat) (TA LA : Nat → Option Addr) (TC LC : Nat → Nat) : (c.own ta la oa tc lc oc TA LA TC LC).Ok := ⟨h.t, h.l, h.o, h.tick, h.lr, h.ob⟩
theorem own_bad (c : CfD) (ta la oa : Option Addr) (tc lc oc : Nat) (TA LA : Nat → Option Addr) (TC LC : Nat → Nat) : badOf (c.own ta la oa tc lc oc TA LA TC LC) = badOf c := rfl
theorem cfin_box {w w' : World} {d : CfD} {g : Nat} {x0 x1 x2 : Option Addr} {n0 n1 n2 c0 c1 c2 : Nat} {z : Int} (h : CfIn w d) (hb : w.heap[g]? = some (.cells #[.slice x0 n0 c0, .slice x1 n1 c1, .slice x2 n2 c2, .int .i64 z] 26 (0, 0))) (k : Keeps (fun j => j = g) w w') : CfIn w' d := by
  refine ⟨fun hn => ?_, fun hn => ?_, fun hn => ?_⟩
  · obtain ⟨b, off, ha, hlt, hc⟩ := h.t hn
    have hne : b ≠ g := by
      rintro rfl
      have h1 := (hc 0 hn).2.1
      rw [cell_of hb] at h1
      have h4 : off + 0 * 3 + 1 < 4 := (Array.getElem?_eq_some_iff.1 h1).1
      rcases (by omega : off = 0 ∨ off = 1 ∨ off = 2) with rfl | rfl | rfl <;> simp at h1
    have hB := k.block b hlt hne
    exact ⟨b, off, ha, Nat.lt_of_lt_of_le hlt k.size, fun i hi => ⟨(World.cell?_of_block hB).trans (hc i hi).1, (World.cell?_of_block hB).trans (hc i hi).2.1, (World.cell?_of_block hB).trans (hc i hi).2.2⟩⟩
  · obtain ⟨b, off, ha, hlt, hc⟩ := h.l hn
    have hne : b ≠ g := by
      rintro rfl
      have h1 := (hc 0 hn).1
      have h2 := (hc 0 hn).2
      rw [cell_of hb] at h1 h2
      have h4 : off + 0 * 2 + 1 < 4 := (Array.getElem?_eq_some_iff.1 h2).1
      rcases (by omega : off = 0 ∨ off = 1 ∨ off = 2) with rfl | rfl | rfl <;> simp at h1
    have hB := k.block b hlt hne
    exact ⟨b, off, ha, Nat.lt_of_lt_of_le hlt k.size, fun i hi => ⟨(World.cell?_of_block hB).trans (hc i hi).1, (World.cell?_of_block hB).trans (hc i hi).2⟩⟩
  · obtain ⟨b, off, ha, hlt, hc⟩ := h.o hn
    have hne : b ≠ g := by
      rintro rfl
      have h1 := hc 0 hn 0 (by omega)
      have h2 := hc 0 hn 1 (by omega)
      rw [cell_of hb] at h1 h2
      have h4 : off + 0 * 10 + 1 < 4 := (Array.getElem?_eq_some_iff.1 h2).1
      rcases (by omega : off = 0 ∨ off = 1 ∨ off = 2) with rfl | rfl | rfl <;> simp at h1
    have hB := k.block b hlt hne
    exact ⟨b, off, ha, Nat.lt_of_lt_of_le hlt k.size, fun i hi j hj => (World.cell?_of_block hB).trans (hc i hi j hj)⟩
theorem MapOk.mono {w : World} {fb : Nat} {B B' : Int → Prop} (h : MapOk w fb B) (hb : ∀ j, B j → B' j) : MapOk w fb B' := by
  obtain ⟨es, clk, h1, he⟩ := h
  exact ⟨es, clk, h1, fun e hm => by obtain ⟨q, f, h2, h3, h4, h5⟩ := he e hm; exact ⟨q, f, h2, h3, hb q h4, h5⟩⟩
@[reducible] def frC (a : Option Addr) (n cp : Nat) (b : Bool) : Array Value := #[.slice a n cp, .bool b, .int .i64 0, .int .i64 0, .int .i64 0, .int .u32 0, .int .u32 0, .int .u32 0, .int .u32 0, .int .u32 0, .pointer none]
structure NewB (w W : World) (x mb q gb zb fb : Nat) (c d : CfD) (p : DrP) (a : ScA) (P : Nat → Prop) (B : Int → Prop) : Prop where
  core : CoreS W x mb q gb zb fb c p a (dispM (newM ((List.range c.nT).map c.tp))) P
  map : MapOk W fb B
  keeps : Keeps (fun _ => False) w W
  far : w.heap.size ≤ fb
  box : W.heap[w.heap.size]? = some (.cells d.cells 26 (0, 0))
  res : W.heap[w.heap.size + 1]? = some (.cells #[.int .i64 0, .int .i64 0, .int .i64 0] 30 (0, 0))
  cf : CfIn W d
theorem NewB.quiet {w W W' : World} {x mb q gb zb fb : Nat} {c d : CfD} {p : DrP} {a : ScA} {P : Nat → Prop} {B : Int → Prop} (h : NewB w W x mb q gb zb fb c d p a P B) (k : Keeps (fun _ => False) W W') : NewB w W' x mb q gb zb fb c d p a P B :=
  ⟨h.core.quiet k, h.map.quiet k, h.keeps.trans k, h.far, k.at h.box fun h => h, k.at h.res fun h => h, h.cf.none k⟩
theorem cfin_noTy {w w' : World} {d : CfD} {g : Nat} {es : Array MapEntry} {clk : Nat} (h : CfIn w d) (hb : w.heap[g]? = some (.map es clk)) (k : Keeps (fun j => j = g) w w') : CfIn w' d := by
  have hno : ∀ o, w.cell? ⟨g, o, none⟩ = none := fun o => by simp [World.cell?, hb]
  refine ⟨fun hn => ?_, fun hn => ?_, fun hn => ?_⟩
  · obtain ⟨b, off, ha, hlt, hc⟩ := h.t hn
    have hne : b ≠ g := by
      rintro rfl
      have h1 := (hc 0 hn).1
      rw [hno] at h1
      cases h1
    have hB := k.block b hlt hne
    exact ⟨b, off, ha, Nat.lt_of_lt_of_le hlt k.size, fun i hi => ⟨(World.cell?_of_block hB).trans (hc i hi).1, (World.cell?_of_block hB).trans (hc i hi).2.1, (World.cell?_of_block hB).trans (hc i hi).2.2⟩⟩
  · obtain ⟨b, off, ha, hlt, hc⟩ := h.l hn
    have hne : b ≠ g := by
      rintro rfl
      have h1 := (hc 0 hn).1
      rw [hno] at h1
      cases h1
    have hB := k.block b hlt hne
    exact ⟨b, off, ha, Nat.lt_of_lt_of_le hlt k.size, fun i hi => ⟨(World.cell?_of_block hB).trans (hc i hi).1, (World.cell?_of_block hB).trans (hc i hi).2⟩⟩
  · obtain ⟨b, off, ha, hlt, hc⟩ := h.o hn
    have hne : b ≠ g := by
      rintro rfl
      have h1 := hc 0 hn 0 (by omega)
      rw [hno] at h1
      simp at h1
    have hB := k.block b hlt hne
    exact ⟨b, off, ha, Nat.lt_of_lt_of_le hlt k.size, fun i hi j hj => (World.cell?_of_block hB).trans (hc i hi j hj)⟩
theorem NewB.put {w W : World} {x mb q gb zb fb : Nat} {c d : CfD} {p : DrP} {a : ScA} {P : Nat → Prop} {B : Int → Prop} (h : NewB w W x mb q gb zb fb c d p a P B) {k : Int} {f : Nat} (hk : ¬ B k) (hf : FrOk W f) :
    ∃ w', (Instr.mapUpdate 120 (.map (some fb)) (.int .i64 k) (.pointer (some ⟨f, 0, none⟩))).run Tryz.prog W = .ok () w' ∧ NewB w w' x mb q gb zb fb c d p a P (fun j => B j ∨ j = k) := by
  obtain ⟨w', hr, hm, hk', es, clk, hb⟩ := h.map.put hk hf
  have hS : ∀ j T, j = fb → ¬ Ty W j T := fun j T e => map_noTy hb e T
  exact ⟨w', hr, h.core.put hb hk' hm, hm, h.keeps.far hk' fun j e => by rw [e]; exact h.far, h.far, hk'.at h.box fun e => hS _ _ e ⟨_, _, h.box⟩, hk'.at h.res fun e => hS _ _ e ⟨_, _, h.res⟩, cfin_noTy h.cf hb hk'⟩
theorem newB_of {w W3 WX : World} {c d : CfD} {ta la oa : Option Addr} {tc lc oc : Nat} {TA LA : Nat → Option Addr} {TC LC : Nat → Nat} {mb q gb zb fb : Nat} {p : DrP} {a : ScA} {P : Nat → Prop} (hd : c.own ta la oa tc lc oc TA LA TC LC = d) (hw : Keeps (fun _ => False) w W3) (k : Keeps (fun _ => False) W3 WX)
    (b3 : W3.heap[w.heap.size]? = some (.cells d.cells 26 (0, 0))) (r3 : W3.heap[w.heap.size + 1]? = some (.cells #[.int .i64 0, .int .i64 0, .int .i64 0] 30 (0, 0))) (hc : CfIn W3 d)
    (hm : IsMem WX mb q (cellsN d) (memW (startW d.ob d.oi d.nO) (baseP d).toNat)) (hg : IsGate0 WX gb d.nL) (hdr : IsDr WX zb p 0 0 0 .nilFunc 0 0) (hsc : ScW WX P a (dispM (newM ((List.range d.nT).map d.tp)))) (hps : p.s = a.s) (hmap : WX.heap[fb]? = some (.map #[] 0)) (hfb : w.heap.size ≤ fb) :
    NewB w (WX.alloc (.cells #[.slice d.ta d.nT d.tc, .slice d.la d.nL d.lc, .slice d.oa d.nO d.oc, .int .i64 d.tick, .pointer (some ⟨mb, 0, none⟩), .pointer (some ⟨gb, 0, none⟩), .pointer (some ⟨zb, 0, none⟩), .map (some fb), .slice none 0 0, .int .i64 0] 123)) WX.heap.size mb q gb zb fb c d p a P (fun _ => False) := by
  have kx := (Keeps.refl (fun _ => False) WX).alloc (.cells #[.slice d.ta d.nT d.tc, .slice d.la d.nL d.lc, .slice d.oa d.nO d.oc, .int .i64 d.tick, .pointer (some ⟨mb, 0, none⟩), .pointer (some ⟨gb, 0, none⟩), .pointer (some ⟨zb, 0, none⟩), .map (some fb), .slice none 0 0, .int .i64 0] 123)
  have hM : MapOk (WX.alloc (.cells #[.slice d.ta d.nT d.tc, .slice d.la d.nL d.lc, .slice d.oa d.nO d.oc, .int .i64 d.tick, .pointer (some ⟨mb, 0, none⟩), .pointer (some ⟨gb, 0, none⟩), .pointer (some ⟨zb, 0, none⟩), .map (some fb), .slice none 0 0, .int .i64 0] 123)) fb (fun _ => False) := ⟨_, _, kx.at hmap fun h => h, fun e he => by simp at he⟩
  subst hd
  exact ⟨⟨⟨_, _, _, _, heap_new _ _⟩, hm.keeps kx (fun h => h) (fun h => h), kx.at hg fun h => h, hdr.at kx fun h => h, hsc.quiet kx, hps, new_W _, _, hM⟩, hM, (hw.trans k).trans kx, hfb, kx.at (k.at b3 fun h => h) fun h => h, kx.at (k.at r3 fun h => h) fun h => h, (hc.none k).none kx⟩
theorem gate_newL (w : World) (n : Nat) (hn : n ≤ 31) : Calls Tryz.prog 61 #[.int .i64 (n : Int)] w fun e w' => ∃ gb, e = .returned (.pointer (some ⟨gb, 0, none⟩)) ∧ IsGate0 w' gb n ∧ Keeps (fun _ => False) w w' :=
  (gate_new w n hn).mono fun e w' h => ⟨_, h.1, by rw [h.2]; exact heap_new _ _, by rw [h.2]; exact (Keeps.refl _ w).alloc _⟩
set_option maxRecDepth 20000 in
set_option maxHeartbeats 8000000 in
theorem core_new (c : CfD) (w : World) (hc : CfIn w c) (ho : c.Ok) (hv : badOf c = (0, 0, 0)) (hk : CodesIn w c) (hlen : (∀ i, i < c.nT → c.tl i ≤ 70) ∧ ∀ i, i < c.nL → c.ll i ≤ 70) (hoi : ∀ i, i < c.nO → ∀ j, j < 4 → 0 ≤ c.oi i j) :
    Calls Tryz.prog 23 #[.agg c.cells] w fun e w' => ∃ (x mb q gb zb fb : Nat) (p : DrP) (a : ScA) (P : Nat → Prop), e = .returned (.tuple #[.pointer (some ⟨x, 0, none⟩), .agg #[.int .i64 0, .int .i64 0, .int .i64 0]]) ∧ CoreS w' x mb q gb zb fb c p a (dispM (newM ((List.range c.nT).map c.tp))) P ∧ Keeps (fun _ => False) w w' := by
  have HCK := Lib.hid (fun W (k : Keeps (fun _ => False) w W) => check_any c W (hc.none k) ho)
  have HOW := Lib.hid (fun W (k : Keeps (fun _ => False) w W) => own_cfg c W (hc.none k) ho hv ⟨fun i hi => (hk.t i hi).quiet k, fun i hi => (hk.l i hi).quiet k⟩ hlen)
  have HG := Lib.hid (good_of hv)
  have HAD := Lib.hid (And.intro ho (And.intro hv hoi))
  have HB := Lib.hid (((Has.start w).alloc (.cells c.cells 26)).alloc (.cells #[.int .i64 0, .int .i64 0, .int .i64 0] 30))
  rw [hv] at HCK
  clear hc ho hv hk hlen hoi
  go_enter Tryz.func23, Tryz.ntmps23
  go_wp2_with fail
  refine (HCK.out _ HB.out.keeps).mono ?_
  rintro e1 w1 ⟨rfl, k1⟩
  replace HB := Lib.hid ((HB.out.none k1).alloc (.cells #[.int .i64 0, .int .i64 0, .int .i64 0] 30))
  clear k1
  obtain ⟨q0, q1, q2, q3⟩ := four_cells (HB.out.at 2 rfl)
  have lq := lt_of (HB.out.at 2 rfl)
  go_wp2_with fail
  refine (HOW.out _ HB.out.keeps).mono ?_
  rintro e2 w2 ⟨ta, la, oa, tc, lc, oc, TA, LA, TC, LC, rfl, hci, hco, k2⟩
  replace HB := Lib.hid (HB.out.none k2)
  have HCI := Lib.hid hci
  clear k2 hci hco q0 q1 q2 q3 lq
  obtain ⟨q0, q1, q2, q3⟩ := four_cells (HB.out.at 2 rfl)
  have lq := lt_of (HB.out.at 2 rfl)
  have f0 := free_of (HB.out.at 2 rfl) 0
  have f1 := free_of (HB.out.at 2 rfl) 1
  have f2 := free_of (HB.out.at 2 rfl) 2
  have f3 := free_of (HB.out.at 2 rfl) 3
  go_wp2_with fail
  have b2 := HB.out.at 2 rfl
  generalize hd : c.own ta la oa tc lc oc TA LA TC LC = d at *
  have HDE := Lib.hid hd
  obtain ⟨W3, hW3⟩ : ∃ W, W = (((w2.setCell ⟨w.heap.size, 0, none⟩ (.slice d.ta d.nT d.tc)).setCell ⟨w.heap.size, 1, none⟩ (.slice d.la d.nL d.lc)).setCell ⟨w.heap.size, 2, none⟩ (.slice d.oa d.nO d.oc)).setCell ⟨w.heap.size, 3, none⟩ (.int .i64 d.tick) := ⟨_, rfl⟩
  have b3 : W3.heap[w.heap.size]? = some (.cells d.cells 26 (0, 0)) := by rw [hW3]; exact heap_set (heap_set (heap_set (heap_set b2 0 _) 1 _) 2 _) 3 _
  have k3 : Keeps (fun j => j = w.heap.size) w2 W3 := by rw [hW3]; exact ((((Keeps.refl (fun j => j = w.heap.size) w2).setCell (p := ⟨w.heap.size, 0, none⟩) (.inl rfl) _).setCell (p := ⟨w.heap.size, 1, none⟩) (.inl rfl) _).setCell (p := ⟨w.heap.size, 2, none⟩) (.inl rfl) _).setCell (p := ⟨w.heap.size, 3, none⟩) (.inl rfl) _
  have HCF := Lib.hid (cfin_box HCI.out b2 k3)
  have HB3 := Lib.hid b3
  have HR3 := Lib.hid (k3.at (HB.out.at 1 rfl) (by rw [show (w.alloc (.cells c.cells 26)).heap.size = w.heap.size + 1 from World.size_alloc _ _]; omega))
  rw [show (w.alloc (.cells c.cells 26)).heap.size = w.heap.size + 1 from World.size_alloc _ _] at HR3
  have HKW := Lib.hid (HB.out.keeps.far k3 fun j e => by rw [e]; exact Nat.le_refl _)
  have hok : d.Ok := by rw [← hd]; exact own_ok HAD.out.1 ..
  have hbd : badOf d = (0, 0, 0) := by rw [← hd, own_bad]; exact HAD.out.2.1
  have hoi : ∀ i, i < d.nO → ∀ j, j < 4 → 0 ≤ d.oi i j := by rw [← hd]; exact HAD.out.2.2
  have hl : d.nL ≤ 31 := (good_of hbd).l
  have HNN := Lib.hid (And.intro (good_of hbd).t1 (And.intro (good_of hbd).t hl))
  have HME := Lib.hid (fun W (k : Keeps (fun _ => False) W3 W) => mem_good d W (HCF.out.none k) hok hbd hoi)
  have HDN := Lib.hid (fun W (k : Keeps (fun _ => False) W3 W) => drain_new d W (HCF.out.none k) hok hbd)
  have HGT := Lib.hid (fun W => gate_newL W d.nL hl)
  have HQ := Lib.hid (fun W (k : Keeps (fun _ => False) W3 W) => four_cells (k.at b3 fun h => h))
  have hmk := run_makeFrames
  rw [← hW3]
  clear hW3 b2 b3 k3 hok hbd hoi hl hd q0 q1 q2 q3 lq f0 f1 f2 f3 HB HCI HAD HCK HOW HG
  go_region_held3 (fun w' => w'.cell? ⟨w.heap.size, 0, none⟩ = some (.slice d.ta d.nT d.tc) ∧ w'.cell? ⟨w.heap.size, 1, none⟩ = some (.slice d.la d.nL d.lc) ∧ w'.cell? ⟨w.heap.size, 2, none⟩ = some (.slice d.oa d.nO d.oc) ∧ w'.cell? ⟨w.heap.size, 3, none⟩ = some (.int .i64 d.tick))
    (first
      | exact HQ.out _ (Keeps.refl _ W3).drew
      | exact HQ.out _ HK6.out
      | exact HQ.out _ HK5.out
      | exact HQ.out _ HK4.out
      | exact HQ.out _ ((Keeps.refl _ W3).drew.alloc _)
      | exact HQ.out _ (HK6.out.alloc _)
      | exact HQ.out _ (HK5.out.alloc _)
      | exact HQ.out _ (HK4.out.alloc _)
      | go_keep)
    (first
      | (go_at_call 60; refine (HME.out _ (by first | exact (Keeps.refl _ W3).drew | exact (Keeps.refl _ W3).drew.alloc _)).mono ?_; rintro e4 w4 ⟨mb, q, rfl, hm4, k4⟩; have HK4 := Lib.hid (show Keeps (fun _ => False) W3 w4 from by first | exact (Keeps.refl _ W3).drew.trans k4 | exact ((Keeps.refl _ W3).drew.alloc _).trans k4); have HM4 := Lib.hid hm4; (try have HMP := Lib.hid (k4.at (heap_new W3.drew (.map #[] 0)) fun h => h)); clear hm4 k4)
      | (go_at_call 61; refine (HGT.out _).mono ?_; rintro e5 w5 ⟨gb, rfl, hg5, k5⟩; have k5' : Keeps (fun _ => False) w4 w5 := (by first | exact k5 | exact ((Keeps.refl _ w4).alloc _).trans k5); have HK5 := Lib.hid (HK4.out.trans k5'); have HM5 := Lib.hid (And.intro (HM4.out.keeps k5' (fun h => h) fun h => h) hg5); (first | (have HMP := Lib.hid (k5'.at HMP.out fun h => h)) | (have HMP := Lib.hid (k5.at (heap_new w4 (.map #[] 0)) fun h => h)) | skip); clear hg5 k5 k5')
      | (go_at_call 8; refine (HDN.out _ (by first | exact HK5.out | exact HK5.out.alloc _)).mono ?_; rintro e6 w6 ⟨zb, p, a, rfl, hdr, hds, hsc, hps, hpt, hzb, k6⟩; obtain ⟨P, hP⟩ : ∃ P : Nat → Prop, ScW w6 P a (dispM (newM ((List.range d.nT).map d.tp))) := ⟨_, hsc⟩; have k6' : Keeps (fun _ => False) w5 w6 := (by first | exact k6 | exact ((Keeps.refl _ w5).alloc _).trans k6); have HK6 := Lib.hid (HK5.out.trans k6'); have HM6 := Lib.hid (And.intro (HM5.out.1.keeps k6' (fun h => h) fun h => h) (And.intro (k6'.at HM5.out.2 fun h => h) (And.intro hdr (And.intro hP hps)))); (first | (have HMP := Lib.hid (k6'.at HMP.out fun h => h)) | (have HMP := Lib.hid (k6.at (heap_new w5 (.map #[] 0)) fun h => h)) | skip); clear hdr hds hsc hP hps hpt hzb k6 k6')
      | fail)
  all_goals
    first
      | (have HNB := Lib.hid (newB_of HDE.out HKW.out HK6.out HB3.out HR3.out HCF.out HM6.out.1 HM6.out.2.1 HM6.out.2.2.1 HM6.out.2.2.2.1 HM6.out.2.2.2.2 HMP.out (HKW.out.trans HK5.out).size)
         generalize w6.heap.size = x at HNB ⊢
         generalize w5.heap.size = fb at HNB ⊢
         generalize w6.alloc (.cells #[.slice d.ta d.nT d.tc, .slice d.la d.nL d.lc, .slice d.oa d.nO d.oc, .int .i64 d.tick, .pointer (some ⟨mb, 0, none⟩), .pointer (some ⟨gb, 0, none⟩), .pointer (some ⟨zb, 0, none⟩), .map (some fb), .slice none 0 0, .int .i64 0] 123) = W0 at HNB ⊢)
      | (have HNB := Lib.hid (newB_of HDE.out HKW.out HK6.out HB3.out HR3.out HCF.out HM6.out.1 HM6.out.2.1 HM6.out.2.2.1 HM6.out.2.2.2.1 HM6.out.2.2.2.2 HMP.out (HKW.out.trans HK4.out).size)
         generalize w6.heap.size = x at HNB ⊢
         generalize w4.heap.size = fb at HNB ⊢
         generalize w6.alloc (.cells #[.slice d.ta d.nT d.tc, .slice d.la d.nL d.lc, .slice d.oa d.nO d.oc, .int .i64 d.tick, .pointer (some ⟨mb, 0, none⟩), .pointer (some ⟨gb, 0, none⟩), .pointer (some ⟨zb, 0, none⟩), .map (some fb), .slice none 0 0, .int .i64 0] 123) = W0 at HNB ⊢)
      | (have HNB := Lib.hid (newB_of HDE.out HKW.out HK6.out HB3.out HR3.out HCF.out HM6.out.1 HM6.out.2.1 HM6.out.2.2.1 HM6.out.2.2.2.1 HM6.out.2.2.2.2 HMP.out HKW.out.size)
         rw [show W3.drew.heap.size = W3.heap.size from rfl] at HNB
         generalize w6.heap.size = x at HNB ⊢
         generalize W3.heap.size = fb at HNB ⊢
         generalize w6.alloc (.cells #[.slice d.ta d.nT d.tc, .slice d.la d.nL d.lc, .slice d.oa d.nO d.oc, .int .i64 d.tick, .pointer (some ⟨mb, 0, none⟩), .pointer (some ⟨gb, 0, none⟩), .pointer (some ⟨zb, 0, none⟩), .map (some fb), .slice none 0 0, .int .i64 0] 123) = W0 at HNB ⊢)
      | (have HNB := Lib.hid (newB_of HDE.out HKW.out (HK6.out.alloc (.map #[] 0)) HB3.out HR3.out HCF.out (HM6.out.1.keeps ((Keeps.refl (fun _ => False) w6).alloc _) (fun h => h) fun h => h) (((Keeps.refl (fun _ => False) w6).alloc _).at HM6.out.2.1 fun h => h) (HM6.out.2.2.1.at ((Keeps.refl (fun _ => False) w6).alloc _) fun h => h) (HM6.out.2.2.2.1.quiet ((Keeps.refl _ w6).alloc _)) HM6.out.2.2.2.2 (heap_new w6 (.map #[] 0)) (HKW.out.trans HK6.out).size)
         rw [show (w6.alloc (.map #[] 0)).heap.size = w6.heap.size + 1 from World.size_alloc _ _] at HNB
         generalize w6.heap.size + 1 = x at HNB ⊢
         generalize w6.heap.size = fb at HNB ⊢
         generalize (w6.alloc (.map #[] 0)).alloc (.cells #[.slice d.ta d.nT d.tc, .slice d.la d.nL d.lc, .slice d.oa d.nO d.oc, .int .i64 d.tick, .pointer (some ⟨mb, 0, none⟩), .pointer (some ⟨gb, 0, none⟩), .pointer (some ⟨zb, 0, none⟩), .map (some fb), .slice none 0 0, .int .i64 0] 123) = W0 at HNB ⊢)
  all_goals
    obtain ⟨q0, q1, q2, q3⟩ := four_cells HNB.out.box
    have lq := lt_of HNB.out.box
    clear HM6 HK6 HK5 HK4 HM5 HM4 HB3 HR3 HKW HDE HQ HGT HDN HME HCF hmk
    go_wp2_with fail
    clear q0 q1 q2 q3 lq
    obtain ⟨tb, to, hta, _⟩ := HNB.out.cf.t HNN.out.1
    have HTA := Lib.hid hta
    rw [hta]
    clear hta
    go_loopw [33] (fun i wr => ∃ k : Nat, i = .int .i64 (k : Int) ∧ k ≤ d.nT ∧ ∃ B : Int → Prop, NewB w wr x mb q gb zb fb c d p a P B ∧ ∀ j, B j → 0 ≤ j ∧ j < (k : Int)) (fun i _ => d.nT - (intOf i).toNat)
    case atStart => exact ⟨0, rfl, Nat.zero_le _, _, HNB.out, fun j h => h.elim⟩
    case round =>
      obtain ⟨k, rfl, hk, B, hN, hB⟩ := hrel
      have HN := Lib.hid hN
      have HBB := Lib.hid hB
      have hnT := HNN.out.2.1
      by_cases hlt : k < d.nT
      · have HLT := Lib.hid hlt
        obtain ⟨b, off, hta, hb, hrow⟩ := hN.cf.t (Nat.lt_of_le_of_lt (Nat.zero_le _) hlt)
        rw [HTA.out] at hta
        injection hta with e
        injection e with e1 e2 _
        subst e1 e2
        obtain ⟨t0, t1, t2⟩ := hrow k hlt
        have d1 : decide ((k : Int) < (d.nT : Int)) = true := decide_eq_true (by omega)
        have d2 : decide (k < d.nT) = true := decide_eq_true hlt
        have b1 : (0 : Int) ≤ (k : Int) := by omega
        have b2 : (k : Int) < (d.nT : Int) := by omega
        have y1 : wrap64 ((k : Int) + 1) = (k : Int) + 1 := IntWalk.wrap64_in _ ⟨by omega, by omega⟩
        clear hrow hN hB hk hlt
        go_wp2_with fail
        obtain ⟨WT, hWT⟩ : ∃ W, W = wr.alloc (.cells #[.int .i64 (d.tp k), .bool (d.tb k), .slice (d.tca k) (d.tl k) (d.tcc k)] 66) := ⟨_, rfl⟩
        have kT : Keeps (fun _ => False) wr WT := by rw [hWT]; exact (Keeps.refl _ wr).alloc _
        have hT : WT.heap[wr.heap.size]? = some (.cells #[.int .i64 (d.tp k), .bool (d.tb k), .slice (d.tca k) (d.tl k) (d.tcc k)] 66 (0, 0)) := by rw [hWT]; exact heap_new _ _
        have HNT := Lib.hid (HN.out.quiet kT)
        obtain ⟨v0, v1, v2, v3, hx⟩ := HNT.out.core.blk
        have x7 : WT.cell? ⟨x, 7, none⟩ = some (.map (some fb)) := cell_of hx 7
        have z1 : WT.cell? ⟨wr.heap.size, 1, none⟩ = some (.bool (d.tb k)) := cell_of hT 1
        have z2 : WT.cell? ⟨wr.heap.size, 2, none⟩ = some (.slice (d.tca k) (d.tl k) (d.tcc k)) := cell_of hT 2
        have lz := lt_of hT
        have lx := lt_of hx
        rw [← hWT]
        have HFR := Lib.hid (show FrOk (WT.alloc (.cells (frC (d.tca k) (d.tl k) (d.tcc k) (d.tb k)) 129)).drew WT.heap.size from ⟨_, heap_new WT _, rfl⟩)
        obtain ⟨WM, hrun, hNM⟩ := (HNT.out.quiet ((Keeps.refl (fun _ => False) WT).alloc (.cells (frC (d.tca k) (d.tl k) (d.tcc k) (d.tb k)) 129)).drew).put (k := (k : Int)) (fun hb => by have := (HBB.out _ hb).2; omega) HFR.out
        have HNM := Lib.hid hNM
        generalize wr.heap.size = zz at *
        clear hx hT hWT kT hNM v0 v1 v2 v3
        go_region
        clear x7 z1 z2 lz lx hrun t0 t1 t2
        go_wp2_with fail
        go_roundw
        case rel => exact ⟨k + 1, by go_num, HLT.out, _, HNM.out, fun j hj => by rcases hj with hj | rfl; (· have := HBB.out j hj; omega); (· omega)⟩
        case measure => exact meas_as1 HLT.out
      · have hkn : k = d.nT := by omega
        have d1 : decide ((k : Int) < (d.nT : Int)) = false := decide_eq_false (by omega)
        have d2 : decide (k < d.nT) = false := decide_eq_false hlt
        obtain ⟨q0, q1, q2, q3⟩ := four_cells hN.box
        have lq := lt_of hN.box
        have hnL := HNN.out.2.2
        have HKN := Lib.hid hkn
        clear hN hB hk hlt hkn
        go_wp2_with fail
        clear q0 q1 q2 q3 lq d1 d2
        have HN2 := HN
        obtain ⟨LA, hLA⟩ : ∃ LA, LA = d.la := ⟨_, rfl⟩
        have HLA := Lib.hid hLA
        rw [← hLA]
        clear hLA
        go_loopw [53] (fun i wq => ∃ m : Nat, i = .int .i64 (m : Int) ∧ m ≤ d.nL ∧ ∃ B : Int → Prop, NewB w wq x mb q gb zb fb c d p a P B ∧ ∀ j, B j → -(m : Int) ≤ j) (fun i _ => d.nL - (intOf i).toNat)
        case atStart => exact ⟨0, rfl, Nat.zero_le _, _, HN.out, fun j h => by have := (HBB.out j h).1; omega⟩
        case round =>
          clear HN HBB
          obtain ⟨m, rfl, hk, B, hN, hB⟩ := hrel
          have HN := Lib.hid hN
          have HBB := Lib.hid hB
          by_cases hlt : m < d.nL
          · have HLT := Lib.hid hlt
            obtain ⟨b, off, hla, hb, hrow⟩ := hN.cf.l (Nat.lt_of_le_of_lt (Nat.zero_le _) hlt)
            rw [← HLA.out] at hla
            subst hla
            obtain ⟨t0, t1⟩ := hrow m hlt
            have d1 : decide ((m : Int) < (d.nL : Int)) = true := decide_eq_true (by omega)
            have d2 : decide (m < d.nL) = true := decide_eq_true hlt
            have b1 : (0 : Int) ≤ (m : Int) := by omega
            have b2 : (m : Int) < (d.nL : Int) := by omega
            have y1 : wrap64 ((m : Int) + 1) = (m : Int) + 1 := IntWalk.wrap64_in _ ⟨by omega, by omega⟩
            have y2 : wrap64 (-((m : Int) + 1)) = -((m : Int) + 1) := IntWalk.wrap64_in _ ⟨by omega, by omega⟩
            clear hrow hN hB hk hlt
            go_wp2_with fail
            obtain ⟨WT, hWT⟩ : ∃ W, W = wr.alloc (.cells #[.int .i64 (d.lr m), .slice (d.lca m) (d.ll m) (d.lcc m)] 69) := ⟨_, rfl⟩
            have kT : Keeps (fun _ => False) wr WT := by rw [hWT]; exact (Keeps.refl _ wr).alloc _
            have hT : WT.heap[wr.heap.size]? = some (.cells #[.int .i64 (d.lr m), .slice (d.lca m) (d.ll m) (d.lcc m)] 69 (0, 0)) := by rw [hWT]; exact heap_new _ _
            have HNT := Lib.hid (HN.out.quiet kT)
            obtain ⟨v0, v1, v2, v3, hx⟩ := HNT.out.core.blk
            have x7 : WT.cell? ⟨x, 7, none⟩ = some (.map (some fb)) := cell_of hx 7
            have z1 : WT.cell? ⟨wr.heap.size, 1, none⟩ = some (.slice (d.lca m) (d.ll m) (d.lcc m)) := cell_of hT 1
            have lz := lt_of hT
            have lx := lt_of hx
            rw [← hWT]
            have HFR := Lib.hid (show FrOk (WT.alloc (.cells (frC (d.lca m) (d.ll m) (d.lcc m) false) 129)).drew WT.heap.size from ⟨_, heap_new WT _, rfl⟩)
            obtain ⟨WM, hrun, hNM⟩ := (HNT.out.quiet ((Keeps.refl (fun _ => False) WT).alloc (.cells (frC (d.lca m) (d.ll m) (d.lcc m) false) 129)).drew).put (k := -((m : Int) + 1)) (fun hb => by have := HBB.out _ hb; omega) HFR.out
            have HNM := Lib.hid hNM
            generalize wr.heap.size = zz at *
            clear hx hT hWT kT hNM v0 v1 v2 v3
            go_region
            clear x7 z1 lz lx hrun t0 t1 y2
            go_wp2_with fail
            go_roundw
            case rel => exact ⟨m + 1, by go_num, HLT.out, _, HNM.out, fun j hj => by rcases hj with hj | rfl; (· have := HBB.out j hj; omega); (· omega)⟩
            case measure => exact meas_as1 HLT.out
          · have d1 : decide ((m : Int) < (d.nL : Int)) = false := decide_eq_false (by omega)
            have d2 : decide (m < d.nL) = false := decide_eq_false hlt
            have r0 := cell_of hN.res 0
            have r1 := cell_of hN.res 1
            have r2 := cell_of hN.res 2
            have f0 := free_of hN.res 0
            have f1 := free_of hN.res 1
            have f2 := free_of hN.res 2
            have lr := lt_of hN.res
            clear hN hB hk hlt
            go_wp2_with fail
            clear r0 r1 r2 f0 f1 f2 lr d1 d2
            have kk : Keeps (fun j => j = w.heap.size + 1) wr (((wr.setCell ⟨w.heap.size + 1, 0, none⟩ (.int .i64 0)).setCell ⟨w.heap.size + 1, 1, none⟩ (.int .i64 0)).setCell ⟨w.heap.size + 1, 2, none⟩ (.int .i64 0)) := (((Keeps.refl (fun j => j = w.heap.size + 1) wr).setCell (p := ⟨w.heap.size + 1, 0, none⟩) (.inl rfl) _).setCell (p := ⟨w.heap.size + 1, 1, none⟩) (.inl rfl) _).setCell (p := ⟨w.heap.size + 1, 2, none⟩) (.inl rfl) _
            have br : (((wr.setCell ⟨w.heap.size + 1, 0, none⟩ (.int .i64 0)).setCell ⟨w.heap.size + 1, 1, none⟩ (.int .i64 0)).setCell ⟨w.heap.size + 1, 2, none⟩ (.int .i64 0)).heap[w.heap.size + 1]? = some (.cells #[.int .i64 0, .int .i64 0, .int .i64 0] 30 (0, 0)) := heap_set (heap_set (heap_set HN.out.res 0 (.int .i64 0)) 1 (.int .i64 0)) 2 (.int .i64 0)
            generalize ((wr.setCell ⟨w.heap.size + 1, 0, none⟩ (.int .i64 0)).setCell ⟨w.heap.size + 1, 1, none⟩ (.int .i64 0)).setCell ⟨w.heap.size + 1, 2, none⟩ (.int .i64 0) = WF at kk br ⊢
            have kN : Keeps (fun _ => False) wr WF := ⟨kk.os, kk.tape, kk.output, kk.size, fun j hj _ => by
              by_cases e : j = w.heap.size + 1
              · rw [e, br, HN.out.res]
              · exact kk.block j hj e⟩
            have r0 := cell_of br 0
            have r1 := cell_of br 1
            have r2 := cell_of br 2
            refine bodyPost_ret (v := .tuple #[.pointer (some ⟨x, 0, none⟩), .agg #[.int .i64 0, .int .i64 0, .int .i64 0]]) (by simp [results, Tryz.results23, go_sem, r0, r1, r2]) rfl ?_
            exact ⟨x, mb, q, gb, zb, fb, p, a, P, rfl, HN.out.core.quiet kN, HN.out.keeps.trans kN⟩
end Go.Proofs.YthnmlklgbggmbaaGreat
