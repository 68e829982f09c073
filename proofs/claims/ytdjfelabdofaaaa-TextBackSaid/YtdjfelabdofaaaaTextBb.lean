import Derived.Test.YtdjfelabdofaaaaTxYz
import Derived.Test.YtdjfelabdofaaaaCodeF
import Derived.Deep.RegionHeld3
import Derived.Deep.QuietTactic
import Derived.BigQuiet
import Derived.LoopTactic
namespace Go.Proofs.Ytdjfelabdofaaaa
open Go.ChangeShapes Go.WideShapes Go.ChangeAt Go.RowKit
set_option linter.unusedVariables false
set_option linter.unusedSimpArgs false
/-- Two configurations of the same numbers and calls. -/
structure Agree (c d : CfD) (TC TD LC LD : Nat → List CallD) : Prop where
  nT : d.nT = c.nT
  nL : d.nL = c.nL
  nO : d.nO = c.nO
  tick : d.tick = c.tick
  tp : ∀ i, i < c.nT → d.tp i = c.tp i ∧ d.tb i = c.tb i ∧ TD i = TC i
  lr : ∀ i, i < c.nL → d.lr i = c.lr i ∧ LD i = LC i
  ob : ∀ i, i < c.nO → d.obj i = c.obj i
theorem same33_at (w : World) (a b : Option Addr) (n c0 c1 : Nat) (L : List CallD) (h : CodeAt w a n L) (h' : CodeAt w b n L) (hn : n ≤ 1000000) :
    Calls Try.prog 29 #[.slice a n c0, .slice b n c1] w fun e w' => e = .returned (.bool true) ∧ Keeps (fun _ => False) w w' := by
  rcases Nat.eq_zero_or_pos n with rfl | hp
  · exact rsamec_zero a b c0 c1 w
  · obtain ⟨g, o, rfl, _, hc⟩ := h.2.2 hp
    obtain ⟨g', o', rfl, _, hc'⟩ := h'.2.2 hp
    exact rsamec_some g o g' o' n c0 c1 L w h.1 hn hc hc'
/-- Two objects' cells are equal. -/
theorem eq_obj (o oi : Nat → Int) (w : World) : (Op.equalIn 10000 59 (.agg #[.int .i64 (o 0), .int .i64 (o 1), .int .i64 (o 2), .int .i64 (o 3), .int .i64 (o 4), .int .i64 (o 5), .int .u32 (oi 0), .int .u32 (oi 1), .int .u32 (oi 2), .int .u32 (oi 3)]) (.agg #[.int .i64 (o 0), .int .i64 (o 1), .int .i64 (o 2), .int .i64 (o 3), .int .i64 (o 4), .int .i64 (o 5), .int .u32 (oi 0), .int .u32 (oi 1), .int .u32 (oi 2), .int .u32 (oi 3)])).run Try.prog w = .ok true w := by
  have u3 := Try.underlying3
  have u4 := Try.underlying55
  have a3 := Try.isAgg3
  have a4 := Try.isAgg55
  have a5 := Try.isAgg57
  have z3 := Try.sizeOf3
  have z4 := Try.sizeOf55
  have z5 := Try.sizeOf57
  have hS : Try.prog.underlying 59 = some (.struct (Try.prog.fieldsOf 59)) := by kernel_rfl
  have hp : Try.prog.stoodInHeld 59 = false := by kernel_rfl
  have hv := fun w => eq_arr 9997 (oi 0) (oi 1) (oi 2) (oi 3) w
  rw [show (10000 : Nat) = 9999 + 1 from rfl, run_equalIn_agg w 9999 59 _ _ hS hp]
  simp only [Program.fieldsOf, Try.underlying59]
  go_simp
set_option maxRecDepth 100000 in
set_option maxHeartbeats 8000000 in
theorem same44_any (w : World) (c d : CfD) (TC TD LC LD : Nat → List CallD) (h : TxIn w c TC LC) (h' : TxIn w d TD LD) (ag : Agree c d TC TD LC LD) (ht : c.nT ≤ 20) (hl : c.nL ≤ 40) (ho : c.nO ≤ 20) (hlt : ∀ i, i < c.nT → c.tl i ≤ 70) (hll : ∀ i, i < c.nL → c.ll i ≤ 70) :
    Calls Try.prog 14 #[.agg c.cells, .agg d.cells] w fun e w' => e = .returned (.bool true) ∧ Keeps (fun _ => False) w w' := by
  have hd : d.cells = #[.slice d.ta c.nT d.tc, .slice d.la c.nL d.lc, .slice d.oa c.nO d.oc, .int .i64 c.tick] := by unfold CfD.cells; rw [ag.nT, ag.nL, ag.nO, ag.tick]
  rw [hd]
  clear hd
  have hb0 := heap_old (heap_new w (.cells #[.slice c.ta c.nT c.tc, .slice c.la c.nL c.lc, .slice c.oa c.nO c.oc, .int .i64 c.tick] 26)) (.cells #[.slice d.ta c.nT d.tc, .slice d.la c.nL d.lc, .slice d.oa c.nO d.oc, .int .i64 c.tick] 26)
  have hb1 := heap_new (w.alloc (.cells #[.slice c.ta c.nT c.tc, .slice c.la c.nL c.lc, .slice c.oa c.nO c.oc, .int .i64 c.tick] 26)) (.cells #[.slice d.ta c.nT d.tc, .slice d.la c.nL d.lc, .slice d.oa c.nO d.oc, .int .i64 c.tick] 26)
  rw [World.size_alloc] at hb1
  have hk := ((Keeps.refl (fun _ => False) w).alloc (.cells #[.slice c.ta c.nT c.tc, .slice c.la c.nL c.lc, .slice c.oa c.nO c.oc, .int .i64 c.tick] 26)).alloc (.cells #[.slice d.ta c.nT d.tc, .slice d.la c.nL d.lc, .slice d.oa c.nO d.oc, .int .i64 c.tick] 26)
  have x0 := cell_of hb0 0
  have x1 := cell_of hb0 1
  have x2 := cell_of hb0 2
  have x3 := cell_of hb0 3
  have y0 := cell_of hb1 0
  have y1 := cell_of hb1 1
  have y2 := cell_of hb1 2
  have y3 := cell_of hb1 3
  have lx := lt_of hb0
  have ly := lt_of hb1
  have HB0 := Lib.hid hb0
  have HB1 := Lib.hid hb1
  have HK := Lib.hid hk
  have HI := Lib.hid h
  have HJ := Lib.hid h'
  have AG := Lib.hid ag
  have HLT := Lib.hid hlt
  have HLL := Lib.hid hll
  clear hb0 hb1 hk h h' ag hlt hll
  go_enter Try.func14, Try.ntmps14
  go_wp2_with fail
  clear x0 x1 x2 x3 y0 y1 y2 y3 lx ly
  go_loopw [5] (fun i wr => ∃ (k : Nat), k ≤ c.nT ∧ i = .int .i64 (k : Int) ∧ wr.heap[w.heap.size]? = some (.cells #[.slice c.ta c.nT c.tc, .slice c.la c.nL c.lc, .slice c.oa c.nO c.oc, .int .i64 c.tick] 26 (0, 0)) ∧ wr.heap[w.heap.size + 1]? = some (.cells #[.slice d.ta c.nT d.tc, .slice d.la c.nL d.lc, .slice d.oa c.nO d.oc, .int .i64 c.tick] 26 (0, 0)) ∧ Keeps (fun _ => False) w wr) (fun i _ => c.nT - (intOf i).toNat)
  case atStart => exact ⟨0, by omega, rfl, HB0.out, HB1.out, HK.out⟩
  case round =>
    obtain ⟨k, hk, rfl, hb0, hb1, hkp⟩ := hrel
    clear HB0 HB1 HK
    have H0 := Lib.hid hb0
    have H1 := Lib.hid hb1
    have HK := Lib.hid hkp
    have x0 : wr.cell? ⟨w.heap.size, 0, none⟩ = some (.slice c.ta c.nT c.tc) := cell_of hb0 0
    have x1 : wr.cell? ⟨w.heap.size, 1, none⟩ = some (.slice c.la c.nL c.lc) := cell_of hb0 1
    have lx := lt_of hb0
    clear hb0 hb1 hkp
    rcases Nat.lt_or_ge k c.nT with hlt | hge
    · have d1 : ((k : Int) < (c.nT : Int)) = True := by simp; omega
      obtain ⟨b, off, e1, hb, hc⟩ := HI.out.cf.t (by omega)
      obtain ⟨b', off', e2, hb', hc'⟩ := HJ.out.cf.t (by rw [AG.out.nT]; omega)
      have hcd := HI.out.tc k hlt
      have hcd' := HJ.out.tc k (by rw [AG.out.nT]; exact hlt)
      obtain ⟨g1, g2, g3⟩ := AG.out.tp k hlt
      obtain ⟨c0, c1, c2⟩ := hc k hlt
      obtain ⟨c3, c4, c5⟩ := hc' k (by rw [AG.out.nT]; exact hlt)
      rw [g1] at c3
      rw [g2] at c4
      have htl : d.tl k = c.tl k := by rw [← hcd.1, ← hcd'.1, g3]
      rw [g3, htl] at hcd'
      rw [htl] at c5
      have HS := Lib.hid (fun (W : World) (hk : Keeps (fun _ => False) w W) => same33_at W (c.tca k) (d.tca k) (c.tl k) (c.tcc k) (d.tcc k) (TC k) (hcd.keeps hk) (hcd'.keeps hk) (by have := HLT.out k hlt; omega))
      have hF : ∀ (W : World), Keeps (fun _ => False) w W → W.heap[w.heap.size]? = some (.cells #[.slice c.ta c.nT c.tc, .slice c.la c.nL c.lc, .slice c.oa c.nO c.oc, .int .i64 c.tick] 26 (0, 0)) → W.heap[w.heap.size + 1]? = some (.cells #[.slice d.ta c.nT d.tc, .slice d.la c.nL d.lc, .slice d.oa c.nO d.oc, .int .i64 c.tick] 26 (0, 0)) → (W.cell? ⟨w.heap.size, 0, none⟩ = some (.slice (some ⟨b, off, none⟩) c.nT c.tc) ∧ W.cell? ⟨w.heap.size + 1, 0, none⟩ = some (.slice (some ⟨b', off', none⟩) c.nT d.tc) ∧ W.cell? ⟨b, off + k * 3, none⟩ = some (.int .i64 (c.tp k)) ∧ W.cell? ⟨b, off + k * 3 + 1, none⟩ = some (.bool (c.tb k)) ∧ W.cell? ⟨b, off + k * 3 + 2, none⟩ = some (.slice (c.tca k) (c.tl k) (c.tcc k)) ∧ W.cell? ⟨b', off' + k * 3, none⟩ = some (.int .i64 (c.tp k)) ∧ W.cell? ⟨b', off' + k * 3 + 1, none⟩ = some (.bool (c.tb k)) ∧ W.cell? ⟨b', off' + k * 3 + 2, none⟩ = some (.slice (d.tca k) (c.tl k) (d.tcc k))) := fun W hk h0 h1 =>
        ⟨(cell_of h0 0).trans (by rw [← e1]; rfl), (cell_of h1 0).trans (by rw [← e2]; rfl), (hk.none.cell (p := ⟨b, off + k * 3, none⟩) hb).trans c0, (hk.none.cell (p := ⟨b, off + k * 3 + 1, none⟩) hb).trans c1, (hk.none.cell (p := ⟨b, off + k * 3 + 2, none⟩) hb).trans c2, (hk.none.cell (p := ⟨b', off' + k * 3, none⟩) hb').trans c3, (hk.none.cell (p := ⟨b', off' + k * 3 + 1, none⟩) hb').trans c4, (hk.none.cell (p := ⟨b', off' + k * 3 + 2, none⟩) hb').trans c5⟩
      have HF := Lib.hid hF
      clear hF hcd hcd' g1 g2 g3 c0 c1 c2 c3 c4 c5 htl hc hc' hb hb' e1 e2
      generalize c.tp k = tpk at *
      generalize c.tb k = tbk at *
      generalize c.tca k = ak at *
      generalize c.tl k = lk at *
      generalize c.tcc k = ck at *
      generalize d.tca k = ak' at *
      generalize d.tcc k = ck' at *
      replace H0 := Lib.hid (show wr.drew.heap[w.heap.size]? = _ from H0.out)
      replace H1 := Lib.hid (show wr.drew.heap[w.heap.size + 1]? = _ from H1.out)
      replace HK := Lib.hid HK.out.drew
      go_wp2_with fail
      clear x0 x1 lx
      go_region_held3 (fun w' => w'.cell? ⟨w.heap.size, 0, none⟩ = some (.slice (some ⟨b, off, none⟩) c.nT c.tc) ∧ w'.cell? ⟨w.heap.size + 1, 0, none⟩ = some (.slice (some ⟨b', off', none⟩) c.nT d.tc) ∧ w'.cell? ⟨b, off + k * 3, none⟩ = some (.int .i64 tpk) ∧ w'.cell? ⟨b, off + k * 3 + 1, none⟩ = some (.bool tbk) ∧ w'.cell? ⟨b, off + k * 3 + 2, none⟩ = some (.slice ak lk ck) ∧ w'.cell? ⟨b', off' + k * 3, none⟩ = some (.int .i64 tpk) ∧ w'.cell? ⟨b', off' + k * 3 + 1, none⟩ = some (.bool tbk) ∧ w'.cell? ⟨b', off' + k * 3 + 2, none⟩ = some (.slice ak' lk ck'))
        (first
          | exact HF.out _ HK.out H0.out H1.out
          | go_keep)
        (first
          | (go_at_call 29; refine (HS.out _ HK.out).mono ?_; rintro e w8 ⟨rfl, k8⟩; replace H0 := Lib.hid (k8.at H0.out fun h => h); replace H1 := Lib.hid (k8.at H1.out fun h => h); replace HK := Lib.hid (HK.out.trans k8); clear k8))
      all_goals
        go_wp2
        go_roundw
        case rel => exact ⟨k + 1, by omega, by go_num, H0.out, H1.out, HK.out⟩
        case measure => simp [intOf]; omega
    · obtain rfl : k = c.nT := by omega
      clear x1
      go_wp2_with fail
      clear x0 lx
      go_loopw [6] (fun i wr => ∃ (k : Nat), k ≤ c.nL ∧ i = .int .i64 (k : Int) ∧ wr.heap[w.heap.size]? = some (.cells #[.slice c.ta c.nT c.tc, .slice c.la c.nL c.lc, .slice c.oa c.nO c.oc, .int .i64 c.tick] 26 (0, 0)) ∧ wr.heap[w.heap.size + 1]? = some (.cells #[.slice d.ta c.nT d.tc, .slice d.la c.nL d.lc, .slice d.oa c.nO d.oc, .int .i64 c.tick] 26 (0, 0)) ∧ Keeps (fun _ => False) w wr) (fun i _ => c.nL - (intOf i).toNat)
      case atStart => exact ⟨0, by omega, rfl, H0.out, H1.out, HK.out⟩
      case round =>
        obtain ⟨k, hk2, rfl, hb0, hb1, hkp⟩ := hrel
        clear H0 H1 HK
        have H0 := Lib.hid hb0
        have H1 := Lib.hid hb1
        have HK := Lib.hid hkp
        have x0 : wr.cell? ⟨w.heap.size, 1, none⟩ = some (.slice c.la c.nL c.lc) := cell_of hb0 1
        have lx := lt_of hb0
        clear hb0 hb1 hkp
        rcases Nat.lt_or_ge k c.nL with hlt | hge
        · have d1 : ((k : Int) < (c.nL : Int)) = True := by simp; omega
          obtain ⟨b, off, e1, hb, hc⟩ := HI.out.cf.l (by omega)
          obtain ⟨b', off', e2, hb', hc'⟩ := HJ.out.cf.l (by rw [AG.out.nL]; omega)
          have hcd := HI.out.lc k hlt
          have hcd' := HJ.out.lc k (by rw [AG.out.nL]; exact hlt)
          obtain ⟨g1, g3⟩ := AG.out.lr k hlt
          obtain ⟨c0, c2⟩ := hc k hlt
          obtain ⟨c3, c5⟩ := hc' k (by rw [AG.out.nL]; exact hlt)
          rw [g1] at c3
          have htl : d.ll k = c.ll k := by rw [← hcd.1, ← hcd'.1, g3]
          rw [g3, htl] at hcd'
          rw [htl] at c5
          have HS := Lib.hid (fun (W : World) (hk : Keeps (fun _ => False) w W) => same33_at W (c.lca k) (d.lca k) (c.ll k) (c.lcc k) (d.lcc k) (LC k) (hcd.keeps hk) (hcd'.keeps hk) (by have := HLL.out k hlt; omega))
          have hF : ∀ (W : World), Keeps (fun _ => False) w W → W.heap[w.heap.size]? = some (.cells #[.slice c.ta c.nT c.tc, .slice c.la c.nL c.lc, .slice c.oa c.nO c.oc, .int .i64 c.tick] 26 (0, 0)) → W.heap[w.heap.size + 1]? = some (.cells #[.slice d.ta c.nT d.tc, .slice d.la c.nL d.lc, .slice d.oa c.nO d.oc, .int .i64 c.tick] 26 (0, 0)) → (W.cell? ⟨w.heap.size, 1, none⟩ = some (.slice (some ⟨b, off, none⟩) c.nL c.lc) ∧ W.cell? ⟨w.heap.size + 1, 1, none⟩ = some (.slice (some ⟨b', off', none⟩) c.nL d.lc) ∧ W.cell? ⟨b, off + k * 2, none⟩ = some (.int .i64 (c.lr k)) ∧ W.cell? ⟨b, off + k * 2 + 1, none⟩ = some (.slice (c.lca k) (c.ll k) (c.lcc k)) ∧ W.cell? ⟨b', off' + k * 2, none⟩ = some (.int .i64 (c.lr k)) ∧ W.cell? ⟨b', off' + k * 2 + 1, none⟩ = some (.slice (d.lca k) (c.ll k) (d.lcc k))) := fun W hk h0 h1 =>
            ⟨(cell_of h0 1).trans (by rw [← e1]; rfl), (cell_of h1 1).trans (by rw [← e2]; rfl), (hk.none.cell (p := ⟨b, off + k * 2, none⟩) hb).trans c0, (hk.none.cell (p := ⟨b, off + k * 2 + 1, none⟩) hb).trans c2, (hk.none.cell (p := ⟨b', off' + k * 2, none⟩) hb').trans c3, (hk.none.cell (p := ⟨b', off' + k * 2 + 1, none⟩) hb').trans c5⟩
          have HF := Lib.hid hF
          clear hF hcd hcd' g1 g3 c0 c2 c3 c5 htl hc hc' hb hb' e1 e2
          generalize c.lr k = tpk at *
          generalize c.lca k = ak at *
          generalize c.ll k = lk at *
          generalize c.lcc k = ck at *
          generalize d.lca k = ak' at *
          generalize d.lcc k = ck' at *
          replace H0 := Lib.hid (show wr.drew.heap[w.heap.size]? = _ from H0.out)
          replace H1 := Lib.hid (show wr.drew.heap[w.heap.size + 1]? = _ from H1.out)
          replace HK := Lib.hid HK.out.drew
          go_wp2_with fail
          clear x0 lx
          go_region_held3 (fun w' => w'.cell? ⟨w.heap.size, 1, none⟩ = some (.slice (some ⟨b, off, none⟩) c.nL c.lc) ∧ w'.cell? ⟨w.heap.size + 1, 1, none⟩ = some (.slice (some ⟨b', off', none⟩) c.nL d.lc) ∧ w'.cell? ⟨b, off + k * 2, none⟩ = some (.int .i64 tpk) ∧ w'.cell? ⟨b, off + k * 2 + 1, none⟩ = some (.slice ak lk ck) ∧ w'.cell? ⟨b', off' + k * 2, none⟩ = some (.int .i64 tpk) ∧ w'.cell? ⟨b', off' + k * 2 + 1, none⟩ = some (.slice ak' lk ck'))
            (first
              | exact HF.out _ HK.out H0.out H1.out
              | go_keep)
            (first
              | (go_at_call 29; refine (HS.out _ HK.out).mono ?_; rintro e w8 ⟨rfl, k8⟩; replace H0 := Lib.hid (k8.at H0.out fun h => h); replace H1 := Lib.hid (k8.at H1.out fun h => h); replace HK := Lib.hid (HK.out.trans k8); clear k8))
          all_goals
            go_wp2
            go_roundw
            case rel => exact ⟨k + 1, by omega, by go_num, H0.out, H1.out, HK.out⟩
            case measure => simp [intOf]; omega
        · obtain rfl : k = c.nL := by omega
          go_wp2_with fail
          clear x0 lx
          go_loopw [7] (fun i wr => ∃ (k : Nat), k ≤ c.nO ∧ i = .int .i64 (k : Int) ∧ wr.heap[w.heap.size]? = some (.cells #[.slice c.ta c.nT c.tc, .slice c.la c.nL c.lc, .slice c.oa c.nO c.oc, .int .i64 c.tick] 26 (0, 0)) ∧ wr.heap[w.heap.size + 1]? = some (.cells #[.slice d.ta c.nT d.tc, .slice d.la c.nL d.lc, .slice d.oa c.nO d.oc, .int .i64 c.tick] 26 (0, 0)) ∧ Keeps (fun _ => False) w wr) (fun i _ => c.nO - (intOf i).toNat)
          case atStart => exact ⟨0, by omega, rfl, H0.out, H1.out, HK.out⟩
          case round =>
            obtain ⟨k, hk3, rfl, hb0, hb1, hkp⟩ := hrel
            clear H0 H1 HK
            have H0 := Lib.hid hb0
            have H1 := Lib.hid hb1
            have HK := Lib.hid hkp
            rcases Nat.lt_or_ge k c.nO with hlt | hge
            · have d1 : ((k : Int) < (c.nO : Int)) = True := by simp; omega
              obtain ⟨b, off, e1, hb, hc⟩ := HI.out.cf.o (by omega)
              obtain ⟨b', off', e2, hb', hc'⟩ := HJ.out.cf.o (by rw [AG.out.nO]; omega)
              have p0 : wr.cell? ⟨b, off + k * 10, none⟩ = some (.int .i64 (c.ob k 0)) := (hkp.none.cell (p := ⟨b, off + k * 10, none⟩) hb).trans (hc k hlt 0 (by omega))
              have q0 : wr.cell? ⟨b', off' + k * 10, none⟩ = some (.int .i64 (c.ob k 0)) := (hkp.none.cell (p := ⟨b', off' + k * 10, none⟩) hb').trans ((hc' k (by rw [AG.out.nO]; exact hlt) 0 (by omega)).trans (by rw [AG.out.ob k hlt]; rfl))
              have p1 : wr.cell? ⟨b, off + k * 10 + 1, none⟩ = some (.int .i64 (c.ob k 1)) := (hkp.none.cell (p := ⟨b, off + k * 10 + 1, none⟩) hb).trans (hc k hlt 1 (by omega))
              have q1 : wr.cell? ⟨b', off' + k * 10 + 1, none⟩ = some (.int .i64 (c.ob k 1)) := (hkp.none.cell (p := ⟨b', off' + k * 10 + 1, none⟩) hb').trans ((hc' k (by rw [AG.out.nO]; exact hlt) 1 (by omega)).trans (by rw [AG.out.ob k hlt]; rfl))
              have p2 : wr.cell? ⟨b, off + k * 10 + 2, none⟩ = some (.int .i64 (c.ob k 2)) := (hkp.none.cell (p := ⟨b, off + k * 10 + 2, none⟩) hb).trans (hc k hlt 2 (by omega))
              have q2 : wr.cell? ⟨b', off' + k * 10 + 2, none⟩ = some (.int .i64 (c.ob k 2)) := (hkp.none.cell (p := ⟨b', off' + k * 10 + 2, none⟩) hb').trans ((hc' k (by rw [AG.out.nO]; exact hlt) 2 (by omega)).trans (by rw [AG.out.ob k hlt]; rfl))
              have p3 : wr.cell? ⟨b, off + k * 10 + 3, none⟩ = some (.int .i64 (c.ob k 3)) := (hkp.none.cell (p := ⟨b, off + k * 10 + 3, none⟩) hb).trans (hc k hlt 3 (by omega))
              have q3 : wr.cell? ⟨b', off' + k * 10 + 3, none⟩ = some (.int .i64 (c.ob k 3)) := (hkp.none.cell (p := ⟨b', off' + k * 10 + 3, none⟩) hb').trans ((hc' k (by rw [AG.out.nO]; exact hlt) 3 (by omega)).trans (by rw [AG.out.ob k hlt]; rfl))
              have p4 : wr.cell? ⟨b, off + k * 10 + 4, none⟩ = some (.int .i64 (c.ob k 4)) := (hkp.none.cell (p := ⟨b, off + k * 10 + 4, none⟩) hb).trans (hc k hlt 4 (by omega))
              have q4 : wr.cell? ⟨b', off' + k * 10 + 4, none⟩ = some (.int .i64 (c.ob k 4)) := (hkp.none.cell (p := ⟨b', off' + k * 10 + 4, none⟩) hb').trans ((hc' k (by rw [AG.out.nO]; exact hlt) 4 (by omega)).trans (by rw [AG.out.ob k hlt]; rfl))
              have p5 : wr.cell? ⟨b, off + k * 10 + 5, none⟩ = some (.int .i64 (c.ob k 5)) := (hkp.none.cell (p := ⟨b, off + k * 10 + 5, none⟩) hb).trans (hc k hlt 5 (by omega))
              have q5 : wr.cell? ⟨b', off' + k * 10 + 5, none⟩ = some (.int .i64 (c.ob k 5)) := (hkp.none.cell (p := ⟨b', off' + k * 10 + 5, none⟩) hb').trans ((hc' k (by rw [AG.out.nO]; exact hlt) 5 (by omega)).trans (by rw [AG.out.ob k hlt]; rfl))
              have p6 : wr.cell? ⟨b, off + k * 10 + 6, none⟩ = some (.int .u32 (c.oi k 0)) := (hkp.none.cell (p := ⟨b, off + k * 10 + 6, none⟩) hb).trans (hc k hlt 6 (by omega))
              have q6 : wr.cell? ⟨b', off' + k * 10 + 6, none⟩ = some (.int .u32 (c.oi k 0)) := (hkp.none.cell (p := ⟨b', off' + k * 10 + 6, none⟩) hb').trans ((hc' k (by rw [AG.out.nO]; exact hlt) 6 (by omega)).trans (by rw [AG.out.ob k hlt]; rfl))
              have p7 : wr.cell? ⟨b, off + k * 10 + 7, none⟩ = some (.int .u32 (c.oi k 1)) := (hkp.none.cell (p := ⟨b, off + k * 10 + 7, none⟩) hb).trans (hc k hlt 7 (by omega))
              have q7 : wr.cell? ⟨b', off' + k * 10 + 7, none⟩ = some (.int .u32 (c.oi k 1)) := (hkp.none.cell (p := ⟨b', off' + k * 10 + 7, none⟩) hb').trans ((hc' k (by rw [AG.out.nO]; exact hlt) 7 (by omega)).trans (by rw [AG.out.ob k hlt]; rfl))
              have p8 : wr.cell? ⟨b, off + k * 10 + 8, none⟩ = some (.int .u32 (c.oi k 2)) := (hkp.none.cell (p := ⟨b, off + k * 10 + 8, none⟩) hb).trans (hc k hlt 8 (by omega))
              have q8 : wr.cell? ⟨b', off' + k * 10 + 8, none⟩ = some (.int .u32 (c.oi k 2)) := (hkp.none.cell (p := ⟨b', off' + k * 10 + 8, none⟩) hb').trans ((hc' k (by rw [AG.out.nO]; exact hlt) 8 (by omega)).trans (by rw [AG.out.ob k hlt]; rfl))
              have p9 : wr.cell? ⟨b, off + k * 10 + 9, none⟩ = some (.int .u32 (c.oi k 3)) := (hkp.none.cell (p := ⟨b, off + k * 10 + 9, none⟩) hb).trans (hc k hlt 9 (by omega))
              have q9 : wr.cell? ⟨b', off' + k * 10 + 9, none⟩ = some (.int .u32 (c.oi k 3)) := (hkp.none.cell (p := ⟨b', off' + k * 10 + 9, none⟩) hb').trans ((hc' k (by rw [AG.out.nO]; exact hlt) 9 (by omega)).trans (by rw [AG.out.ob k hlt]; rfl))
              have x0 : wr.cell? ⟨w.heap.size, 2, none⟩ = some (.slice (some ⟨b, off, none⟩) c.nO c.oc) := (cell_of hb0 2).trans (by rw [← e1]; rfl)
              have x1 : wr.cell? ⟨w.heap.size + 1, 2, none⟩ = some (.slice (some ⟨b', off', none⟩) c.nO d.oc) := (cell_of hb1 2).trans (by rw [← e2]; rfl)
              have lx := lt_of hb0
              have ly := lt_of hb1
              have lb : b < wr.heap.size := Nat.lt_of_lt_of_le hb hkp.size
              have lb' : b' < wr.heap.size := Nat.lt_of_lt_of_le hb' hkp.size
              have hq := eq_obj (c.ob k) (c.oi k)
              clear hc hc' hb hb' e1 e2 hb0 hb1 hkp
              generalize c.ob k 0 = o0 at *
              generalize c.ob k 1 = o1 at *
              generalize c.ob k 2 = o2 at *
              generalize c.ob k 3 = o3 at *
              generalize c.ob k 4 = o4 at *
              generalize c.ob k 5 = o5 at *
              generalize c.oi k 0 = o6 at *
              generalize c.oi k 1 = o7 at *
              generalize c.oi k 2 = o8 at *
              generalize c.oi k 3 = o9 at *
              go_wp2_with fail
              go_quiet (fail)
              go_wp2
              go_roundw
              case rel => exact ⟨k + 1, by omega, by go_num, H0.out, H1.out, HK.out.drewN _⟩
              case measure => simp [intOf]; omega
            · obtain rfl : k = c.nO := by omega
              have x0 : wr.cell? ⟨w.heap.size, 2, none⟩ = some (.slice c.oa c.nO c.oc) := cell_of hb0 2
              have lx := lt_of hb0
              clear hb0 hb1 hkp
              go_wp2
              go_ret
              exact ⟨rfl, HK.out⟩
end Go.Proofs.Ytdjfelabdofaaaa
