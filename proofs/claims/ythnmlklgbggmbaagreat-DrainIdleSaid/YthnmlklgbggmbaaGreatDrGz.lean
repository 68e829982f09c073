import Derived.Test.YthnmlklgbggmbaaGreatDrEz
import Derived.Test.YthnmlklgbggmbaaGreatPlJz
namespace Go.Proofs.YthnmlklgbggmbaaGreat
open Go.ChangeShapes Go.WideShapes Go.ChangeAt Go.RowKit
set_option linter.unusedVariables false
set_option linter.unusedSimpArgs false
attribute [local irreducible] wpList
theorem info_headsU : (Tryz.prog.info? 38).map (fun i => (i.zero, i.size, i.bytes)) = some (some (.int .u32 0), 1, 4) := by kernel_rfl
theorem make_heads (w : World) (n : Nat) (hn : n ≤ 1000) : (Instr.makeSlice 41 (.int .i64 (n : Int)) (.int .i64 (n : Int))).run Tryz.prog w = .ok (.slice (some ⟨w.heap.size, 0, none⟩) n n) (w.alloc (.cells (madeCells #[.int .u32 0] n) 38)) := by
  obtain ⟨i, hi, hz0, hz1, hz2⟩ := info_parts info_headsU
  have h := run_make w 41 38 i (.int .u32 0) Tryz.underlying41 hi hz0 .i64 .i64 (n : Int) (n : Int) (by omega) (by omega) (by rw [hz2]; omega) (by omega)
  rw [hz1] at h
  simpa [Value.cells] using h
/-- Tasks as an argument. -/
theorem prios_of {c : CfD} {w : World} (hc : CfIn w c) (h0 : 0 < c.nT) : PriosAt w c.ta c.nT ((List.range c.nT).map c.tp) := by
  refine ⟨by simp, fun hn => ?_⟩
  obtain ⟨b, off, e, hb, h⟩ := hc.t hn
  refine ⟨b, off, e, hb, fun k p hk => ?_⟩
  have hk' : k < c.nT := by
    have := (List.getElem?_eq_some_iff.1 hk).1
    simpa using this
  have hp : p = c.tp k := by
    rw [List.getElem?_map, List.getElem?_range hk'] at hk
    exact (Option.some.inj hk).symm
  rw [hp]; exact (h k hk').1
/-- What New of a right configuration gives. -/
def NewD (w : World) (c : CfD) (e : Ending) (w' : World) : Prop := ∃ (b : Nat) (p : DrP) (a : ScA), e = .returned (.pointer (some ⟨b, 0, none⟩)) ∧ IsDr w' b p 0 0 0 .nilFunc 0 0 ∧ DrS w' b p c ∧ ScW w' (fun k => w.heap.size ≤ k) a (dispM (newM ((List.range c.nT).map c.tp))) ∧ p.s = a.s ∧ p.t = tickP c ∧ w.heap.size ≤ b ∧ Keeps (fun _ => False) w w'
theorem ScW.wide {w0 w w' : World} {a : ScA} {M : ScM} (h : ScW w' (fun k => w.heap.size ≤ k) a M) (k : Keeps (fun _ => False) w0 w) : ScW w' (fun k => w0.heap.size ≤ k) a M :=
  h.narrow (fun j _ hj => Nat.le_trans k.size hj) fun j hj => Nat.le_trans k.size (h.new j hj)
theorem heads_zero (n k : Nat) (hk : k < n) : (madeCells #[.int .u32 0] n)[k]? = some (.int .u32 0) := by
  rw [← Array.getElem?_toList, toList_madeCells_one, List.getElem?_replicate, if_pos hk]
/-- The last step of New: the box. -/
theorem newD_of {w W0 WX : World} {c : CfD} {g B hB ac lc : Nat} {la aa : Option Addr} {a : ScA} (hgo : GoodC c) (k0 : Keeps (fun _ => False) W0 WX) (kw : Keeps (fun _ => False) w WX)
    (hln : W0.ownsRow B 148 6 (.slice la c.nL lc) c.nL (linesF (baseP c) c.lr c.nL)) (hak : W0.ownsRow B 3 1 (.slice aa c.nT ac) c.nT (asksF (tickP c + 1) c.nT))
    (hh : WX.heap[hB]? = some (.cells (madeCells #[.int .u32 0] c.nL) 38 (0, 0))) (hs : ScW WX (fun k => w.heap.size ≤ k) a (dispM (newM ((List.range c.nT).map c.tp)))) :
    NewD w c (.returned (.pointer (some ⟨WX.heap.size, 0, none⟩))) (WX.alloc (.cells (drC ⟨g, c.nO, la, c.nL, lc, tickP c, aa, c.nT, ac, tickP c + 1 + (c.nT : Int), a.s, hB⟩ 0 0 0 .nilFunc 0 0) 90)) := by
  have kx := (Keeps.refl (fun _ => False) WX).alloc (.cells (drC ⟨g, c.nO, la, c.nL, lc, tickP c, aa, c.nT, ac, tickP c + 1 + (c.nT : Int), a.s, hB⟩ 0 0 0 .nilFunc 0 0) 90)
  have hn := plan_nums hgo
  refine ⟨WX.heap.size, _, a, rfl, heap_new _ _, ⟨⟨by show 0 ≤ tickP c; omega, by show tickP c ≤ 1000000; omega⟩, rfl, rfl, fun hp => ?_, fun hp => ?_, ?_⟩, hs.quiet kx, rfl, rfl, kw.size, kw.trans kx⟩
  · obtain ⟨b0, e0, l0, _⟩ := ask_at hak (k := 0) hp
    refine ⟨b0, 0, e0, by have := k0.size; omega, by rw [World.size_alloc]; have := k0.size; omega, fun i hi => ?_⟩
    obtain ⟨b1, e1, l1, h1⟩ := ask_at hak (k := i) hi
    rw [e0] at e1
    have e2 : b0 = b1 := by simpa using e1
    subst e2
    rw [Nat.zero_add]
    exact (World.cell?_of_block ((k0.trans kx).block b0 l0 fun h => h)).trans h1
  · obtain ⟨b0, e0, l0, _⟩ := line_at hln (k := 0) hp
    refine ⟨b0, 0, e0, by have := k0.size; omega, by rw [World.size_alloc]; have := k0.size; omega, fun i hi j v hj => ?_⟩
    obtain ⟨b1, e1, l1, h1⟩ := line_at hln (k := i) hi
    rw [e0] at e1
    have e2 : b0 = b1 := by simpa using e1
    subst e2
    rw [Nat.zero_add]
    exact (World.cell?_of_block ((k0.trans kx).block b0 l0 fun h => h)).trans (h1 j v hj)
  · have hl := lt_of hh
    refine ⟨by show hB ≠ WX.heap.size; omega, by rw [World.size_alloc]; show hB < _; omega, fun i hi => ?_⟩
    exact ((World.cell?_of_block (kx.block hB hl fun h => h)).trans (cell_of hh i)).trans (heads_zero _ _ hi)
theorem five_plan {w : World} {b : Nat} {v0 v1 v2 v3 v4 : Value} (h : w.heap[b]? = some (.cells #[v0, v1, v2, v3, v4] 83 (0, 0))) : w.cell? ⟨b, 0, none⟩ = some v0 ∧ w.cell? ⟨b, 1, none⟩ = some v1 ∧ w.cell? ⟨b, 2, none⟩ = some v2 ∧ w.cell? ⟨b, 3, none⟩ = some v3 ∧ w.cell? ⟨b, 4, none⟩ = some v4 :=
  ⟨cell_of h 0, cell_of h 1, cell_of h 2, cell_of h 3, cell_of h 4⟩
set_option maxRecDepth 20000 in
set_option maxHeartbeats 8000000 in
theorem drain_new (c : CfD) (w : World) (hc : CfIn w c) (ho : c.Ok) (hv : badOf c = (0, 0, 0)) :
    Calls Tryz.prog 8 #[.agg c.cells] w (NewD w c) := by
  have HP := Lib.hid (fun W (k : Keeps (fun _ => False) w W) => plan_good c W (hc.none k) ho hv)
  have HG := Lib.hid (good_of hv)
  have HSN := Lib.hid (fun W (k : Keeps (fun _ => False) w W) => snew_any W c.ta c.nT c.tc _ (prios_of (hc.none k) HG.out.t1) (by have := HG.out.t; omega))
  have HB := Lib.hid ((Has.start w).alloc (.cells c.cells 26))
  have hmk := fun W => make_heads W c.nL (by have := HG.out.l; omega)
  clear hc ho hv
  go_enter Tryz.func8, Tryz.ntmps8
  go_wp2_with fail
  refine (HP.out _ HB.out.keeps).mono ?_
  rintro e1 w1 ⟨g, la, lc, aa, ac, rfl, hpl, hln, hak, k1⟩
  replace HB := Lib.hid (((HB.out.none k1).alloc (.cells #[.slice (some ⟨g, 0, none⟩) c.nO c.nO, .slice la c.nL lc, .int .i64 (tickP c), .slice aa c.nT ac, .int .i64 (tickP c + 1 + (c.nT : Int))] 83)))
  have HLN := Lib.hid hln
  have HAK := Lib.hid hak
  have HK1 := Lib.hid ((Keeps.refl (fun _ => False) w1).alloc (.cells #[.slice (some ⟨g, 0, none⟩) c.nO c.nO, .slice la c.nL lc, .int .i64 (tickP c), .slice aa c.nT ac, .int .i64 (tickP c + 1 + (c.nT : Int))] 83))
  clear k1 hpl hln hak
  go_wp2_with fail
  generalize w1.alloc (.cells #[.slice (some ⟨g, 0, none⟩) c.nO c.nO, .slice la c.nL lc, .int .i64 (tickP c), .slice aa c.nT ac, .int .i64 (tickP c + 1 + (c.nT : Int))] 83) = W2 at HB HK1 ⊢
  generalize hPB : w1.heap.size = PB at HB HK1 ⊢
  clear hPB
  have HQ := Lib.hid (fun W (k : Keeps (fun _ => False) W2 W) => show W.cell? ⟨w.heap.size, 0, none⟩ = some (.slice c.ta c.nT c.tc) ∧ W.cell? ⟨PB, 0, none⟩ = some (.slice (some ⟨g, 0, none⟩) c.nO c.nO) ∧ W.cell? ⟨PB, 1, none⟩ = some (.slice la c.nL lc) ∧ W.cell? ⟨PB, 2, none⟩ = some (.int .i64 (tickP c)) ∧ W.cell? ⟨PB, 3, none⟩ = some (.slice aa c.nT ac) ∧ W.cell? ⟨PB, 4, none⟩ = some (.int .i64 (tickP c + 1 + (c.nT : Int))) from ⟨(cell_of (k.at (HB.out.at 1 rfl) fun h => h) 0), five_plan (k.at (HB.out.at 0 rfl) fun h => h)⟩)
  go_region_held3 (fun w' => w'.cell? ⟨w.heap.size, 0, none⟩ = some (.slice c.ta c.nT c.tc) ∧ w'.cell? ⟨PB, 0, none⟩ = some (.slice (some ⟨g, 0, none⟩) c.nO c.nO) ∧ w'.cell? ⟨PB, 1, none⟩ = some (.slice la c.nL lc) ∧ w'.cell? ⟨PB, 2, none⟩ = some (.int .i64 (tickP c)) ∧ w'.cell? ⟨PB, 3, none⟩ = some (.slice aa c.nT ac) ∧ w'.cell? ⟨PB, 4, none⟩ = some (.int .i64 (tickP c + 1 + (c.nT : Int))))
    (first
      | exact HQ.out _ (Keeps.refl _ W2).drew
      | exact HQ.out _ HK4.out
      | exact HQ.out _ ((Keeps.refl _ W2).drew.alloc _)
      | exact HQ.out _ (HK4.out.alloc _)
      | go_keep)
    (first
      | (go_at_call 33; refine (HSN.out _ HB.out.keeps.drew).mono ?_; rintro e4 w4 ⟨a, rfl, hn4, hs4, k4⟩; have HT4 := Lib.hid (hs4.wide HB.out.keeps.drew); have HK4 := Lib.hid ((Keeps.refl (fun _ => False) W2).drew.trans k4); clear hn4 hs4 k4)
      | (go_at_call 33; refine (HSN.out _ (HB.out.keeps.drew.alloc _)).mono ?_; rintro e4 w4 ⟨a, rfl, hn4, hs4, k4⟩; have HT4 := Lib.hid (hs4.wide (HB.out.keeps.drew.alloc _)); have HM4 := Lib.hid (k4.at (heap_new W2.drew (.cells (madeCells #[.int .u32 0] c.nL) 38)) fun h => h); have HK4 := Lib.hid (((Keeps.refl (fun _ => False) W2).drew.alloc (.cells (madeCells #[.int .u32 0] c.nL) 38)).trans k4); clear hn4 hs4 k4)
      | fail)
  all_goals
    first
      | (have HF := Lib.hid (newD_of (g := g) (hB := w4.heap.size) HG.out (HK1.out.trans (HK4.out.alloc (.cells (madeCells #[.int .u32 0] c.nL) 38))) (HB.out.keeps.trans (HK4.out.alloc (.cells (madeCells #[.int .u32 0] c.nL) 38))) HLN.out HAK.out (heap_new w4 _) (HT4.out.quiet ((Keeps.refl _ w4).alloc _)))
         rw [World.size_alloc] at HF
         clear HQ HSN HP HT4 HK4 HB HK1
         go_wp2_with fail
         go_ret
         exact HF.out)
      | (have HF := Lib.hid (newD_of (g := g) (hB := W2.heap.size) HG.out (HK1.out.trans HK4.out) (HB.out.keeps.trans HK4.out) HLN.out HAK.out HM4.out HT4.out)
         clear HQ HSN HP HT4 HK4 HB HK1 HM4
         go_wp2_with fail
         go_ret
         exact HF.out)
end Go.Proofs.YthnmlklgbggmbaaGreat
namespace Go.Proofs.YthnmlklgbggmbaaGreat
open Go.ChangeShapes Go.WideShapes Go.ChangeAt Go.RowKit
set_option linter.unusedVariables false
set_option linter.unusedSimpArgs false
attribute [local irreducible] wpList
theorem add_W (M : ScM) (p : Int) : (addM M p).W = M.W := by unfold addM; split <;> rfl
theorem adds_W : ∀ (L : List Int) (M : ScM), (L.foldl addM M).W = M.W
  | [], _ => rfl
  | p :: L, M => (adds_W L (addM M p)).trans (add_W M p)
theorem new_W (L : List Int) : (dispM (newM L)).W = [] := adds_W _ zeroM
theorem disp_first (M : ScM) : firstM (dispM M) = (dispM M).cur := rfl
def cD (T : Nat) : CfD := ⟨1, 0, 0, 0, some ⟨T, 0, none⟩, none, none, 1, 0, 0, fun _ => 0, fun _ => false, fun _ => 0, fun _ => none, fun _ => 0, fun _ => 0, fun _ => 0, fun _ => none, fun _ => 0, fun _ _ => 0, fun _ _ => 0⟩
theorem cD_bad (T : Nat) : badOf (cD T) = (0, 0, 0) := by kernel_rfl
theorem cD_tick (T : Nat) : tickP (cD T) = 0 := by kernel_rfl
theorem cD_cur (T : Nat) : (dispM (newM ((List.range (cD T).nT).map (cD T).tp))).cur = ((0 : Nat) : Int) := by kernel_rfl
theorem cD_new (T : Nat) (w : World) (h1 : w.heap[T]? = some (.cells #[.int .i64 0, .bool false, .slice none 0 0] 66 (0, 0))) :
    Calls Tryz.prog 8 #[.agg #[.slice (some ⟨T, 0, none⟩) 1 1, .slice none 0 0, .slice none 0 0, .int .i64 0]] w (NewD w (cD T)) :=
  drain_new (cD T) w ⟨fun _ => ⟨T, 0, rfl, lt_of h1, fun i hi => by
    obtain rfl : i = 0 := by have : i < 1 := hi; omega
    exact ⟨cell_of h1 0, cell_of h1 1, cell_of h1 2⟩⟩, fun h => absurd h (by simp [cD]), fun h => absurd h (by simp [cD])⟩ ⟨by show 1 ≤ maxLen; unfold maxLen; omega, by show 0 ≤ maxLen; omega, by show 0 ≤ maxLen; omega, by show -9223372036854775808 ≤ (0 : Int) ∧ (0 : Int) ≤ 9223372036854775807; omega, fun i hi => absurd hi (by simp [cD]), fun i hi => absurd hi (by simp [cD])⟩ (cD_bad T)
set_option maxRecDepth 20000 in
set_option maxHeartbeats 8000000 in
theorem alive34_any (w : World) : Calls Tryz.prog 7 #[] w fun e w' => e = .returned (.bool true) ∧ Keeps (fun _ => False) w w' := by
  go_enter Tryz.func7, Tryz.ntmps7
  go_wp2_with fail
  refine (cD_new _ _ (heap_new w (.cells #[.int .i64 0, .bool false, .slice none 0 0] 66))).mono ?_
  rintro e1 w1 ⟨b, p, a, rfl, hI, hS, hSC, hp, ht, hb, k1⟩
  have hcur := cD_cur w.heap.size
  have hfir := disp_first (newM ((List.range (cD w.heap.size).nT).map (cD w.heap.size).tp))
  have hww := new_W ((List.range (cD w.heap.size).nT).map (cD w.heap.size).tp)
  rw [cD_tick] at ht
  generalize dispM (newM ((List.range (cD w.heap.size).nT).map (cD w.heap.size).tp)) = M at *
  have hnT : p.nT = 1 := hS.nT
  have hnL : p.nL = 0 := hS.nL
  have HI := Lib.hid hI
  have HS := Lib.hid hS
  have HSC := Lib.hid hSC
  have HP := Lib.hid hp
  have HC := Lib.hid (And.intro hcur (And.intro hfir hww))
  have HN := Lib.hid (And.intro hnT (And.intro hnL ht))
  have HK := Lib.hid (show Keeps (fun _ => False) w w1 from ((Keeps.refl _ w).alloc _).trans k1)
  clear hI hS hSC hp hcur hfir hww hnT hnL ht k1
  go_wp2_with fail
  refine (begin_task w1 b p (cD w.heap.size) 0 0 .nilFunc 0 0 (.func 31) #[] #[] _ a M 0 (by have := HN.out.1; omega) (by have := HN.out.1; omega) HI.out HS.out HSC.out HP.out HC.out.1).mono ?_
  rintro e2 w2 ⟨rfl, hI2, k2⟩
  have ht := HN.out.2.2
  rw [show p.t + 1 + ((0 : Nat) : Int) = 1 from by rw [ht]; rfl] at hI2
  have HS2 := Lib.hid (HS.out.at k2)
  have HSC2 := Lib.hid (HSC.out.dr ⟨_, _, HI.out⟩ k2)
  have HI2 := Lib.hid hI2
  have HK2 := Lib.hid (HK.out.far k2 (fun j e => by subst e; exact Nat.le_trans (by rw [World.size_alloc]; omega) hb))
  clear hI2 k2 HI HS HSC HK ht
  go_wp2_with fail
  refine (act_any w2 b p 1 1 1 _ _ 0 HI2.out rfl).mono ?_
  rintro e3 w3 ⟨rfl, k3⟩
  have hbw : w.heap.size ≤ b := Nat.le_trans (by rw [World.size_alloc]; omega) hb
  have HBW := Lib.hid hbw
  clear hb hbw
  obtain ⟨x3, hx3⟩ : ∃ W, W = w3.alloc (.cells #[.int .i64 1, .int .i64 1, .int .u32 0] 45) := ⟨_, rfl⟩
  have kx : Keeps (fun _ => False) w2 x3 := by rw [hx3]; exact k3.alloc _
  have Bx3 := Lib.hid (show x3.heap[w3.heap.size]? = some (.cells #[.int .i64 1, .int .i64 1, .int .u32 0] 45 (0, 0)) from by rw [hx3]; exact heap_new _ _)
  have Nx3 := Lib.hid (show w3.heap.size ≠ b from by have := HI2.out.lt; have := k3.size; omega)
  have HIx3 := Lib.hid (HI2.out.at kx fun h => h)
  have HSx3 := Lib.hid (HS2.out.at (kx.mono fun _ _ e => e.elim))
  have HSCx3 := Lib.hid (HSC2.out.quiet kx)
  have HKx3 := Lib.hid (HK2.out.trans kx)
  clear k3 kx HI2 HS2 HSC2 HK2
  go_wp2_with fail
  rw [← hx3]
  generalize w3.heap.size = Ax3 at Bx3 Nx3 ⊢
  clear hx3
  refine (take_ask x3 b p 1 1 _ _ 0 HIx3.out (by have := HN.out.2.2; omega)).mono ?_
  rintro e4 w4 ⟨rfl, hI4, k4⟩
  have ht := HN.out.2.2
  rw [ht] at hI4
  have HI4 := Lib.hid hI4
  have HS4 := Lib.hid (HSx3.out.at k4)
  have HSC4 := Lib.hid (HSCx3.out.dr ⟨_, _, HIx3.out⟩ k4)
  have HK4 := Lib.hid (HKx3.out.far k4 (fun j e => by subst e; exact HBW.out))
  replace Bx3 := Lib.hid (k4.at Bx3.out Nx3.out)
  clear hI4 k4 HIx3 HSx3 HSCx3 HKx3 ht
  go_wp2_with fail
  refine (act_any w4 b p 3 1 0 _ _ 0 HI4.out rfl).mono ?_
  rintro e5 w5 ⟨rfl, k3⟩
  obtain ⟨x5, hx5⟩ : ∃ W, W = w5.alloc (.cells #[.int .i64 1, .int .i64 0, .int .u32 0] 45) := ⟨_, rfl⟩
  have kx : Keeps (fun _ => False) w4 x5 := by rw [hx5]; exact k3.alloc _
  have Bx5 := Lib.hid (show x5.heap[w5.heap.size]? = some (.cells #[.int .i64 1, .int .i64 0, .int .u32 0] 45 (0, 0)) from by rw [hx5]; exact heap_new _ _)
  have Nx5 := Lib.hid (show w5.heap.size ≠ b from by have := HI4.out.lt; have := k3.size; omega)
  replace Bx3 := Lib.hid (kx.at Bx3.out fun h => h)
  have HIx5 := Lib.hid (HI4.out.at kx fun h => h)
  have HSx5 := Lib.hid (HS4.out.at (kx.mono fun _ _ e => e.elim))
  have HSCx5 := Lib.hid (HSC4.out.quiet kx)
  have HKx5 := Lib.hid (HK4.out.trans kx)
  clear k3 kx HI4 HS4 HSC4 HK4
  go_wp2_with fail
  rw [← hx5]
  generalize w5.heap.size = Ax5 at Bx5 Nx5 ⊢
  clear hx5
  refine (take_tick x5 b p (cD w.heap.size) 1 0 _ _ _ a M HSx5.out (fun i hi => by rw [HN.out.2.1] at hi; omega) (by have := HN.out.2.1; omega) HSCx5.out HP.out HC.out.2.2 HIx5.out).mono ?_
  rintro e6 w6 ⟨rfl, hl6, k6⟩
  have hI6 : IsDr w6 b p 10 0 0 (.func (.func 31) #[] #[]) ((0 : Nat) : Int) ((0 : Nat) : Int) := by
    rcases hl6 with ⟨h0, _⟩ | ⟨_, h0⟩
    · exact absurd h0 (by rw [HN.out.2.1]; omega)
    · exact h0
  have HI6 := Lib.hid hI6
  have HS6 := Lib.hid (HSx5.out.at k6)
  have HSC6 := Lib.hid (HSCx5.out.dr ⟨_, _, HIx5.out⟩ k6)
  have HK6 := Lib.hid (HKx5.out.far k6 (fun j e => by subst e; exact HBW.out))
  replace Bx3 := Lib.hid (k6.at Bx3.out Nx3.out)
  replace Bx5 := Lib.hid (k6.at Bx5.out Nx5.out)
  clear hI6 hl6 k6 HIx5 HSx5 HSCx5 HKx5
  go_wp2_with fail
  refine (act_any w6 b p 10 0 0 _ _ _ HI6.out rfl).mono ?_
  rintro e7 w7 ⟨rfl, k3⟩
  obtain ⟨x7, hx7⟩ : ∃ W, W = w7.alloc (.cells #[.int .i64 0, .int .i64 0, .int .u32 0] 45) := ⟨_, rfl⟩
  have kx : Keeps (fun _ => False) w6 x7 := by rw [hx7]; exact k3.alloc _
  have Bx7 := Lib.hid (show x7.heap[w7.heap.size]? = some (.cells #[.int .i64 0, .int .i64 0, .int .u32 0] 45 (0, 0)) from by rw [hx7]; exact heap_new _ _)
  have Nx7 := Lib.hid (show w7.heap.size ≠ b from by have := HI6.out.lt; have := k3.size; omega)
  replace Bx3 := Lib.hid (kx.at Bx3.out fun h => h)
  replace Bx5 := Lib.hid (kx.at Bx5.out fun h => h)
  have HIx7 := Lib.hid (HI6.out.at kx fun h => h)
  have HSx7 := Lib.hid (HS6.out.at (kx.mono fun _ _ e => e.elim))
  have HSCx7 := Lib.hid (HSC6.out.quiet kx)
  have HKx7 := Lib.hid (HK6.out.trans kx)
  clear k3 kx HI6 HS6 HSC6 HK6
  go_wp2_with fail
  rw [← hx7]
  generalize w7.heap.size = Ax7 at Bx7 Nx7 ⊢
  clear hx7
  refine (take_choose x7 b p 0 0 _ _ _ _ a M HIx7.out HSCx7.out HP.out HC.out.2.1).mono ?_
  rintro e8 w8 ⟨rfl, hI8, hs8, k8⟩
  have HI8 := Lib.hid hI8
  have HK8 := Lib.hid (HKx7.out.far k8.toP (fun j e => by rcases e with e | e; (· subst e; exact HBW.out); (· exact Nat.le_trans (by rw [World.size_alloc]; omega) e)))
  replace Bx3 := Lib.hid (k8.at Bx3.out Nx3.out (by decide))
  replace Bx5 := Lib.hid (k8.at Bx5.out Nx5.out (by decide))
  replace Bx7 := Lib.hid (k8.at Bx7.out Nx7.out (by decide))
  clear hI8 hs8 k8 HIx7 HSx7 HSCx7 HKx7
  have p0 : w8.cell? ⟨Ax3, 0, none⟩ = some (.int .i64 1) := cell_of Bx3.out 0
  have p1 : w8.cell? ⟨Ax3, 1, none⟩ = some (.int .i64 1) := cell_of Bx3.out 1
  have p2 : w8.cell? ⟨Ax3, 2, none⟩ = some (.int .u32 0) := cell_of Bx3.out 2
  have q0 : w8.cell? ⟨Ax5, 0, none⟩ = some (.int .i64 1) := cell_of Bx5.out 0
  have q1 : w8.cell? ⟨Ax5, 1, none⟩ = some (.int .i64 0) := cell_of Bx5.out 1
  have q2 : w8.cell? ⟨Ax5, 2, none⟩ = some (.int .u32 0) := cell_of Bx5.out 2
  have r0 : w8.cell? ⟨Ax7, 0, none⟩ = some (.int .i64 0) := cell_of Bx7.out 0
  have r1 : w8.cell? ⟨Ax7, 1, none⟩ = some (.int .i64 0) := cell_of Bx7.out 1
  have r2 : w8.cell? ⟨Ax7, 2, none⟩ = some (.int .u32 0) := cell_of Bx7.out 2
  go_wp2_with fail
  refine (on_any w8 b p 0 0 0 _ _ _ HI8.out false rfl).mono ?_
  rintro e9 w9 ⟨rfl, rfl⟩
  go_wp2_with fail
  go_ret
  exact ⟨rfl, HK8.out⟩
end Go.Proofs.YthnmlklgbggmbaaGreat
namespace Go.Proofs.YthnmlklgbggmbaaGreat
open Go.ChangeShapes Go.WideShapes Go.ChangeAt Go.RowKit
set_option linter.unusedVariables false
set_option linter.unusedSimpArgs false
attribute [local irreducible] wpList
/-- What does not change in the turn. -/
structure PhC (p : DrP) (c : CfD) (a : ScA) (M : ScM) (asks : Nat) : Prop where
  ps : p.s = a.s
  ww : M.W = []
  fir : firstM M = M.cur
  ln : LnOk c p.nL
  l31 : p.nL ≤ 31
  t : p.t ≠ -1
  as1 : asks ≤ 1
/-- Behind n steps of the turn. -/
structure Ph (w0 W : World) (b : Nat) (p : DrP) (c : CfD) (a : ScA) (M : ScM) (P : Nat → Prop) (asks n : Nat) : Prop where
  sc : ScW W P a M
  fr : Keeps (fun k => k = b ∨ P k) w0 W
  st : ∃ op ad f task, (op = 0 ∨ op = 1) ∧ ((n = 0 ∧ asks = 1 ∧ IsDr W b p 1 op ad f task ((0 : Nat) : Int) ∧ DrS W b p c) ∨ (n = asks ∧ IsDr W b p 3 op ad f task ((0 : Nat) : Int) ∧ DrS W b p c) ∨ (∃ i, i < p.nL ∧ n = asks + 1 + i ∧ IsDr W b p 5 op ad f task ((i : Nat) : Int) ∧ DrS W b p c) ∨ (n = asks + 1 + p.nL ∧ IsDr W b p 10 op ad f task ((p.nL : Nat) : Int) ∧ DrS W b p c) ∨ (n = asks + 2 + p.nL ∧ IsDr W b p 0 op ad f task ((p.nL : Nat) : Int)))
section
variable {w0 W W' : World} {b : Nat} {p : DrP} {c : CfD} {a : ScA} {M : ScM} {P : Nat → Prop} {asks n : Nat}
theorem Ph.quiet (h : Ph w0 W b p c a M P asks n) (k : Keeps (fun _ => False) W W') : Ph w0 W' b p c a M P asks n := by
  refine ⟨h.sc.quiet k, h.fr.trans (k.mono fun _ _ e => e.elim), ?_⟩
  obtain ⟨op, ad, f, task, ho, h⟩ := h.st
  have kb : Keeps (fun j => j = b) W W' := k.mono fun _ _ e => e.elim
  refine ⟨op, ad, f, task, ho, ?_⟩
  rcases h with ⟨h1, h2, h3, h4⟩ | ⟨h1, h3, h4⟩ | ⟨i, h1, h2, h3, h4⟩ | ⟨h1, h3, h4⟩ | ⟨h1, h3⟩
  · exact .inl ⟨h1, h2, h3.at k fun h => h, h4.at kb⟩
  · exact .inr (.inl ⟨h1, h3.at k fun h => h, h4.at kb⟩)
  · exact .inr (.inr (.inl ⟨i, h1, h2, h3.at k fun h => h, h4.at kb⟩))
  · exact .inr (.inr (.inr (.inl ⟨h1, h3.at k fun h => h, h4.at kb⟩)))
  · exact .inr (.inr (.inr (.inr ⟨h1, h3.at k fun h => h⟩)))
theorem Ph.le (h : Ph w0 W b p c a M P asks n) : n ≤ asks + 2 + p.nL := by
  obtain ⟨op, ad, f, task, ho, h⟩ := h.st
  rcases h with ⟨h1, h2, _⟩ | ⟨h1, _⟩ | ⟨i, h1, h2, _⟩ | ⟨h1, _⟩ | ⟨h1, _⟩ <;> omega
theorem Ph.lt (h : Ph w0 W b p c a M P asks n) : b < W.heap.size := by
  obtain ⟨op, ad, f, task, ho, h⟩ := h.st
  rcases h with ⟨h1, h2, h3, _⟩ | ⟨h1, h3, _⟩ | ⟨i, h1, h2, h3, _⟩ | ⟨h1, h3, _⟩ | ⟨h1, h3⟩ <;> exact h3.lt
theorem on_ph (h : Ph w0 W b p c a M P asks n) (r : Bool) (hr : decide (n ≠ asks + 2 + p.nL) = r) : Calls Tryz.prog 12 #[.pointer (some ⟨b, 0, none⟩)] W fun e w' => e = .returned (.bool r) ∧ W = w' := by
  subst hr
  obtain ⟨op, ad, f, task, ho, h⟩ := h.st
  rcases h with ⟨h1, h2, h3, _⟩ | ⟨h1, h3, _⟩ | ⟨i, h1, h2, h3, _⟩ | ⟨h1, h3, _⟩ | ⟨h1, h3⟩
  · exact on_any W b p _ op ad f task _ h3 _ (by rw [decide_eq_true (by omega)]; rfl)
  · exact on_any W b p _ op ad f task _ h3 _ (by rw [decide_eq_true (by omega)]; rfl)
  · exact on_any W b p _ op ad f task _ h3 _ (by rw [decide_eq_true (by omega)]; rfl)
  · exact on_any W b p _ op ad f task _ h3 _ (by rw [decide_eq_true (by omega)]; rfl)
  · exact on_any W b p _ op ad f task _ h3 _ (by rw [decide_eq_false (by omega)]; rfl)
theorem act_ph (h : Ph w0 W b p c a M P asks n) (hn : n ≠ asks + 2 + p.nL) : Calls Tryz.prog 13 #[.pointer (some ⟨b, 0, none⟩)] W fun e w' => (∃ op ad, (op = 0 ∨ op = 1) ∧ e = .returned (.tuple #[.agg #[.int .i64 op, .int .i64 ad, .int .u32 0], .bool true])) ∧ Ph w0 w' b p c a M P asks n ∧ Keeps (fun _ => False) W w' := by
  have hh := h
  obtain ⟨op, ad, f, task, ho, h⟩ := h.st
  have fin : ∀ e w', e = Ending.returned (.tuple #[.agg #[.int .i64 op, .int .i64 ad, .int .u32 0], .bool true]) ∧ Keeps (fun _ => False) W w' → (∃ op ad, (op = 0 ∨ op = 1) ∧ e = .returned (.tuple #[.agg #[.int .i64 op, .int .i64 ad, .int .u32 0], .bool true])) ∧ Ph w0 w' b p c a M P asks n ∧ Keeps (fun _ => False) W w' := fun e w' k => ⟨⟨op, ad, ho, k.1⟩, hh.quiet k.2, k.2⟩
  rcases h with ⟨h1, h2, h3, _⟩ | ⟨h1, h3, _⟩ | ⟨i, h1, h2, h3, _⟩ | ⟨h1, h3, _⟩ | ⟨h1, h3⟩
  · exact (act_any W b p _ op ad f task _ h3 rfl).mono fin
  · exact (act_any W b p _ op ad f task _ h3 rfl).mono fin
  · exact (act_any W b p _ op ad f task _ h3 rfl).mono fin
  · exact (act_any W b p _ op ad f task _ h3 rfl).mono fin
  · exact absurd h1 hn
theorem take_ph (hc : PhC p c a M asks) (h : Ph w0 W b p c a M P asks n) (hn : n ≠ asks + 2 + p.nL) : Calls Tryz.prog 14 #[.pointer (some ⟨b, 0, none⟩), .int .u32 0] W fun e w' => e = .returned (.slice none 0 0) ∧ Ph w0 w' b p c a M P asks (n + 1) ∧ Keeps (fun k => k = b ∨ (P k ∧ ∃ T, T ∈ SchTys ∧ Ty W k T)) W w' := by
  have hsc := h.sc
  have hfr := h.fr
  obtain ⟨op, ad, f, task, ho, h⟩ := h.st
  have lines : ∀ i f task w', LnQ W b p f task i w' → i ≤ p.nL → DrS W b p c → Ty W b 90 → Ph w0 w' b p c a M P asks (asks + 1 + i) ∧ Keeps (fun k => k = b ∨ (P k ∧ ∃ T, T ∈ SchTys ∧ Ty W k T)) W w' := fun i f task w' h hi hs hty => by
    refine ⟨⟨hsc.dr hty h.2, hfr.trans (h.2.mono fun _ _ e => .inl e), ?_⟩, h.2.mono fun _ _ e => .inl e⟩
    rcases h.1 with ⟨h1, x, h2⟩ | ⟨h1, h2⟩
    · exact ⟨1, x, f, task, .inr rfl, .inr (.inr (.inl ⟨i, h1, rfl, h2, hs.at h.2⟩))⟩
    · obtain rfl : i = p.nL := by omega
      exact ⟨0, 0, f, task, .inl rfl, .inr (.inr (.inr (.inl ⟨rfl, h2, hs.at h.2⟩)))⟩
  rcases h with ⟨h1, h2, h3, h4⟩ | ⟨h1, h3, h4⟩ | ⟨i, h1, h2, h3, h4⟩ | ⟨h1, h3, h4⟩ | ⟨h1, h3⟩
  · refine (take_ask W b p op ad f task _ h3 hc.t).mono fun e w' k => ⟨k.1, ⟨hsc.dr ⟨_, _, h3⟩ k.2.2, hfr.trans (k.2.2.mono fun _ _ e => .inl e), 1, p.t, f, task, .inr rfl, .inr (.inl ⟨by omega, k.2.1, h4.at k.2.2⟩)⟩, k.2.2.mono fun _ _ e => .inl e⟩
  · refine (take_tick W b p c op ad f task P a M h4 hc.ln hc.l31 hsc hc.ps hc.ww h3).mono fun e w' k => ⟨k.1, ?_⟩
    have := lines 0 f task w' k.2 (by omega) h4 ⟨_, _, h3⟩
    rw [h1]; exact this
  · refine (take_tail W b p c op ad f task P a M h4 hc.ln hc.l31 hsc hc.ps hc.ww i h1 h3).mono fun e w' k => ⟨k.1, ?_⟩
    have := lines (i + 1) f task w' k.2 (by omega) h4 ⟨_, _, h3⟩
    rw [h2]; exact this
  · refine (take_choose W b p op ad f task _ P a M h3 hsc hc.ps hc.fir).mono fun e w' k => ⟨k.1, ⟨k.2.2.1, hfr.trans k.2.2.2.toP, 0, 0, .nilFunc, task, .inl rfl, .inr (.inr (.inr (.inr ⟨by omega, k.2.1⟩)))⟩, k.2.2.2⟩
  · exact absurd h1 hn
end
/-- The law's turn begins. -/
theorem law_begin (w : World) (b : Nat) (p : DrP) (c : CfD) (a : ScA) (M : ScM) (P : Nat → Prop) (hI : IsDr w b p 0 0 0 .nilFunc 0 0) (hS : DrS w b p c) (hSC : ScW w P a M) (hp : p.s = a.s) (hn : p.nT ≤ 16) (hcur : M.cur = -1 ∨ ∃ k : Nat, M.cur = (k : Int) ∧ k < p.nT) :
    Calls Tryz.prog 11 #[.pointer (some ⟨b, 0, none⟩), .agg #[.int .i64 0, .int .i64 0, .int .u32 0, .int .u32 0, .int .u32 0, .bool false, .slice none 0 0]] w fun e w' => e = .returned (.bool true) ∧ Ph w w' b p c a M P (if M.cur = -1 then 0 else 1) 0 := by
  have HH := Lib.hid (fun W (k : Keeps (fun _ => False) w W) => And.intro (show IsDr W b p 0 0 0 .nilFunc 0 0 from hI.at k fun h => h) (And.intro (hS.at (k.mono fun _ _ e => e.elim)) (hSC.quiet k)))
  have HB := Lib.hid (((Keeps.refl (fun _ => False) w).alloc (.cells #[.int .i64 0, .int .i64 0, .int .u32 0, .int .u32 0, .int .u32 0, .bool false, .slice none 0 0] 43)))
  have hmf : ∀ (fn : Fn) (first cap : Array Value) (w : World), (Instr.makeFunc fn first cap).run Tryz.prog w = .ok (.func fn first cap) w := fun _ _ _ _ => rfl
  clear hI hS hSC
  go_enter Tryz.func11, Tryz.ntmps11
  go_wp2_with fail
  generalize w.alloc (.cells #[.int .i64 0, .int .i64 0, .int .u32 0, .int .u32 0, .int .u32 0, .bool false, .slice none 0 0] 43) = w1 at HB ⊢
  obtain ⟨h1, h2, h3⟩ := HH.out _ HB.out
  by_cases hc : M.cur = -1
  · refine (begin_idle w1 b p c 0 0 .nilFunc 0 0 _ _ _ P a M h1 h2 h3 hp hc).mono ?_
    rintro e2 w2 ⟨rfl, i2, k2⟩
    have HP := Lib.hid (show Ph w w2 b p c a M P 0 0 from ⟨h3.dr ⟨_, _, h1⟩ k2, (HB.out.mono fun _ _ e => e.elim).trans (k2.mono fun _ _ e => .inl e), 1, _, _, _, .inr rfl, .inr (.inl ⟨rfl, i2, h2.at k2⟩)⟩)
    clear h1 h2 h3 i2 k2 HH HB hmf
    go_wp2_with fail
    go_ret
    exact ⟨rfl, HP.out⟩
  · obtain ⟨k, hk, hk2⟩ := hcur.resolve_left hc
    refine (begin_task w1 b p c 0 0 .nilFunc 0 0 _ _ _ P a M k hk2 hn h1 h2 h3 hp hk).mono ?_
    rintro e2 w2 ⟨rfl, i2, k2⟩
    have HP := Lib.hid (show Ph w w2 b p c a M P 1 0 from ⟨h3.dr ⟨_, _, h1⟩ k2, (HB.out.mono fun _ _ e => e.elim).trans (k2.mono fun _ _ e => .inl e), 1, _, _, _, .inr rfl, .inl ⟨rfl, rfl, i2, h2.at k2⟩⟩)
    clear h1 h2 h3 i2 k2 HH HB hmf
    go_wp2_with fail
    go_ret
    exact ⟨rfl, HP.out⟩
end Go.Proofs.YthnmlklgbggmbaaGreat
