import Derived.Test.YthnmlklgbggmbaaGreatPlAq
namespace Go.Proofs.YthnmlklgbggmbaaGreat
open Go.ChangeShapes Go.WideShapes Go.ChangeAt Go.RowKit
set_option linter.unusedVariables false
set_option linter.unusedSimpArgs false
theorem line_zero : (Tryz.prog.info? 148).map (fun i => (i.zero, i.size, i.bytes)) = some (some (.agg #[.int .i64 0, .int .i64 0, .int .i64 0, .int .i64 0, .int .i64 0, .int .i64 0]), 6, 48) := by kernel_rfl
theorem int_zero8 : (Tryz.prog.info? 3).map (fun i => (i.zero, i.size, i.bytes)) = some (some (.int .i64 0), 1, 8) := by kernel_rfl
theorem own_keepK {w w' : World} {B n size : Nat} {e : TypeId} {v : Value} {xs : List Value} {S : Nat → Prop} (h : w.ownsRow B e size v n xs) (k : Keeps S w w') (hs : ∀ b, v.ownBlock = some b → ¬ S b) : w'.ownsRow B e size v n xs := by
  refine ⟨h.1, ?_⟩
  rcases h.2 with hn | ⟨g, cap, cur, rfl, hb, hg, rest⟩
  · exact .inl hn
  · exact .inr ⟨g, cap, cur, rfl, hb, k.at hg (hs g rfl), rest⟩
theorem PoB.other {w W W' : World} {CB PB T : Nat} {cc cs : Array Value} {t : Int} {S : Nat → Prop} (h : PoB w W CB PB T cc cs t) (k : Keeps S W W') (hs : ¬ S CB ∧ ¬ S PB ∧ ¬ S T) (hr : ¬ S (CB + 1)) (hg : ∀ j, S j → w.heap.size ≤ j) : PoB w W' CB PB T cc cs t :=
  ⟨h.keeps.far k hg, k.at h.cfg hs.1, k.at h.box hs.2.1, k.at h.tot hs.2.2, h.ne, h.res.imp fun rs h2 => ⟨k.at h2.1 hr, h2.2⟩, h.ne2, h.ge⟩
def baseP (c : CfD) : Int := preP c.ob c.nO
def tickP (c : CfD) : Int := lnP (baseP c) c.lr c.nL
structure LvB (w W : World) (c : CfD) (PB g QB k : Nat) (la : Option Addr) (lc : Nat) (t a : Int) : Prop where
  po : PoB w W w.heap.size PB (PB + 1) c.cells (planL (.slice (some ⟨g, 0, none⟩) c.nO c.nO) (.slice la k lc) 0 (.slice none 0 0) 0).toArray t
  pl : PlacesAt W g c.nO (placeP c.ob)
  own : W.ownsRow w.heap.size 148 6 (.slice la k lc) k (linesF (baseP c) c.lr k)
  box : W.heap[QB]? = some (.cells (plC (lnPl a (c.lr k))) 145 (0, 0))
  ne : QB ≠ PB ∧ QB ≠ PB + 1 ∧ QB ≠ g ∧ QB ≠ w.heap.size ∧ w.heap.size ≤ QB ∧ g ≠ PB + 1 ∧ g ≠ PB
  ne2 : QB ≠ w.heap.size + 1
theorem LvB.none {w W W' : World} {c : CfD} {PB g QB k : Nat} {la : Option Addr} {lc : Nat} {t a : Int} (h : LvB w W c PB g QB k la lc t a) (kk : Keeps (fun _ => False) W W') : LvB w W' c PB g QB k la lc t a :=
  ⟨h.po.none kk, h.pl.keep kk (fun h => h), own_keepK h.own kk (fun _ _ h => h), kk.at h.box (fun h => h), h.ne, h.ne2⟩
theorem LvB.took {w W W' : World} {c : CfD} {PB g QB k : Nat} {la : Option Addr} {lc : Nat} {t t' a : Int} (h : LvB w W c PB g QB k la lc t a) (kk : Keeps (fun j => j = PB + 1) W W') (ht : W'.heap[PB + 1]? = some (.cells #[.int .i64 t'] 3 (0, 0))) : LvB w W' c PB g QB k la lc t' a :=
  ⟨h.po.took kk ht, h.pl.keep kk h.ne.2.2.2.2.2.1, own_keepK h.own kk (fun b hb e => own_apartC h.own h.po.tot (by decide) (by rw [hb, e])), kk.at h.box h.ne.2.1, h.ne, h.ne2⟩
theorem LvB.put {w W : World} {c : CfD} {PB g QB k : Nat} {la : Option Addr} {lc : Nat} {t a : Int} (h : LvB w W c PB g QB k la lc t a) (z : Int) : LvB w (W.setCell ⟨QB, 1, Option.none⟩ (.int .i64 z)) c PB g QB k la lc t z :=
  have kk : Keeps (fun j => j = QB) W (W.setCell ⟨QB, 1, Option.none⟩ (.int .i64 z)) := (Keeps.refl (fun j => j = QB) W).setCell (p := ⟨QB, 1, Option.none⟩) (.inl rfl) _
  ⟨h.po.other kk ⟨fun e => h.ne.2.2.2.1 e.symm, fun e => h.ne.1 e.symm, fun e => h.ne.2.1 e.symm⟩ (fun e => h.ne2 e.symm) (fun j e => by rw [e]; exact h.ne.2.2.2.2.1), h.pl.keep kk (fun e => h.ne.2.2.1 e.symm), own_keepK h.own kk (fun b hb e => own_apartC h.own h.box (by decide) (by rw [hb, e])), by
    have := heap_set h.box 1 (.int .i64 z)
    exact this, h.ne, h.ne2⟩
theorem LvB.range {w W : World} {c : CfD} {PB g QB k : Nat} {la : Option Addr} {lc : Nat} {t a : Int} (h : LvB w W c PB g QB k la lc t a) : W.rangeAt QB 0 [.int .i64 1, .int .i64 a, .int .i64 (c.lr k), .int .i64 1, .int .i64 0] := fun j v hv => by
  rw [cell_of h.box (0 + j), show 0 + j = j by omega]
  simpa [lnPl] using hv
theorem LvB.grow {w W W' : World} {c : CfD} {PB g QB k : Nat} {la : Option Addr} {lc : Nat} {t a : Int} (h : LvB w W c PB g QB k la lc t a) (o : Obj) (hg : (W.alloc o).grownBy W' (Value.slice la k lc).ownBlock) :
    PoB w W' w.heap.size PB (PB + 1) c.cells (planL (.slice (some ⟨g, 0, Option.none⟩) c.nO c.nO) (.slice la k lc) 0 (.slice Option.none 0 0) 0).toArray t ∧ PlacesAt W' g c.nO (placeP c.ob) ∧ PB < W'.heap.size ∧ W'.heap[QB]? = some (.cells (plC (lnPl a (c.lr k))) 145 (0, 0)) := by
  have kk : Keeps (fun b => (Value.slice la k lc).ownBlock = some b) W W' := ⟨hg.os, hg.tape, hg.output, Nat.le_trans (by simp) hg.size, fun i hi hn => (hg.block i (by simp; omega) (fun e => hn e.symm)).trans (((Keeps.refl (fun _ => False) W).alloc o).block i hi (fun h => h))⟩
  have hpo := h.po.other kk ⟨own_apartC h.own h.po.cfg (by decide), own_apartC h.own h.po.box (by decide), own_apartC h.own h.po.tot (by decide)⟩ (by obtain ⟨rs, hr, _⟩ := h.po.res; exact own_apartC h.own hr (by decide)) (fun j e => (h.own.lt j e).1)
  have hb : W'.heap[QB]? = some (.cells (plC (lnPl a (c.lr k))) 145 (0, 0)) := kk.at h.box (own_apartC h.own h.box (by decide))
  refine ⟨hpo, h.pl.keep kk (fun e => ?_), lt_of hpo.box, hb⟩
  obtain ⟨cs, hc, _⟩ := h.pl
  exact own_apartC h.own hc (by decide) e
theorem pl_range {W : World} {QB : Nat} {a r : Int} (h : W.heap[QB]? = some (.cells (plC (lnPl a r)) 145 (0, 0))) : W.rangeAt QB 0 [.int .i64 1, .int .i64 a, .int .i64 r, .int .i64 1, .int .i64 0] := fun j v hv => by
  rw [cell_of h (0 + j), show 0 + j = j by omega]
  simpa [lnPl] using hv
theorem line_one (b : Int) (lr : Nat → Int) (k : Nat) : ∀ u, u ∈ lineC b lr k → u.oneCell' = true := by
  intro u hu
  simp only [lineC, List.mem_cons, List.not_mem_nil, or_false] at hu
  rcases hu with rfl | rfl | rfl | rfl | rfl | rfl <;> rfl
theorem own_base {w : World} {B B' n size : Nat} {e : TypeId} {v : Value} {xs : List Value} (h : w.ownsRow B e size v n xs) (hb : B' ≤ B) : w.ownsRow B' e size v n xs := by
  refine ⟨h.1, ?_⟩
  rcases h.2 with hn | ⟨g, cap, cur, e, hg, rest⟩
  · exact .inl hn
  · exact .inr ⟨g, cap, cur, e, Nat.le_trans hb hg, rest⟩
structure AkB (w W : World) (c : CfD) (PB g k : Nat) (la : Option Addr) (lc : Nat) (aa : Option Addr) (ac : Nat) (t : Int) : Prop where
  po : PoB w W w.heap.size PB (PB + 1) c.cells (planL (.slice (some ⟨g, 0, none⟩) c.nO c.nO) (.slice la c.nL lc) (tickP c) (.slice aa k ac) 0).toArray t
  pl : PlacesAt W g c.nO (placeP c.ob)
  ln : W.ownsRow w.heap.size 148 6 (.slice la c.nL lc) c.nL (linesF (baseP c) c.lr c.nL)
  ow : W.ownsRow (PB + 2) 3 1 (.slice aa k ac) k (asksF (tickP c + 1) k)
  sz : PB + 2 ≤ W.heap.size
  ne : g ≠ PB + 1 ∧ g ≠ PB
theorem AkB.none {w W W' : World} {c : CfD} {PB g k : Nat} {la aa : Option Addr} {lc ac : Nat} {t : Int} (h : AkB w W c PB g k la lc aa ac t) (kk : Keeps (fun _ => False) W W') : AkB w W' c PB g k la lc aa ac t :=
  ⟨h.po.none kk, h.pl.keep kk (fun h => h), own_keepK h.ln kk (fun _ _ h => h), own_keepK h.ow kk (fun _ _ h => h), Nat.le_trans h.sz kk.size, h.ne⟩
theorem AkB.took {w W W' : World} {c : CfD} {PB g k : Nat} {la aa : Option Addr} {lc ac : Nat} {t t' : Int} (h : AkB w W c PB g k la lc aa ac t) (kk : Keeps (fun j => j = PB + 1) W W') (ht : W'.heap[PB + 1]? = some (.cells #[.int .i64 t'] 3 (0, 0))) : AkB w W' c PB g k la lc aa ac t' :=
  ⟨h.po.took kk ht, h.pl.keep kk h.ne.1, own_keepK h.ln kk (fun b hb e => own_apartC h.ln h.po.tot (by decide) (by rw [hb, e])), own_keepK h.ow kk (fun b hb e => by have := (h.ow.lt b hb).1; omega), Nat.le_trans h.sz kk.size, h.ne⟩
theorem AkB.grow {w W W' : World} {c : CfD} {PB g k : Nat} {la aa : Option Addr} {lc ac : Nat} (h : AkB w W c PB g k la lc aa ac (tickP c + 1 + (k : Int) + 1)) (o : Obj) (hg : (W.alloc o).grownBy W' (Value.slice aa k ac).ownBlock) :
    PoB w W' w.heap.size PB (PB + 1) c.cells (planL (.slice (some ⟨g, 0, Option.none⟩) c.nO c.nO) (.slice la c.nL lc) (tickP c) (.slice aa k ac) 0).toArray (tickP c + 1 + (k : Int) + 1) ∧ ∀ aa2 ac2, W'.ownsRow (PB + 2) 3 1 (.slice aa2 (k + 1) ac2) (k + 1) (asksF (tickP c + 1) k ++ [.int .i64 (tickP c + 1 + (k : Int))]) → AkB w (W'.setCell ⟨PB, 3, Option.none⟩ (.slice aa2 (k + 1) ac2)) c PB g (k + 1) la lc aa2 ac2 (tickP c + 1 + ((k + 1 : Nat) : Int)) := by
  have kk : Keeps (fun b => (Value.slice aa k ac).ownBlock = some b) W W' := ⟨hg.os, hg.tape, hg.output, Nat.le_trans (by simp) hg.size, fun i hi hn => (hg.block i (by simp; omega) (fun e => hn e.symm)).trans (((Keeps.refl (fun _ => False) W).alloc o).block i hi (fun h => h))⟩
  have hpo := h.po.other kk ⟨own_apartC h.ow h.po.cfg (by decide), own_apartC h.ow h.po.box (by decide), fun e => by have := (h.ow.lt _ e).1; omega⟩ (by obtain ⟨rs, hr, _⟩ := h.po.res; exact own_apartC h.ow hr (by decide)) (fun j e => by have := (h.ow.lt j e).1; have := h.po.ge.2.1; omega)
  have hpl := h.pl.keep kk (fun e => by
    obtain ⟨cs, hc, _⟩ := h.pl
    exact own_apartC h.ow hc (by decide) e)
  have hln := own_keepK h.ln kk (fun b hb e => by
    rcases h.ow.2 with ⟨h1, _⟩ | ⟨g2, cap, cur, h1, _, h2, _⟩
    · rw [h1] at e; simp [Value.ownBlock] at e
    · rw [h1] at e
      have : g2 = b := by simpa [Value.ownBlock] using e
      subst this
      exact own_apartC h.ln h2 (by decide) hb)
  refine ⟨hpo, fun aa2 ac2 how => ?_⟩
  have kS : Keeps (fun j => j = PB) W' (W'.setCell ⟨PB, 3, Option.none⟩ (.slice aa2 (k + 1) ac2)) := (Keeps.refl (fun j => j = PB) W').setCell (p := ⟨PB, 3, Option.none⟩) (.inl rfl) _
  have hput := hpo.put 3 (.slice aa2 (k + 1) ac2)
  rw [show tickP c + 1 + (k : Int) + 1 = tickP c + 1 + ((k + 1 : Nat) : Int) by omega] at hput
  exact ⟨hput, hpl.keep kS h.ne.2, own_keepK hln kS (fun b hb e => own_apartC hln hpo.box (by decide) (by rw [hb, e])), by rw [asks_next]; exact own_keepK how kS (fun b hb e => own_apartC how hpo.box (by decide) (by rw [hb, e])), Nat.le_trans h.sz (Nat.le_trans kk.size kS.size), h.ne⟩
theorem ObIn.of {w : World} {c : CfD} (h : CfIn w c) : ObIn w c.oa c.nO c.ob c.oi := ⟨fun hn => h.o hn⟩
set_option maxRecDepth 20000 in
set_option maxHeartbeats 8000000 in
theorem plan_good (c : CfD) (w : World) (hc : CfIn w c) (ho : c.Ok) (hv : badOf c = (0, 0, 0)) :
    Calls Tryz.prog 32 #[.agg c.cells] w fun e w' => ∃ g la lc aa ac, e = .returned (.tuple #[.agg #[.slice (some ⟨g, 0, none⟩) c.nO c.nO, .slice la c.nL lc, .int .i64 (tickP c), .slice aa c.nT ac, .int .i64 (tickP c + 1 + (c.nT : Int))], .bool true]) ∧ PlacesAt w' g c.nO (placeP c.ob) ∧
      w'.ownsRow w.heap.size 148 6 (.slice la c.nL lc) c.nL (linesF (baseP c) c.lr c.nL) ∧ w'.ownsRow w.heap.size 3 1 (.slice aa c.nT ac) c.nT (asksF (tickP c + 1) c.nT) ∧ Keeps (fun _ => False) w w' := by
  have HCK := Lib.hid (fun W (k : Keeps (fun _ => False) w W) => check_any c W (hc.none k) ho)
  have HG := Lib.hid (good_of hv)
  have HC := Lib.hid hc
  have HB := Lib.hid ((((Has.start w).alloc (.cells c.cells 26)).alloc (.cells (planL (.slice none 0 0) (.slice none 0 0) 0 (.slice none 0 0) 0).toArray 83)).eq (M := [(w.heap.size + 1, .cells (planL (.slice none 0 0) (.slice none 0 0) 0 (.slice none 0 0) 0).toArray 83), (w.heap.size, .cells c.cells 26)]) (by simp))
  have HSO := Lib.hid (fun W (k : Keeps (fun _ => False) w W) => sof_any W c.oa c.nO c.oc c.ob c.oi ((ObIn.of hc).keep k) (by have := HG.out.o; omega) HG.out.right (fun i hi => ho.ob i hi 1 (by omega)))
  have HPB := Lib.hid (pre_bound HG.out.right c.nO (Nat.le_refl _))
  rw [hv] at HCK
  clear hc ho hv
  go_enter Tryz.func32, Tryz.ntmps32
  go_wp2_with fail
  refine (HCK.out _ HB.out.keeps).mono ?_
  rintro e1 w1 ⟨rfl, k1⟩
  replace HB := Lib.hid (HB.out.none k1)
  have hs1 : w.heap.size + 2 ≤ w1.heap.size := by have := k1.size; simp at this; omega
  clear k1 HCK
  obtain ⟨PB, hPB⟩ : ∃ PB, PB = w1.heap.size := ⟨_, rfl⟩
  have HS := Lib.hid (show PoB w ((w1.alloc (.cells (planL (.slice none 0 0) (.slice none 0 0) 0 (.slice none 0 0) 0).toArray 83)).alloc (.cells #[.int .i64 0] 3)) w.heap.size PB (PB + 1) c.cells (planL (.slice none 0 0) (.slice none 0 0) 0 (.slice none 0 0) 0).toArray 0 from by
    have ha := HB.out.alloc (.cells (planL (.slice none 0 0) (.slice none 0 0) 0 (.slice none 0 0) 0).toArray 83)
    have hb := ha.alloc (.cells #[.int .i64 0] 3)
    rw [World.size_alloc] at hb
    rw [hPB]
    exact ⟨hb.keeps, hb.at 3 rfl, hb.at 1 rfl, hb.at 0 rfl, ⟨by omega, by omega, by omega⟩, ⟨_, hb.at 2 rfl, rfl⟩, ⟨by omega, by omega⟩, ⟨by omega, by omega, by omega⟩⟩)
  obtain ⟨q0, q1, q2, q3⟩ := four_cells (HB.out.at 1 rfl)
  have hq : w.heap.size < w1.heap.size := by omega
  have HPBE := Lib.hid hPB
  clear hPB hs1
  go_wp2_with fail
  rw [← HPBE.out]
  try rw [← HPBE.out] at HS
  refine (HSO.out _ HS.out.keeps).mono ?_
  rintro e2 w2 ⟨rfl, hpl, k2⟩
  have HS2 := Lib.hid (HS.out.none k2)
  obtain ⟨g, hg⟩ : ∃ g, g = ((w1.alloc (.cells (planL (.slice none 0 0) (.slice none 0 0) 0 (.slice none 0 0) 0).toArray 83)).alloc (.cells #[.int .i64 0] 3)).heap.size := ⟨_, rfl⟩
  have hgn : g ≠ PB + 1 ∧ g ≠ PB := by rw [hg, HPBE.out]; simp only [World.size_alloc]; omega
  rw [← hg] at hpl ⊢
  have HPL := Lib.hid (And.intro hpl hgn)
  clear q0 q1 q2 q3 hq k2 hpl hg hgn HSO
  have HBX := Lib.hid (show ∀ i, i < 5 → ∃ v, w2.cell? ⟨PB, i, none⟩ = some v from fun i hi => by
    rw [cell_of HS2.out.box]
    exact ⟨_, Array.getElem?_eq_getElem (by simpa using hi)⟩)
  have cb := cell_of HS2.out.box 0
  simp only [planL, List.getElem?_toArray, List.getElem?_cons_zero] at cb
  have fb := free_of HS2.out.box 0
  go_wp2_with fail
  have hpb := HPB.out
  have hgo := HG.out.o
  have HS3 := Lib.hid (show PoB w (w2.setCell ⟨PB, 0, none⟩ (.slice (some ⟨g, 0, none⟩) c.nO c.nO)) w.heap.size PB (PB + 1) c.cells (planL (.slice (some ⟨g, 0, none⟩) c.nO c.nO) (.slice none 0 0) 0 (.slice none 0 0) 0).toArray 0 from by simpa [planL] using HS2.out.put 0 (.slice (some ⟨g, 0, none⟩) c.nO c.nO))
  have hp3 : PlacesAt (w2.setCell ⟨PB, 0, none⟩ (.slice (some ⟨g, 0, none⟩) c.nO c.nO)) g c.nO (placeP c.ob) := HPL.out.1.keep ((Keeps.refl (fun j => j = PB) w2).setCell (p := ⟨PB, 0, none⟩) (.inl rfl) _) HPL.out.2.2
  refine (take_any 0 (preP c.ob c.nO) (PB + 1) _ HS3.out.tot ⟨by omega, by omega, by omega, by omega⟩).mono ?_
  rintro e3 w3 ⟨rfl, ht3, k3⟩
  rw [Int.zero_add] at ht3
  have HS4 := Lib.hid (HS3.out.took k3 ht3)
  have HP4 := Lib.hid (hp3.keep k3 HPL.out.2.1)
  have HGN := Lib.hid HPL.out.2
  clear hp3 ht3 k3 HS3 HS2 HBX cb fb HPL hpb hgo
  obtain ⟨q0, q1, q2, q3⟩ := four_cells HS4.out.cfg
  obtain ⟨i0, hi, hz0, hz1, hz2⟩ := info_parts line_zero
  obtain ⟨i9, hi9, hz90, hz91, hz92⟩ := info_parts int_zero8
  have HLB := Lib.hid (show ∀ k, k ≤ c.nL → baseP c ≤ lnP (baseP c) c.lr k ∧ lnP (baseP c) c.lr k ≤ baseP c + 67 * (k : Int) from ln_bound (fun i hi => (HG.out.room i hi).2))
  have HBB := Lib.hid (show 0 ≤ baseP c ∧ baseP c ≤ 5000 by have h1 := HPB.out; have h2 := HG.out.o; unfold baseP; omega)
  have HNL := Lib.hid HG.out.l
  go_wp2_with fail
  clear q0 q1 q2 q3
  go_loopw [33] (fun x W => ∃ (k : Nat) (la : Option Addr) (lc : Nat), k ≤ c.nL ∧ x = .int .i64 (k : Int) ∧ PoB w W w.heap.size PB (PB + 1) c.cells (planL (.slice (some ⟨g, 0, none⟩) c.nO c.nO) (.slice la k lc) 0 (.slice none 0 0) 0).toArray (lnP (baseP c) c.lr k) ∧ PlacesAt W g c.nO (placeP c.ob) ∧ W.ownsRow w.heap.size 148 6 (.slice la k lc) k (linesF (baseP c) c.lr k)) (fun x _ => c.nL - (intOf x).toNat)
  case atStart => exact ⟨0, none, 0, Nat.zero_le _, rfl, HS4.out, HP4.out, World.ownsRow_nil _ _ _ _⟩
  case round =>
    clear HS4 HP4
    obtain ⟨k, la, lc, hk, rfl, hs, hpl, hown⟩ := hrel
    have HS := Lib.hid (And.intro hs (And.intro hpl hown))
    clear hs hpl hown
    by_cases hlt : k < c.nL
    · obtain ⟨b, off, hla, hbl, hrow⟩ := HC.out.l (by omega)
      obtain ⟨r0, r1⟩ := hrow k hlt
      have c0 : wr.cell? ⟨b, off + k * 2, none⟩ = some (.int .i64 (c.lr k)) := (HS.out.1.keeps.none.cell (p := ⟨b, off + k * 2, none⟩) hbl).trans r0
      have c1 : wr.cell? ⟨b, off + k * 2 + 1, none⟩ = some (.slice (c.lca k) (c.ll k) (c.lcc k)) := (HS.out.1.keeps.none.cell (p := ⟨b, off + k * 2 + 1, none⟩) hbl).trans r1
      have HR := Lib.hid (HG.out.room k hlt)
      have hb2 : b < wr.heap.size := Nat.lt_of_lt_of_le hbl HS.out.1.keeps.size
      have e0 : decide (k < c.nL) = true := decide_eq_true hlt
      have e0' : decide ((k : Int) < (c.nL : Int)) = true := decide_eq_true (by omega)
      have e3 : (0 : Int) ≤ (k : Int) := by omega
      have e4 : (k : Int) < (c.nL : Int) := by omega
      have HLT := Lib.hid hlt
      have HLA := Lib.hid hla
      have HPZ := Lib.hid (fun W => psize_any (lnPl 0 (c.lr k)) W (by have := HR.out; show _ ≤ c.lr k ∧ c.lr k ≤ _; omega) (lnPl_right 0 (c.lr k) HR.out.1 HR.out.2.2))
      rw [lnPl_size 0 (c.lr k) HR.out.1 HR.out.2.2] at HPZ
      clear r0 r1 hrow hbl hla
      rw [HLA.out]
      go_wp2_with fail
      obtain ⟨QB, hQB⟩ : ∃ QB, QB = wr.heap.size + 1 := ⟨_, rfl⟩
      obtain ⟨W2, hW2⟩ : ∃ W2, W2 = (wr.alloc (.cells #[.int .i64 (c.lr k), .slice (c.lca k) (c.ll k) (c.lcc k)] 69)).alloc (.cells #[.int .i64 1, .int .i64 0, .int .i64 (c.lr k), .int .i64 1, .int .i64 0] 145) := ⟨_, rfl⟩
      have HL := Lib.hid (show LvB w W2 c PB g QB k la lc (lnP (baseP c) c.lr k) 0 from by
        have kk : Keeps (fun _ => False) wr W2 := by rw [hW2]; exact ((Keeps.refl _ wr).alloc _).alloc _
        have hbx := heap_new (wr.alloc (.cells #[.int .i64 (c.lr k), .slice (c.lca k) (c.ll k) (c.lcc k)] 69)) (.cells #[.int .i64 1, .int .i64 0, .int .i64 (c.lr k), .int .i64 1, .int .i64 0] 145)
        rw [World.size_alloc, ← hW2, ← hQB] at hbx
        have h1 := lt_of HS.out.1.box
        have h2 := lt_of HS.out.1.tot
        have h3 := HS.out.2.1.lt
        have h4 := HS.out.1.keeps.size
        exact ⟨HS.out.1.none kk, HS.out.2.1.keep kk (fun h => h), own_keepK HS.out.2.2 kk (fun _ _ h => h), hbx, ⟨by omega, by omega, by omega, by omega, by omega, HGN.out.1, HGN.out.2⟩, by obtain ⟨rs, h5, _⟩ := HS.out.1.res; have := lt_of h5; omega⟩)
      rw [← hW2, ← hQB]
      clear c0 c1 hb2 hW2 hQB HS
      refine (HPZ.out _).mono ?_
      rintro e5 w5 ⟨rfl, k5⟩
      replace HL := Lib.hid (HL.out.none k5)
      clear k5 HPZ
      have hbb := HBB.out
      have hlb := HLB.out k hk
      have hnl := HNL.out
      have hr := HR.out
      go_wp2_with fail
      refine (take_any (lnP (baseP c) c.lr k) (2 + c.lr k) (PB + 1) _ HL.out.po.tot ⟨by omega, by omega, by omega, by omega⟩).mono ?_
      rintro e6 w6 ⟨rfl, ht6, k6⟩
      replace HL := Lib.hid (HL.out.took k6 ht6)
      have cq := cell_of HL.out.box 1
      have fq := free_of HL.out.box 1
      simp only [lnPl, List.getElem?_toArray, List.getElem?_cons_zero, List.getElem?_cons_succ] at cq
      replace HL := Lib.hid (HL.out.put (lnP (baseP c) c.lr k))
      clear ht6 k6
      go_wp2_with fail
      replace HL := Lib.hid (HL.out.none ((Keeps.refl (fun _ => False) _).drew))
      have cp : (w6.setCell ⟨QB, 1, none⟩ (.int .i64 (lnP (baseP c) c.lr k))).drew.cell? ⟨PB, 1, none⟩ = some (.slice la k lc) := cell_of HL.out.po.box 1
      have HQP := Lib.hid HL.out.ne.1
      clear cq fq
      --R14
      refine wp_region_noPanic ?_
      refine wp_region_held_drew (S := (fun W => W.rangeAt QB 0 [.int .i64 1, .int .i64 (lnP (baseP c) c.lr k), .int .i64 (c.lr k), .int .i64 1, .int .i64 0])) (by kernel_rfl) ?_ (fun hHeld => ?_)
      · exact HL.out.range
      refine wpAnyH_take (i := 0) (v := ?_) rfl (by kernel_rfl) (by kernel_rfl) (by kernel_rfl) (fun _ _ _ h => h) (Or.inl ⟨by rfl, ?_⟩) (by assumption) ?_
      rotate_left
      · (intro w hSw; (try dsimp only at hSw); go_simp; try with_reducible rfl)
      simp only [Act.put, List.getElem_toArray, List.getElem_cons_zero, List.getElem_cons_succ, List.setIfInBounds_toArray, List.set_cons_zero, List.set_cons_succ]
      refine wpAnyH_take (i := 2) (v := .agg ([.int .i64 1, .int .i64 (lnP (baseP c) c.lr k), .int .i64 (c.lr k), .int .i64 1, .int .i64 0] : List Value).toArray) rfl (by kernel_rfl) (by kernel_rfl) (by kernel_rfl) (fun _ _ _ h => h) (yieldsIf_load_mid (by rfl) 145 _ rfl QB 0 rfl [.int .i64 1, .int .i64 (lnP (baseP c) c.lr k), .int .i64 (c.lr k), .int .i64 1, .int .i64 0] _ (fun w h => h) Tryz.underlying145 rfl place_info) (by assumption) ?_
      simp only [Act.put, List.getElem_toArray, List.getElem_cons_zero, List.getElem_cons_succ, List.setIfInBounds_toArray, List.set_cons_zero, List.set_cons_succ]
      refine wpAnyH_take (i := 3) (v := ?_) rfl (by kernel_rfl) (by kernel_rfl) (by kernel_rfl) (fun _ _ _ h => h) (Or.inl ⟨by rfl, ?_⟩) (by assumption) ?_
      rotate_left
      · (intro w hSw; (try dsimp only at hSw); go_simp; try with_reducible rfl)
      simp only [Act.put, List.getElem_toArray, List.getElem_cons_zero, List.getElem_cons_succ, List.setIfInBounds_toArray, List.set_cons_zero, List.set_cons_succ]
      refine wpAnyH_ready (rs := [1, 4]) (by kernel_rfl) (by simp) ?_
      refine AllReadyH.cons rfl (fun K hK => ?_) (AllReadyH.cons rfl (fun K hK => ?_) AllReadyH.nil)
      · go_simp
        refine hK.out _ _ ?_ (fun hHeld => ?_)
        · exact HL.out.range
        clear hK K
        try simp only [Act.put, List.getElem_toArray, List.getElem_cons_zero, List.getElem_cons_succ, List.setIfInBounds_toArray, List.set_cons_zero, List.set_cons_succ]
        refine wpAnyH_ready (rs := [4]) (by kernel_rfl) (by simp) ?_
        refine AllReadyH.cons rfl (fun K hK => ?_) AllReadyH.nil
        go_simp
        (go_at_call 70; refine (take_any (lnP (baseP c) c.lr k + (2 + c.lr k)) 1 (PB + 1) _ HL.out.po.tot ⟨by omega, by omega, by omega, by omega⟩).mono ?_; rintro e9 w9 ⟨rfl, ht9, k9⟩; have HL9 := Lib.hid (HL.out.took k9 ht9); have cp9 : w9.cell? ⟨PB, 1, none⟩ = some (.slice la k lc) := cell_of HL9.out.po.box 1; clear ht9 k9)
        go_wp2_with fail
        refine hK.out _ _ ?_ (fun hHeld => ?_)
        · ((try dsimp only); exact HL9.out.range)
        clear hK K
        try simp only [Act.put, List.getElem_toArray, List.getElem_cons_zero, List.getElem_cons_succ, List.setIfInBounds_toArray, List.set_cons_zero, List.set_cons_succ]
        have HOA := Lib.hid (show (w9.alloc (.cells #[.int .i64 1, .int .i64 (lnP (baseP c) c.lr k), .int .i64 (c.lr k), .int .i64 1, .int .i64 0, .int .i64 (lnP (baseP c) c.lr k + (2 + c.lr k))] 148)).ownsRow w.heap.size 148 6 (.slice la k lc) k (linesF (baseP c) c.lr k) from own_keepK HL9.out.own ((Keeps.refl (fun _ => False) w9).alloc _) (fun _ _ h => h))
        have HNW := Lib.hid (fun (ad : Addr) (had : some (⟨w9.heap.size, 0, none⟩ : Addr) = some ad) (j : Nat) (u : Value) (hu : (lineC (baseP c) c.lr k)[j]? = some u) => show (w9.alloc (.cells #[.int .i64 1, .int .i64 (lnP (baseP c) c.lr k), .int .i64 (c.lr k), .int .i64 1, .int .i64 0, .int .i64 (lnP (baseP c) c.lr k + (2 + c.lr k))] 148)).cell? (ad.add j) = some u from by
          obtain rfl := Option.some.inj had
          rw [Addr.add_mid, cell_of (heap_new w9 _) (0 + j), show 0 + j = j by omega]
          simpa using hu)
        have HSA := Lib.hid (show w.heap.size ≤ (w9.alloc (.cells #[.int .i64 1, .int .i64 (lnP (baseP c) c.lr k), .int .i64 (c.lr k), .int .i64 1, .int .i64 0, .int .i64 (lnP (baseP c) c.lr k + (2 + c.lr k))] 148)).heap.size from by rw [World.size_alloc]; have := HL9.out.po.keeps.size; omega)
        have cpA : (w9.alloc (.cells #[.int .i64 1, .int .i64 (lnP (baseP c) c.lr k), .int .i64 (c.lr k), .int .i64 1, .int .i64 0, .int .i64 (lnP (baseP c) c.lr k + (2 + c.lr k))] 148)).cell? ⟨PB, 1, none⟩ = some (.slice la k lc) := cell_of (heap_old HL9.out.po.box _) 1
        refine wpAnyH_take (i := 5) (v := ?_) rfl (by kernel_rfl) (by kernel_rfl) (by kernel_rfl) (fun _ _ _ h => h) (Or.inl ⟨by rfl, ?_⟩) (by assumption) ?_
        rotate_left
        · (intro w hSw; (try dsimp only at hSw); go_simp; try with_reducible rfl)
        simp only [Act.put, List.getElem_toArray, List.getElem_cons_zero, List.getElem_cons_succ, List.setIfInBounds_toArray, List.set_cons_zero, List.set_cons_succ]
        refine wpAnyH_ready (rs := [6]) (by kernel_rfl) (by simp) ?_
        refine AllReadyH.cons rfl (fun K hK => ?_) AllReadyH.nil
        go_simp
        refine hK.out _ _ ?_ (fun hHeld => ?_)
        · ((try dsimp only); exact range_keeps HL9.out.range ((Keeps.refl _ w9).alloc _) (lt_of HL9.out.box))
        clear hK K
        try simp only [Act.put, List.getElem_toArray, List.getElem_cons_zero, List.getElem_cons_succ, List.setIfInBounds_toArray, List.set_cons_zero, List.set_cons_succ]
        refine wpAnyH_ready (rs := [7]) (by kernel_rfl) (by simp) ?_
        refine AllReadyH.cons rfl (fun K hK => ?_) AllReadyH.nil
        (refine step_app_any rfl (.tmp 46) (.tmp 51) 81 rfl w.heap.size 148 i0 (.agg #[.int .i64 0, .int .i64 0, .int .i64 0, .int .i64 0, .int .i64 0, .int .i64 0]) 6 48 Tryz.underlying81 hi hz0 hz1 hz2 rfl (by decide) (.slice la k lc) k (linesF (baseP c) c.lr k) rfl HOA.out (some ⟨w9.heap.size, 0, none⟩) 1 1 (lineC (baseP c) c.lr k) rfl (fun h => absurd h (by simp)) rfl HNW.out (line_one _ _ _) (by unfold maxLen; omega) (by omega) HSA.out ?_; intro v10 w10 how10 hgr10; have HX := Lib.hid (HL9.out.grow (.cells #[.int .i64 1, .int .i64 (lnP (baseP c) c.lr k), .int .i64 (c.lr k), .int .i64 1, .int .i64 0, .int .i64 (lnP (baseP c) c.lr k + (2 + c.lr k))] 148) hgr10); have hsl := own_slice how10; have HW10 := Lib.hid how10; have HG10 := Lib.hid hgr10; have cp10 : w10.cell? ⟨PB, 1, none⟩ = some (.slice la k lc) := cell_of HX.out.1.box 1; have fp10 : w10.frozen? ⟨PB, 1, none⟩ = false := free_of HX.out.1.box 1; clear how10 hgr10; obtain ⟨la2, lc2, rfl⟩ := hsl)
        refine hK.out _ _ ?_ (fun hHeld => ?_)
        · ((try dsimp only); exact pl_range HX.out.2.2.2)
        clear hK K
        try simp only [Act.put, List.getElem_toArray, List.getElem_cons_zero, List.getElem_cons_succ, List.setIfInBounds_toArray, List.set_cons_zero, List.set_cons_succ]
        refine wpAnyH_take (i := 8) (v := ?_) rfl (by kernel_rfl) (by kernel_rfl) (by kernel_rfl) (fun _ _ _ h => h) (Or.inl ⟨by rfl, ?_⟩) (by assumption) ?_
        rotate_left
        · (intro w hSw; (try dsimp only at hSw); go_simp; try with_reducible rfl)
        simp only [Act.put, List.getElem_toArray, List.getElem_cons_zero, List.getElem_cons_succ, List.setIfInBounds_toArray, List.set_cons_zero, List.set_cons_succ]
        have kS : Keeps (fun j => j = PB) w10 (w10.setCell ⟨PB, 1, none⟩ (.slice la2 (k + 1) lc2)) := (Keeps.refl (fun j => j = PB) w10).setCell (p := ⟨PB, 1, none⟩) (.inl rfl) _
        have HEND := Lib.hid (show PoB w (w10.setCell ⟨PB, 1, none⟩ (.slice la2 (k + 1) lc2)) w.heap.size PB (PB + 1) c.cells (planL (.slice (some ⟨g, 0, none⟩) c.nO c.nO) (.slice la2 (k + 1) lc2) 0 (.slice none 0 0) 0).toArray (lnP (baseP c) c.lr (k + 1)) ∧ PlacesAt (w10.setCell ⟨PB, 1, none⟩ (.slice la2 (k + 1) lc2)) g c.nO (placeP c.ob) ∧ (w10.setCell ⟨PB, 1, none⟩ (.slice la2 (k + 1) lc2)).ownsRow w.heap.size 148 6 (.slice la2 (k + 1) lc2) (k + 1) (linesF (baseP c) c.lr (k + 1)) from
          ⟨HX.out.1.put 1 _, HX.out.2.1.keep kS HGN.out.2, by rw [lines_next]; exact own_keepK HW10.out kS (fun b hb e => own_apartC HW10.out HX.out.1.box (by decide) (by rw [hb, e]))⟩)
        have HQS := Lib.hid (pl_range (kS.at HX.out.2.2.2 HQP.out))
        clear kS
        refine wpAnyH_ready (rs := [9]) (by kernel_rfl) (by simp) ?_
        refine AllReadyH.cons rfl (fun K hK => ?_) AllReadyH.nil
        go_simp
        refine hK.out _ _ ?_ (fun hHeld => ?_)
        · ((try dsimp only); exact HQS.out)
        clear hK K
        try simp only [Act.put, List.getElem_toArray, List.getElem_cons_zero, List.getElem_cons_succ, List.setIfInBounds_toArray, List.set_cons_zero, List.set_cons_succ]
        refine wpAnyH_done (by kernel_rfl) ?_ _
        refine NoPanic.normal ?_
        go_wp2_with fail
        go_roundw
        case rel => exact ⟨k + 1, la2, lc2, by have := HLT.out; omega, by go_num, HEND.out.1, HEND.out.2.1, HEND.out.2.2⟩
        case measure => simp [intOf]; have := HLT.out; omega
      · go_simp
        (go_at_call 70; refine (take_any (lnP (baseP c) c.lr k + (2 + c.lr k)) 1 (PB + 1) _ HL.out.po.tot ⟨by omega, by omega, by omega, by omega⟩).mono ?_; rintro e9 w9 ⟨rfl, ht9, k9⟩; have HL9 := Lib.hid (HL.out.took k9 ht9); have cp9 : w9.cell? ⟨PB, 1, none⟩ = some (.slice la k lc) := cell_of HL9.out.po.box 1; clear ht9 k9)
        go_wp2_with fail
        refine hK.out _ _ ?_ (fun hHeld => ?_)
        · exact HL9.out.range
        clear hK K
        try simp only [Act.put, List.getElem_toArray, List.getElem_cons_zero, List.getElem_cons_succ, List.setIfInBounds_toArray, List.set_cons_zero, List.set_cons_succ]
        have HOA := Lib.hid (show (w9.alloc (.cells #[.int .i64 1, .int .i64 (lnP (baseP c) c.lr k), .int .i64 (c.lr k), .int .i64 1, .int .i64 0, .int .i64 (lnP (baseP c) c.lr k + (2 + c.lr k))] 148)).ownsRow w.heap.size 148 6 (.slice la k lc) k (linesF (baseP c) c.lr k) from own_keepK HL9.out.own ((Keeps.refl (fun _ => False) w9).alloc _) (fun _ _ h => h))
        have HNW := Lib.hid (fun (ad : Addr) (had : some (⟨w9.heap.size, 0, none⟩ : Addr) = some ad) (j : Nat) (u : Value) (hu : (lineC (baseP c) c.lr k)[j]? = some u) => show (w9.alloc (.cells #[.int .i64 1, .int .i64 (lnP (baseP c) c.lr k), .int .i64 (c.lr k), .int .i64 1, .int .i64 0, .int .i64 (lnP (baseP c) c.lr k + (2 + c.lr k))] 148)).cell? (ad.add j) = some u from by
          obtain rfl := Option.some.inj had
          rw [Addr.add_mid, cell_of (heap_new w9 _) (0 + j), show 0 + j = j by omega]
          simpa using hu)
        have HSA := Lib.hid (show w.heap.size ≤ (w9.alloc (.cells #[.int .i64 1, .int .i64 (lnP (baseP c) c.lr k), .int .i64 (c.lr k), .int .i64 1, .int .i64 0, .int .i64 (lnP (baseP c) c.lr k + (2 + c.lr k))] 148)).heap.size from by rw [World.size_alloc]; have := HL9.out.po.keeps.size; omega)
        have cpA : (w9.alloc (.cells #[.int .i64 1, .int .i64 (lnP (baseP c) c.lr k), .int .i64 (c.lr k), .int .i64 1, .int .i64 0, .int .i64 (lnP (baseP c) c.lr k + (2 + c.lr k))] 148)).cell? ⟨PB, 1, none⟩ = some (.slice la k lc) := cell_of (heap_old HL9.out.po.box _) 1
        refine wpAnyH_take (i := 5) (v := ?_) rfl (by kernel_rfl) (by kernel_rfl) (by kernel_rfl) (fun _ _ _ h => h) (Or.inl ⟨by rfl, ?_⟩) (by assumption) ?_
        rotate_left
        · (intro w hSw; (try dsimp only at hSw); go_simp; try with_reducible rfl)
        simp only [Act.put, List.getElem_toArray, List.getElem_cons_zero, List.getElem_cons_succ, List.setIfInBounds_toArray, List.set_cons_zero, List.set_cons_succ]
        refine wpAnyH_ready (rs := [1, 6]) (by kernel_rfl) (by simp) ?_
        refine AllReadyH.cons rfl (fun K hK => ?_) (AllReadyH.cons rfl (fun K hK => ?_) AllReadyH.nil)
        · go_simp
          refine hK.out _ _ ?_ (fun hHeld => ?_)
          · exact HL9.out.range
          clear hK K
          try simp only [Act.put, List.getElem_toArray, List.getElem_cons_zero, List.getElem_cons_succ, List.setIfInBounds_toArray, List.set_cons_zero, List.set_cons_succ]
          refine wpAnyH_ready (rs := [6]) (by kernel_rfl) (by simp) ?_
          refine AllReadyH.cons rfl (fun K hK => ?_) AllReadyH.nil
          go_simp
          refine hK.out _ _ ?_ (fun hHeld => ?_)
          · ((try dsimp only); exact range_keeps HL9.out.range ((Keeps.refl _ w9).alloc _) (lt_of HL9.out.box))
          clear hK K
          try simp only [Act.put, List.getElem_toArray, List.getElem_cons_zero, List.getElem_cons_succ, List.setIfInBounds_toArray, List.set_cons_zero, List.set_cons_succ]
          refine wpAnyH_ready (rs := [7]) (by kernel_rfl) (by simp) ?_
          refine AllReadyH.cons rfl (fun K hK => ?_) AllReadyH.nil
          (refine step_app_any rfl (.tmp 46) (.tmp 51) 81 rfl w.heap.size 148 i0 (.agg #[.int .i64 0, .int .i64 0, .int .i64 0, .int .i64 0, .int .i64 0, .int .i64 0]) 6 48 Tryz.underlying81 hi hz0 hz1 hz2 rfl (by decide) (.slice la k lc) k (linesF (baseP c) c.lr k) rfl HOA.out (some ⟨w9.heap.size, 0, none⟩) 1 1 (lineC (baseP c) c.lr k) rfl (fun h => absurd h (by simp)) rfl HNW.out (line_one _ _ _) (by unfold maxLen; omega) (by omega) HSA.out ?_; intro v10 w10 how10 hgr10; have HX := Lib.hid (HL9.out.grow (.cells #[.int .i64 1, .int .i64 (lnP (baseP c) c.lr k), .int .i64 (c.lr k), .int .i64 1, .int .i64 0, .int .i64 (lnP (baseP c) c.lr k + (2 + c.lr k))] 148) hgr10); have hsl := own_slice how10; have HW10 := Lib.hid how10; have HG10 := Lib.hid hgr10; have cp10 : w10.cell? ⟨PB, 1, none⟩ = some (.slice la k lc) := cell_of HX.out.1.box 1; have fp10 : w10.frozen? ⟨PB, 1, none⟩ = false := free_of HX.out.1.box 1; clear how10 hgr10; obtain ⟨la2, lc2, rfl⟩ := hsl)
          refine hK.out _ _ ?_ (fun hHeld => ?_)
          · ((try dsimp only); exact pl_range HX.out.2.2.2)
          clear hK K
          try simp only [Act.put, List.getElem_toArray, List.getElem_cons_zero, List.getElem_cons_succ, List.setIfInBounds_toArray, List.set_cons_zero, List.set_cons_succ]
          refine wpAnyH_take (i := 8) (v := ?_) rfl (by kernel_rfl) (by kernel_rfl) (by kernel_rfl) (fun _ _ _ h => h) (Or.inl ⟨by rfl, ?_⟩) (by assumption) ?_
          rotate_left
          · (intro w hSw; (try dsimp only at hSw); go_simp; try with_reducible rfl)
          simp only [Act.put, List.getElem_toArray, List.getElem_cons_zero, List.getElem_cons_succ, List.setIfInBounds_toArray, List.set_cons_zero, List.set_cons_succ]
          have kS : Keeps (fun j => j = PB) w10 (w10.setCell ⟨PB, 1, none⟩ (.slice la2 (k + 1) lc2)) := (Keeps.refl (fun j => j = PB) w10).setCell (p := ⟨PB, 1, none⟩) (.inl rfl) _
          have HEND := Lib.hid (show PoB w (w10.setCell ⟨PB, 1, none⟩ (.slice la2 (k + 1) lc2)) w.heap.size PB (PB + 1) c.cells (planL (.slice (some ⟨g, 0, none⟩) c.nO c.nO) (.slice la2 (k + 1) lc2) 0 (.slice none 0 0) 0).toArray (lnP (baseP c) c.lr (k + 1)) ∧ PlacesAt (w10.setCell ⟨PB, 1, none⟩ (.slice la2 (k + 1) lc2)) g c.nO (placeP c.ob) ∧ (w10.setCell ⟨PB, 1, none⟩ (.slice la2 (k + 1) lc2)).ownsRow w.heap.size 148 6 (.slice la2 (k + 1) lc2) (k + 1) (linesF (baseP c) c.lr (k + 1)) from
            ⟨HX.out.1.put 1 _, HX.out.2.1.keep kS HGN.out.2, by rw [lines_next]; exact own_keepK HW10.out kS (fun b hb e => own_apartC HW10.out HX.out.1.box (by decide) (by rw [hb, e]))⟩)
          have HQS := Lib.hid (pl_range (kS.at HX.out.2.2.2 HQP.out))
          clear kS
          refine wpAnyH_ready (rs := [9]) (by kernel_rfl) (by simp) ?_
          refine AllReadyH.cons rfl (fun K hK => ?_) AllReadyH.nil
          go_simp
          refine hK.out _ _ ?_ (fun hHeld => ?_)
          · ((try dsimp only); exact HQS.out)
          clear hK K
          try simp only [Act.put, List.getElem_toArray, List.getElem_cons_zero, List.getElem_cons_succ, List.setIfInBounds_toArray, List.set_cons_zero, List.set_cons_succ]
          refine wpAnyH_done (by kernel_rfl) ?_ _
          refine NoPanic.normal ?_
          go_wp2_with fail
          go_roundw
          case rel => exact ⟨k + 1, la2, lc2, by have := HLT.out; omega, by go_num, HEND.out.1, HEND.out.2.1, HEND.out.2.2⟩
          case measure => simp [intOf]; have := HLT.out; omega
        · go_simp
          refine hK.out _ _ ?_ (fun hHeld => ?_)
          · exact range_keeps HL9.out.range ((Keeps.refl _ w9).alloc _) (lt_of HL9.out.box)
          clear hK K
          try simp only [Act.put, List.getElem_toArray, List.getElem_cons_zero, List.getElem_cons_succ, List.setIfInBounds_toArray, List.set_cons_zero, List.set_cons_succ]
          refine wpAnyH_ready (rs := [1]) (by kernel_rfl) (by simp) ?_
          refine AllReadyH.cons rfl (fun K hK => ?_) AllReadyH.nil
          go_simp
          refine hK.out _ _ ?_ (fun hHeld => ?_)
          · ((try dsimp only); exact range_keeps HL9.out.range ((Keeps.refl _ w9).alloc _) (lt_of HL9.out.box))
          clear hK K
          try simp only [Act.put, List.getElem_toArray, List.getElem_cons_zero, List.getElem_cons_succ, List.setIfInBounds_toArray, List.set_cons_zero, List.set_cons_succ]
          refine wpAnyH_ready (rs := [7]) (by kernel_rfl) (by simp) ?_
          refine AllReadyH.cons rfl (fun K hK => ?_) AllReadyH.nil
          (refine step_app_any rfl (.tmp 46) (.tmp 51) 81 rfl w.heap.size 148 i0 (.agg #[.int .i64 0, .int .i64 0, .int .i64 0, .int .i64 0, .int .i64 0, .int .i64 0]) 6 48 Tryz.underlying81 hi hz0 hz1 hz2 rfl (by decide) (.slice la k lc) k (linesF (baseP c) c.lr k) rfl HOA.out (some ⟨w9.heap.size, 0, none⟩) 1 1 (lineC (baseP c) c.lr k) rfl (fun h => absurd h (by simp)) rfl HNW.out (line_one _ _ _) (by unfold maxLen; omega) (by omega) HSA.out ?_; intro v10 w10 how10 hgr10; have HX := Lib.hid (HL9.out.grow (.cells #[.int .i64 1, .int .i64 (lnP (baseP c) c.lr k), .int .i64 (c.lr k), .int .i64 1, .int .i64 0, .int .i64 (lnP (baseP c) c.lr k + (2 + c.lr k))] 148) hgr10); have hsl := own_slice how10; have HW10 := Lib.hid how10; have HG10 := Lib.hid hgr10; have cp10 : w10.cell? ⟨PB, 1, none⟩ = some (.slice la k lc) := cell_of HX.out.1.box 1; have fp10 : w10.frozen? ⟨PB, 1, none⟩ = false := free_of HX.out.1.box 1; clear how10 hgr10; obtain ⟨la2, lc2, rfl⟩ := hsl)
          refine hK.out _ _ ?_ (fun hHeld => ?_)
          · ((try dsimp only); exact pl_range HX.out.2.2.2)
          clear hK K
          try simp only [Act.put, List.getElem_toArray, List.getElem_cons_zero, List.getElem_cons_succ, List.setIfInBounds_toArray, List.set_cons_zero, List.set_cons_succ]
          refine wpAnyH_take (i := 8) (v := ?_) rfl (by kernel_rfl) (by kernel_rfl) (by kernel_rfl) (fun _ _ _ h => h) (Or.inl ⟨by rfl, ?_⟩) (by assumption) ?_
          rotate_left
          · (intro w hSw; (try dsimp only at hSw); go_simp; try with_reducible rfl)
          simp only [Act.put, List.getElem_toArray, List.getElem_cons_zero, List.getElem_cons_succ, List.setIfInBounds_toArray, List.set_cons_zero, List.set_cons_succ]
          have kS : Keeps (fun j => j = PB) w10 (w10.setCell ⟨PB, 1, none⟩ (.slice la2 (k + 1) lc2)) := (Keeps.refl (fun j => j = PB) w10).setCell (p := ⟨PB, 1, none⟩) (.inl rfl) _
          have HEND := Lib.hid (show PoB w (w10.setCell ⟨PB, 1, none⟩ (.slice la2 (k + 1) lc2)) w.heap.size PB (PB + 1) c.cells (planL (.slice (some ⟨g, 0, none⟩) c.nO c.nO) (.slice la2 (k + 1) lc2) 0 (.slice none 0 0) 0).toArray (lnP (baseP c) c.lr (k + 1)) ∧ PlacesAt (w10.setCell ⟨PB, 1, none⟩ (.slice la2 (k + 1) lc2)) g c.nO (placeP c.ob) ∧ (w10.setCell ⟨PB, 1, none⟩ (.slice la2 (k + 1) lc2)).ownsRow w.heap.size 148 6 (.slice la2 (k + 1) lc2) (k + 1) (linesF (baseP c) c.lr (k + 1)) from
            ⟨HX.out.1.put 1 _, HX.out.2.1.keep kS HGN.out.2, by rw [lines_next]; exact own_keepK HW10.out kS (fun b hb e => own_apartC HW10.out HX.out.1.box (by decide) (by rw [hb, e]))⟩)
          have HQS := Lib.hid (pl_range (kS.at HX.out.2.2.2 HQP.out))
          clear kS
          refine wpAnyH_ready (rs := [9]) (by kernel_rfl) (by simp) ?_
          refine AllReadyH.cons rfl (fun K hK => ?_) AllReadyH.nil
          go_simp
          refine hK.out _ _ ?_ (fun hHeld => ?_)
          · ((try dsimp only); exact HQS.out)
          clear hK K
          try simp only [Act.put, List.getElem_toArray, List.getElem_cons_zero, List.getElem_cons_succ, List.setIfInBounds_toArray, List.set_cons_zero, List.set_cons_succ]
          refine wpAnyH_done (by kernel_rfl) ?_ _
          refine NoPanic.normal ?_
          go_wp2_with fail
          go_roundw
          case rel => exact ⟨k + 1, la2, lc2, by have := HLT.out; omega, by go_num, HEND.out.1, HEND.out.2.1, HEND.out.2.2⟩
          case measure => simp [intOf]; have := HLT.out; omega
      --R14E
    · obtain ⟨nl, hnl⟩ : ∃ nl, nl = c.nL := ⟨_, rfl⟩
      have hkn : k = c.nL := by omega
      subst hkn
      have e0 : decide (c.nL < c.nL) = false := decide_eq_false (by omega)
      have e0' : decide ((c.nL : Int) < (c.nL : Int)) = false := decide_eq_false (by omega)
      have hbb := HBB.out
      have hlb := HLB.out c.nL hk
      have hn2 := HNL.out
      clear hlt hnl nl
      go_wp2_with fail
      refine (take_any (lnP (baseP c) c.lr c.nL) 1 (PB + 1) _ HS.out.1.tot ⟨by omega, by omega, by omega, by omega⟩).mono ?_
      rintro e6 w6 ⟨rfl, ht6, k6⟩
      have HS6 := Lib.hid (HS.out.1.took k6 ht6)
      have HP6 := Lib.hid (HS.out.2.1.keep k6 HGN.out.1)
      have HO6 := Lib.hid (own_keepK HS.out.2.2 k6 (fun b hb e => own_apartC HS.out.2.2 HS.out.1.tot (by decide) (by rw [hb, e])))
      have cq := cell_of HS6.out.box 2
      have fq := free_of HS6.out.box 2
      simp only [planL, List.getElem?_toArray, List.getElem?_cons_zero, List.getElem?_cons_succ] at cq
      obtain ⟨q0, q1, q2, q3⟩ := four_cells HS6.out.cfg
      have hne1 : w.heap.size ≠ PB := HS6.out.ne.1
      have hne2 : ¬ PB = w.heap.size := fun e => hne1 e.symm
      have HS7 := Lib.hid (show AkB w (w6.setCell ⟨PB, 2, none⟩ (.int .i64 (tickP c))) c PB g 0 la lc none 0 (tickP c + 1 + ((0 : Nat) : Int)) from by
        have kS : Keeps (fun j => j = PB) w6 (w6.setCell ⟨PB, 2, none⟩ (.int .i64 (tickP c))) := (Keeps.refl (fun j => j = PB) w6).setCell (p := ⟨PB, 2, none⟩) (.inl rfl) _
        have hput := HS6.out.put 2 (.int .i64 (tickP c))
        rw [show lnP (baseP c) c.lr c.nL + 1 = tickP c + 1 + ((0 : Nat) : Int) by unfold tickP; omega] at hput
        exact ⟨hput, HP6.out.keep kS HGN.out.2, own_keepK HO6.out kS (fun b hb e => own_apartC HO6.out HS6.out.box (by decide) (by rw [hb, e])), World.ownsRow_nil _ _ _ _, by have := lt_of HS6.out.tot; simp; omega, HGN.out⟩)
      have HTK := Lib.hid (show lnP (baseP c) c.lr c.nL = tickP c from rfl)
      have hg16 := HG.out.t
      clear ht6 k6 HS
      rw [HTK.out]
      go_wp2_with fail
      clear q0 q1 q2 q3 hne1 hne2 cq fq HS6 HP6 HO6
      go_loopw [61] (fun x W => ∃ (k : Nat) (aa : Option Addr) (ac : Nat), k ≤ c.nT ∧ x = .int .i64 (k : Int) ∧ AkB w W c PB g k la lc aa ac (tickP c + 1 + (k : Int))) (fun x _ => c.nT - (intOf x).toNat)
      case atStart => exact ⟨0, none, 0, Nat.zero_le _, rfl, HS7.out⟩
      case round =>
        clear HS7
        obtain ⟨k, aa, ac, hk2, rfl, hs⟩ := hrel
        have HS := Lib.hid hs
        clear hs
        by_cases hlt : k < c.nT
        · have HLT := Lib.hid hlt
          have e0 : decide (k < c.nT) = true := decide_eq_true hlt
          have e0' : decide ((k : Int) < (c.nT : Int)) = true := decide_eq_true (by omega)
          go_wp2_with fail
          have HL := Lib.hid (HS.out.none ((Keeps.refl (fun _ => False) _).drew))
          have cp : wr.drew.cell? ⟨PB, 3, none⟩ = some (.slice aa k ac) := cell_of HL.out.po.box 3
          rw [HTK.out] at hlb
          clear HS
          --R19
          refine wp_region_noPanic ?_
          refine wp_region_held_drew (S := fun _ => True) (by kernel_rfl) ?_ (fun hHeld => ?_)
          · trivial
          refine wpAnyH_take (i := 0) (v := ?_) rfl (by kernel_rfl) (by kernel_rfl) (by kernel_rfl) (fun _ _ _ h => h) (Or.inl ⟨by rfl, ?_⟩) (by assumption) ?_
          rotate_left
          · (intro w hSw; (try dsimp only at hSw); go_simp; try with_reducible rfl)
          simp only [Act.put, List.getElem_toArray, List.getElem_cons_zero, List.getElem_cons_succ, List.setIfInBounds_toArray, List.set_cons_zero, List.set_cons_succ]
          refine wpAnyH_take (i := 2) (v := ?_) rfl (by kernel_rfl) (by kernel_rfl) (by kernel_rfl) (fun _ _ _ h => h) (Or.inl ⟨by rfl, ?_⟩) (by assumption) ?_
          rotate_left
          · (intro w hSw; (try dsimp only at hSw); go_simp; try with_reducible rfl)
          simp only [Act.put, List.getElem_toArray, List.getElem_cons_zero, List.getElem_cons_succ, List.setIfInBounds_toArray, List.set_cons_zero, List.set_cons_succ]
          refine wpAnyH_ready (rs := [1, 3]) (by kernel_rfl) (by simp) ?_
          refine AllReadyH.cons rfl (fun K hK => ?_) (AllReadyH.cons rfl (fun K hK => ?_) AllReadyH.nil)
          · go_simp
            refine hK.out _ _ ?_ (fun hHeld => ?_)
            · trivial
            clear hK K
            try simp only [Act.put, List.getElem_toArray, List.getElem_cons_zero, List.getElem_cons_succ, List.setIfInBounds_toArray, List.set_cons_zero, List.set_cons_succ]
            refine wpAnyH_ready (rs := [3]) (by kernel_rfl) (by simp) ?_
            refine AllReadyH.cons rfl (fun K hK => ?_) AllReadyH.nil
            go_simp
            (go_at_call 70; refine (take_any (tickP c + 1 + (k : Int)) 1 (PB + 1) _ HL.out.po.tot ⟨by omega, by omega, by omega, by omega⟩).mono ?_; rintro e9 w9 ⟨rfl, ht9, k9⟩; have HL9 := Lib.hid (HL.out.took k9 ht9); have cp9 : w9.cell? ⟨PB, 3, none⟩ = some (.slice aa k ac) := cell_of HL9.out.po.box 3; clear ht9 k9)
            go_wp2_with fail
            refine hK.out _ _ ?_ (fun hHeld => ?_)
            · ((try dsimp only); try trivial)
            clear hK K
            try simp only [Act.put, List.getElem_toArray, List.getElem_cons_zero, List.getElem_cons_succ, List.setIfInBounds_toArray, List.set_cons_zero, List.set_cons_succ]
            have HOA := Lib.hid (show (w9.alloc (.cells #[.int .i64 (tickP c + 1 + (k : Int))] 3)).ownsRow (PB + 2) 3 1 (.slice aa k ac) k (asksF (tickP c + 1) k) from own_keepK HL9.out.ow ((Keeps.refl (fun _ => False) w9).alloc _) (fun _ _ h => h))
            have HNW := Lib.hid (fun (ad : Addr) (had : some (⟨w9.heap.size, 0, none⟩ : Addr) = some ad) (j : Nat) (u : Value) (hu : [Value.int .i64 (tickP c + 1 + (k : Int))][j]? = some u) => show (w9.alloc (.cells #[.int .i64 (tickP c + 1 + (k : Int))] 3)).cell? (ad.add j) = some u from by
              obtain rfl := Option.some.inj had
              rw [Addr.add_mid, cell_of (heap_new w9 _) (0 + j), show 0 + j = j by omega]
              simpa using hu)
            have HSA := Lib.hid (show PB + 2 ≤ (w9.alloc (.cells #[.int .i64 (tickP c + 1 + (k : Int))] 3)).heap.size from by rw [World.size_alloc]; have := HL9.out.sz; omega)
            have cpA : (w9.alloc (.cells #[.int .i64 (tickP c + 1 + (k : Int))] 3)).cell? ⟨PB, 3, none⟩ = some (.slice aa k ac) := cell_of (heap_old HL9.out.po.box _) 3
            refine wpAnyH_ready (rs := [4]) (by kernel_rfl) (by simp) ?_
            refine AllReadyH.cons rfl (fun K hK => ?_) AllReadyH.nil
            go_simp
            refine hK.out _ _ ?_ (fun hHeld => ?_)
            · ((try dsimp only); try trivial)
            clear hK K
            try simp only [Act.put, List.getElem_toArray, List.getElem_cons_zero, List.getElem_cons_succ, List.setIfInBounds_toArray, List.set_cons_zero, List.set_cons_succ]
            refine wpAnyH_ready (rs := [5]) (by kernel_rfl) (by simp) ?_
            refine AllReadyH.cons rfl (fun K hK => ?_) AllReadyH.nil
            (refine step_app_any rfl (.tmp 64) (.tmp 67) 53 rfl (PB + 2) 3 i9 (.int .i64 0) 1 8 Tryz.underlying53 hi9 hz90 hz91 hz92 rfl (by decide) (.slice aa k ac) k (asksF (tickP c + 1) k) rfl HOA.out (some ⟨w9.heap.size, 0, none⟩) 1 1 [.int .i64 (tickP c + 1 + (k : Int))] rfl (fun h => absurd h (by simp)) rfl HNW.out (fun u hu => by rw [List.mem_singleton] at hu; rw [hu]; rfl) (by unfold maxLen; omega) (by omega) HSA.out ?_; intro v10 w10 how10 hgr10; have HX := Lib.hid (HL9.out.grow (.cells #[.int .i64 (tickP c + 1 + (k : Int))] 3) hgr10); have hsl := own_slice how10; have HW10 := Lib.hid how10; have cp10 : w10.cell? ⟨PB, 3, none⟩ = some (.slice aa k ac) := cell_of HX.out.1.box 3; have fp10 : w10.frozen? ⟨PB, 3, none⟩ = false := free_of HX.out.1.box 3; clear how10 hgr10; obtain ⟨aa2, ac2, rfl⟩ := hsl)
            refine hK.out _ _ ?_ (fun hHeld => ?_)
            · ((try dsimp only); try trivial)
            clear hK K
            try simp only [Act.put, List.getElem_toArray, List.getElem_cons_zero, List.getElem_cons_succ, List.setIfInBounds_toArray, List.set_cons_zero, List.set_cons_succ]
            refine wpAnyH_take (i := 6) (v := ?_) rfl (by kernel_rfl) (by kernel_rfl) (by kernel_rfl) (fun _ _ _ h => h) (Or.inl ⟨by rfl, ?_⟩) (by assumption) ?_
            rotate_left
            · (intro w hSw; (try dsimp only at hSw); go_simp; try with_reducible rfl)
            simp only [Act.put, List.getElem_toArray, List.getElem_cons_zero, List.getElem_cons_succ, List.setIfInBounds_toArray, List.set_cons_zero, List.set_cons_succ]
            have HEND := Lib.hid (show AkB w (w10.setCell ⟨PB, 3, none⟩ (.slice aa2 (k + 1) ac2)) c PB g (k + 1) la lc aa2 ac2 (tickP c + 1 + ((k + 1 : Nat) : Int)) from HX.out.2 aa2 ac2 HW10.out)
            refine wpAnyH_ready (rs := [7]) (by kernel_rfl) (by simp) ?_
            refine AllReadyH.cons rfl (fun K hK => ?_) AllReadyH.nil
            go_simp
            refine hK.out _ _ ?_ (fun hHeld => ?_)
            · ((try dsimp only); try trivial)
            clear hK K
            try simp only [Act.put, List.getElem_toArray, List.getElem_cons_zero, List.getElem_cons_succ, List.setIfInBounds_toArray, List.set_cons_zero, List.set_cons_succ]
            refine wpAnyH_done (by kernel_rfl) ?_ _
            refine NoPanic.normal ?_
            go_wp2_with fail
            go_roundw
            case rel => exact ⟨k + 1, aa2, ac2, by have := HLT.out; omega, by go_num, HEND.out⟩
            case measure => simp [intOf]; have := HLT.out; omega
          · go_simp
            (go_at_call 70; refine (take_any (tickP c + 1 + (k : Int)) 1 (PB + 1) _ HL.out.po.tot ⟨by omega, by omega, by omega, by omega⟩).mono ?_; rintro e9 w9 ⟨rfl, ht9, k9⟩; have HL9 := Lib.hid (HL.out.took k9 ht9); have cp9 : w9.cell? ⟨PB, 3, none⟩ = some (.slice aa k ac) := cell_of HL9.out.po.box 3; clear ht9 k9)
            go_wp2_with fail
            refine hK.out _ _ ?_ (fun hHeld => ?_)
            · trivial
            clear hK K
            try simp only [Act.put, List.getElem_toArray, List.getElem_cons_zero, List.getElem_cons_succ, List.setIfInBounds_toArray, List.set_cons_zero, List.set_cons_succ]
            have HOA := Lib.hid (show (w9.alloc (.cells #[.int .i64 (tickP c + 1 + (k : Int))] 3)).ownsRow (PB + 2) 3 1 (.slice aa k ac) k (asksF (tickP c + 1) k) from own_keepK HL9.out.ow ((Keeps.refl (fun _ => False) w9).alloc _) (fun _ _ h => h))
            have HNW := Lib.hid (fun (ad : Addr) (had : some (⟨w9.heap.size, 0, none⟩ : Addr) = some ad) (j : Nat) (u : Value) (hu : [Value.int .i64 (tickP c + 1 + (k : Int))][j]? = some u) => show (w9.alloc (.cells #[.int .i64 (tickP c + 1 + (k : Int))] 3)).cell? (ad.add j) = some u from by
              obtain rfl := Option.some.inj had
              rw [Addr.add_mid, cell_of (heap_new w9 _) (0 + j), show 0 + j = j by omega]
              simpa using hu)
            have HSA := Lib.hid (show PB + 2 ≤ (w9.alloc (.cells #[.int .i64 (tickP c + 1 + (k : Int))] 3)).heap.size from by rw [World.size_alloc]; have := HL9.out.sz; omega)
            have cpA : (w9.alloc (.cells #[.int .i64 (tickP c + 1 + (k : Int))] 3)).cell? ⟨PB, 3, none⟩ = some (.slice aa k ac) := cell_of (heap_old HL9.out.po.box _) 3
            refine wpAnyH_ready (rs := [1, 4]) (by kernel_rfl) (by simp) ?_
            refine AllReadyH.cons rfl (fun K hK => ?_) (AllReadyH.cons rfl (fun K hK => ?_) AllReadyH.nil)
            · go_simp
              refine hK.out _ _ ?_ (fun hHeld => ?_)
              · trivial
              clear hK K
              try simp only [Act.put, List.getElem_toArray, List.getElem_cons_zero, List.getElem_cons_succ, List.setIfInBounds_toArray, List.set_cons_zero, List.set_cons_succ]
              refine wpAnyH_ready (rs := [4]) (by kernel_rfl) (by simp) ?_
              refine AllReadyH.cons rfl (fun K hK => ?_) AllReadyH.nil
              go_simp
              refine hK.out _ _ ?_ (fun hHeld => ?_)
              · ((try dsimp only); try trivial)
              clear hK K
              try simp only [Act.put, List.getElem_toArray, List.getElem_cons_zero, List.getElem_cons_succ, List.setIfInBounds_toArray, List.set_cons_zero, List.set_cons_succ]
              refine wpAnyH_ready (rs := [5]) (by kernel_rfl) (by simp) ?_
              refine AllReadyH.cons rfl (fun K hK => ?_) AllReadyH.nil
              (refine step_app_any rfl (.tmp 64) (.tmp 67) 53 rfl (PB + 2) 3 i9 (.int .i64 0) 1 8 Tryz.underlying53 hi9 hz90 hz91 hz92 rfl (by decide) (.slice aa k ac) k (asksF (tickP c + 1) k) rfl HOA.out (some ⟨w9.heap.size, 0, none⟩) 1 1 [.int .i64 (tickP c + 1 + (k : Int))] rfl (fun h => absurd h (by simp)) rfl HNW.out (fun u hu => by rw [List.mem_singleton] at hu; rw [hu]; rfl) (by unfold maxLen; omega) (by omega) HSA.out ?_; intro v10 w10 how10 hgr10; have HX := Lib.hid (HL9.out.grow (.cells #[.int .i64 (tickP c + 1 + (k : Int))] 3) hgr10); have hsl := own_slice how10; have HW10 := Lib.hid how10; have cp10 : w10.cell? ⟨PB, 3, none⟩ = some (.slice aa k ac) := cell_of HX.out.1.box 3; have fp10 : w10.frozen? ⟨PB, 3, none⟩ = false := free_of HX.out.1.box 3; clear how10 hgr10; obtain ⟨aa2, ac2, rfl⟩ := hsl)
              refine hK.out _ _ ?_ (fun hHeld => ?_)
              · ((try dsimp only); try trivial)
              clear hK K
              try simp only [Act.put, List.getElem_toArray, List.getElem_cons_zero, List.getElem_cons_succ, List.setIfInBounds_toArray, List.set_cons_zero, List.set_cons_succ]
              refine wpAnyH_take (i := 6) (v := ?_) rfl (by kernel_rfl) (by kernel_rfl) (by kernel_rfl) (fun _ _ _ h => h) (Or.inl ⟨by rfl, ?_⟩) (by assumption) ?_
              rotate_left
              · (intro w hSw; (try dsimp only at hSw); go_simp; try with_reducible rfl)
              simp only [Act.put, List.getElem_toArray, List.getElem_cons_zero, List.getElem_cons_succ, List.setIfInBounds_toArray, List.set_cons_zero, List.set_cons_succ]
              have HEND := Lib.hid (show AkB w (w10.setCell ⟨PB, 3, none⟩ (.slice aa2 (k + 1) ac2)) c PB g (k + 1) la lc aa2 ac2 (tickP c + 1 + ((k + 1 : Nat) : Int)) from HX.out.2 aa2 ac2 HW10.out)
              refine wpAnyH_ready (rs := [7]) (by kernel_rfl) (by simp) ?_
              refine AllReadyH.cons rfl (fun K hK => ?_) AllReadyH.nil
              go_simp
              refine hK.out _ _ ?_ (fun hHeld => ?_)
              · ((try dsimp only); try trivial)
              clear hK K
              try simp only [Act.put, List.getElem_toArray, List.getElem_cons_zero, List.getElem_cons_succ, List.setIfInBounds_toArray, List.set_cons_zero, List.set_cons_succ]
              refine wpAnyH_done (by kernel_rfl) ?_ _
              refine NoPanic.normal ?_
              go_wp2_with fail
              go_roundw
              case rel => exact ⟨k + 1, aa2, ac2, by have := HLT.out; omega, by go_num, HEND.out⟩
              case measure => simp [intOf]; have := HLT.out; omega
            · go_simp
              refine hK.out _ _ ?_ (fun hHeld => ?_)
              · trivial
              clear hK K
              try simp only [Act.put, List.getElem_toArray, List.getElem_cons_zero, List.getElem_cons_succ, List.setIfInBounds_toArray, List.set_cons_zero, List.set_cons_succ]
              refine wpAnyH_ready (rs := [1]) (by kernel_rfl) (by simp) ?_
              refine AllReadyH.cons rfl (fun K hK => ?_) AllReadyH.nil
              go_simp
              refine hK.out _ _ ?_ (fun hHeld => ?_)
              · ((try dsimp only); try trivial)
              clear hK K
              try simp only [Act.put, List.getElem_toArray, List.getElem_cons_zero, List.getElem_cons_succ, List.setIfInBounds_toArray, List.set_cons_zero, List.set_cons_succ]
              refine wpAnyH_ready (rs := [5]) (by kernel_rfl) (by simp) ?_
              refine AllReadyH.cons rfl (fun K hK => ?_) AllReadyH.nil
              (refine step_app_any rfl (.tmp 64) (.tmp 67) 53 rfl (PB + 2) 3 i9 (.int .i64 0) 1 8 Tryz.underlying53 hi9 hz90 hz91 hz92 rfl (by decide) (.slice aa k ac) k (asksF (tickP c + 1) k) rfl HOA.out (some ⟨w9.heap.size, 0, none⟩) 1 1 [.int .i64 (tickP c + 1 + (k : Int))] rfl (fun h => absurd h (by simp)) rfl HNW.out (fun u hu => by rw [List.mem_singleton] at hu; rw [hu]; rfl) (by unfold maxLen; omega) (by omega) HSA.out ?_; intro v10 w10 how10 hgr10; have HX := Lib.hid (HL9.out.grow (.cells #[.int .i64 (tickP c + 1 + (k : Int))] 3) hgr10); have hsl := own_slice how10; have HW10 := Lib.hid how10; have cp10 : w10.cell? ⟨PB, 3, none⟩ = some (.slice aa k ac) := cell_of HX.out.1.box 3; have fp10 : w10.frozen? ⟨PB, 3, none⟩ = false := free_of HX.out.1.box 3; clear how10 hgr10; obtain ⟨aa2, ac2, rfl⟩ := hsl)
              refine hK.out _ _ ?_ (fun hHeld => ?_)
              · ((try dsimp only); try trivial)
              clear hK K
              try simp only [Act.put, List.getElem_toArray, List.getElem_cons_zero, List.getElem_cons_succ, List.setIfInBounds_toArray, List.set_cons_zero, List.set_cons_succ]
              refine wpAnyH_take (i := 6) (v := ?_) rfl (by kernel_rfl) (by kernel_rfl) (by kernel_rfl) (fun _ _ _ h => h) (Or.inl ⟨by rfl, ?_⟩) (by assumption) ?_
              rotate_left
              · (intro w hSw; (try dsimp only at hSw); go_simp; try with_reducible rfl)
              simp only [Act.put, List.getElem_toArray, List.getElem_cons_zero, List.getElem_cons_succ, List.setIfInBounds_toArray, List.set_cons_zero, List.set_cons_succ]
              have HEND := Lib.hid (show AkB w (w10.setCell ⟨PB, 3, none⟩ (.slice aa2 (k + 1) ac2)) c PB g (k + 1) la lc aa2 ac2 (tickP c + 1 + ((k + 1 : Nat) : Int)) from HX.out.2 aa2 ac2 HW10.out)
              refine wpAnyH_ready (rs := [7]) (by kernel_rfl) (by simp) ?_
              refine AllReadyH.cons rfl (fun K hK => ?_) AllReadyH.nil
              go_simp
              refine hK.out _ _ ?_ (fun hHeld => ?_)
              · ((try dsimp only); try trivial)
              clear hK K
              try simp only [Act.put, List.getElem_toArray, List.getElem_cons_zero, List.getElem_cons_succ, List.setIfInBounds_toArray, List.set_cons_zero, List.set_cons_succ]
              refine wpAnyH_done (by kernel_rfl) ?_ _
              refine NoPanic.normal ?_
              go_wp2_with fail
              go_roundw
              case rel => exact ⟨k + 1, aa2, ac2, by have := HLT.out; omega, by go_num, HEND.out⟩
              case measure => simp [intOf]; have := HLT.out; omega
          --R19E
        · have hkn : k = c.nT := by omega
          subst hkn
          have e0 : decide (c.nT < c.nT) = false := decide_eq_false (by omega)
          have e0' : decide ((c.nT : Int) < (c.nT : Int)) = false := decide_eq_false (by omega)
          have ct := cell_of HS.out.po.tot 0
          have cq := cell_of HS.out.po.box 4
          have fq := free_of HS.out.po.box 4
          simp only [planL, List.getElem?_toArray, List.getElem?_cons_zero, List.getElem?_cons_succ] at cq ct
          have kS : Keeps (fun j => j = PB) wr (wr.setCell ⟨PB, 4, none⟩ (.int .i64 (tickP c + 1 + (c.nT : Int)))) := (Keeps.refl (fun j => j = PB) wr).setCell (p := ⟨PB, 4, none⟩) (.inl rfl) _
          have hput : PoB w (wr.setCell ⟨PB, 4, none⟩ (.int .i64 (tickP c + 1 + (c.nT : Int)))) w.heap.size PB (PB + 1) c.cells (planL (.slice (some ⟨g, 0, none⟩) c.nO c.nO) (.slice la c.nL lc) (tickP c) (.slice aa c.nT ac) (tickP c + 1 + (c.nT : Int))).toArray (tickP c + 1 + (c.nT : Int)) := HS.out.po.put 4 (.int .i64 (tickP c + 1 + (c.nT : Int)))
          have HR8 := Lib.hid (show ((wr.setCell ⟨PB, 4, none⟩ (.int .i64 (tickP c + 1 + (c.nT : Int))))).rangeAt PB 0 (planL (.slice (some ⟨g, 0, none⟩) c.nO c.nO) (.slice la c.nL lc) (tickP c) (.slice aa c.nT ac) (tickP c + 1 + (c.nT : Int))) from fun j v hv => by
            rw [cell_of hput.box (0 + j), show 0 + j = j by omega]
            simpa using hv)
          have HTH := Lib.hid (show ((wr.setCell ⟨PB, 4, none⟩ (.int .i64 (tickP c + 1 + (c.nT : Int))))).there (w.heap.size + 1) 0 5 from by
            obtain ⟨rs, hr, h5⟩ := hput.res
            exact there_of hr 0 5 (by omega))
          obtain ⟨W9, hW9⟩ : ∃ W9, W9 = ((wr.setCell ⟨PB, 4, none⟩ (.int .i64 (tickP c + 1 + (c.nT : Int))))).setCells (w.heap.size + 1) 0 (((planL (.slice (some ⟨g, 0, none⟩) c.nO c.nO) (.slice la c.nL lc) (tickP c) (.slice aa c.nT ac) (tickP c + 1 + (c.nT : Int)))).toArray).toList := ⟨_, rfl⟩
          have k9 : Keeps (fun j => j = w.heap.size + 1) (wr.setCell ⟨PB, 4, none⟩ (.int .i64 (tickP c + 1 + (c.nT : Int)))) W9 := by rw [hW9]; exact Keeps.sets (S := fun j => j = w.heap.size + 1) (.inl rfl) _ _ _ (Keeps.refl _ _)
          have HG9 := Lib.hid (show W9.heap[w.heap.size + 1]? = some (.cells (planL (.slice (some ⟨g, 0, none⟩) c.nO c.nO) (.slice la c.nL lc) (tickP c) (.slice aa c.nT ac) (tickP c + 1 + (c.nT : Int))).toArray 83 (0, 0)) from by
            obtain ⟨rs, hr, h5⟩ := hput.res
            rw [hW9]
            exact sets_all _ hr (by simpa using h5))
          have HE := Lib.hid (show PlacesAt W9 g c.nO (placeP c.ob) ∧ W9.ownsRow w.heap.size 148 6 (.slice la c.nL lc) c.nL (linesF (baseP c) c.lr c.nL) ∧ W9.ownsRow w.heap.size 3 1 (.slice aa c.nT ac) c.nT (asksF (tickP c + 1) c.nT) ∧ Keeps (fun _ => False) w W9 from by
            have hl8 := own_keepK HS.out.ln kS (fun b hb e => own_apartC HS.out.ln HS.out.po.box (by decide) (by rw [hb, e]))
            have ho8 := own_keepK HS.out.ow kS (fun b hb e => own_apartC HS.out.ow HS.out.po.box (by decide) (by rw [hb, e]))
            obtain ⟨rs, hr, h5⟩ := hput.res
            have hp8 := HS.out.pl.keep kS HS.out.ne.2
            refine ⟨hp8.keep k9 (fun e => ?_), own_keepK hl8 k9 (fun b hb e => own_apartC hl8 hr (by decide) (by rw [hb, e])), own_base (own_keepK ho8 k9 (fun b hb e => own_apartC ho8 hr (by decide) (by rw [hb, e]))) (by have := HS.out.po.ge.2.1; omega), hput.keeps.far k9 (fun j e => by omega)⟩
            obtain ⟨cs, hc8, _⟩ := hp8
            rw [e, hr] at hc8
            have := Option.some.inj hc8
            injection this with _ ht
            cases ht)
          have HW9 := Lib.hid hW9
          clear hW9 k9 kS hput HS
          go_wp2_with (first
            | (refine wpList_load_mid rfl 83 (.tmp 4) rfl PB 0 rfl (planL (.slice (some ⟨g, 0, none⟩) c.nO c.nO) (.slice la c.nL lc) (tickP c) (.slice aa c.nT ac) (tickP c + 1 + (c.nT : Int))) _ HR8.out Tryz.underlying83 rfl plan_info ?_)
            | (refine wpList_store_mid rfl 83 (.tmp 2) (.tmp 73) rfl (w.heap.size + 1) 0 ((planL (.slice (some ⟨g, 0, none⟩) c.nO c.nO) (.slice la c.nL lc) (tickP c) (.slice aa c.nT ac) (tickP c + 1 + (c.nT : Int)))).toArray rfl rfl HTH.out plan_info (by simp [Value.oneCell']) ?_; rw [← HW9.out]))
          refine bodyPost_ret (v := .tuple #[.agg ((planL (.slice (some ⟨g, 0, none⟩) c.nO c.nO) (.slice la c.nL lc) (tickP c) (.slice aa c.nT ac) (tickP c + 1 + (c.nT : Int)))).toArray, .bool true]) (res_plan W9 _ (w.heap.size + 1) _ _ rfl rfl (load_plan HG9.out rfl)) rfl ⟨g, la, lc, aa, ac, rfl, HE.out.1, HE.out.2.1, HE.out.2.2.1, HE.out.2.2.2⟩
end Go.Proofs.YthnmlklgbggmbaaGreat
