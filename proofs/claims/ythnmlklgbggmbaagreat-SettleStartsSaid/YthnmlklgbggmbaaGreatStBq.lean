import Derived.Test.YthnmlklgbggmbaaGreatRankBq
import Derived.Test.YthnmlklgbggmbaaGreatDrDq
import Derived.Test.YthnmlklgbggmbaaGreatConfIq
import Derived.Test.YthnmlklgbggmbaaGreatObjq
import Derived.Test.YthnmlklgbggmbaaGreatConfAq
import Derived.Test.YthnmlklgbggmbaaGreatRowq
import Derived.Test.YthnmlklgbggmbaaGreatGhostq
import Derived.LoopN
import Derived.WalkKit
import Derived.ProofKit
import Derived.OpenShut
import Derived.Lib.Hide
import Derived.Outline
import Derived.Test.YthnmlklgbggmbaaGreatRows
import Derived.WalkLawsBesides
import Derived.WalkSpells
import Derived.Deep.QuietTactic
import Derived.BigQuiet
import Derived.WideMake
import Derived.Carry
namespace Go.Proofs.YthnmlklgbggmbaaGreat
open Go.ChangeShapes Go.WideShapes Go.ChangeAt Go.RowKit
set_option linter.unusedVariables false
set_option linter.unusedSimpArgs false
abbrev StX := Int × Int × Int × Int
theorem flat_get {α : Type} {f : Nat → List α} {m : Nat} (hf : ∀ i, (f i).length = m) : ∀ n k r, k < n → r < m → ((List.range n).flatMap f)[k * m + r]? = (f k)[r]?
  | 0, k, r, h, _ => absurd h (Nat.not_lt_zero _)
  | n + 1, k, r, h, hr => by
    have hl : ((List.range n).flatMap f).length = n * m := by
      clear h
      induction n with
      | zero => simp
      | succ n ih => rw [List.range_succ, List.flatMap_append, List.length_append, ih]; simp [hf, Nat.add_mul]
    rw [List.range_succ, List.flatMap_append]
    by_cases hk : k < n
    · have : k * m + r < n * m := by
        have := Nat.mul_le_mul_right m (show k + 1 ≤ n by omega)
        rw [Nat.add_mul, Nat.one_mul] at this
        omega
      rw [List.getElem?_append_left (by omega)]
      exact flat_get hf n k r hk hr
    · obtain rfl : k = n := by omega
      rw [List.getElem?_append_right (by omega), hl, show k * m + r - k * m = r by omega]
      simp
theorem line_at {w : World} {B nL lc : Nat} {la : Option Addr} {base : Int} {lr : Nat → Int} (h : w.ownsRow B 148 6 (.slice la nL lc) nL (linesF base lr nL)) {k : Nat} (hk : k < nL) : ∃ b, la = some ⟨b, 0, Option.none⟩ ∧ b < w.heap.size ∧ w.rangeAt b (k * 6) (lineC base lr k) := by
  rcases h.2 with ⟨_, h0⟩ | ⟨b, cap, cur, e, _, hb, _⟩
  · omega
  · injection e with e1 _ _
    refine ⟨b, e1, lt_of hb, fun j v hv => ?_⟩
    have hj : j < 6 := (List.getElem?_eq_some_iff.1 hv).1
    have := h.cells (g := b) (by rw [e1]; rfl) (k * 6 + j) v (by unfold linesF; rw [flat_get (m := 6) (fun i => rfl) nL k j hk hj]; exact hv)
    rwa [Addr.add_mid, Nat.zero_add] at this
theorem ask_at {w : World} {B n ac : Nat} {aa : Option Addr} {t : Int} (h : w.ownsRow B 3 1 (.slice aa n ac) n (asksF t n)) {k : Nat} (hk : k < n) : ∃ b, aa = some ⟨b, 0, Option.none⟩ ∧ b < w.heap.size ∧ w.cell? ⟨b, k, Option.none⟩ = some (.int .i64 (t + (k : Int))) := by
  rcases h.2 with ⟨_, h0⟩ | ⟨b, cap, cur, e, _, hb, _⟩
  · omega
  · injection e with e1 _ _
    refine ⟨b, e1, lt_of hb, ?_⟩
    have := h.cells (g := b) (by rw [e1]; rfl) k (.int .i64 (t + (k : Int))) (by unfold asksF; simp [hk])
    rwa [Addr.add_mid, Nat.zero_add] at this
end Go.Proofs.YthnmlklgbggmbaaGreat
namespace Go.Proofs.YthnmlklgbggmbaaGreat
open Go.ChangeShapes Go.WideShapes Go.ChangeAt Go.RowKit
set_option linter.unusedVariables false
set_option linter.unusedSimpArgs false
attribute [local irreducible] wpList
theorem info_headsU : (Tryz.prog.info? 38).map (fun i => (i.zero, i.size, i.bytes)) = some (some (.int .u32 0), 1, 4) := by kernel_rfl
theorem make_heads (w : World) (n : Nat) (hn : n ≤ 1000) : (Instr.makeSlice 41 (.int .i64 (n : Int)) (.int .i64 (n : Int))).run Tryz.prog w = .ok (.slice (some ⟨w.heap.size, 0, none⟩) n n) (w.alloc (.cells (madeCells #[.int .u32 0] n) 38)) := by
  obtain ⟨i, hi, hz0, hz1, hz2⟩ := info_parts info_headsU
  have h := run_make w 41 38 i (.int .u32 0) Tryz.underlying41 hi hz0 .i64 .i64 (n : Int) (n : Int) (by omega) (by omega) (by rw [hz2]; omega) (by omega)
  rw [hz1] at h
  simpa [Value.cells] using h
theorem prios_of {c : CfD} {w : World} (hc : CfIn w c) (h0 : 0 < c.nT) : PriosAt w c.ta c.nT ((List.range c.nT).map c.tp) := by
  refine ⟨by simp, fun hn => ?_⟩
  obtain ⟨b, off, e, hb, h⟩ := hc.t hn
  refine ⟨b, off, e, hb, fun k p hk => ?_⟩
  have hk' : k < c.nT := by
    have := (List.getElem?_eq_some_iff.1 hk).1
    simpa using this
  have hp : p = c.tp k := by
    rw [List.getElem?_map, List.getElem?_range hk'] at hk
    exact (Option.some.inj hk).symm
  rw [hp]; exact (h k hk').1
def NewD (w : World) (c : CfD) (e : Ending) (w' : World) : Prop := ∃ (b : Nat) (p : DrP) (a : ScA), e = .returned (.pointer (some ⟨b, 0, none⟩)) ∧ IsDr w' b p 0 0 0 .nilFunc 0 0 ∧ DrS w' b p c ∧ ScW w' (fun k => w.heap.size ≤ k) a (dispM (newM ((List.range c.nT).map c.tp))) ∧ p.s = a.s ∧ p.t = tickP c ∧ w.heap.size ≤ b ∧ Keeps (fun _ => False) w w'
theorem ScW.wide {w0 w w' : World} {a : ScA} {M : ScM} (h : ScW w' (fun k => w.heap.size ≤ k) a M) (k : Keeps (fun _ => False) w0 w) : ScW w' (fun k => w0.heap.size ≤ k) a M :=
  h.narrow (fun j _ hj => Nat.le_trans k.size hj) fun j hj => Nat.le_trans k.size (h.new j hj)
theorem heads_zero (n k : Nat) (hk : k < n) : (madeCells #[.int .u32 0] n)[k]? = some (.int .u32 0) := by
  rw [← Array.getElem?_toList, toList_madeCells_one, List.getElem?_replicate, if_pos hk]
theorem newD_of {w W0 WX : World} {c : CfD} {g B hB ac lc : Nat} {la aa : Option Addr} {a : ScA} (hgo : GoodC c) (k0 : Keeps (fun _ => False) W0 WX) (kw : Keeps (fun _ => False) w WX)
    (hln : W0.ownsRow B 148 6 (.slice la c.nL lc) c.nL (linesF (baseP c) c.lr c.nL)) (hak : W0.ownsRow B 3 1 (.slice aa c.nT ac) c.nT (asksF (tickP c + 1) c.nT))
    (hh : WX.heap[hB]? = some (.cells (madeCells #[.int .u32 0] c.nL) 38 (0, 0))) (hs : ScW WX (fun k => w.heap.size ≤ k) a (dispM (newM ((List.range c.nT).map c.tp)))) :
    NewD w c (.returned (.pointer (some ⟨WX.heap.size, 0, none⟩))) (WX.alloc (.cells (drC ⟨g, c.nO, la, c.nL, lc, tickP c, aa, c.nT, ac, tickP c + 1 + (c.nT : Int), a.s, hB⟩ 0 0 0 .nilFunc 0 0) 90)) := by
  have kx := (Keeps.refl (fun _ => False) WX).alloc (.cells (drC ⟨g, c.nO, la, c.nL, lc, tickP c, aa, c.nT, ac, tickP c + 1 + (c.nT : Int), a.s, hB⟩ 0 0 0 .nilFunc 0 0) 90)
  have hn := plan_nums hgo
  refine ⟨WX.heap.size, _, a, rfl, heap_new _ _, ⟨⟨by show 0 ≤ tickP c; omega, by show tickP c ≤ 1000000; omega⟩, rfl, rfl, fun hp => ?_, fun hp => ?_, ?_⟩, hs.quiet kx, rfl, rfl, kw.size, kw.trans kx⟩
  · obtain ⟨b0, e0, l0, _⟩ := ask_at hak (k := 0) hp
    refine ⟨b0, 0, e0, by have := k0.size; omega, by rw [World.size_alloc]; have := k0.size; omega, fun i hi => ?_⟩
    obtain ⟨b1, e1, l1, h1⟩ := ask_at hak (k := i) hi
    rw [e0] at e1
    have e2 : b0 = b1 := by simpa using e1
    subst e2
    rw [Nat.zero_add]
    exact (World.cell?_of_block ((k0.trans kx).block b0 l0 fun h => h)).trans h1
  · obtain ⟨b0, e0, l0, _⟩ := line_at hln (k := 0) hp
    refine ⟨b0, 0, e0, by have := k0.size; omega, by rw [World.size_alloc]; have := k0.size; omega, fun i hi j v hj => ?_⟩
    obtain ⟨b1, e1, l1, h1⟩ := line_at hln (k := i) hi
    rw [e0] at e1
    have e2 : b0 = b1 := by simpa using e1
    subst e2
    rw [Nat.zero_add]
    exact (World.cell?_of_block ((k0.trans kx).block b0 l0 fun h => h)).trans (h1 j v hj)
  · have hl := lt_of hh
    refine ⟨by show hB ≠ WX.heap.size; omega, by rw [World.size_alloc]; show hB < _; omega, fun i hi => ?_⟩
    exact ((World.cell?_of_block (kx.block hB hl fun h => h)).trans (cell_of hh i)).trans (heads_zero _ _ hi)
theorem five_plan {w : World} {b : Nat} {v0 v1 v2 v3 v4 : Value} (h : w.heap[b]? = some (.cells #[v0, v1, v2, v3, v4] 83 (0, 0))) : w.cell? ⟨b, 0, none⟩ = some v0 ∧ w.cell? ⟨b, 1, none⟩ = some v1 ∧ w.cell? ⟨b, 2, none⟩ = some v2 ∧ w.cell? ⟨b, 3, none⟩ = some v3 ∧ w.cell? ⟨b, 4, none⟩ = some v4 :=
  ⟨cell_of h 0, cell_of h 1, cell_of h 2, cell_of h 3, cell_of h 4⟩
set_option maxRecDepth 20000 in
set_option maxHeartbeats 8000000 in
theorem drain_new (c : CfD) (w : World) (hc : CfIn w c) (ho : c.Ok) (hv : badOf c = (0, 0, 0)) :
    Calls Tryz.prog 8 #[.agg c.cells] w (NewD w c) := by
  have HP := Lib.hid (fun W (k : Keeps (fun _ => False) w W) => plan_good c W (hc.none k) ho hv)
  have HG := Lib.hid (good_of hv)
  have HSN := Lib.hid (fun W (k : Keeps (fun _ => False) w W) => snew_any W c.ta c.nT c.tc _ (prios_of (hc.none k) HG.out.t1) (by have := HG.out.t; omega))
  have HB := Lib.hid ((Has.start w).alloc (.cells c.cells 26))
  have hmk := fun W => make_heads W c.nL (by have := HG.out.l; omega)
  clear hc ho hv
  go_enter Tryz.func8, Tryz.ntmps8
  go_wp2_with fail
  refine (HP.out _ HB.out.keeps).mono ?_
  rintro e1 w1 ⟨g, la, lc, aa, ac, rfl, hpl, hln, hak, k1⟩
  replace HB := Lib.hid (((HB.out.none k1).alloc (.cells #[.slice (some ⟨g, 0, none⟩) c.nO c.nO, .slice la c.nL lc, .int .i64 (tickP c), .slice aa c.nT ac, .int .i64 (tickP c + 1 + (c.nT : Int))] 83)))
  have HLN := Lib.hid hln
  have HAK := Lib.hid hak
  have HK1 := Lib.hid ((Keeps.refl (fun _ => False) w1).alloc (.cells #[.slice (some ⟨g, 0, none⟩) c.nO c.nO, .slice la c.nL lc, .int .i64 (tickP c), .slice aa c.nT ac, .int .i64 (tickP c + 1 + (c.nT : Int))] 83))
  clear k1 hpl hln hak
  go_wp2_with fail
  generalize w1.alloc (.cells #[.slice (some ⟨g, 0, none⟩) c.nO c.nO, .slice la c.nL lc, .int .i64 (tickP c), .slice aa c.nT ac, .int .i64 (tickP c + 1 + (c.nT : Int))] 83) = W2 at HB HK1 ⊢
  generalize hPB : w1.heap.size = PB at HB HK1 ⊢
  clear hPB
  have HQ := Lib.hid (fun W (k : Keeps (fun _ => False) W2 W) => show W.cell? ⟨w.heap.size, 0, none⟩ = some (.slice c.ta c.nT c.tc) ∧ W.cell? ⟨PB, 0, none⟩ = some (.slice (some ⟨g, 0, none⟩) c.nO c.nO) ∧ W.cell? ⟨PB, 1, none⟩ = some (.slice la c.nL lc) ∧ W.cell? ⟨PB, 2, none⟩ = some (.int .i64 (tickP c)) ∧ W.cell? ⟨PB, 3, none⟩ = some (.slice aa c.nT ac) ∧ W.cell? ⟨PB, 4, none⟩ = some (.int .i64 (tickP c + 1 + (c.nT : Int))) from ⟨(cell_of (k.at (HB.out.at 1 rfl) fun h => h) 0), five_plan (k.at (HB.out.at 0 rfl) fun h => h)⟩)
  go_region_held3 (fun w' => w'.cell? ⟨w.heap.size, 0, none⟩ = some (.slice c.ta c.nT c.tc) ∧ w'.cell? ⟨PB, 0, none⟩ = some (.slice (some ⟨g, 0, none⟩) c.nO c.nO) ∧ w'.cell? ⟨PB, 1, none⟩ = some (.slice la c.nL lc) ∧ w'.cell? ⟨PB, 2, none⟩ = some (.int .i64 (tickP c)) ∧ w'.cell? ⟨PB, 3, none⟩ = some (.slice aa c.nT ac) ∧ w'.cell? ⟨PB, 4, none⟩ = some (.int .i64 (tickP c + 1 + (c.nT : Int))))
    (first
      | exact HQ.out _ (Keeps.refl _ W2).drew
      | exact HQ.out _ HK4.out
      | exact HQ.out _ ((Keeps.refl _ W2).drew.alloc _)
      | exact HQ.out _ (HK4.out.alloc _)
      | go_keep)
    (first
      | (go_at_call 33; refine (HSN.out _ HB.out.keeps.drew).mono ?_; rintro e4 w4 ⟨a, rfl, hn4, hs4, k4⟩; have HT4 := Lib.hid (hs4.wide HB.out.keeps.drew); have HK4 := Lib.hid ((Keeps.refl (fun _ => False) W2).drew.trans k4); clear hn4 hs4 k4)
      | (go_at_call 33; refine (HSN.out _ (HB.out.keeps.drew.alloc _)).mono ?_; rintro e4 w4 ⟨a, rfl, hn4, hs4, k4⟩; have HT4 := Lib.hid (hs4.wide (HB.out.keeps.drew.alloc _)); have HM4 := Lib.hid (k4.at (heap_new W2.drew (.cells (madeCells #[.int .u32 0] c.nL) 38)) fun h => h); have HK4 := Lib.hid (((Keeps.refl (fun _ => False) W2).drew.alloc (.cells (madeCells #[.int .u32 0] c.nL) 38)).trans k4); clear hn4 hs4 k4)
      | fail)
  all_goals
    first
      | (have HF := Lib.hid (newD_of (g := g) (hB := w4.heap.size) HG.out (HK1.out.trans (HK4.out.alloc (.cells (madeCells #[.int .u32 0] c.nL) 38))) (HB.out.keeps.trans (HK4.out.alloc (.cells (madeCells #[.int .u32 0] c.nL) 38))) HLN.out HAK.out (heap_new w4 _) (HT4.out.quiet ((Keeps.refl _ w4).alloc _)))
         rw [World.size_alloc] at HF
         clear HQ HSN HP HT4 HK4 HB HK1
         go_wp2_with fail
         go_ret
         exact HF.out)
      | (have HF := Lib.hid (newD_of (g := g) (hB := W2.heap.size) HG.out (HK1.out.trans HK4.out) (HB.out.keeps.trans HK4.out) HLN.out HAK.out HM4.out HT4.out)
         clear HQ HSN HP HT4 HK4 HB HK1 HM4
         go_wp2_with fail
         go_ret
         exact HF.out)
end Go.Proofs.YthnmlklgbggmbaaGreat
namespace Go.Proofs.YthnmlklgbggmbaaGreat
open Go.ChangeShapes Go.WideShapes Go.ChangeAt Go.RowKit
set_option linter.unusedVariables false
set_option linter.unusedSimpArgs false
attribute [local irreducible] wpList
theorem add_W (M : ScM) (p : Int) : (addM M p).W = M.W := by unfold addM; split <;> rfl
theorem adds_W : ∀ (L : List Int) (M : ScM), (L.foldl addM M).W = M.W
  | [], _ => rfl
  | p :: L, M => (adds_W L (addM M p)).trans (add_W M p)
theorem new_W (L : List Int) : (dispM (newM L)).W = [] := adds_W _ zeroM
theorem disp_first (M : ScM) : firstM (dispM M) = (dispM M).cur := rfl
def cD (T : Nat) : CfD := ⟨1, 0, 0, 0, some ⟨T, 0, none⟩, none, none, 1, 0, 0, fun _ => 0, fun _ => false, fun _ => 0, fun _ => none, fun _ => 0, fun _ => 0, fun _ => 0, fun _ => none, fun _ => 0, fun _ _ => 0, fun _ _ => 0⟩
theorem cD_bad (T : Nat) : badOf (cD T) = (0, 0, 0) := by kernel_rfl
theorem cD_cur (T : Nat) : (dispM (newM ((List.range (cD T).nT).map (cD T).tp))).cur = ((0 : Nat) : Int) := by kernel_rfl
end Go.Proofs.YthnmlklgbggmbaaGreat
namespace Go.Proofs.YthnmlklgbggmbaaGreat
open Go.ChangeShapes Go.WideShapes Go.ChangeAt Go.RowKit
set_option linter.unusedVariables false
set_option linter.unusedSimpArgs false
attribute [local irreducible] wpList
structure Ph (w0 W : World) (b : Nat) (p : DrP) (c : CfD) (a : ScA) (M : ScM) (P : Nat → Prop) (asks n : Nat) : Prop where
  sc : ScW W P a M
  fr : Keeps (fun k => k = b ∨ P k) w0 W
  st : ∃ op ad f task, (op = 0 ∨ op = 1) ∧ ((n = 0 ∧ asks = 1 ∧ IsDr W b p 1 op ad f task ((0 : Nat) : Int) ∧ DrS W b p c) ∨ (n = asks ∧ IsDr W b p 3 op ad f task ((0 : Nat) : Int) ∧ DrS W b p c) ∨ (∃ i, i < p.nL ∧ n = asks + 1 + i ∧ IsDr W b p 5 op ad f task ((i : Nat) : Int) ∧ DrS W b p c) ∨ (n = asks + 1 + p.nL ∧ IsDr W b p 10 op ad f task ((p.nL : Nat) : Int) ∧ DrS W b p c) ∨ (n = asks + 2 + p.nL ∧ IsDr W b p 0 op ad f task ((p.nL : Nat) : Int)))
section
variable {w0 W W' : World} {b : Nat} {p : DrP} {c : CfD} {a : ScA} {M : ScM} {P : Nat → Prop} {asks n : Nat}
theorem Ph.quiet (h : Ph w0 W b p c a M P asks n) (k : Keeps (fun _ => False) W W') : Ph w0 W' b p c a M P asks n := by
  refine ⟨h.sc.quiet k, h.fr.trans (k.mono fun _ _ e => e.elim), ?_⟩
  obtain ⟨op, ad, f, task, ho, h⟩ := h.st
  have kb : Keeps (fun j => j = b) W W' := k.mono fun _ _ e => e.elim
  refine ⟨op, ad, f, task, ho, ?_⟩
  rcases h with ⟨h1, h2, h3, h4⟩ | ⟨h1, h3, h4⟩ | ⟨i, h1, h2, h3, h4⟩ | ⟨h1, h3, h4⟩ | ⟨h1, h3⟩
  · exact .inl ⟨h1, h2, h3.at k fun h => h, h4.at kb⟩
  · exact .inr (.inl ⟨h1, h3.at k fun h => h, h4.at kb⟩)
  · exact .inr (.inr (.inl ⟨i, h1, h2, h3.at k fun h => h, h4.at kb⟩))
  · exact .inr (.inr (.inr (.inl ⟨h1, h3.at k fun h => h, h4.at kb⟩)))
  · exact .inr (.inr (.inr (.inr ⟨h1, h3.at k fun h => h⟩)))
theorem Ph.le (h : Ph w0 W b p c a M P asks n) : n ≤ asks + 2 + p.nL := by
  obtain ⟨op, ad, f, task, ho, h⟩ := h.st
  rcases h with ⟨h1, h2, _⟩ | ⟨h1, _⟩ | ⟨i, h1, h2, _⟩ | ⟨h1, _⟩ | ⟨h1, _⟩ <;> omega
theorem Ph.lt (h : Ph w0 W b p c a M P asks n) : b < W.heap.size := by
  obtain ⟨op, ad, f, task, ho, h⟩ := h.st
  rcases h with ⟨h1, h2, h3, _⟩ | ⟨h1, h3, _⟩ | ⟨i, h1, h2, h3, _⟩ | ⟨h1, h3, _⟩ | ⟨h1, h3⟩ <;> exact h3.lt
end
end Go.Proofs.YthnmlklgbggmbaaGreat
namespace Go.Proofs.YthnmlklgbggmbaaGreat
open Go.ChangeShapes Go.WideShapes Go.ChangeAt Go.RowKit
set_option linter.unusedVariables false
set_option linter.unusedSimpArgs false
attribute [local irreducible] wpList
theorem vcurrent_any (w : World) (a : ScA) (M : ScM) (h : ScV w a M)  :
    Calls Tryz.prog 15 #[.pointer (some ⟨a.s, 0, none⟩)] w fun e w' => e = .returned (.int .i64 M.cur) ∧ w = w' := by
  have c33 : w.cell? ⟨a.s, 33, none⟩ = some (.int .i64 M.cur) := h.cell 33 fun cs hc => hc.cur
  clear h
  go_enter Tryz.func15, Tryz.ntmps15
  go_wp2
  go_ret
  exact ⟨rfl, rfl⟩
theorem vready_any (w : World) (a : ScA) (M : ScM) (h : ScV w a M) :
    Calls Tryz.prog 18 #[.pointer (some ⟨a.s, 0, none⟩)] w fun e w' => ∃ v, e = .returned v ∧ w'.ownsRow w.heap.size 3 1 v (listT M.R).length (ints (listT M.R)) ∧ Keeps (fun _ => False) w w' := by
  have c34 : w.cell? ⟨a.s, 34, none⟩ = some (.pointer (some ⟨a.rk, 0, none⟩)) := h.cell 34 fun cs hc => hc.rk
  have HS := Lib.hid (rks_list w a.rk M.R h.rank)
  clear h
  go_enter Tryz.func18, Tryz.ntmps18
  go_wp2_with fail
  refine HS.out.mono ?_
  rintro e w2 ⟨v, rfl, hz⟩
  have HZ := Lib.hid hz
  clear hz HS
  go_wp2_with fail
  go_ret
  exact ⟨v, rfl, HZ.out⟩
end Go.Proofs.YthnmlklgbggmbaaGreat
namespace Go.Proofs.YthnmlklgbggmbaaGreat
open Go.ChangeShapes Go.WideShapes Go.ChangeAt Go.RowKit
set_option linter.unusedVariables false
set_option linter.unusedSimpArgs false
attribute [local irreducible] wpList
theorem Ph.over {w0 W : World} {b : Nat} {p : DrP} {c : CfD} {a : ScA} {M : ScM} {P : Nat → Prop} {asks n : Nat} (h : Ph w0 W b p c a M P asks n) (hn : n = asks + 2 + p.nL) : ∃ op ad f task level, IsDr W b p 0 op ad f task level := by
  obtain ⟨op, ad, f, task, ho, h⟩ := h.st
  rcases h with ⟨h1, h2, h3, _⟩ | ⟨h1, h3, _⟩ | ⟨i, h1, h2, h3, _⟩ | ⟨h1, h3, _⟩ | ⟨h1, h3⟩
  · omega
  · omega
  · omega
  · omega
  · exact ⟨_, _, _, _, _, h3⟩
end Go.Proofs.YthnmlklgbggmbaaGreat
namespace Go.Proofs.YthnmlklgbggmbaaGreat
open Go.ChangeShapes Go.WideShapes Go.ChangeAt Go.RowKit
set_option linter.unusedVariables false
set_option linter.unusedSimpArgs false
attribute [local irreducible] wpList
@[reducible] def gateC (n : Nat) : Array Value := #[.int .u32 0, .int .i64 0, .int .i64 0, .int .i64 0, .int .i64 0, .int .i64 0, .int .i64 0, .int .i64 0, .int .i64 0, .int .i64 0, .int .i64 0, .int .i64 0, .int .i64 0, .int .i64 0, .int .i64 0, .int .i64 0, .int .i64 0, .int .i64 0, .int .i64 0, .int .i64 0, .int .i64 0, .int .i64 0, .int .i64 0, .int .i64 0, .int .i64 0, .int .i64 0, .int .i64 0, .int .i64 0, .int .i64 0, .int .i64 0, .int .i64 0, .int .i64 0, .int .i64 0, .int .i64 0, .int .i64 0, .int .i64 0, .int .i64 0, .int .i64 (n : Int), .int .i64 0]
def IsGate0 (w : World) (g n : Nat) : Prop := w.heap[g]? = some (.cells (gateC n) 209 (0, 0))
set_option maxRecDepth 20000 in
set_option maxHeartbeats 2000000 in
theorem gate_new (w : World) (n : Nat) (hn : n ≤ 31) : Calls Tryz.prog 61 #[.int .i64 (n : Int)] w fun e w' => e = .returned (.pointer (some ⟨w.heap.size, 0, none⟩)) ∧ w' = w.alloc (.cells (gateC n) 209) := by
  have y1 : max (n : Int) 0 = (n : Int) := by omega
  have y2 : min (n : Int) 31 = (n : Int) := by omega
  go_enter Tryz.func61, Tryz.ntmps61
  go_wp2_with fail
  go_ret
  exact ⟨rfl, rfl⟩
theorem nest_deep (w : World) (g o : Nat) (h : w.cell? ⟨g, o + 32, none⟩ = some (.int .i64 0)) : Calls Tryz.prog 188 #[.pointer (some ⟨g, o, none⟩)] w fun e w' => e = .returned (.int .i64 0) ∧ w = w' := by
  go_enter Tryz.func188, Tryz.ntmps188
  go_wp2_with fail
  go_ret
  exact ⟨rfl, rfl⟩
theorem nest_top (w : World) (g o : Nat) (h : w.cell? ⟨g, o + 32, none⟩ = some (.int .i64 0)) : Calls Tryz.prog 181 #[.pointer (some ⟨g, o, none⟩)] w fun e w' => e = .returned (.int .i64 (-1)) ∧ w = w' := by
  have HD := Lib.hid (nest_deep w g o h)
  clear h
  go_enter Tryz.func181, Tryz.ntmps181
  go_wp2_with fail
  refine HD.out.mono ?_
  rintro e1 w1 ⟨rfl, rfl⟩
  go_wp2_with fail
  go_ret
  exact ⟨rfl, rfl⟩
theorem pend_bits (w : World) (g : Nat) (h : w.cell? ⟨g, 0, none⟩ = some (.int .u32 0)) : Calls Tryz.prog 182 #[.pointer (some ⟨g, 0, none⟩)] w fun e w' => e = .returned (.int .u32 0) ∧ w = w' := by
  go_enter Tryz.func182, Tryz.ntmps182
  go_wp2_with fail
  go_ret
  exact ⟨rfl, rfl⟩
set_option maxRecDepth 20000 in
set_option maxHeartbeats 2000000 in
theorem gate_level (w : World) (g n : Nat) (h : IsGate0 w g n) : Calls Tryz.prog 156 #[.pointer (some ⟨g, 0, none⟩)] w fun e w' => e = .returned (.int .i64 (-1)) ∧ w = w' := by
  have c35 : w.cell? ⟨g, 3 + 32, none⟩ = some (.int .i64 0) := cell_of h 35
  have HT := Lib.hid (nest_top w g 3 c35)
  clear h c35
  go_enter Tryz.func156, Tryz.ntmps156
  go_wp2_with fail
  refine HT.out.mono ?_
  rintro e1 w1 ⟨rfl, rfl⟩
  go_wp2_with fail
  go_ret
  exact ⟨rfl, rfl⟩
set_option maxRecDepth 20000 in
set_option maxHeartbeats 2000000 in
theorem gate_pending (w : World) (g n : Nat) (h : IsGate0 w g n) : Calls Tryz.prog 157 #[.pointer (some ⟨g, 0, none⟩)] w fun e w' => e = .returned (.int .u32 0) ∧ w = w' := by
  have c0 : w.cell? ⟨g, 0, none⟩ = some (.int .u32 0) := cell_of h 0
  have HT := Lib.hid (pend_bits w g c0)
  clear h c0
  go_enter Tryz.func157, Tryz.ntmps157
  go_wp2_with fail
  refine HT.out.mono ?_
  rintro e1 w1 ⟨rfl, rfl⟩
  go_wp2_with fail
  go_ret
  exact ⟨rfl, rfl⟩
end Go.Proofs.YthnmlklgbggmbaaGreat
namespace Go.Proofs.YthnmlklgbggmbaaGreat
open Go.ChangeShapes Go.WideShapes Go.ChangeAt Go.RowKit
set_option linter.unusedVariables false
set_option linter.unusedSimpArgs false
attribute [local irreducible] wpList
theorem same_int (s k : Int) : Instr.sameNow (.int .i64) (.int .i64 s) (.int .i64 k) = some (s == k) := by
  unfold Instr.sameNow
  simp
theorem mfind_not {s : Int} : ∀ (es : List MapEntry) (i : Nat), (∀ e, e ∈ es → ∃ k, e.key = .int .i64 k ∧ k ≠ s) → Instr.findNow (.int .i64) (.int .i64 s) es i = some none
  | [], _, _ => rfl
  | e :: es, i, h => by
    obtain ⟨k, hk, hne⟩ := h e List.mem_cons_self
    unfold Instr.findNow
    rw [hk, same_int, show (s == k) = false from beq_eq_false_iff_ne.mpr fun h => hne h.symm]
    exact mfind_not es (i + 1) fun e he => h e (List.mem_cons_of_mem _ he)
theorem mfind_any {s : Int} : ∀ (es : List MapEntry) (i : Nat), (∀ e, e ∈ es → ∃ k, e.key = .int .i64 k) → Instr.findNow (.int .i64) (.int .i64 s) es i = some none ∨ ∃ j e, e ∈ es ∧ Instr.findNow (.int .i64) (.int .i64 s) es i = some (some (j, e.val))
  | [], _, _ => .inl rfl
  | e :: es, i, h => by
    obtain ⟨k, hk⟩ := h e List.mem_cons_self
    unfold Instr.findNow
    rw [hk, same_int]
    cases hq : s == k with
    | true => exact .inr ⟨i, e, List.mem_cons_self, rfl⟩
    | false =>
      rcases mfind_any es (i + 1) fun e he => h e (List.mem_cons_of_mem _ he) with h1 | ⟨j, e', he, h1⟩
      · exact .inl h1
      · exact .inr ⟨j, e', List.mem_cons_of_mem _ he, h1⟩
section
variable {P : Program} {w : World}
theorem run_lookF_hit (mty kt et : TypeId) (r clock i : Nat) (es : Array MapEntry) (s : Int) (v : Value) (hm : P.underlying mty = some (.map kt et)) (hk : P.underlying kt = some (.int .i64)) (hb : w.heap[r]? = some (.map es clock))
    (hf : Instr.findNow (.int .i64) (.int .i64 s) es.toList 0 = some (some (i, v))) :
    (Instr.lookup mty (.map (some r)) (.int .i64 s) false).run P w = .ok v w := by
  have hc : (Instr.checkKey es.isEmpty 10000 kt (.int .i64 s)).run P w = .ok () w := MapKept.run_checkKey (k := .int .i64 s) hk (by simp [MapKept.IsKey]) _ 9999
  simp [Instr.lookup, run_underlying hm, MapKept.run_getObj_map hb, hc, MapKept.run_findKey hk hf, Result.andThen]
theorem run_lookF_miss (mty kt et : TypeId) (r clock : Nat) (es : Array MapEntry) (s : Int) (z : Value) (hm : P.underlying mty = some (.map kt et)) (hk : P.underlying kt = some (.int .i64)) (hb : w.heap[r]? = some (.map es clock))
    (hz : (zeroValue et).run P w = .ok z w) (hf : Instr.findNow (.int .i64) (.int .i64 s) es.toList 0 = some none) :
    (Instr.lookup mty (.map (some r)) (.int .i64 s) false).run P w = .ok z w := by
  have hc : (Instr.checkKey es.isEmpty 10000 kt (.int .i64 s)).run P w = .ok () w := MapKept.run_checkKey (k := .int .i64 s) hk (by simp [MapKept.IsKey]) _ 9999
  simp [Instr.lookup, run_underlying hm, MapKept.run_getObj_map hb, hc, MapKept.run_findKey hk hf, hz, Result.andThen]
end
def FrOk (w : World) (f : Nat) : Prop := ∃ cs, w.heap[f]? = some (.cells cs 129 (0, 0)) ∧ cs[10]? = some (.pointer none)
def MapOk (w : World) (fb : Nat) (B : Int → Prop) : Prop := ∃ es clk, w.heap[fb]? = some (.map es clk) ∧ ∀ e, e ∈ es.toList → ∃ k f, e.key = .int .i64 k ∧ e.val = .pointer (some ⟨f, 0, none⟩) ∧ B k ∧ FrOk w f
theorem FrOk.keep {w w' : World} {f : Nat} {S : Nat → Prop} (h : FrOk w f) (k : Keeps S w w') (hs : ∀ j, S j → ¬ Ty w j 129) : FrOk w' f := by
  obtain ⟨cs, h1, h2⟩ := h
  exact ⟨cs, k.at h1 fun e => hs f e ⟨_, _, h1⟩, h2⟩
theorem MapOk.quiet {w w' : World} {fb : Nat} {B : Int → Prop} (h : MapOk w fb B) (k : Keeps (fun _ => False) w w') : MapOk w' fb B := by
  obtain ⟨es, clk, hb, he⟩ := h
  refine ⟨es, clk, Keeps.at k hb fun h => h, fun e hm => ?_⟩
  obtain ⟨q, f, h1, h2, h3, h4⟩ := he e hm
  exact ⟨q, f, h1, h2, h3, h4.keep k fun _ e => e.elim⟩
theorem zero_frame (w : World) : (zeroValue 124).run Tryz.prog w = .ok (.pointer none) w := by kernel_rfl
theorem MapOk.look {w : World} {fb : Nat} {B : Int → Prop} (h : MapOk w fb B) (s : Int) : ∃ o : Option Addr, (Instr.lookup 120 (.map (some fb)) (.int .i64 s) false).run Tryz.prog w = .ok (.pointer o) w ∧ (o = none ∨ ∃ f, o = some ⟨f, 0, none⟩ ∧ FrOk w f) := by
  obtain ⟨es, clk, hb, he⟩ := h
  rcases mfind_any (s := s) es.toList 0 (fun e hm => by obtain ⟨k, f, h1, _⟩ := he e hm; exact ⟨k, h1⟩) with h1 | ⟨j, e, hm, h1⟩
  · exact ⟨none, run_lookF_miss _ _ _ _ _ _ _ _ Tryz.underlying120 Tryz.underlying3 hb (zero_frame w) h1, .inl rfl⟩
  · obtain ⟨k, f, _, h2, _, h3⟩ := he e hm
    rw [h2] at h1
    exact ⟨_, run_lookF_hit _ _ _ _ _ _ _ _ _ Tryz.underlying120 Tryz.underlying3 hb h1, .inr ⟨f, rfl, h3⟩⟩
end Go.Proofs.YthnmlklgbggmbaaGreat
