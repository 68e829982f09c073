import Derived.Test.YtkhmfjfclpehfaaGreatBaseZ
import Derived.Laws.AppendOwn
import Derived.Laws.AppendOwnNone
import Derived.WalkKit
import Derived.Handy
import Derived.Test.YtkhmfjfclpehfaaGreatMdAz
import Derived.Test.YtkhmfjfclpehfaaGreatConfGz
import Derived.Test.YtkhmfjfclpehfaaGreatSpecQ
import Derived.Test.YtkhmfjfclpehfaaGreatSchMz
import Derived.Deep.RegionHeld3
import Derived.Deep.RegionLaw
import Derived.Deep.AppendLies
import Derived.Test.YtkhmfjfclpehfaaGreatMdDz
import Derived.Test.YtkhmfjfclpehfaaGreatSchAz
import Derived.Laws.CopyOwn
namespace Go.Proofs.YtkhmfjfclpehfaaGreat
open Go.ChangeShapes Go.WideShapes Go.ChangeAt Go.RowKit
set_option linter.unusedVariables false
set_option linter.unusedSimpArgs false
section
variable {P : Program} {w : World}
end
end Go.Proofs.YtkhmfjfclpehfaaGreat
namespace Go.Proofs.YtkhmfjfclpehfaaGreat
open Go.ChangeShapes Go.WideShapes Go.ChangeAt Go.RowKit
set_option linter.unusedVariables false
set_option linter.unusedSimpArgs false
set_option maxRecDepth 100000
theorem bad_zero {c : CfD} (h : (badOf c).1 = 0) : badOf c = (0, 0, 0) := by
  unfold badOf at h ⊢
  by_cases h1 : (bad1 c).1 = 0
  · rw [if_pos h1] at h ⊢
    by_cases h2 : (bad2 c).1 = 0
    · rw [if_pos h2] at h ⊢
      by_cases h3 : (bad3 c).1 = 0
      · rw [if_pos h3] at h ⊢
        exact eachV_zero h
      · rw [if_neg h3] at h; exact absurd h h3
    · rw [if_neg h2] at h; exact absurd h h2
  · rw [if_neg h1] at h; exact absurd h h1
set_option maxHeartbeats 4000000 in
theorem new_bad (c : CfD) (w : World) (hc : CfIn w c) (ho : c.Ok) (hv : badOf c ≠ (0, 0, 0)) :
    Calls Tryz.prog 7 #[.agg c.cells] w fun e w' => e = .returned (.pointer none) ∧ Keeps (fun _ => False) w w' := by
  have HCK := Lib.hid (fun W (k : Keeps (fun _ => False) w W) => check_any c W (hc.none k) ho)
  have HB := Lib.hid ((Has.start w).alloc (.cells c.cells 26))
  have HV := Lib.hid hv
  clear hc ho hv
  go_enter Tryz.func7, Tryz.ntmps7
  go_wp2_with fail
  refine (HCK.out _ HB.out.keeps).mono ?_
  rintro e1 w1 ⟨rfl, k1⟩
  replace HB := Lib.hid (HB.out.none k1)
  clear k1
  have hz : (badOf c).1 ≠ 0 := fun e => HV.out (bad_zero e)
  generalize badOf c = B at *
  obtain ⟨b0, b1, b2⟩ := B
  have hb0 : (b0 == 0) = false := beq_eq_false_iff_ne.mpr hz
  have hb1 : (b0 = 0) = False := eq_false hz
  clear hz HV
  go_wp2_with fail
  go_ret
  exact ⟨rfl, HB.out.keeps⟩
theorem info_ask : (Tryz.prog.info? 99).map (fun i => (i.zero, i.size, i.bytes)) = some (some (.agg #[.bool false, .int .i64 0, .int .i64 0, .int .u32 0, .int .u32 0, .int .u32 0]), 6, 40) := by kernel_rfl
theorem make_asks (w : World) (n : Nat) (hn : n ≤ 1000) : (Instr.makeSlice 76 (.int .i64 (n : Int)) (.int .i64 (n : Int))).run Tryz.prog w = .ok (.slice (some ⟨w.heap.size, 0, none⟩) n n) (w.alloc (.cells (madeCells #[.bool false, .int .i64 0, .int .i64 0, .int .u32 0, .int .u32 0, .int .u32 0] (n * 6)) 99)) := by
  obtain ⟨i, hi, hz0, hz1, hz2⟩ := info_parts info_ask
  have h := run_make w 76 99 i (.agg #[.bool false, .int .i64 0, .int .i64 0, .int .u32 0, .int .u32 0, .int .u32 0]) Tryz.underlying76 hi hz0 .i64 .i64 (n : Int) (n : Int) (by omega) (by omega) (by rw [hz2]; omega) (by omega)
  rw [hz1] at h
  exact h
theorem asks_new (w : World) (n : Nat) : RecAt (w.alloc (.cells (madeCells #[.bool false, .int .i64 0, .int .i64 0, .int .u32 0, .int .u32 0, .int .u32 0] (n * 6)) 99)) w.heap.size 99 n 6 (fun _ => AskX.no.l) :=
  ⟨_, heap_new w _, Nat.le_of_eq (size_madeCells _ _).symm, fun i hi j v hv => by
    have hj : j < 6 := (List.getElem?_eq_some_iff.1 hv).1
    unfold madeCells
    rw [Array.getElem?_map, Array.getElem?_range, if_pos (by omega)]
    have e : (i * 6 + j) % 6 = j := by omega
    rcases (by omega : j = 0 ∨ j = 1 ∨ j = 2 ∨ j = 3 ∨ j = 4 ∨ j = 5) with rfl | rfl | rfl | rfl | rfl | rfl <;> simp [AskX.no] at hv <;> simp [e, ← hv]⟩
theorem objs_of {c : CfD} {w : World} (hc : CfIn w c) (ho : c.Ok) (hu : ∀ i, i < c.nO → ∀ j, j < 4 → 0 ≤ c.oi i j ∧ c.oi i j < 4294967296) : ObjsArg w c.oa c.nO ((List.range c.nO).map fun i => (c.ob i, c.oi i)) := by
  refine ⟨by simp, ?_, ?_⟩
  · intro p hp
    obtain ⟨i, hi, rfl⟩ := List.mem_map.1 hp
    have hi' : i < c.nO := List.mem_range.1 hi
    exact ⟨fun j hj => ho.ob i hi' j hj, fun j hj => show 0 ≤ c.oi i j ∧ c.oi i j ≤ 4294967295 from ⟨(hu i hi' j hj).1, by have := (hu i hi' j hj).2; omega⟩⟩
  · intro hn
    obtain ⟨b, off, e, hb, h⟩ := hc.o hn
    refine ⟨b, off, e, hb, ?_⟩
    intro k p hk j v hv
    have hk' : k < c.nO := by
      have := (List.getElem?_eq_some_iff.1 hk).1
      simpa using this
    have hp : p = (c.ob k, c.oi k) := by
      rw [List.getElem?_map, List.getElem?_range hk'] at hk
      exact (Option.some.inj hk).symm
    subst hp
    have hj : j < 10 := (List.getElem?_eq_some_iff.1 hv).1
    rw [h k hk' j hj]
    simpa using hv
theorem cfg_box {W : World} {b : Nat} {c : CfD} (h : W.heap[b]? = some (.cells c.cells 26 (0, 0))) : W.cell? ⟨b, 0, none⟩ = some (.slice c.ta c.nT c.tc) ∧ W.cell? ⟨b, 2, none⟩ = some (.slice c.oa c.nO c.oc) := ⟨cell_of h 0, cell_of h 2⟩
theorem below_none {w w' : World} (k : Keeps (fun _ => False) w w') : Below w.heap.size w w' := k.none
theorem ScW.wide {w0 w w' : World} {a : ScA} {M : ScM} (h : ScW w' (fun k => w.heap.size ≤ k) a M) (k : Keeps (fun _ => False) w0 w) : ScW w' (fun k => w0.heap.size ≤ k) a M :=
  ⟨h.blk, h.le, h.task, h.inj, h.live, h.small, h.rank, by obtain ⟨L, h1, h2, h3⟩ := h.delta; exact ⟨L, h1, h2, fun i nd hi => Nat.le_trans k.size (h3 i nd hi)⟩, h.tin, by obtain ⟨N, b, h1, h2, h3, h4⟩ := h.queue; exact ⟨N, b, h1, h2, h3, fun x hx => Nat.le_trans k.size (h4 x hx)⟩, ⟨Nat.le_trans k.size h.low.1, Nat.le_trans k.size h.low.2.1, Nat.le_trans k.size h.low.2.2.1, Nat.le_trans k.size h.low.2.2.2.1, fun t ht => Nat.le_trans k.size (h.low.2.2.2.2 t ht)⟩, fun j hj => Nat.le_trans k.size (h.new j hj), h.cin, h.rin⟩
@[reducible] def akC (n : Nat) : Array Value := madeCells #[.bool false, .int .i64 0, .int .i64 0, .int .u32 0, .int .u32 0, .int .u32 0] (n * 6)
structure NewQ0 (w W : World) (ab g : Nat) (sa : ScA) (c : CfD) : Prop where
  asks : RecAt W ab 99 c.nT 6 (fun _ => AskX.no.l)
  n : sa.n = (newM ((List.range c.nT).map c.tp)).many
  sch : ScW W (fun k => w.heap.size ≤ k) sa (dispM (newM ((List.range c.nT).map c.tp)))
  items : StateAt W g (startP ((List.range c.nO).map fun i => (c.ob i, c.oi i)))
  keeps : Keeps (fun _ => False) w W
  box : W.heap[w.heap.size]? = some (.cells c.cells 26 (0, 0))
  abge : w.heap.size ≤ ab
theorem NewQ0.quiet {w W W' : World} {ab g : Nat} {sa : ScA} {c : CfD} (h : NewQ0 w W ab g sa c) (k : Keeps (fun _ => False) W W') : NewQ0 w W' ab g sa c := ⟨h.asks.keep k fun h => h, h.n, h.sch.quiet k, h.items.below (below_none k), h.keeps.trans k, k.at h.box fun h => h, h.abge⟩
theorem Keeps.farM {w w1 w2 : World} {S : Nat → Prop} (h : Keeps (fun _ => False) w w1) (k : Keeps S w1 w2) (hs : ∀ j, S j → w.heap.size ≤ j) : Keeps (fun _ => False) w w2 :=
  ⟨k.os.trans h.os, k.tape.trans h.tape, k.output.trans h.output, Nat.le_trans h.size k.size, fun j hj _ => (k.block j (Nat.lt_of_lt_of_le hj h.size) (fun e => by have := hs j e; omega)).trans (h.block j hj fun h => h)⟩
theorem own_keepM {w w' : World} {B n size : Nat} {e : TypeId} {v : Value} {xs : List Value} {S : Nat → Prop} (h : w.ownsRow B e size v n xs) (k : Keeps S w w') (hs : ∀ b, v.ownBlock = some b → ¬ S b) : w'.ownsRow B e size v n xs := by
  refine ⟨h.1, ?_⟩
  rcases h.2 with hn | ⟨g, cap, cur, rfl, hb, hg, rest⟩
  · exact .inl hn
  · exact .inr ⟨g, cap, cur, rfl, hb, k.at hg (hs g rfl), rest⟩
theorem own_sliceM {w : World} {base : Nat} {e : TypeId} {size n : Nat} {v : Value} {xs : List Value} (h : w.ownsRow base e size v n xs) : ∃ a c, v = .slice a n c := by
  rcases h.2 with ⟨rfl, rfl⟩ | ⟨g', cap, cur, rfl, _⟩
  · exact ⟨_, _, rfl⟩
  · exact ⟨_, _, rfl⟩
theorem own_tyM {w : World} {B n size : Nat} {e : TypeId} {v : Value} {xs : List Value} (h : w.ownsRow B e size v n xs) {b : Nat} (hb : v.ownBlock = some b) : Ty w b e ∧ B ≤ b := by
  rcases h.2 with ⟨rfl, _⟩ | ⟨g, cap, cur, rfl, hB, hg, rest⟩
  · cases hb
  · have e2 : g = b := by simpa [Value.ownBlock] using hb
    subst e2; exact ⟨⟨_, _, hg⟩, hB⟩
theorem app_afterM {W w4 : World} {B k s : Nat} {e : TypeId} {v : Value} {xs : List Value} {o : Obj} (hown : W.ownsRow B e s v k xs) (hg : ((W.alloc o).drew).grownBy w4 v.ownBlock) : Keeps (fun X => v.ownBlock = some X) W w4 := by
  have k0 := ((Keeps.refl (fun _ => False) W).alloc o).drew
  have hz : ((W.alloc o).drew).heap.size = W.heap.size + 1 := by show (W.alloc o).heap.size = _; rw [World.size_alloc]
  exact ⟨hg.os.trans k0.os, hg.tape.trans k0.tape, hg.output.trans k0.output, Nat.le_trans k0.size hg.size, fun j hj hn => (hg.block j (by omega) (fun h => hn h.symm)).trans (k0.block j hj fun h => h)⟩
def linesX (lr : Nat → Int) : Nat → List Value
  | 0 => []
  | k + 1 => linesX lr k ++ [.int .i64 (lr k), .slice none 0 0, .int .u32 0]
theorem info_line : (Tryz.prog.info? 82).map (fun i => (i.zero, i.size, i.bytes)) = some (some (.agg #[.int .i64 0, .slice none 0 0, .int .u32 0]), 3, 40) := by kernel_rfl
theorem prios_of {c : CfD} {w : World} (hc : CfIn w c) (h0 : 0 < c.nT) : PriosAt w c.ta c.nT ((List.range c.nT).map c.tp) := by
  refine ⟨by simp, fun hn => ?_⟩
  obtain ⟨b, off, e, hb, h⟩ := hc.t hn
  refine ⟨b, off, e, hb, fun k p hk => ?_⟩
  have hk' : k < c.nT := by
    have := (List.getElem?_eq_some_iff.1 hk).1
    simpa using this
  have hp : p = c.tp k := by
    rw [List.getElem?_map, List.getElem?_range hk'] at hk
    exact (Option.some.inj hk).symm
  rw [hp]; exact (h k hk').1
theorem new_many {c : CfD} (h : c.nT ≤ 16) : (newM ((List.range c.nT).map c.tp)).many = c.nT := by
  unfold newM
  rw [adds_many]
  show 0 + (((List.range c.nT).map c.tp).take 16).length = c.nT
  simp; omega
def NewQ (w : World) (c : CfD) (e : Ending) (w' : World) : Prop := ∃ (a : MoA) (g : Nat), e = .returned (.pointer (some ⟨a.m, 0, none⟩)) ∧ MoW w' (fun k => w.heap.size ≤ k) a (dispM (newM ((List.range c.nT).map c.tp))) 0 (fun _ => AskX.no) ∧
  w'.ownsRow a.m 82 3 a.lines c.nL (linesX c.lr c.nL) ∧ w.heap.size ≤ a.ab ∧ w.heap.size ≤ a.m ∧ a.items = .slice (some ⟨g, 0, none⟩) c.nO c.nO ∧ StateAt w' g (startP ((List.range c.nO).map fun i => (c.ob i, c.oi i))) ∧ Keeps (fun _ => False) w w'
set_option maxHeartbeats 8000000 in
theorem new_good (c : CfD) (w : World) (hc : CfIn w c) (ho : c.Ok) (hu : ∀ i, i < c.nO → ∀ j, j < 4 → 0 ≤ c.oi i j ∧ c.oi i j < 4294967296) (hv : badOf c = (0, 0, 0)) :
    Calls Tryz.prog 7 #[.agg c.cells] w (NewQ w c) := by
  have HCK := Lib.hid (fun W (k : Keeps (fun _ => False) w W) => check_any c W (hc.none k) ho)
  have HG := Lib.hid (good_of hv)
  have HST := Lib.hid (fun W (k : Keeps (fun _ => False) w W) => start_any W c.oa c.nO c.oc _ (objs_of (hc.none k) ho hu) (by have := HG.out.o; omega))
  have HSN := Lib.hid (fun W (k : Keeps (fun _ => False) w W) => snew_any W c.ta c.nT c.tc _ (prios_of (hc.none k) HG.out.t1) (by have := HG.out.t; omega))
  have HC := Lib.hid hc
  have HB := Lib.hid ((Has.start w).alloc (.cells c.cells 26))
  rw [hv] at HCK
  have hmk := fun W => make_asks W c.nT (by have := HG.out.t; omega)
  clear hc ho hv hu
  go_enter Tryz.func7, Tryz.ntmps7
  go_wp2_with fail
  refine (HCK.out _ HB.out.keeps).mono ?_
  rintro e1 w1 ⟨rfl, k1⟩
  replace HB := Lib.hid (HB.out.none k1)
  clear k1
  obtain ⟨q0, q1, q2, q3⟩ := four_cells (HB.out.at 0 rfl)
  have lq := lt_of (HB.out.at 0 rfl)
  have HQS := Lib.hid (And.intro q0 (And.intro q1 q2))
  have HM1 := Lib.hid (asks_new w1.drew c.nT)
  go_wp2_with fail
  go_region_held3 (fun w' => w'.cell? ⟨w.heap.size, 0, none⟩ = some (.slice c.ta c.nT c.tc) ∧ w'.cell? ⟨w.heap.size, 2, none⟩ = some (.slice c.oa c.nO c.oc))
    (first
      | exact ⟨HQS.out.1, HQS.out.2.2⟩
      | exact HX3.out
      | exact HX4.out
      | go_keep)
    (first
      | (go_at_call 19; refine (HST.out _ HB.out.keeps.drew).mono ?_; rintro e3 w3 ⟨b3, g3, rfl, hs3⟩; have HT3 := Lib.hid hs3; have HK3 := Lib.hid (HB.out.drew.none (Keeps.ofBelow b3)); have HX3 := Lib.hid (cfg_box (HK3.out.at 0 rfl)); clear b3 hs3)
      | (go_at_call 19; refine (HST.out _ (HB.out.keeps.drew.alloc _)).mono ?_; rintro e3 w3 ⟨b3, g3, rfl, hs3⟩; have HT3 := Lib.hid hs3; have HK3 := Lib.hid ((HB.out.drew.none ((Keeps.refl _ _).alloc _)).none (Keeps.ofBelow b3)); have HX3 := Lib.hid (cfg_box (HK3.out.at 0 rfl)); have HM3 := Lib.hid (HM1.out.keep (Keeps.ofBelow b3) fun h => h); clear b3 hs3)
      | (go_at_call 20; refine (HSN.out _ HK3.out.keeps).mono ?_; rintro e4 w4 ⟨sa, rfl, hn4, hs4, k4⟩; have HT4 := Lib.hid (And.intro hn4 (hs4.wide HK3.out.keeps)); have HK4 := Lib.hid (HK3.out.none k4); have HX4 := Lib.hid (cfg_box (HK4.out.at 0 rfl)); have HI4 := Lib.hid (HT3.out.below (below_none k4)); (try have HM4 := Lib.hid (HM3.out.keep k4 fun h => h)); clear hn4 hs4 k4)
      | (go_at_call 20; refine (HSN.out _ (HK3.out.keeps.alloc _)).mono ?_; rintro e4 w4 ⟨sa, rfl, hn4, hs4, k4⟩; have HT4 := Lib.hid (And.intro hn4 (hs4.wide (HK3.out.keeps.alloc _))); have HK4 := Lib.hid ((HK3.out.none ((Keeps.refl _ _).alloc _)).none k4); have HX4 := Lib.hid (cfg_box (HK4.out.at 0 rfl)); have HI4 := Lib.hid ((HT3.out.below (below_none ((Keeps.refl (fun _ => False) w3).alloc _))).below (below_none k4)); have HM4 := Lib.hid ((asks_new w3 c.nT).keep k4 fun h => h); clear hn4 hs4 k4)
      | fail)
  all_goals
    first
      | (have HFQ := Lib.hid (show NewQ0 w (w4.alloc (.cells (akC c.nT) 99)) w4.heap.size g3 sa c from ⟨asks_new w4 c.nT, HT4.out.1, HT4.out.2.quiet ((Keeps.refl _ _).alloc _), HI4.out.below (below_none ((Keeps.refl (fun _ => False) w4).alloc _)), HK4.out.keeps.alloc _, ((Keeps.refl (fun _ => False) w4).alloc _).at (HK4.out.at 0 rfl) fun h => h, HK4.out.keeps.size⟩); (try clear HM4); generalize hWX : w4.alloc (.cells (akC c.nT) 99) = WX at HFQ ⊢; rw [show w4.heap.size + 1 = WX.heap.size from by rw [← hWX]; simp]; generalize hAB : w4.heap.size = AB at HFQ ⊢)
      | (have HFQ := Lib.hid (show NewQ0 w w4 w3.heap.size g3 sa c from ⟨HM4.out, HT4.out.1, HT4.out.2, HI4.out, HK4.out.keeps, HK4.out.at 0 rfl, HK3.out.keeps.size⟩); generalize hWX : w4 = WX at HFQ ⊢; generalize hAB : w3.heap.size = AB at HFQ ⊢)
      | (have HFQ := Lib.hid (show NewQ0 w w4 w1.heap.size g3 sa c from ⟨HM4.out, HT4.out.1, HT4.out.2, HI4.out, HK4.out.keeps, HK4.out.at 0 rfl, HB.out.keeps.size⟩); generalize hWX : w4 = WX at HFQ ⊢; generalize hAB : w1.heap.size = AB at HFQ ⊢)
    clear hWX hAB
    have hgo := HG.out
    obtain ⟨W0, hW0⟩ : ∃ W, W = WX.alloc (.cells #[.slice (some ⟨g3, 0, none⟩) c.nO c.nO, .pointer (some ⟨sa.s, 0, none⟩), .slice none 0 0, .int .u32 0, .slice (some ⟨AB, 0, none⟩) c.nT c.nT, .map none] 80) := ⟨_, rfl⟩
    rw [← hW0]
    have hm0 : W0.heap[WX.heap.size]? = some (.cells #[.slice (some ⟨g3, 0, none⟩) c.nO c.nO, .pointer (some ⟨sa.s, 0, none⟩), .slice none 0 0, .int .u32 0, .slice (some ⟨AB, 0, none⟩) c.nT c.nT, .map none] 80 (0, 0)) := by rw [hW0]; exact heap_new _ _
    have k0 : Keeps (fun _ => False) WX W0 := by rw [hW0]; exact (Keeps.refl _ WX).alloc _
    have HMB := Lib.hid (show WX.heap.size ≤ WX.heap.size from Nat.le_refl _)
    have hbx := k0.at HFQ.out.box fun h => h
    have q1 := cell_of hbx 1
    have lq := lt_of hbx
    have HLL0 := Lib.hid HC.out.l
    have HN := Lib.hid (show W0.ownsRow WX.heap.size 82 3 (.slice none 0 0) 0 (linesX c.lr 0) from ⟨rfl, .inl ⟨rfl, rfl⟩⟩)
    have HM0 := Lib.hid hm0
    have HK0 := Lib.hid k0
    have HSB := Lib.hid (show WX.heap.size < W0.heap.size from lt_of hm0)
    have HWW := Lib.hid HFQ.out.keeps.size
    generalize hMB : WX.heap.size = MB at *
    have HEQ := Lib.hid hMB
    have hnl := HG.out.l
    clear hMB hW0 k0 hm0 hbx hgo HM1 hmk HQS q0 q2 q3
    go_wp2_with fail
    obtain ⟨LA, hLA⟩ : ∃ LA, LA = c.la := ⟨_, rfl⟩
    have HLL := Lib.hid (show 0 < c.nL → ∃ b off, LA = some ⟨b, off, none⟩ ∧ b < w.heap.size ∧ ∀ i, i < c.nL → w.cell? ⟨b, off + i * 2, none⟩ = some (.int .i64 (c.lr i)) ∧ w.cell? ⟨b, off + i * 2 + 1, none⟩ = some (.slice (c.lca i) (c.ll i) (c.lcc i)) from by rw [hLA]; exact HLL0.out)
    rw [← hLA]
    clear hLA q1 lq HLL0
    go_loopw [25] (fun i wr => ∃ (k : Nat) (v : Value), k ≤ c.nL ∧ i = .int .i64 (k : Int) ∧ wr.heap[MB]? = some (.cells #[.slice (some ⟨g3, 0, none⟩) c.nO c.nO, .pointer (some ⟨sa.s, 0, none⟩), v, .int .u32 0, .slice (some ⟨AB, 0, none⟩) c.nT c.nT, .map none] 80 (0, 0)) ∧ wr.ownsRow MB 82 3 v k (linesX c.lr k) ∧ Keeps (fun _ => False) WX wr) (fun i _ => c.nL - (intOf i).toNat)
    case atStart => exact ⟨0, _, by omega, rfl, HM0.out, HN.out, HK0.out⟩
    case round =>
      obtain ⟨k, v, hk, rfl, hm, hown, hkw⟩ := hrel
      clear HN HM0 HK0 HSB
      by_cases hlt : k < c.nL
      · have dl : decide ((k : Int) < (c.nL : Int)) = true := decide_eq_true (by omega)
        obtain ⟨b, off, rfl, hb, hcell⟩ := HLL.out (by omega)
        have hww := HFQ.out.keeps.trans hkw
        have r0 := (hww.none.cell (p := ⟨b, off + k * 2, none⟩) hb).trans (hcell k hlt).1
        have r1 := (hww.none.cell (p := ⟨b, off + k * 2 + 1, none⟩) hb).trans (hcell k hlt).2
        have lb := Nat.lt_of_lt_of_le hb hww.size
        have HM := Lib.hid hm
        have HOW := Lib.hid hown
        have HKW2 := Lib.hid hkw
        have HLT := Lib.hid hlt
        clear hcell hb hm hown hkw hk hww
        go_wp2_with fail
        obtain ⟨WL, hWL⟩ : ∃ W, W = wr.alloc (.cells #[.int .i64 (c.lr k), .slice (c.lca k) (c.ll k) (c.lcc k)] 58) := ⟨_, rfl⟩
        rw [← hWL]
        have kL : Keeps (fun _ => False) wr WL := by rw [hWL]; exact (Keeps.refl _ wr).alloc _
        have hlv : WL.heap[wr.heap.size]? = some (.cells #[.int .i64 (c.lr k), .slice (c.lca k) (c.ll k) (c.lcc k)] 58 (0, 0)) := by rw [hWL]; exact heap_new _ _
        have HML := Lib.hid (kL.at HM.out fun h => h)
        have HOL := Lib.hid (own_keepM HOW.out kL (fun _ _ h => h))
        have HKWL := Lib.hid (HKW2.out.trans kL)
        have hneM : MB ≠ wr.heap.size := Nat.ne_of_lt (lt_of HM.out)
        clear hWL kL r0 r1 lb
        have z2 := cell_of HML.out 2
        have f2 := free_of HML.out 2
        have lz := lt_of HML.out
        have y0 := cell_of hlv 0
        have ly := lt_of hlv
        obtain ⟨i0, hi, hz0, hz1, hz2⟩ := info_parts info_line
        obtain ⟨va, vc, hva⟩ := own_sliceM HOL.out
        subst hva
        have hsz : MB ≤ WL.heap.size := by rw [← HEQ.out]; exact HKWL.out.size
        have hkl := HLT.out
        clear hlv
        go_region_law
          (first
            | (refine step_append_lies _ rfl (.tmp 33) (.tmp 37) 77 rfl MB 82 i0 (.agg #[.int .i64 0, .slice none 0 0, .int .u32 0]) 3 40 Tryz.underlying77 hi hz0 hz1 hz2 rfl (by decide) (.slice va k vc) k (linesX c.lr k) rfl (HOL.out.alloc _) ⟨WL.heap.size, 0, none⟩ 1 1 [.int .i64 (c.lr k), .slice none 0 0, .int .u32 0] rfl rfl (World.news_of_block (heap_new WL (.cells #[.int .i64 (c.lr k), .slice none 0 0, .int .u32 0] 82))) (by simp [Value.oneCell']) (by decide) (by unfold maxLen; omega) (by omega) (show MB ≤ (WL.alloc _).heap.size from by rw [World.size_alloc]; omega) _ rfl ?_; intro g cap w4 hown4 hgrow hat hlt4; have h4 := Lib.hid (app_afterM (W := WL) HOL.out hgrow); have HM4 := Lib.hid (h4.out.at HML.out (fun e => Ty.ne (own_tyM HOL.out e).1 ⟨_, _, HML.out⟩ (by decide) rfl)); have hw4 := Lib.hid (And.intro hown4 hat); have s2 := cell_of HM4.out 2; have t2 := free_of HM4.out 2; have l4 := lt_of HM4.out; clear hown4 hgrow hat)
            | fail)
        all_goals
          have kS : Keeps (fun X => X = MB) w4 (w4.setCell ⟨MB, 2, none⟩ (.slice (some ⟨g, 0, none⟩) (k + 1) cap)) := (Keeps.refl (fun X => X = MB) w4).setCell (p := ⟨MB, 2, none⟩) (.inl rfl) _
          have hM5 := heap_set HM4.out 2 (.slice (some ⟨g, 0, none⟩) (k + 1) cap)
          have hg4 : g ≠ MB := fun e => Ty.ne (own_tyM hw4.out.1 rfl).1 ⟨_, _, HM4.out⟩ (by decide) e
          have HO5 := Lib.hid (own_keepM hw4.out.1 kS (fun X hX e => hg4 ((show g = X by simpa [Value.ownBlock] using hX).trans e)))
          have HKW5 := Lib.hid ((HKWL.out.farM h4.out (fun X hX => by rw [HEQ.out]; exact (own_tyM HOL.out hX).2)).farM kS (fun X e => by have e' : X = MB := e; rw [e', HEQ.out]; exact Nat.le_refl _))
          have HM5 := Lib.hid hM5
          clear hM5 kS hg4 s2 t2 l4 z2 f2 lz y0 ly hi hz0 hz1 hz2
          go_wp2_with fail
          go_roundw
          case rel => exact ⟨k + 1, _, HLT.out, by go_num, HM5.out, HO5.out, HKW5.out⟩
          case measure => simp [intOf]; have := HLT.out; omega
      · have dl : decide ((k : Int) < (c.nL : Int)) = false := decide_eq_false (by omega)
        have dl2 : decide (k < c.nL) = false := decide_eq_false hlt
        have HKN := Lib.hid (show k = c.nL from by omega)
        have hmf : ∀ (fn : Fn) (first cap : Array Value) (w : World), (Instr.makeFunc fn first cap).run Tryz.prog w = .ok (.func fn first cap) w := fun _ _ _ _ => rfl
        obtain ⟨x0, hx0⟩ : ∃ x, x = wr.alloc (.map #[] 0) := ⟨_, rfl⟩
        have bx0 : x0.heap[wr.heap.size]? = some (.map (movesE MB 0) 0) := by rw [hx0]; exact heap_new _ _
        have kx0 : Keeps (fun _ => False) wr x0 := by rw [hx0]; exact (Keeps.refl _ wr).alloc _
        have hmm2 : (Instr.makeMap 78 none).run Tryz.prog wr = .ok (.map (some wr.heap.size)) x0 := by rw [hx0]; exact run_makeMap _ _
        clear hx0
        obtain ⟨x1, bx1, hx1, ux1⟩ := moves_put MB wr.heap.size 0 1 21 (moves_find1 MB) (moves_push1 MB) x0 bx0
        have kx1 : Keeps (fun _ => False) wr x1 := by rw [hx1]; exact kx0.setMp (.inr (Nat.le_refl _)) _
        clear hx1 kx0 bx0
        obtain ⟨x2, bx2, hx2, ux2⟩ := moves_put MB wr.heap.size 1 2 22 (moves_find2 MB) (moves_push2 MB) x1 bx1
        have kx2 : Keeps (fun _ => False) wr x2 := by rw [hx2]; exact kx1.setMp (.inr (Nat.le_refl _)) _
        clear hx2 kx1 bx1
        obtain ⟨x3, bx3, hx3, ux3⟩ := moves_put MB wr.heap.size 2 3 23 (moves_find3 MB) (moves_push3 MB) x2 bx2
        have kx3 : Keeps (fun _ => False) wr x3 := by rw [hx3]; exact kx2.setMp (.inr (Nat.le_refl _)) _
        clear hx3 kx2 bx2
        obtain ⟨x4, bx4, hx4, ux4⟩ := moves_put MB wr.heap.size 3 4 24 (moves_find4 MB) (moves_push4 MB) x3 bx3
        have kx4 : Keeps (fun _ => False) wr x4 := by rw [hx4]; exact kx3.setMp (.inr (Nat.le_refl _)) _
        clear hx4 kx3 bx3
        obtain ⟨x5, bx5, hx5, ux5⟩ := moves_put MB wr.heap.size 4 5 25 (moves_find5 MB) (moves_push5 MB) x4 bx4
        have kx5 : Keeps (fun _ => False) wr x5 := by rw [hx5]; exact kx4.setMp (.inr (Nat.le_refl _)) _
        clear hx5 kx4 bx4
        obtain ⟨x6, bx6, hx6, ux6⟩ := moves_put MB wr.heap.size 5 6 26 (moves_find6 MB) (moves_push6 MB) x5 bx5
        have kx6 : Keeps (fun _ => False) wr x6 := by rw [hx6]; exact kx5.setMp (.inr (Nat.le_refl _)) _
        clear hx6 kx5 bx5
        obtain ⟨x7, bx7, hx7, ux7⟩ := moves_put MB wr.heap.size 6 7 27 (moves_find7 MB) (moves_push7 MB) x6 bx6
        have kx7 : Keeps (fun _ => False) wr x7 := by rw [hx7]; exact kx6.setMp (.inr (Nat.le_refl _)) _
        clear hx7 kx6 bx6
        obtain ⟨x8, bx8, hx8, ux8⟩ := moves_put MB wr.heap.size 7 8 28 (moves_find8 MB) (moves_push8 MB) x7 bx7
        have kx8 : Keeps (fun _ => False) wr x8 := by rw [hx8]; exact kx7.setMp (.inr (Nat.le_refl _)) _
        clear hx8 kx7 bx7
        obtain ⟨x9, bx9, hx9, ux9⟩ := moves_put MB wr.heap.size 8 9 29 (moves_find9 MB) (moves_push9 MB) x8 bx8
        have kx9 : Keeps (fun _ => False) wr x9 := by rw [hx9]; exact kx8.setMp (.inr (Nat.le_refl _)) _
        clear hx9 kx8 bx8
        have hm9 := kx9.at hm fun h => h
        have z5 := cell_of hm9 5
        have f5 := free_of hm9 5
        have lz := lt_of hm9
        have HM9 := Lib.hid hm9
        have HB9 := Lib.hid bx9
        have HO9 := Lib.hid (own_keepM hown kx9 (fun _ _ h => h))
        have HK9 := Lib.hid (hkw.trans kx9)
        have HML := Lib.hid (lt_of hm)
        clear hm9 bx9 kx9 hm hown hkw hk hlt
        go_wp2_with fail
        go_ret
        have kS : Keeps (fun X => X = MB) x9 (x9.setCell ⟨MB, 5, none⟩ (.map (some wr.heap.size))) := (Keeps.refl (fun X => X = MB) x9).setCell (p := ⟨MB, 5, none⟩) (.inl rfl) _
        have hf := HFQ.out.quiet (HK9.out.farM kS (fun X e => by have e' : X = MB := e; rw [e', HEQ.out]; exact Nat.le_refl _))
        have hmy : (dispM (newM ((List.range c.nT).map c.tp))).many = c.nT := new_many HG.out.t
        have hne : wr.heap.size ≠ MB := Nat.ne_of_gt HML.out
        have hown := own_keepM HO9.out kS (fun X hX e => Ty.ne (own_tyM HO9.out hX).1 ⟨_, _, HM9.out⟩ (by decide) e)
        rw [HKN.out] at hown
        refine ⟨⟨MB, sa, .slice (some ⟨g3, 0, none⟩) c.nO c.nO, v, AB, wr.heap.size⟩, g3, rfl, ⟨?_, kS.at HB9.out hne, hf.sch, hf.n, ?_, fun _ _ => ⟨by decide, by decide⟩⟩, hown, hf.abge, HWW.out, rfl, hf.items, hf.keeps⟩
        · rw [hmy]; exact heap_set HM9.out 5 _
        · rw [hmy]; exact hf.asks
end Go.Proofs.YtkhmfjfclpehfaaGreat
namespace Go.Proofs.YtkhmfjfclpehfaaGreat
open Go.ChangeShapes Go.WideShapes Go.ChangeAt Go.RowKit
set_option linter.unusedVariables false
set_option linter.unusedSimpArgs false
set_option maxRecDepth 100000
@[reducible] def lnL (r : Int) (q : Value) (ov : Int) : List Value := [.int .i64 r, q, .int .u32 ov]
theorem ln_nil (b o : Nat) (w : World) : (binOp .eql 84 (.pointer (some ⟨b, o, none⟩)) (.pointer none)).run Tryz.prog w = .ok (.bool false) w := by kernel_rfl
theorem RecAt.three {w : World} {lb : Nat} {r ov : Int} {q : Value} (h : RecAt w lb 82 1 3 (fun _ => lnL r q ov)) : w.cell? ⟨lb, 0, none⟩ = some (.int .i64 r) ∧ w.cell? ⟨lb, 1, none⟩ = some q ∧ w.cell? ⟨lb, 2, none⟩ = some (.int .u32 ov) := ⟨h.cell (i := 0) (j := 0) (by omega) rfl, h.cell (i := 0) (j := 1) (by omega) rfl, h.cell (i := 0) (j := 2) (by omega) rfl⟩
theorem RecAt.setO {w : World} {lb : Nat} {r ov : Int} {q : Value} (h : RecAt w lb 82 1 3 (fun _ => lnL r q ov)) (o : Int) : RecAt (w.setCell ⟨lb, 2, none⟩ (.int .u32 o)) lb 82 1 3 (fun _ => lnL r q o) := by
  have h3 := h.set (i := 0) (j := 2) (by omega) (by omega) (fun _ _ => rfl) (.int .u32 o)
  exact h3.same fun i hi => by
    obtain rfl : i = 0 := Nat.lt_one_iff.1 hi
    rfl
theorem RecAt.setQ {w : World} {lb : Nat} {r ov : Int} {q : Value} (h : RecAt w lb 82 1 3 (fun _ => lnL r q ov)) (q' : Value) : RecAt (w.setCell ⟨lb, 1, none⟩ q') lb 82 1 3 (fun _ => lnL r q' ov) := by
  have h3 := h.set (i := 0) (j := 1) (by omega) (by omega) (fun _ _ => rfl) q'
  exact h3.same fun i hi => by
    obtain rfl : i = 0 := Nat.lt_one_iff.1 hi
    rfl
set_option maxHeartbeats 4000000 in
theorem line_one (w : World) (P : Nat → Prop) (a : MoA) (M : ScM) (tk : Int) (A : Nat → AskX) (h : MoW w P a M tk A) (lb cap : Nat) (hl : a.lines = .slice (some ⟨lb, 0, none⟩) 1 cap) :
    Calls Tryz.prog 30 #[.pointer (some ⟨a.m, 0, none⟩), .int .i64 1] w fun e w' => e = .returned (.pointer (some ⟨lb, 0, none⟩)) ∧ w' = w := by
  have hb := h.blk
  rw [hl] at hb
  have c2 := cell_of hb 2
  have lm := lt_of hb
  have hn := fun W => mo_nil a.m W
  clear hb h hl
  go_enter Tryz.func30, Tryz.ntmps30
  go_wp2_with fail
  go_ret
  exact ⟨rfl, rfl⟩
set_option maxHeartbeats 4000000 in
theorem over_one (w : World) (P : Nat → Prop) (a : MoA) (M : ScM) (tk : Int) (A : Nat → AskX) (h : MoW w P a M tk A) (lb cap : Nat) (hl : a.lines = .slice (some ⟨lb, 0, none⟩) 1 cap) (r ov : Int) (q : Value) (hr : RecAt w lb 82 1 3 (fun _ => lnL r q ov)) :
    Calls Tryz.prog 17 #[.pointer (some ⟨a.m, 0, none⟩), .int .i64 1] w fun e w' => e = .returned (.int .u32 ov) ∧ w' = w := by
  have HL := Lib.hid (line_one w P a M tk A h lb cap hl)
  have c2 := hr.three.2.2
  have lm := hr.lt
  have hn := fun W => ln_nil lb 0 W
  clear h hl hr
  go_enter Tryz.func17, Tryz.ntmps17
  go_wp2_with fail
  refine HL.out.mono ?_
  rintro e w1 ⟨rfl, hw⟩
  subst hw
  go_wp2_with fail
  go_ret
  exact ⟨rfl, rfl⟩
theorem more_zero (w : World) : Calls Tryz.prog 43 #[.int .u32 0] w fun e w' => e = .returned (.int .u32 1) ∧ w' = w := by
  go_enter Tryz.func43, Tryz.ntmps43
  go_wp2_with fail
  go_ret
  exact ⟨rfl, rfl⟩
theorem read_seven (w : World) : Calls Tryz.prog 46 #[.int .u32 7] w fun e w' => e = .returned (.tuple #[.int .i64 0, .int .u32 7]) ∧ w' = w := by
  go_enter Tryz.func46, Tryz.ntmps46
  go_wp2_with fail
  exact bodyPost_ret (v := .tuple #[.int .i64 0, .int .u32 7]) (by simp [results, Tryz.results46]; kernel_rfl) rfl ⟨rfl, rfl⟩
theorem MoW.lineSet {w : World} {P : Nat → Prop} {a : MoA} {M : ScM} {tk : Int} {A : Nat → AskX} (h : MoW w P a M tk A) {lb : Nat} {F : Nat → List Value} (hr : RecAt w lb 82 1 3 F) (j : Nat) (v : Value) :
    MoW (w.setCell ⟨lb, j, none⟩ v) P a M tk A ∧ Keeps (fun k => k = lb) w (w.setCell ⟨lb, j, none⟩ v) := by
  have kk : Keeps (fun k => k = lb) w (w.setCell ⟨lb, j, none⟩ v) := (Keeps.refl (fun k => k = lb) w).setCell (p := ⟨lb, j, none⟩) (.inl rfl) _
  have kt : KeepsTy [82] w (w.setCell ⟨lb, j, none⟩ v) := kk.mono (fun k _ e => ⟨_, .head _, by obtain rfl : k = lb := e; exact hr.ty⟩)
  exact ⟨⟨kt.at h.blk (by decide), Keeps.at kt h.map fun ⟨T, _, e⟩ => map_no h.map e, h.sch.keepTy kt (by intro T hT; obtain rfl := List.mem_singleton.1 hT; decide), h.n, h.asks.keep kt (fun e => KeepsTy.apart h.asks.ty (by decide) e), h.aok⟩, kk⟩
set_option maxHeartbeats 4000000 in
theorem post_full (w : World) (P : Nat → Prop) (a : MoA) (M : ScM) (tk : Int) (A : Nat → AskX) (h : MoW w P a M tk A) (v : Int) (Z : Nat → Int) (x : AskX) (lb cap : Nat) (hl : a.lines = .slice (some ⟨lb, 0, none⟩) 1 cap) (hP : P lb) (q qc : Nat) (hr : RecAt w lb 82 1 3 (fun _ => lnL 1 (.slice (some ⟨q, 0, none⟩) 1 qc) 0)) : Calls Tryz.prog 22 #[.pointer (some ⟨a.m, 0, none⟩), .agg (moC 2 1 v Z x)] w (MvQ P w (fun f V v l n c g w1 => g = 0 ∧ f = 6 ∧ MoW w1 P a M tk A ∧ RecAt w1 lb 82 1 3 (fun _ => lnL 1 (.slice (some ⟨q, 0, none⟩) 1 qc) 1))) := by
  obtain ⟨P1, hP1⟩ : ∃ W, W = w.alloc (.cells (moC 2 1 v Z x) 45) := ⟨_, rfl⟩
  obtain ⟨W1, hW1⟩ : ∃ W, W = P1.alloc (.cells (outC 0 zV 0 none 0 0) 51) := ⟨_, rfl⟩
  have kP : Keeps (fun _ => False) w P1 := by rw [hP1]; exact (Keeps.refl _ w).alloc _
  have hb1 : P1.heap[w.heap.size]? = some (.cells (moC 2 1 v Z x) 45 (0, 0)) := by rw [hP1]; exact heap_new _ _
  have k1 : Keeps (fun _ => False) w W1 := by rw [hW1]; exact kP.alloc _
  have hb2 : W1.heap[w.heap.size]? = some (.cells (moC 2 1 v Z x) 45 (0, 0)) := by rw [hW1]; exact ((Keeps.refl (fun _ => False) P1).alloc _).at hb1 fun h => h
  have ho : W1.heap[P1.heap.size]? = some (.cells (outC 0 zV 0 none 0 0) 51 (0, 0)) := by rw [hW1]; exact heap_new _ _
  have hq := h.quiet k1
  have HZ := Lib.hid kP.size
  have HB2 := Lib.hid hb2
  have HO := Lib.hid ho
  have HQ := Lib.hid hq
  have HK1 := Lib.hid k1
  have HP1 := Lib.hid hP1
  have HW1 := Lib.hid hW1
  have k1r := HK1.out
  clear hP1 hW1 kP hb1 k1 hb2 ho
  have HL := Lib.hid (fun (W : World) (k : Keeps (fun _ => False) W1 W) => line_one W P a M tk A (hq.quiet k) lb cap hl)
  have HRL := Lib.hid (hr.keep k1r fun h => h)
  have hn := fun W => ln_nil lb 0 W
  have x1 := cell_of HB2.out 1
  have lx := lt_of HB2.out
  have HPL := Lib.hid hP
  clear hq h hl hr hP k1r
  go_enter Tryz.func22, Tryz.ntmps22
  go_wp2_with (first
    | (refine Great.wpList_boxTo rfl 45 (.tmp 1) rfl (some 3) rfl w.heap.size rfl (moC 2 1 v Z x) rfl ?_; rw [← HP1.out])
    | (refine wpList_alloc_as rfl 51 rfl (some 4) rfl P1.heap.size rfl _ (out_zero _) (outC 0 zV 0 none 0 0) rfl ?_; rw [← HW1.out]))
  refine (HL.out _ (Keeps.refl _ W1)).mono ?_
  rintro e w1 ⟨rfl, hw1⟩
  subst hw1
  obtain ⟨r0, r1, r2⟩ := HRL.out.three
  have f2 := HRL.out.free 2
  have lr := HRL.out.lt
  go_wp2_with fail
  refine (more_zero _).mono ?_
  rintro e w2 ⟨rfl, hw2⟩
  subst hw2
  obtain ⟨hm3, kk3⟩ := HQ.out.lineSet HRL.out 2 (.int .u32 1)
  have ho3 := kk3.at HO.out (Ty.ne ⟨_, _, HO.out⟩ HRL.out.ty (by decide))
  have kw3 := kM (kM_none (P := P) HK1.out) (kM_one kk3 HRL.out.ty (by decide) HPL.out)
  obtain ⟨W3, hW3⟩ : ∃ W, W = w2.setCell ⟨lb, 2, none⟩ (.int .u32 1) := ⟨_, rfl⟩
  rw [← hW3] at hm3 ho3 kw3
  have HM3 := Lib.hid hm3
  have HO3 := Lib.hid ho3
  have HK3 := Lib.hid kw3
  have HW3 := Lib.hid hW3
  have HR3 := Lib.hid (show RecAt W3 lb 82 1 3 (fun _ => lnL 1 (.slice (some ⟨q, 0, none⟩) 1 qc) 1) from by rw [hW3]; exact HRL.out.setO 1)
  clear hm3 kk3 ho3 kw3 hW3
  go_wp2_with (first
    | (rw [← HW3.out]; refine wpList_buildTo rfl 51 _ rfl (some 36) rfl (outC 6 zV 0 none 0 0) (by kernel_rfl) ?_)
    | (refine wpList_store_row rfl 51 (.tmp 4) (.tmp 36) rfl P1.heap.size (outC 6 zV 0 none 0 0) rfl rfl 51 _ HO3.out out_info rfl (out_one _ _ _ _ _ _) ?_))
  have kq : KeepsTy [51] W3 (World.setRow W3 P1.heap.size (outC 6 zV 0 none 0 0)) := ((Keeps.refl (fun k => k = P1.heap.size) W3).setRow (.inl rfl) _).mono (fun k _ e => ⟨_, .head _, by obtain rfl : k = P1.heap.size := e; exact ⟨_, _, HO3.out⟩⟩)
  refine bodyPost_ret (v := .tuple #[.agg (outC 6 zV 0 none 0 0), .int .i64 0]) (res_out _ Tryz.results22 _ _ P1.heap.size _ _ rfl rfl rfl (setRow_heap _ _ _ _ _ _ HO3.out)) rfl ?_
  exact ⟨6, zV, 0, none, 0, 0, 0, rfl, ⟨rfl, rfl, HM3.out.out kq, HR3.out.keep kq (fun e => KeepsTy.apart HR3.out.ty (by decide) e)⟩, Keeps.setRow HK3.out (.inr HZ.out) _⟩
theorem app_afterN {W w4 : World} {B k s : Nat} {e : TypeId} {v : Value} {xs : List Value} {o : Obj} (hown : W.ownsRow B e s v k xs) (hg : (W.alloc o).grownBy w4 v.ownBlock) : Keeps (fun X => v.ownBlock = some X) W w4 := by
  have k0 := (Keeps.refl (fun _ => False) W).alloc o
  have hz : (W.alloc o).heap.size = W.heap.size + 1 := by rw [World.size_alloc]
  exact ⟨hg.os.trans k0.os, hg.tape.trans k0.tape, hg.output.trans k0.output, Nat.le_trans k0.size hg.size, fun j hj hn => (hg.block j (by omega) (fun h => hn h.symm)).trans (k0.block j hj fun h => h)⟩
theorem own_oneM {w : World} {B g cap : Nat} {e : TypeId} {u : Value} (h : w.ownsRow B e 1 (.slice (some ⟨g, 0, none⟩) 1 cap) 1 [u]) : ∃ cur, w.heap[g]? = some (.cells cur e (0, 0)) ∧ cur[0]? = some u ∧ 1 ≤ cap := by
  obtain ⟨_, h | ⟨g', cap', cur, e1, _, hb, hcp, _, _, ht⟩⟩ := h
  · exact absurd h.2 (by decide)
  · injection e1 with e2 _ _
    injection e2 with e3
    injection e3 with e4 _ _
    subst e4
    have hc' : cap = cap' := by assumption
    refine ⟨cur, hb, ?_, by omega⟩
    have h0 : (cur.toList.take (1 * 1))[0]? = some u := by rw [ht]; rfl
    rw [List.getElem?_take_of_lt (by decide)] at h0
    rw [← Array.getElem?_toList]; exact h0
theorem info_u32 : (Tryz.prog.info? 34).map (fun i => (i.zero, i.size, i.bytes)) = some (some (.int .u32 0), 1, 4) := by kernel_rfl
theorem make_one (w : World) : (Instr.makeSlice 54 (.int .i64 0) (.int .i64 1)).run Tryz.prog w = .ok (.slice (some ⟨w.heap.size, 0, none⟩) 0 1) (w.alloc (.cells #[.int .u32 0] 34)) := by
  obtain ⟨i, hi, hz0, hz1, hz2⟩ := info_parts info_u32
  have h := run_make w 54 34 i (.int .u32 0) Tryz.underlying54 hi hz0 .i64 .i64 0 1 (by omega) (by omega) (by rw [hz2]; omega) (by omega)
  rw [hz1] at h
  have e : madeCells (Value.cells (.int .u32 0)) ((1 : Int).toNat * 1) = #[.int .u32 0] := by kernel_rfl
  rw [e] at h
  exact h
set_option maxHeartbeats 4000000 in
theorem post_first (w : World) (P : Nat → Prop) (a : MoA) (M : ScM) (tk : Int) (A : Nat → AskX) (h : MoW w P a M tk A) (vv : Int) (Z : Nat → Int) (x : AskX) (lb cap : Nat) (hl : a.lines = .slice (some ⟨lb, 0, none⟩) 1 cap) (hP : P lb) (hr : RecAt w lb 82 1 3 (fun _ => lnL 1 (.slice none 0 0) 0)) : Calls Tryz.prog 22 #[.pointer (some ⟨a.m, 0, none⟩), .agg (moC 2 1 vv Z x)] w (MvQ P w (fun f V v l n c g w1 => g = 0 ∧ f = 0 ∧ MoW w1 P a M tk A ∧ ∃ q qc, RecAt w1 lb 82 1 3 (fun _ => lnL 1 (.slice (some ⟨q, 0, none⟩) 1 qc) 0) ∧ ∃ cur, w1.heap[q]? = some (.cells cur 34 (0, 0)) ∧ cur[0]? = some (.int .u32 vv) ∧ 1 ≤ qc)) := by
  obtain ⟨P1, hP1⟩ : ∃ W, W = w.alloc (.cells (moC 2 1 vv Z x) 45) := ⟨_, rfl⟩
  obtain ⟨W1, hW1⟩ : ∃ W, W = P1.alloc (.cells (outC 0 zV 0 none 0 0) 51) := ⟨_, rfl⟩
  have kP : Keeps (fun _ => False) w P1 := by rw [hP1]; exact (Keeps.refl _ w).alloc _
  have hb1 : P1.heap[w.heap.size]? = some (.cells (moC 2 1 vv Z x) 45 (0, 0)) := by rw [hP1]; exact heap_new _ _
  have k1 : Keeps (fun _ => False) w W1 := by rw [hW1]; exact kP.alloc _
  have hb2 : W1.heap[w.heap.size]? = some (.cells (moC 2 1 vv Z x) 45 (0, 0)) := by rw [hW1]; exact ((Keeps.refl (fun _ => False) P1).alloc _).at hb1 fun h => h
  have ho : W1.heap[P1.heap.size]? = some (.cells (outC 0 zV 0 none 0 0) 51 (0, 0)) := by rw [hW1]; exact heap_new _ _
  have hq := h.quiet k1
  have HZ := Lib.hid kP.size
  have HB2 := Lib.hid hb2
  have HO := Lib.hid ho
  have HQ := Lib.hid hq
  have HK1 := Lib.hid k1
  have HP1 := Lib.hid hP1
  have HW1 := Lib.hid hW1
  have k1r := HK1.out
  clear hP1 hW1 kP hb1 k1 hb2 ho
  have HL := Lib.hid (fun (W : World) (k : Keeps (fun _ => False) W1 W) => line_one W P a M tk A (hq.quiet k) lb cap hl)
  have HRL := Lib.hid (hr.keep k1r fun h => h)
  have hn := fun W => ln_nil lb 0 W
  have x1 := cell_of HB2.out 1
  have lx := lt_of HB2.out
  have HPL := Lib.hid hP
  have hmk := fun W => make_one W
  have hsz : (Tryz.prog.info? 34).map (·.size) = some 1 := by kernel_rfl
  obtain ⟨i0, hi, hz0, hz1, hz2⟩ := info_parts info_u32
  clear hq h hl hr hP k1r
  go_enter Tryz.func22, Tryz.ntmps22
  go_wp2_with (first
    | (refine Great.wpList_boxTo rfl 45 (.tmp 1) rfl (some 3) rfl w.heap.size rfl (moC 2 1 vv Z x) rfl ?_; rw [← HP1.out])
    | (refine wpList_alloc_as rfl 51 rfl (some 4) rfl P1.heap.size rfl _ (out_zero _) (outC 0 zV 0 none 0 0) rfl ?_; rw [← HW1.out]))
  refine (HL.out _ (Keeps.refl _ W1)).mono ?_
  rintro e w1 ⟨rfl, hw1⟩
  subst hw1
  obtain ⟨r0, r1, r2⟩ := HRL.out.three
  have lr := HRL.out.lt
  have x2 := cell_of HB2.out 2
  obtain ⟨W2, hW2⟩ : ∃ W, W = w1.alloc (.cells #[.int .u32 0] 34) := ⟨_, rfl⟩
  have k2 : Keeps (fun _ => False) w1 W2 := by rw [hW2]; exact (Keeps.refl _ w1).alloc _
  have hq2 : W2.heap[w1.heap.size]? = some (.cells #[.int .u32 0] 34 (0, 0)) := by rw [hW2]; exact heap_new _ _
  have hown2 : W2.ownsRow w1.heap.size 34 1 (.slice (some ⟨w1.heap.size, 0, none⟩) 0 1) 0 [] := ⟨rfl, .inr ⟨w1.heap.size, 1, #[.int .u32 0], rfl, Nat.le_refl _, hq2, by omega, by decide, rfl, rfl⟩⟩
  have y0 := (k2.none.cell (p := ⟨lb, 0, none⟩) lr).trans r0
  have y1 := (k2.none.cell (p := ⟨lb, 1, none⟩) lr).trans r1
  have z2 := (k2.none.cell (p := ⟨w.heap.size, 2, none⟩) lx).trans x2
  have ly := Nat.lt_of_lt_of_le lr k2.size
  have lz := Nat.lt_of_lt_of_le lx k2.size
  have HK2 := Lib.hid k2
  have HOW2 := Lib.hid hown2
  have HW2 := Lib.hid hW2
  have hmk2 : (Instr.makeSlice 54 (.int .i64 0) (.int .i64 1)).run Tryz.prog w1 = .ok (.slice (some ⟨w1.heap.size, 0, none⟩) 0 1) W2 := by rw [hW2]; exact hmk _
  have hzz := k2.size
  clear hmk hW2 k2 hq2 hown2
  go_wp2_with (first
    | (refine wpList_copy_nothing rfl (.tmp 41) (.tmp 45) 54 54 rfl 34 Tryz.underlying54 hsz _ _ 0 1 0 0 rfl rfl rfl ?_)
    | (refine wpList_append_lies _ rfl (.tmp 48) (.tmp 51) 54 rfl w1.heap.size 34 i0 (.int .u32 0) 1 4 Tryz.underlying54 hi hz0 hz1 hz2 rfl (by decide) (.slice (some ⟨w1.heap.size, 0, none⟩) 0 1) 0 [] rfl (HOW2.out.alloc _) ⟨W2.heap.size, 0, none⟩ 1 1 [.int .u32 vv] rfl rfl (World.news_of_block (heap_new W2 (.cells #[.int .u32 vv] 34))) (by simp [Value.oneCell']) (by decide) (by decide) (by decide) (show w1.heap.size ≤ (W2.alloc _).heap.size from by rw [World.size_alloc]; omega) _ rfl ?_; intro g cap w4 hown4 hgrow hat hlt4; have HK4 := Lib.hid (HK2.out.farM (app_afterN (W := W2) HOW2.out hgrow) (fun X hX => by have e1 : w1.heap.size = X := by { simpa [Value.ownBlock] using hX }; omega)); have HR4 := Lib.hid (HRL.out.keep HK4.out fun h => h); have HO4 := Lib.hid hown4; have s1 := HR4.out.three.2.1; have u1 := HR4.out.free 1; have l4 := HR4.out.lt; have HQ4 := Lib.hid ((HQ.out.quiet HK4.out).lineSet HR4.out 1 (.slice (some ⟨g, 0, none⟩) (0 + 1) cap)); have HR5 := Lib.hid (HR4.out.setQ (.slice (some ⟨g, 0, none⟩) (0 + 1) cap)); have HO5 := Lib.hid (HQ4.out.2.at (HK4.out.at HO.out fun h => h) (Ty.ne ⟨_, _, HK4.out.at HO.out fun h => h⟩ HR4.out.ty (by decide))); have HK5 := Lib.hid (kM (kM_none (P := P) (HK1.out.trans HK4.out)) (kM_one HQ4.out.2 HR4.out.ty (by decide) HPL.out)); clear hown4 hgrow hat)
    | (refine wpList_buildTo rfl 51 _ rfl (some 55) rfl (outC 0 zV 0 none 0 0) (by kernel_rfl) ?_)
    | (refine wpList_store_row rfl 51 (.tmp 4) (.tmp 55) rfl P1.heap.size (outC 0 zV 0 none 0 0) rfl rfl 51 _ HO5.out out_info rfl (out_one _ _ _ _ _ _) ?_))
  obtain ⟨W5, hW5⟩ : ∃ W, W = w4.setCell ⟨lb, 1, none⟩ (.slice (some ⟨g, 0, none⟩) (0 + 1) cap) := ⟨_, rfl⟩
  have ho5 := HO5.out
  have hq5 := HQ4.out.1
  have hk5 := HK5.out
  have hr5 := HR5.out
  obtain ⟨cur, hcur, hc0, hcp⟩ := own_oneM (show w4.ownsRow _ _ 1 (.slice (some ⟨g, 0, none⟩) 1 cap) 1 [.int .u32 vv] from HO4.out)
  have hc5 := HQ4.out.2.at hcur (Ty.ne ⟨_, _, hcur⟩ HR4.out.ty (by decide))
  rw [← hW5] at ho5 hq5 hk5 hr5 hc5 ⊢
  have kq : KeepsTy [51] W5 (World.setRow W5 P1.heap.size (outC 0 zV 0 none 0 0)) := ((Keeps.refl (fun k => k = P1.heap.size) W5).setRow (.inl rfl) _).mono (fun k _ e => ⟨_, .head _, by obtain rfl : k = P1.heap.size := e; exact ⟨_, _, ho5⟩⟩)
  refine bodyPost_ret (v := .tuple #[.agg (outC 0 zV 0 none 0 0), .int .i64 0]) (res_out _ Tryz.results22 _ _ P1.heap.size _ _ rfl rfl rfl (setRow_heap _ _ _ _ _ _ ho5)) rfl ?_
  exact ⟨0, zV, 0, none, 0, 0, 0, rfl, ⟨rfl, rfl, hq5.out kq, ⟨g, cap, hr5.keep kq (fun e => KeepsTy.apart hr5.ty (by decide) e), cur, kq.at hc5 (by decide), hc0, hcp⟩⟩, Keeps.setRow hk5 (.inr HZ.out) _⟩
end Go.Proofs.YtkhmfjfclpehfaaGreat
