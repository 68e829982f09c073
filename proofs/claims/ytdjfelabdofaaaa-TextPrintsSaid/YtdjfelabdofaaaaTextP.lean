import Derived.Test.YtdjfelabdofaaaaTextR
namespace Go.Proofs.Ytdjfelabdofaaaa
open Go.ChangeShapes Go.WideShapes Go.ChangeAt Go.RowKit
set_option linter.unusedVariables false
set_option linter.unusedSimpArgs false
/-- An object's ten numbers. -/
def objL (c : CfD) (k : Nat) : List Int := [c.ob k 0, c.ob k 1, c.ob k 2, c.ob k 3, c.ob k 4, c.ob k 5, c.oi k 0, c.oi k 1, c.oi k 2, c.oi k 3]
theorem objL_at (c : CfD) (k : Nat) : ∀ i, i < 10 → (cellsI (objL c k))[i]? = some (.int .i64 (objF c k i))
  | 0, _ => rfl
  | 1, _ => rfl
  | 2, _ => rfl
  | 3, _ => rfl
  | 4, _ => rfl
  | 5, _ => rfl
  | 6, _ => rfl
  | 7, _ => rfl
  | 8, _ => rfl
  | 9, _ => rfl
  | i + 10, h => by omega
theorem own_six (w : World) (B : Nat) (e : TypeId) (x0 x1 x2 x3 x4 x5 : Value) (hB : B ≤ w.heap.size) : (w.alloc (.cells #[x0, x1, x2, x3, x4, x5] e)).ownsRow B e 1 (.slice (some ⟨w.heap.size, 0, none⟩) 6 6) 6 [x0, x1, x2, x3, x4, x5] :=
  ⟨rfl, Or.inr ⟨w.heap.size, 6, _, rfl, hB, heap_new w _, Nat.le_refl _, by unfold maxLen; omega, rfl, rfl⟩⟩
theorem index_o (w : World) (c : CfD) (j : Nat) : ∀ k : Nat, k < 4 → (Instr.index 57 (.agg #[.int .u32 (c.oi j 0), .int .u32 (c.oi j 1), .int .u32 (c.oi j 2), .int .u32 (c.oi j 3)]) (.int .i64 (k : Int))).run Try.prog w = .ok (.int .u32 (c.oi j k)) w
  | 0, _ => by kernel_rfl
  | 1, _ => by kernel_rfl
  | 2, _ => by kernel_rfl
  | 3, _ => by kernel_rfl
  | k + 4, h => by omega
theorem objL_take (c : CfD) (k m : Nat) (hm : m < 4) : (objL c k).take (6 + (m + 1)) = (objL c k).take (6 + m) ++ [c.oi k m] := by
  rcases (show m = 0 ∨ m = 1 ∨ m = 2 ∨ m = 3 by omega) with rfl | rfl | rfl | rfl <;> rfl
theorem TX.below {w w' : World} {B : Nat} {c : CfD} {TC LC : Nat → List CallD} {A : Option Addr} {N : Nat} {F : Nat → Int} (h : TX w B c TC LC A N F) (k : Below w.heap.size w w') : TX w' B c TC LC A N F := h.keeps (below_keeps k)
theorem own_ints {W : World} {B n : Nat} {v : Value} {l : List Int} {F : Nat → Int} {E : TypeId} (h : W.ownsRow B E 1 v n (cellsI l)) (hn : 0 < n) (h1 : n ≤ 1000) (hF : ∀ i, i < n → -9223372036854775808 ≤ F i ∧ F i ≤ 9223372036854775807) (hl : ∀ i, i < n → (cellsI l)[i]? = some (.int .i64 (F i))) :
    ∃ A c, v = .slice A n c ∧ IntsAt W A n F := by
  rcases h.2 with ⟨_, h0⟩ | ⟨g, cap, cur, rfl, hg, hh, h2, h3, h4, h5⟩
  · omega
  · refine ⟨_, _, rfl, h1, hF, g, 0, rfl, lt_of hh, fun i hi => ?_⟩
    rw [Nat.zero_add, cell_of hh i]
    have := hl i hi
    rw [← h5, Nat.mul_one, List.getElem?_take_of_lt hi] at this
    rw [← this]
    simp
theorem builder_lt {T e : TypeId} {B b : Nat} {bs : List Value} {w : World} (h : Lib.IsBuilder T e B b bs w) : b < w.heap.size := by
  rcases h with ⟨_, v, hb, _⟩ | ⟨_, v, hb, _⟩
  · exact lt_of hb
  · exact lt_of hb
theorem litsT (c : CfD) (k : Nat) : ∀ i, i < 2 → (#[.int .i64 (c.tp k), .int .i64 (if c.tb k then 1 else 0)] : Array Value)[i]? = some (.int .i64 (tskF c k i))
  | 0, _ => rfl
  | 1, _ => rfl
  | i + 2, h => by omega
theorem lits1 (x : Int) : ∀ i, i < 1 → (#[.int .i64 x] : Array Value)[i]? = some (.int .i64 ((fun _ => x : Nat → Int) i))
  | 0, _ => rfl
  | i + 1, h => by omega
theorem arr_at1 (W : World) (cs : Array Value) (T : TypeId) (n : Nat) (F : Nat → Int) (h : ∀ i, i < n → cs[i]? = some (.int .i64 (F i))) (i : Nat) (hi : i < n) :
    (W.alloc (.cells cs T)).cell? ⟨W.heap.size, 0 + i, none⟩ = some (.int .i64 (F i)) := by
  rw [Nat.zero_add]
  exact (cell_of (heap_new W (.cells cs T)) i).trans (h i hi)
theorem two_cells' {w : World} {g : Nat} {x y : Value} {E : TypeId} (h : w.heap[g]? = some (.cells #[x, y] E (0, 0))) :
    w.cell? ⟨g, 0, none⟩ = some x ∧ w.cell? ⟨g, 1, none⟩ = some y := ⟨cell_of h 0, cell_of h 1⟩
set_option maxRecDepth 100000 in
set_option maxHeartbeats 4000000 in
theorem text_any (w : World) (c : CfD) (TC LC : Nat → List CallD) (A : Option Addr) (N CC : Nat) (F : Nat → Int) (hx : TxIn w c TC LC) (hch : ChAt w A N F) (hs : TxS c N F) (hNC : N ≤ CC) (hCC : CC ≤ maxLen) :
    Calls Try.prog 7 #[.agg c.cells, .slice A N CC] w fun e w' => e = .returned (.string ⟨(textT c TC LC N F).toArray⟩) ∧ Below w.heap.size w w' := by
  obtain ⟨i0, hi, hz0, hz1, hz2⟩ := info_parts info_int
  have HI := Lib.hid (And.intro hi (And.intro hz0 (And.intro hz1 hz2)))
  clear hi hz0 hz1 hz2
  have hmf : ∀ (fn : Fn) (first cap : Array Value) (w : World), (Instr.makeFunc fn first cap).run Try.prog w = .ok (.func fn first cap) w := fun _ _ _ _ => rfl
  have hcf : ∀ (args : Array Value) (w : World), Sem.run Try.prog (callFunc 16 args) w = .ok (.enter 16 args) w := fun _ _ => by go_simp
  have k0 := (Keeps.refl (fun _ => False) w).alloc (.cells c.cells 26)
  have HX0 := Lib.hid (show TX (w.alloc (.cells c.cells 26)) w.heap.size c TC LC A N F from ⟨heap_new w _, hx.keeps k0, hch.keeps k0⟩)
  have HK0 := Lib.hid k0.none
  have HS := Lib.hid hs
  have HOL := Lib.hid (objT_len hs.ok)
  have HTL := Lib.hid (tskT_len hs.ok hx hs.tl)
  have HLL := Lib.hid (lvlT_len hs.ok hx hs.ll)
  have HCL := Lib.hid (chT_len hs.f)
  have hnO := hs.o
  have hnT := hs.t
  have hnL := hs.l
  have hN := hs.n
  have HBN := Lib.hid (builder_new (w.alloc (.cells c.cells 26)) 48 5)
  have HBB := Lib.hid ((Below.refl (w.heap.size + 1) (w.alloc (.cells c.cells 26))).alloc (by rw [World.size_alloc]; exact Nat.le_refl _) (.cells #[.pointer none, .slice none 0 0] 48))
  have HZ0 := Lib.hid (World.size_alloc w (.cells c.cells 26))
  rw [HZ0.out] at HBN
  clear k0 hx hch hs
  go_enter Try.func7, Try.ntmps7
  obtain ⟨w0, hw0⟩ : ∃ w0, w0 = w.alloc (.cells c.cells 26) := ⟨_, rfl⟩
  have HW0 := Lib.hid hw0
  have HE0 := Lib.hid (four_cells (HX0.out.below (Below.refl _ _ |>.alloc (Nat.le_refl _) (.cells #[.pointer none, .slice none 0 0] 48))).box)
  obtain ⟨e0, e1, e2, e3⟩ := HE0.out
  clear HE0
  go_wp2_with fail
  rw [← hw0] at HX0 HK0 HBN HBB HZ0 e0 e1 e2 e3 ⊢
  clear hw0
  clear hmf
  have HD := Lib.hid (fun (wr : World) (h : Below (w.heap.size + 1) w0 wr) => HX0.out.below (by rw [HZ0.out]; exact h))
  clear HX0
  go_loopw [22] (fun i wr => ∃ (k : Nat) (T : List UInt8), k ≤ c.nO ∧ i = .int .i64 (k : Int) ∧ T = objT c k ∧ Lib.IsBuilder 48 5 (w.heap.size + 1) (w.heap.size + 1) (Lib.byteCells T) wr ∧ Below (w.heap.size + 1) w0 wr) (fun i _ => c.nO - (intOf i).toNat)
  case atStart => exact ⟨0, [], by omega, rfl, rfl, HBN.out, HBB.out⟩
  case round =>
    obtain ⟨k, T, hk, rfl, hT, hbld, hbel⟩ := hrel
    obtain ⟨wp, rfl⟩ : ∃ wp : World, wp = wr := ⟨_, rfl⟩
    clear HBN HBB
    have hTl : T.length ≤ 8000 := by have h := HOL.out k hk; rw [← hT] at h; omega
    have HT := Lib.hid hT
    have HB := Lib.hid (And.intro hbld hbel)
    have HX := Lib.hid (HD.out wp hbel)
    have hsz : w.heap.size + 1 ≤ wp.heap.size := by have := hbel.size; rw [HZ0.out] at this; exact this
    obtain ⟨e0, e1, e2, e3⟩ := four_cells HX.out.box
    clear hbld hbel hT
    by_cases hlt : k < c.nO
    · obtain ⟨b, off, hoa, hb, c0, c1, c2, c3, c4, c5, c6, c7, c8, c9⟩ := obj_cells HX.out.tx.cf hlt
      rw [hoa]
      clear hoa
      have b0 := HS.out.ok.oi k hlt 0 (by omega); have b1 := HS.out.ok.oi k hlt 1 (by omega); have b2 := HS.out.ok.oi k hlt 2 (by omega); have b3 := HS.out.ok.oi k hlt 3 (by omega)
      go_wp2_with fail
      obtain ⟨wo, hwo⟩ : ∃ wo : World, wo = wp.alloc (.cells #[.int .i64 (c.ob k 0), .int .i64 (c.ob k 1), .int .i64 (c.ob k 2), .int .i64 (c.ob k 3), .int .i64 (c.ob k 4), .int .i64 (c.ob k 5), .int .u32 (c.oi k 0), .int .u32 (c.oi k 1), .int .u32 (c.oi k 2), .int .u32 (c.oi k 3)] 59) := ⟨_, rfl⟩
      have hzo : wo.heap.size = wp.heap.size + 1 := by rw [hwo, World.size_alloc]
      have HBo := Lib.hid (show Below wp.heap.size wp wo by rw [hwo]; exact (Below.refl _ wp).alloc (Nat.le_refl _) _)
      have HO1 := Lib.hid (own_six wo (wp.heap.size + 1) 3 (.int .i64 (c.ob k 0)) (.int .i64 (c.ob k 1)) (.int .i64 (c.ob k 2)) (.int .i64 (c.ob k 3)) (.int .i64 (c.ob k 4)) (.int .i64 (c.ob k 5)) (by omega))
      rw [hzo] at HO1
      rw [← hwo]
      have HZO := Lib.hid hzo
      have HB1 := Lib.hid ((Below.refl (wp.heap.size + 1) wo).alloc (by omega) (.cells #[.int .i64 (c.ob k 0), .int .i64 (c.ob k 1), .int .i64 (c.ob k 2), .int .i64 (c.ob k 3), .int .i64 (c.ob k 4), .int .i64 (c.ob k 5)] 3))
      have HIX := Lib.hid (fun w => index_o w c k)
      have HOI := Lib.hid (fun m (hm : m < 4) => HS.out.ok.oi k hlt m hm)
      clear hwo hzo c0 c1 c2 c3 c4 c5 c6 c7 c8 c9 b0 b1 b2 b3
      go_loopw [9, 41] (fun v i wr => ∃ m : Nat, m ≤ 4 ∧ i = .int .i64 (m : Int) ∧ wr.ownsRow (wp.heap.size + 1) 3 1 v (6 + m) (cellsI ((objL c k).take (6 + m))) ∧ Below (wp.heap.size + 1) wo wr) (fun _ i _ => 4 - (intOf i).toNat)
      case atStart => exact ⟨0, by omega, rfl, HO1.out, HB1.out⟩
      case round =>
        obtain ⟨m, hm, rfl, hown, hB⟩ := hrel
        have hwz : wp.heap.size + 1 ≤ wr.heap.size := by have := hB.size; have := HZO.out; omega
        have HJ := Lib.hid (And.intro hown hB)
        by_cases hlm : m < 4
        · have hix := HIX.out wr m hlm
          have hx := HOI.out m hlm
          have HT2 := Lib.hid (objL_take c k m hlm)
          generalize c.oi k m = x at hix hx HT2
          obtain ⟨hi, hz0, hz1, hz2⟩ := HI.out
          clear hB
          go_wp2_with (at_builtin; refine wpList_append_own _ rfl _ _ 27 rfl (wp.heap.size + 1) 3 i0 (.int .i64 0) 1 8 Try.underlying27 hi hz0 hz1 hz2 rfl (by decide) _ _ _ rfl (hown.alloc _) ⟨wr.heap.size, 0, none⟩ 1 1 [.int .i64 x] rfl rfl ?c1 ?c2 ?c3 ?c4 ?c5 ?_)
          case c1 => exact cell_one_new _ _ _
          case c2 => simp [Value.oneCell']
          case c3 => unfold maxLen; omega
          case c4 => omega
          case c5 => simp; omega
          intro v' w4 hown' hgrow _
          obtain ⟨g', cap', rfl⟩ := ownsRow_succ hown'
          have HWW := Lib.hid (And.intro hown' ((HJ.out.2.alloc (by have := HZO.out; omega) _).grown hgrow (by simp; have := HZO.out; omega) (fun j hj => (hown.lt j hj).1)))
          clear hown hown' hgrow hi hz0 hz1 hz2 hix
          go_wp2_with fail
          go_roundw
          case rel =>
            refine ⟨m + 1, by omega, by go_num, ?_, HWW.out.2⟩
            have h := HWW.out.1
            rw [HT2.out, cellsI_snoc]
            exact h
          case measure => simp [intOf]; omega
        · obtain rfl : m = 4 := by omega
          clear hB
          obtain ⟨A', c', rfl, hia⟩ := own_ints (F := objF c k) hown (by omega) (by omega) (fun i hi => objF_ok HS.out.ok hlt i hi) (fun i hi => objL_at c k i hi)
          have HIA := Lib.hid hia
          have HK2 := Lib.hid (HBo.out.trans (HJ.out.2.mono (Nat.le_succ _)))
          have HBQ := Lib.hid (builder_keeps HB.out.1 (below_keeps HK2.out))
          have HTO := Lib.hid (show objT c (k + 1) = T ++ rowT hObj (objF c k) 10 by rw [HT.out]; rfl)
          clear hown hia hlm
          go_wp2_with fail
          refine (prow_any wr (w.heap.size + 1) (w.heap.size + 1) (Lib.byteCells T) hObj A' 10 c' (objF c k) HBQ.out (by rw [byteCells_len]; omega) (by decide) HIA.out (by omega)).mono ?_
          rintro e2 w2 ⟨rfl, hb2, k2, q2⟩
          rw [← byteCells_app, ← HTO.out] at hb2
          have HW := Lib.hid (And.intro hb2 ((HB.out.2.trans (HK2.out.mono hsz)).trans k2))
          clear hb2 k2 q2
          go_wp2_with fail
          go_roundw
          case rel => exact ⟨k + 1, _, hlt, by go_num, rfl, HW.out.1, HW.out.2⟩
          case measure => simp [intOf]; omega
    · obtain rfl : k = c.nO := by omega
      clear hlt
      have htk := HS.out.ok.ok.tick
      have HTO := Lib.hid (show T ++ rowT hTick (fun _ => c.tick) 1 = headT c by rw [HT.out]; rfl)
      have hHl : (headT c).length ≤ 9000 := by rw [← HTO.out, List.length_append]; have := rowT_len hTick (fun _ => c.tick) 1 (by decide) (fun _ _ => htk); omega
      go_wp2_with fail
      refine (prow_any _ (w.heap.size + 1) (w.heap.size + 1) (Lib.byteCells T) hTick (some ⟨wp.heap.size, 0, none⟩) 1 1 (fun _ => c.tick) (builder_keeps HB.out.1 ((Keeps.refl (fun _ => False) wp).alloc _)) (by rw [byteCells_len]; omega) (by decide) ⟨by omega, fun _ _ => htk, _, _, rfl, by rw [World.size_alloc]; omega, fun i hi => arr_at1 _ _ _ 1 (fun _ => c.tick) (lits1 c.tick) i hi⟩ (by rw [World.size_alloc]; omega)).mono ?_
      rintro e2 w2 ⟨rfl, hb2, k2, q2⟩
      rw [← byteCells_app, HTO.out] at hb2
      generalize hH : headT c = H at hb2 hHl
      have HH := Lib.hid hH
      have HW := Lib.hid (And.intro hb2 ((HB.out.2.alloc hsz _).trans k2))
      clear hb2 k2 q2 hH HTO HT hTl HB e0 e1 e2 e3
      have HX2 := Lib.hid (HD.out w2 HW.out.2)
      obtain ⟨e0, e1, e2, e3⟩ := four_cells HX2.out.box
      clear HX
      go_wp2_with fail
      go_loopw [62] (fun i wr => ∃ (k : Nat) (T : List UInt8), k ≤ c.nT ∧ i = .int .i64 (k : Int) ∧ T = H ++ tskT c TC k ∧ Lib.IsBuilder 48 5 (w.heap.size + 1) (w.heap.size + 1) (Lib.byteCells T) wr ∧ Below (w.heap.size + 1) w0 wr) (fun i _ => c.nT - (intOf i).toNat)
      case atStart => exact ⟨0, H, by omega, rfl, (List.append_nil _).symm, HW.out.1, HW.out.2⟩
      case round =>
        obtain ⟨k, T, hk, rfl, hT, hbld, hbel⟩ := hrel
        clear HW HX2 e0 e1 e2 e3
        have hTl : T.length ≤ 300000 := by have h := HTL.out k hk; rw [hT, List.length_append]; omega
        have HT := Lib.hid hT
        have HB := Lib.hid (And.intro hbld hbel)
        have hlp := builder_lt hbld
        have HX := Lib.hid (HD.out wr hbel)
        have hsz : w.heap.size + 1 ≤ wr.heap.size := by omega
        obtain ⟨e0, e1, e2, e3⟩ := four_cells HX.out.box
        clear hbld hbel hT
        by_cases hlt : k < c.nT
        · obtain ⟨b, off, hoa, hb, c0, c1, c2⟩ := tsk_cells HX.out.tx.cf hlt
          rw [hoa]
          clear hoa
          have hcd := HX.out.tx.tc k hlt
          have h7 := HS.out.tl k hlt
          have hAl : (allC (TC k)).length ≤ 10850 := by have := allC_len (TC k) hcd.2.1; rw [hcd.1] at this; omega
          have HRl := rowT_len hTask (tskF c k) 2 (by decide) (fun i _ => tskF_ok HS.out.ok hlt i)
          have HRS := Lib.hid (str_size (allC (TC k)))
          have HSC := Lib.hid (strCells_mk (allC (TC k)))
          have HTO := Lib.hid (show T ++ rowT hTask (tskF c k) 2 ++ allC (TC k) = H ++ tskT c TC (k + 1) by rw [HT.out, List.append_assoc, List.append_assoc]; rfl)
          have HLT := Lib.hid (litsT c k)
          generalize hbv : c.tb k = bv at c1 HLT
          clear hcd hbv
          cases bv
          · go_wp2_with fail
            refine (prow_any _ (w.heap.size + 1) (w.heap.size + 1) (Lib.byteCells T) hTask (some ⟨wr.heap.size + 1, 0, none⟩) 2 2 (tskF c k) (builder_keeps HB.out.1 (((Keeps.refl (fun _ => False) wr).alloc _).alloc _)) (by rw [byteCells_len]; omega) (by decide) ⟨by omega, fun i hi => tskF_ok HS.out.ok hlt i, _, _, rfl, by rw [World.size_alloc, World.size_alloc]; omega, fun i hi => arr_at _ _ _ _ _ _ (fun i hi => by have h := HLT.out i hi; exact h) i hi⟩ (by rw [World.size_alloc, World.size_alloc]; omega)).mono ?_
            rintro e2 w2 ⟨rfl, hb2, k2, q2⟩
            rw [← byteCells_app] at hb2
            have hblk : w2.heap[wr.heap.size]? = some (.cells #[.int .i64 (c.tp k), .bool false, .slice (c.tca k) (c.tl k) (c.tcc k)] 42 (0, 0)) := q2 _ _ _ (by omega) (by decide) (heap_old (heap_new wr _) _)
            obtain ⟨_, _, d2⟩ := three_cells' hblk
            have HK2 := Lib.hid (((HB.out.2.alloc hsz _).alloc (by rw [World.size_alloc]; omega) _).trans k2)
            have HX2 := Lib.hid (HD.out w2 HK2.out)
            have HW := Lib.hid hb2
            have hz2 : w.heap.size + 1 ≤ w2.heap.size := by have := HK2.out.size; rw [HZ0.out] at this; exact this
            clear hb2 k2 q2 hblk
            go_wp2_with fail
            refine (allc_at w2 (c.tca k) (c.tl k) (c.tcc k) (TC k) (HX2.out.tx.tc k hlt) h7).mono ?_
            rintro e3 w3 ⟨rfl, k3⟩
            have HW3 := Lib.hid (And.intro (builder_keeps HW.out (below_keeps k3)) (HK2.out.trans (k3.mono hz2)))
            have hz3 : w.heap.size + 1 ≤ w3.heap.size := Nat.le_trans hz2 k3.size
            clear k3 d2
            go_wp2_with fail
            refine (writes_any _ _ _ _ _ HW3.out.1 (by rw [byteCells_len, HRS.out, List.length_append]; omega) hz3).mono ?_
            rintro e4 w4 ⟨rfl, hb4, k4⟩
            rw [HSC.out, ← byteCells_app, HTO.out] at hb4
            have HW4 := Lib.hid (And.intro (Or.inr hb4 : Lib.IsBuilder 48 5 (w.heap.size + 1) (w.heap.size + 1) _ w4) (HW3.out.2.trans k4))
            clear hb4 k4
            go_wp2_with fail
            go_roundw
            case rel => exact ⟨k + 1, _, hlt, by go_num, rfl, HW4.out.1, HW4.out.2⟩
            case measure => simp [intOf]; omega
          · go_wp2_with fail
            refine (prow_any _ (w.heap.size + 1) (w.heap.size + 1) (Lib.byteCells T) hTask (some ⟨wr.heap.size + 1, 0, none⟩) 2 2 (tskF c k) (builder_keeps HB.out.1 (((Keeps.refl (fun _ => False) wr).alloc _).alloc _)) (by rw [byteCells_len]; omega) (by decide) ⟨by omega, fun i hi => tskF_ok HS.out.ok hlt i, _, _, rfl, by rw [World.size_alloc, World.size_alloc]; omega, fun i hi => arr_at _ _ _ _ _ _ (fun i hi => by have h := HLT.out i hi; exact h) i hi⟩ (by rw [World.size_alloc, World.size_alloc]; omega)).mono ?_
            rintro e2 w2 ⟨rfl, hb2, k2, q2⟩
            rw [← byteCells_app] at hb2
            have hblk : w2.heap[wr.heap.size]? = some (.cells #[.int .i64 (c.tp k), .bool true, .slice (c.tca k) (c.tl k) (c.tcc k)] 42 (0, 0)) := q2 _ _ _ (by omega) (by decide) (heap_old (heap_new wr _) _)
            obtain ⟨_, _, d2⟩ := three_cells' hblk
            have HK2 := Lib.hid (((HB.out.2.alloc hsz _).alloc (by rw [World.size_alloc]; omega) _).trans k2)
            have HX2 := Lib.hid (HD.out w2 HK2.out)
            have HW := Lib.hid hb2
            have hz2 : w.heap.size + 1 ≤ w2.heap.size := by have := HK2.out.size; rw [HZ0.out] at this; exact this
            clear hb2 k2 q2 hblk
            go_wp2_with fail
            refine (allc_at w2 (c.tca k) (c.tl k) (c.tcc k) (TC k) (HX2.out.tx.tc k hlt) h7).mono ?_
            rintro e3 w3 ⟨rfl, k3⟩
            have HW3 := Lib.hid (And.intro (builder_keeps HW.out (below_keeps k3)) (HK2.out.trans (k3.mono hz2)))
            have hz3 : w.heap.size + 1 ≤ w3.heap.size := Nat.le_trans hz2 k3.size
            clear k3 d2
            go_wp2_with fail
            refine (writes_any _ _ _ _ _ HW3.out.1 (by rw [byteCells_len, HRS.out, List.length_append]; omega) hz3).mono ?_
            rintro e4 w4 ⟨rfl, hb4, k4⟩
            rw [HSC.out, ← byteCells_app, HTO.out] at hb4
            have HW4 := Lib.hid (And.intro (Or.inr hb4 : Lib.IsBuilder 48 5 (w.heap.size + 1) (w.heap.size + 1) _ w4) (HW3.out.2.trans k4))
            clear hb4 k4
            go_wp2_with fail
            go_roundw
            case rel => exact ⟨k + 1, _, hlt, by go_num, rfl, HW4.out.1, HW4.out.2⟩
            case measure => simp [intOf]; omega
        · obtain rfl : k = c.nT := by omega
          clear hlt
          generalize hH2 : H ++ tskT c TC c.nT = H2 at HT
          have hH2l : H2.length ≤ 300000 := by rw [← HT.out]; omega
          have HH2 := Lib.hid hH2
          clear hH2
          go_wp2_with fail
          go_loopw [82] (fun i wr => ∃ (k : Nat) (T : List UInt8), k ≤ c.nL ∧ i = .int .i64 (k : Int) ∧ T = H2 ++ lvlT c LC k ∧ Lib.IsBuilder 48 5 (w.heap.size + 1) (w.heap.size + 1) (Lib.byteCells T) wr ∧ Below (w.heap.size + 1) w0 wr) (fun i _ => c.nL - (intOf i).toNat)
          case atStart => exact ⟨0, T, by omega, rfl, by rw [HT.out]; exact (List.append_nil _).symm, HB.out.1, HB.out.2⟩
          case round =>
            clear HT hTl
            obtain ⟨k, T, hk, rfl, hT, hbld, hbel⟩ := hrel
            clear HX HB e0 e1 e2 e3 hlp hsz
            have hTl : T.length ≤ 800000 := by have h := HLL.out k hk; rw [hT, List.length_append]; omega
            have HT := Lib.hid hT
            have HB := Lib.hid (And.intro hbld hbel)
            have hlp := builder_lt hbld
            have HX := Lib.hid (HD.out wr hbel)
            have hsz : w.heap.size + 1 ≤ wr.heap.size := by omega
            obtain ⟨e0, e1, e2, e3⟩ := four_cells HX.out.box
            clear hbld hbel hT
            by_cases hlt : k < c.nL
            · obtain ⟨b, off, hoa, hb, c0, c1⟩ := lvl_cells HX.out.tx.cf hlt
              rw [hoa]
              clear hoa
              have hcd := HX.out.tx.lc k hlt
              have h7 := HS.out.ll k hlt
              have hlr := HS.out.ok.ok.lr k hlt
              have hAl : (allC (LC k)).length ≤ 10850 := by have := allC_len (LC k) hcd.2.1; rw [hcd.1] at this; omega
              have HRl := rowT_len hLvl (fun _ => c.lr k) 1 (by decide) (fun _ _ => hlr)
              have HRS := Lib.hid (str_size (allC (LC k)))
              have HSC := Lib.hid (strCells_mk (allC (LC k)))
              have HTO := Lib.hid (show T ++ rowT hLvl (fun _ => c.lr k) 1 ++ allC (LC k) = H2 ++ lvlT c LC (k + 1) by rw [HT.out, List.append_assoc, List.append_assoc]; rfl)
              clear hcd
              go_wp2_with fail
              refine (prow_any _ (w.heap.size + 1) (w.heap.size + 1) (Lib.byteCells T) hLvl (some ⟨wr.heap.size + 1, 0, none⟩) 1 1 (fun _ => c.lr k) (builder_keeps HB.out.1 (((Keeps.refl (fun _ => False) wr).alloc _).alloc _)) (by rw [byteCells_len]; omega) (by decide) ⟨by omega, fun _ _ => hlr, _, _, rfl, by rw [World.size_alloc, World.size_alloc]; omega, fun i hi => arr_at _ _ _ _ 1 (fun _ => c.lr k) (lits1 (c.lr k)) i hi⟩ (by rw [World.size_alloc, World.size_alloc]; omega)).mono ?_
              rintro e2 w2 ⟨rfl, hb2, k2, q2⟩
              rw [← byteCells_app] at hb2
              have hblk : w2.heap[wr.heap.size]? = some (.cells #[.int .i64 (c.lr k), .slice (c.lca k) (c.ll k) (c.lcc k)] 44 (0, 0)) := q2 _ _ _ (by omega) (by decide) (heap_old (heap_new wr _) _)
              obtain ⟨_, d2⟩ := two_cells' hblk
              have HK2 := Lib.hid (((HB.out.2.alloc hsz _).alloc (by rw [World.size_alloc]; omega) _).trans k2)
              have HX2 := Lib.hid (HD.out w2 HK2.out)
              have HW := Lib.hid hb2
              have hz2 : w.heap.size + 1 ≤ w2.heap.size := by have := HK2.out.size; rw [HZ0.out] at this; exact this
              clear hb2 k2 q2 hblk
              go_wp2_with fail
              refine (allc_at w2 (c.lca k) (c.ll k) (c.lcc k) (LC k) (HX2.out.tx.lc k hlt) h7).mono ?_
              rintro e3 w3 ⟨rfl, k3⟩
              have HW3 := Lib.hid (And.intro (builder_keeps HW.out (below_keeps k3)) (HK2.out.trans (k3.mono hz2)))
              have hz3 : w.heap.size + 1 ≤ w3.heap.size := Nat.le_trans hz2 k3.size
              clear k3 d2
              go_wp2_with fail
              refine (writes_any _ _ _ _ _ HW3.out.1 (by rw [byteCells_len, HRS.out, List.length_append]; omega) hz3).mono ?_
              rintro e4 w4 ⟨rfl, hb4, k4⟩
              rw [HSC.out, ← byteCells_app, HTO.out] at hb4
              have HW4 := Lib.hid (And.intro (Or.inr hb4 : Lib.IsBuilder 48 5 (w.heap.size + 1) (w.heap.size + 1) _ w4) (HW3.out.2.trans k4))
              clear hb4 k4
              go_wp2_with fail
              go_roundw
              case rel => exact ⟨k + 1, _, hlt, by go_num, rfl, HW4.out.1, HW4.out.2⟩
              case measure => simp [intOf]; omega
            · obtain rfl : k = c.nL := by omega
              clear hlt
              generalize hH3 : H2 ++ lvlT c LC c.nL = H3 at HT
              have hH3l : H3.length ≤ 800000 := by rw [← HT.out]; omega
              have HH3 := Lib.hid hH3
              clear hH3
              unfold maxLen at hCC
              go_wp2_with fail
              go_loopw [17] (fun i wr => ∃ (k : Nat) (T : List UInt8), 20 * k < N + 20 ∧ i = .int .i64 ((20 * k : Nat) : Int) ∧ T = H3 ++ chT N F k ∧ Lib.IsBuilder 48 5 (w.heap.size + 1) (w.heap.size + 1) (Lib.byteCells T) wr ∧ Below (w.heap.size + 1) w0 wr) (fun i _ => N + 20 - (intOf i).toNat)
              case atStart => exact ⟨0, T, by omega, rfl, by rw [HT.out]; exact (List.append_nil _).symm, HB.out.1, HB.out.2⟩
              case round =>
                clear HT hTl
                obtain ⟨k, T, hk, rfl, hT, hbld, hbel⟩ := hrel
                clear HX HB e0 e1 e2 e3 hlp hsz
                have hTl : T.length ≤ 900000 := by have h := HCL.out k; rw [hT, List.length_append]; omega
                have HT := Lib.hid hT
                have HB := Lib.hid (And.intro hbld hbel)
                have hlp := builder_lt hbld
                have HX := Lib.hid (HD.out wr hbel)
                have hsz : w.heap.size + 1 ≤ wr.heap.size := by omega
                clear hbld hbel hT
                by_cases hlt : 20 * k < N
                · obtain ⟨g, o, rfl, hg, hc⟩ := HX.out.ch (by omega)
                  have HFo := Lib.hid (show ∀ j, j < min 20 (N - 20 * k) → -9223372036854775808 ≤ F (20 * k + j) ∧ F (20 * k + j) ≤ 9223372036854775807 from fun j hj => HS.out.f _ (by omega))
                  have HIA := Lib.hid (show IntsAt wr (some ⟨g, o + 20 * k, none⟩) (min 20 (N - 20 * k)) (fun j => F (20 * k + j)) from ⟨by omega, HFo.out, g, _, rfl, hg, fun i hi => by rw [Nat.add_assoc]; exact hc _ (by omega)⟩)
                  have HTO := Lib.hid (show T ++ rowT hCh (fun j => F (20 * k + j)) (min 20 (N - 20 * k)) = H3 ++ chT N F (k + 1) by rw [HT.out, List.append_assoc]; rfl)
                  clear hc hg
                  go_wp2_with fail
                  rw [show (min (20 * (k : Int) + 20) (N : Int)).toNat - 20 * k = min 20 (N - 20 * k) by omega]
                  refine (prow_any wr (w.heap.size + 1) (w.heap.size + 1) (Lib.byteCells T) hCh _ _ _ (fun j => F (20 * k + j)) HB.out.1 (by rw [byteCells_len]; omega) (by decide) HIA.out hsz).mono ?_
                  rintro e2 w2 ⟨rfl, hb2, k2, q2⟩
                  rw [← byteCells_app, HTO.out] at hb2
                  have HW := Lib.hid (And.intro hb2 (HB.out.2.trans k2))
                  clear hb2 k2 q2
                  go_wp2_with fail
                  go_roundw
                  case rel => exact ⟨k + 1, _, by omega, by go_num, rfl, HW.out.1, HW.out.2⟩
                  case measure => simp [intOf]; omega
                · have hkN : k = (N + 19) / 20 := by omega
                  have HF := Lib.hid (show textT c TC LC N F = T by rw [HT.out, hkN, ← HH3.out, ← HH2.out, ← HH.out]; rfl)
                  clear hkN
                  go_wp2_with fail
                  refine (Try.Builder_String_any _ _ _ _ HB.out.1 hsz).mono ?_
                  rintro e2 w2 ⟨rfl, hb⟩
                  have HE := Lib.hid (HK0.out.trans ((HB.out.2.trans hb).mono (Nat.le_succ _)))
                  clear hb
                  go_wp2_with fail
                  go_ret
                  exact ⟨by rw [HF.out]; rfl, HE.out⟩
end Go.Proofs.Ytdjfelabdofaaaa
