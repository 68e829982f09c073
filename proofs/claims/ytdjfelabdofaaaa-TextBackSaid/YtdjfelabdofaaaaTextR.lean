import Derived.Test.YtdjfelabdofaaaaTxAz
import Derived.Deep.RegionHeld3
namespace Go.Proofs.Ytdjfelabdofaaaa
open Go.ChangeShapes Go.WideShapes Go.ChangeAt Go.RowKit
set_option linter.unusedVariables false
set_option linter.unusedSimpArgs false
theorem litsO (c : CfD) (k : Nat) : ∀ i, i < 10 → (#[.int .i64 (c.ob k 0), .int .i64 (c.ob k 1), .int .i64 (c.ob k 2), .int .i64 (c.ob k 3), .int .i64 (c.ob k 4), .int .i64 (c.ob k 5), .int .i64 (c.oi k 0), .int .i64 (c.oi k 1), .int .i64 (c.oi k 2), .int .i64 (c.oi k 3)] : Array Value)[i]? = some (.int .i64 (objF c k i))
  | 0, _ => rfl
  | 1, _ => rfl
  | 2, _ => rfl
  | 3, _ => rfl
  | 4, _ => rfl
  | 5, _ => rfl
  | 6, _ => rfl
  | 7, _ => rfl
  | 8, _ => rfl
  | 9, _ => rfl
  | i + 10, h => by omega
theorem add_row (h : List UInt8) (T : List UInt8) (J : List UInt8) (hT : T.length ≤ 10000000) (hh : h.length ≤ 100) (hJ : J.length ≤ 100000) :
    (∀ w : World, (Op.stringOp .add ⟨T.toArray⟩ ⟨(h ++ [32]).toArray⟩).run Try.prog w = .ok (.string ⟨(T ++ (h ++ [32])).toArray⟩) w) ∧
    (∀ w : World, (Op.stringOp .add ⟨(T ++ (h ++ [32])).toArray⟩ ⟨J.toArray⟩).run Try.prog w = .ok (.string ⟨(T ++ (h ++ [32]) ++ J).toArray⟩) w) ∧
    (∀ w : World, (Op.stringOp .add ⟨(T ++ (h ++ [32]) ++ J).toArray⟩ ⟨#[10]⟩).run Try.prog w = .ok (.string ⟨(T ++ (h ++ [32]) ++ J ++ [10]).toArray⟩) w) := by
  refine ⟨fun w => ?_, fun w => ?_, fun w => ?_⟩
  · have e := run_string_add_sum (P := Try.prog) (w := w) ⟨T.toArray⟩ ⟨(h ++ [32]).toArray⟩ (by rw [str_size, str_size, List.length_append, List.length_singleton]; omega)
    rw [str_app] at e
    exact e
  · have e := run_string_add_sum (P := Try.prog) (w := w) ⟨(T ++ (h ++ [32])).toArray⟩ ⟨J.toArray⟩ (by rw [str_size, str_size, List.length_append, List.length_append, List.length_singleton]; omega)
    rw [str_app] at e
    exact e
  · have e := run_string_add_sum (P := Try.prog) (w := w) ⟨(T ++ (h ++ [32]) ++ J).toArray⟩ ⟨[10].toArray⟩ (by rw [str_size, str_size, List.length_append, List.length_append, List.length_append, List.length_singleton, List.length_singleton]; omega)
    rw [str_app] at e
    exact e
theorem rowT_app (T h : List UInt8) (F : Nat → Int) (n : Nat) : T ++ (h ++ [32]) ++ joinN [32] F n ++ [10] = T ++ rowT h F n := by
  unfold rowT
  simp
theorem arr_at (W : World) (o : Obj) (cs : Array Value) (T : TypeId) (n : Nat) (F : Nat → Int) (h : ∀ i, i < n → cs[i]? = some (.int .i64 (F i))) (i : Nat) (hi : i < n) :
    ((W.alloc o).alloc (.cells cs T)).cell? ⟨W.heap.size + 1, 0 + i, none⟩ = some (.int .i64 (F i)) := by
  have e := heap_new (W.alloc o) (.cells cs T)
  rw [World.size_alloc] at e
  rw [Nat.zero_add]
  exact (cell_of e i).trans (h i hi)
/-- .. with a new block. -/
structure TY (w W : World) (c : CfD) (TC LC : Nat → List CallD) (A : Option Addr) (N : Nat) (F : Nat → Int) (b : Nat) (o : Obj) : Prop where
  tx : TX W w.heap.size c TC LC A N F
  blk : W.heap[b]? = some o
  keeps : Keeps (fun _ => False) w W
theorem TY.on {w W W' : World} {c : CfD} {TC LC : Nat → List CallD} {A : Option Addr} {N : Nat} {F : Nat → Int} {b : Nat} {o : Obj} (h : TY w W c TC LC A N F b o) (k : Keeps (fun _ => False) W W') : TY w W' c TC LC A N F b o :=
  ⟨h.tx.keeps k, k.at h.blk fun h => h, h.keeps.trans k⟩
theorem tsk_cells {w : World} {c : CfD} (h : CfIn w c) {k : Nat} (hk : k < c.nT) : ∃ b off, c.ta = some ⟨b, off, none⟩ ∧ b < w.heap.size ∧
    w.cell? ⟨b, off + k * 3, none⟩ = some (.int .i64 (c.tp k)) ∧ w.cell? ⟨b, off + k * 3 + 1, none⟩ = some (.bool (c.tb k)) ∧ w.cell? ⟨b, off + k * 3 + 2, none⟩ = some (.slice (c.tca k) (c.tl k) (c.tcc k)) := by
  obtain ⟨b, off, e, hb, hc⟩ := h.t (by omega)
  exact ⟨b, off, e, hb, hc k hk⟩
theorem lvl_cells {w : World} {c : CfD} (h : CfIn w c) {k : Nat} (hk : k < c.nL) : ∃ b off, c.la = some ⟨b, off, none⟩ ∧ b < w.heap.size ∧
    w.cell? ⟨b, off + k * 2, none⟩ = some (.int .i64 (c.lr k)) ∧ w.cell? ⟨b, off + k * 2 + 1, none⟩ = some (.slice (c.lca k) (c.ll k) (c.lcc k)) := by
  obtain ⟨b, off, e, hb, hc⟩ := h.l (by omega)
  exact ⟨b, off, e, hb, hc k hk⟩
theorem add_any (a b : List UInt8) (ha : a.length ≤ 20000000) (hb : b.length ≤ 20000000) (w : World) : (Op.stringOp .add ⟨a.toArray⟩ ⟨b.toArray⟩).run Try.prog w = .ok (.string ⟨(a ++ b).toArray⟩) w := by
  have e := run_string_add_sum (P := Try.prog) (w := w) ⟨a.toArray⟩ ⟨b.toArray⟩ (by rw [str_size, str_size]; omega)
  rw [str_app] at e
  exact e
theorem three_cells' {w : World} {g : Nat} {x y z : Value} {E : TypeId} (h : w.heap[g]? = some (.cells #[x, y, z] E (0, 0))) :
    w.cell? ⟨g, 0, none⟩ = some x ∧ w.cell? ⟨g, 1, none⟩ = some y ∧ w.cell? ⟨g, 2, none⟩ = some z := ⟨cell_of h 0, cell_of h 1, cell_of h 2⟩
theorem tsk_row (T : List UInt8) (c : CfD) (TC : Nat → List CallD) (k : Nat) : T ++ (hTask ++ [32]) ++ prnL (c.tp k) ++ (if c.tb k then [32, 49, 10] else [32, 48, 10]) ++ allC (TC k) = T ++ (rowT hTask (tskF c k) 2 ++ allC (TC k)) := by
  have e : joinN [32] (tskF c k) 2 = prnL (c.tp k) ++ [32] ++ prnL (if c.tb k then 1 else 0) := rfl
  unfold rowT
  rw [e]
  have h0 : prnL 0 = [48] := by kernel_rfl
  have h1 : prnL 1 = [49] := by kernel_rfl
  cases c.tb k
  · simp [h0]
  · simp [h1]
theorem lvl_row (T : List UInt8) (c : CfD) (LC : Nat → List CallD) (k : Nat) : T ++ (hLvl ++ [32]) ++ prnL (c.lr k) ++ [10] ++ allC (LC k) = T ++ (rowT hLvl (fun _ => c.lr k) 1 ++ allC (LC k)) := by
  have e : joinN [32] (fun _ => c.lr k) 1 = prnL (c.lr k) := rfl
  unfold rowT
  rw [e]
  simp
theorem ch_row (T : List UInt8) (N : Nat) (F : Nat → Int) (k : Nat) : T ++ chT N F k ++ (hCh ++ [32]) ++ joinN [32] (fun j => F (20 * k + j)) (min 20 (N - 20 * k)) ++ [10] = T ++ chT N F (k + 1) := by
  show _ = T ++ (chT N F k ++ rowT hCh (fun j => F (20 * k + j)) (min 20 (N - 20 * k)))
  rw [← List.append_assoc T (chT N F k) _, ← rowT_app (T ++ chT N F k)]
theorem lvl_S {W : World} {B : Nat} {c : CfD} {TC LC : Nat → List CallD} {A : Option Addr} {N : Nat} {F : Nat → Int} {b off k : Nat} (h : TX W B c TC LC A N F) (hk : k < c.nL) (hla : c.la = some ⟨b, off, none⟩) :
    W.cell? ⟨B, 1, none⟩ = some (.slice (some ⟨b, off, none⟩) c.nL c.lc) ∧ W.cell? ⟨b, off + k * 2, none⟩ = some (.int .i64 (c.lr k)) ∧ W.cell? ⟨b, off + k * 2 + 1, none⟩ = some (.slice (c.lca k) (c.ll k) (c.lcc k)) := by
  obtain ⟨b', off', e, hb, c0, c1⟩ := lvl_cells h.tx.cf hk
  rw [hla] at e
  obtain ⟨rfl, rfl⟩ : b = b' ∧ off = off' := by injection e with e; injection e with e1 e2; exact ⟨e1, e2⟩
  have := (four_cells h.box).2.1
  rw [hla] at this
  exact ⟨this, c0, c1⟩
set_option maxRecDepth 100000 in
set_option maxHeartbeats 4000000 in
theorem rtext_any (w : World) (c : CfD) (TC LC : Nat → List CallD) (A : Option Addr) (N CC : Nat) (F : Nat → Int) (hx : TxIn w c TC LC) (hch : ChAt w A N F) (hs : TxS c N F) (hNC : N ≤ CC) (hCC : CC ≤ maxLen) :
    Calls Try.prog 8 #[.agg c.cells, .slice A N CC] w fun e w' => e = .returned (.string ⟨(textT c TC LC N F).toArray⟩) ∧ Below w.heap.size w w' := by
  have k0 := (Keeps.refl (fun _ => False) w).alloc (.cells c.cells 26)
  have HX0 := Lib.hid (show TX (w.alloc (.cells c.cells 26)) w.heap.size c TC LC A N F from ⟨heap_new w _, hx.keeps k0, hch.keeps k0⟩)
  have HK0 := Lib.hid k0
  have HS := Lib.hid hs
  have HOL := Lib.hid (objT_len hs.ok)
  have HTL := Lib.hid (tskT_len hs.ok hx hs.tl)
  have HLL := Lib.hid (lvlT_len hs.ok hx hs.ll)
  have HCL := Lib.hid (chT_len hs.f)
  have hnO := hs.o
  have hnT := hs.t
  have hnL := hs.l
  have hN := hs.n
  clear k0 hx hch hs
  go_enter Try.func8, Try.ntmps8
  go_wp2_with fail
  obtain ⟨w0, hw0⟩ : ∃ w0, w0 = w.alloc (.cells c.cells 26) := ⟨_, rfl⟩
  rw [← hw0] at HX0 HK0 ⊢
  clear hw0
  go_loopw [5, 6] (fun s i wr => ∃ (k : Nat) (T : List UInt8), k ≤ c.nO ∧ i = .int .i64 (k : Int) ∧ s = .string ⟨T.toArray⟩ ∧ T = objT c k ∧ TX wr w.heap.size c TC LC A N F ∧ Keeps (fun _ => False) w wr) (fun _ i _ => c.nO - (intOf i).toNat)
  case atStart => exact ⟨0, [], by omega, rfl, rfl, rfl, HX0.out, HK0.out⟩
  case round =>
    obtain ⟨k, T, hk, rfl, rfl, hT, hX, hK⟩ := hrel
    clear HX0 HK0
    have HX := Lib.hid hX
    have HK := Lib.hid hK
    have hTl : T.length ≤ 8000 := by have h := HOL.out k hk; rw [← hT] at h; omega
    have HT := Lib.hid hT
    obtain ⟨e0, e1, e2, e3⟩ := four_cells hX.box
    clear hX hK hT
    by_cases hlt : k < c.nO
    · obtain ⟨b, off, hoa, hb, c0, c1, c2, c3, c4, c5, c6, c7, c8, c9⟩ := obj_cells HX.out.tx.cf hlt
      rw [hoa] at e2
      clear hoa
      have b0 := HS.out.ok.oi k hlt 0 (by omega); have b1 := HS.out.ok.oi k hlt 1 (by omega); have b2 := HS.out.ok.oi k hlt 2 (by omega); have b3 := HS.out.ok.oi k hlt 3 (by omega)
      have hFo := fun j hj => objF_ok HS.out.ok hlt j hj
      have hJl := joinN_len [32] (objF c k) 1 (by simp) 10 hFo
      have HJ := Lib.hid (fun w g h => rjoin_some w g 0 10 10 (objF c k) [32] (by omega) (by simp) hFo h)
      have HL := Lib.hid (litsO c k)
      obtain ⟨a1, a2, a3⟩ := add_row hObj T (joinN [32] (objF c k) 10) (by omega) (by decide) (by omega)
      have HE := Lib.hid (show T ++ (hObj ++ [32]) ++ joinN [32] (objF c k) 10 ++ [10] = objT c (k + 1) by rw [rowT_app, HT.out]; rfl)
      generalize T ++ (hObj ++ [32]) ++ joinN [32] (objF c k) 10 ++ [10] = X3 at a3 HE
      generalize T ++ (hObj ++ [32]) ++ joinN [32] (objF c k) 10 = X2 at a2 a3
      generalize T ++ (hObj ++ [32]) = X1 at a1 a2
      generalize joinN [32] (objF c k) 10 = J at a2 HJ
      have a1 : ∀ w : World, (Op.stringOp .add ⟨T.toArray⟩ ⟨#[111, 98, 106, 101, 99, 116, 32]⟩).run Try.prog w = .ok (.string ⟨X1.toArray⟩) w := a1
      clear hJl hFo
      go_wp2_with fail
      refine (HJ.out _ _ ?_).mono ?_
      · intro i hi
        exact arr_at _ _ _ _ _ _ HL.out i hi
      rintro e9 w9 ⟨rfl, rfl⟩
      go_wp2_with fail
      go_roundw
      case rel => exact ⟨k + 1, X3, hlt, by go_num, rfl, HE.out, HX.out.keeps ((Keeps.refl _ _).alloc _ |>.alloc _), HK.out.alloc _ |>.alloc _⟩
      case measure => simp [intOf]; omega
    · obtain rfl : k = c.nO := by omega
      clear hlt
      have htk := HS.out.ok.ok.tick
      have hpl := prnL_len htk
      have HP := Lib.hid (fun w => rprint_any w c.tick htk)
      have HPB := Lib.hid (show prnB c.tick = ⟨(prnL c.tick).toArray⟩ from rfl)
      obtain ⟨a1, a2, a3⟩ := add_row hTick T (prnL c.tick) (by omega) (by decide) (by omega)
      have HE := Lib.hid (show T ++ (hTick ++ [32]) ++ prnL c.tick ++ [10] = headT c by unfold headT; rw [← HT.out]; show T ++ (hTick ++ [32]) ++ joinN [32] (fun _ => c.tick) 1 ++ [10] = _; rw [rowT_app])
      have hHl : (headT c).length ≤ 9000 := by rw [← HE.out]; simp only [List.length_append, List.length_singleton]; have : hTick.length = 6 := rfl; omega
      rw [HE.out] at a3
      generalize T ++ (hTick ++ [32]) ++ prnL c.tick = X2 at a2 a3
      generalize T ++ (hTick ++ [32]) = X1 at a1 a2
      have a1 : ∀ w : World, (Op.stringOp .add ⟨T.toArray⟩ ⟨#[116, 105, 99, 107, 101, 114, 32]⟩).run Try.prog w = .ok (.string ⟨X1.toArray⟩) w := a1
      rw [← HPB.out] at a2
      clear htk hpl HE
      generalize hH : headT c = H at a3 hHl
      have HH := Lib.hid hH
      clear hH
      go_wp2_with fail
      refine (HP.out _).mono ?_
      rintro e9 w9 ⟨rfl, rfl⟩
      go_wp2_with fail
      clear a1 a2 a3 HT hTl HP HPB
      go_loopw [5, 8] (fun s i wr => ∃ (k : Nat) (T : List UInt8), k ≤ c.nT ∧ i = .int .i64 (k : Int) ∧ s = .string ⟨T.toArray⟩ ∧ T = H ++ tskT c TC k ∧ TX wr w.heap.size c TC LC A N F ∧ Keeps (fun _ => False) w wr) (fun _ i _ => c.nT - (intOf i).toNat)
      case atStart => exact ⟨0, H, by omega, rfl, rfl, (List.append_nil _).symm, HX.out, HK.out⟩
      case round =>
        obtain ⟨k, T, hk, rfl, rfl, hT, hX, hK⟩ := hrel
        clear HX HK e0 e1 e2 e3
        have HX := Lib.hid hX
        have HK := Lib.hid hK
        have hTl : T.length ≤ 300000 := by have h := HTL.out k hk; rw [hT, List.length_append]; omega
        have HT := Lib.hid hT
        obtain ⟨e0, e1, e2, e3⟩ := four_cells hX.box
        clear hX hK hT
        by_cases hlt : k < c.nT
        · obtain ⟨b, off, hoa, hb, c0, c1, c2⟩ := tsk_cells HX.out.tx.cf hlt
          rw [hoa] at e0
          clear hoa
          have htp := HS.out.ok.tp k hlt
          have hpl := prnL_len htp
          have HP := Lib.hid (fun w => rprint_any w (c.tp k) htp)
          have HPB := Lib.hid (show prnB (c.tp k) = ⟨(prnL (c.tp k)).toArray⟩ from rfl)
          have hcd := HX.out.tx.tc k hlt
          have h7 := HS.out.tl k hlt
          have hAl : (allC (TC k)).length ≤ 10850 := by have := allC_len (TC k) hcd.2.1; rw [hcd.1] at this; omega
          have HA := Lib.hid (fun W h => rallc_at W (c.tca k) (c.tl k) (c.tcc k) (TC k) h h7)
          have HTc := Lib.hid (fun (W : World) (h : TX W w.heap.size c TC LC A N F) => h.tx.tc k hlt)
          have HE := Lib.hid (show T ++ (hTask ++ [32]) ++ prnL (c.tp k) ++ (if c.tb k then [32, 49, 10] else [32, 48, 10]) ++ allC (TC k) = H ++ tskT c TC (k + 1) by rw [tsk_row, HT.out, List.append_assoc]; rfl)
          have hh5 : (hTask ++ [32]).length = 5 := rfl
          have hb3 : (if c.tb k then [32, 49, 10] else [32, 48, 10] : List UInt8).length = 3 := by cases c.tb k <;> rfl
          have a1 := add_any T (hTask ++ [32]) (by omega) (by omega)
          have a2 := add_any (T ++ (hTask ++ [32])) (prnL (c.tp k)) (by rw [List.length_append]; omega) (by omega)
          have a3 := add_any (T ++ (hTask ++ [32]) ++ prnL (c.tp k)) (if c.tb k then [32, 49, 10] else [32, 48, 10]) (by rw [List.length_append, List.length_append]; omega) (by omega)
          have a4 := add_any (T ++ (hTask ++ [32]) ++ prnL (c.tp k) ++ (if c.tb k then [32, 49, 10] else [32, 48, 10])) (allC (TC k)) (by rw [List.length_append, List.length_append, List.length_append]; omega) (by omega)
          generalize hbv : c.tb k = bv at c1 HE a3 a4
          clear hbv hb3 hh5 hAl h7 hcd hpl htp
          generalize allC (TC k) = AL at HA a4 HE
          rw [← HPB.out] at a2
          generalize T ++ (hTask ++ [32]) ++ prnL (c.tp k) ++ (if bv then [32, 49, 10] else [32, 48, 10]) ++ AL = X4 at a4 HE
          generalize hX3 : T ++ (hTask ++ [32]) ++ prnL (c.tp k) ++ (if bv then [32, 49, 10] else [32, 48, 10]) = X3 at a3 a4
          clear hX3
          generalize T ++ (hTask ++ [32]) ++ prnL (c.tp k) = X2 at a2 a3
          generalize T ++ (hTask ++ [32]) = X1 at a1 a2
          have a1 : ∀ w : World, (Op.stringOp .add ⟨T.toArray⟩ ⟨#[116, 97, 115, 107, 32]⟩).run Try.prog w = .ok (.string ⟨X1.toArray⟩) w := a1
          clear HPB
          cases bv
          · have a3 : ∀ w : World, (Op.stringOp .add ⟨X2.toArray⟩ ⟨#[32, 48, 10]⟩).run Try.prog w = .ok (.string ⟨X3.toArray⟩) w := a3
            go_wp2_with fail
            have HY := Lib.hid (show TY w _ c TC LC A N F wr.heap.size _ from ⟨HX.out.keeps ((Keeps.refl (fun _ => False) wr).alloc (.cells #[.int .i64 (c.tp k), .bool false, .slice (c.tca k) (c.tl k) (c.tcc k)] 42)), heap_new wr _, HK.out.alloc _⟩)
            replace HY := Lib.hid (HY.out.on (Keeps.refl (fun _ => False) _).drew)
            have HS3 := Lib.hid (three_cells' HY.out.blk)
            clear HX HK c0 c1 c2 e0 e1 e2 e3
            go_region_held3 (fun w' => w'.cell? ⟨wr.heap.size, 0, none⟩ = some (.int .i64 (c.tp k)) ∧ w'.cell? ⟨wr.heap.size, 2, none⟩ = some (.slice (c.tca k) (c.tl k) (c.tcc k)))
              (first
                | exact ⟨HS3.out.1, HS3.out.2.2⟩
                | go_keep)
              (first
                | (go_at_call 22; refine (HP.out _).mono ?_; rintro e9 w9 ⟨rfl, rfl⟩)
                | (go_at_call 23; refine (HA.out _ (HTc.out _ HY.out.tx)).mono ?_; rintro e9 w9 ⟨rfl, k9⟩; replace HY := Lib.hid (HY.out.on (below_keeps k9)); replace HS3 := Lib.hid (three_cells' HY.out.blk); clear k9)
                | fail)
            all_goals
              go_wp2_with fail
              go_roundw
              case rel => exact ⟨k + 1, X4, hlt, by go_num, rfl, HE.out, HY.out.tx, HY.out.keeps⟩
              case measure => simp [intOf]; omega
          · have a3 : ∀ w : World, (Op.stringOp .add ⟨X2.toArray⟩ ⟨#[32, 49, 10]⟩).run Try.prog w = .ok (.string ⟨X3.toArray⟩) w := a3
            go_wp2_with fail
            have HY := Lib.hid (show TY w _ c TC LC A N F wr.heap.size _ from ⟨HX.out.keeps ((Keeps.refl (fun _ => False) wr).alloc (.cells #[.int .i64 (c.tp k), .bool true, .slice (c.tca k) (c.tl k) (c.tcc k)] 42)), heap_new wr _, HK.out.alloc _⟩)
            replace HY := Lib.hid (HY.out.on (Keeps.refl (fun _ => False) _).drew)
            have HS3 := Lib.hid (three_cells' HY.out.blk)
            clear HX HK c0 c1 c2 e0 e1 e2 e3
            go_region_held3 (fun w' => w'.cell? ⟨wr.heap.size, 0, none⟩ = some (.int .i64 (c.tp k)) ∧ w'.cell? ⟨wr.heap.size, 2, none⟩ = some (.slice (c.tca k) (c.tl k) (c.tcc k)))
              (first
                | exact ⟨HS3.out.1, HS3.out.2.2⟩
                | go_keep)
              (first
                | (go_at_call 22; refine (HP.out _).mono ?_; rintro e9 w9 ⟨rfl, rfl⟩)
                | (go_at_call 23; refine (HA.out _ (HTc.out _ HY.out.tx)).mono ?_; rintro e9 w9 ⟨rfl, k9⟩; replace HY := Lib.hid (HY.out.on (below_keeps k9)); replace HS3 := Lib.hid (three_cells' HY.out.blk); clear k9)
                | fail)
            all_goals
              go_wp2_with fail
              go_roundw
              case rel => exact ⟨k + 1, X4, hlt, by go_num, rfl, HE.out, HY.out.tx, HY.out.keeps⟩
              case measure => simp [intOf]; omega
        · obtain rfl : k = c.nT := by omega
          clear hlt
          generalize hH2 : H ++ tskT c TC c.nT = H2 at HT
          have hH2l : H2.length ≤ 300000 := by rw [← HT.out]; omega
          have HH2 := Lib.hid hH2
          clear hH2
          go_wp2_with fail
          go_loopw [5, 11] (fun s i wr => ∃ (k : Nat) (T : List UInt8), k ≤ c.nL ∧ i = .int .i64 (k : Int) ∧ s = .string ⟨T.toArray⟩ ∧ T = H2 ++ lvlT c LC k ∧ TX wr w.heap.size c TC LC A N F ∧ Keeps (fun _ => False) w wr) (fun _ i _ => c.nL - (intOf i).toNat)
          case atStart => exact ⟨0, T, by omega, rfl, rfl, by rw [HT.out]; exact (List.append_nil _).symm, HX.out, HK.out⟩
          case round =>
            clear HT hTl
            obtain ⟨k, T, hk, rfl, rfl, hT, hX, hK⟩ := hrel
            clear HX HK e0 e1 e2 e3
            have HX := Lib.hid hX
            have HK := Lib.hid hK
            have hTl : T.length ≤ 800000 := by have h := HLL.out k hk; rw [hT, List.length_append]; omega
            have HT := Lib.hid hT
            obtain ⟨e0, e1, e2, e3⟩ := four_cells hX.box
            clear hX hK hT
            by_cases hlt : k < c.nL
            · obtain ⟨b, off, hla, hb, _⟩ := lvl_cells HX.out.tx.cf hlt
              have HLS := Lib.hid (fun (W : World) (h : TX W w.heap.size c TC LC A N F) => lvl_S h hlt hla)
              rw [hla] at e1
              clear hla hb
              have htp := HS.out.ok.ok.lr k hlt
              have hpl := prnL_len htp
              have HP := Lib.hid (fun w => rprint_any w (c.lr k) htp)
              have HPB := Lib.hid (show prnB (c.lr k) = ⟨(prnL (c.lr k)).toArray⟩ from rfl)
              have hcd := HX.out.tx.lc k hlt
              have h7 := HS.out.ll k hlt
              have hAl : (allC (LC k)).length ≤ 10850 := by have := allC_len (LC k) hcd.2.1; rw [hcd.1] at this; omega
              have HA := Lib.hid (fun W h => rallc_at W (c.lca k) (c.ll k) (c.lcc k) (LC k) h h7)
              have HTc := Lib.hid (fun (W : World) (h : TX W w.heap.size c TC LC A N F) => h.tx.lc k hlt)
              have HE := Lib.hid (show T ++ (hLvl ++ [32]) ++ prnL (c.lr k) ++ [10] ++ allC (LC k) = H2 ++ lvlT c LC (k + 1) by rw [lvl_row, HT.out, List.append_assoc]; rfl)
              have hh5 : (hLvl ++ [32]).length = 6 := rfl
              have hb3 : ([10] : List UInt8).length = 1 := rfl
              have a1 := add_any T (hLvl ++ [32]) (by omega) (by omega)
              have a2 := add_any (T ++ (hLvl ++ [32])) (prnL (c.lr k)) (by rw [List.length_append]; omega) (by omega)
              have a3 := add_any (T ++ (hLvl ++ [32]) ++ prnL (c.lr k)) [10] (by rw [List.length_append, List.length_append]; omega) (by omega)
              have a4 := add_any (T ++ (hLvl ++ [32]) ++ prnL (c.lr k) ++ [10]) (allC (LC k)) (by rw [List.length_append, List.length_append, List.length_append]; omega) (by omega)
              clear hb3 hh5 hAl h7 hcd hpl htp
              generalize allC (LC k) = AL at HA a4 HE
              rw [← HPB.out] at a2
              generalize T ++ (hLvl ++ [32]) ++ prnL (c.lr k) ++ [10] ++ AL = X4 at a4 HE
              generalize T ++ (hLvl ++ [32]) ++ prnL (c.lr k) ++ [10] = X3 at a3 a4
              generalize T ++ (hLvl ++ [32]) ++ prnL (c.lr k) = X2 at a2 a3
              generalize T ++ (hLvl ++ [32]) = X1 at a1 a2
              have a1 : ∀ w : World, (Op.stringOp .add ⟨T.toArray⟩ ⟨#[108, 101, 118, 101, 108, 32]⟩).run Try.prog w = .ok (.string ⟨X1.toArray⟩) w := a1
              have a3 : ∀ w : World, (Op.stringOp .add ⟨X2.toArray⟩ ⟨#[10]⟩).run Try.prog w = .ok (.string ⟨X3.toArray⟩) w := a3
              clear HPB
              replace HX := Lib.hid (HX.out.keeps (Keeps.refl (fun _ => False) _).drew)
              replace HK := Lib.hid HK.out.drew
              have HS3 := Lib.hid (HLS.out _ HX.out)
              go_wp2_with fail
              clear e0 e1 e2 e3
              go_region_held3 (fun w' => w'.cell? ⟨w.heap.size, 1, none⟩ = some (.slice (some ⟨b, off, none⟩) c.nL c.lc) ∧ w'.cell? ⟨b, off + k * 2, none⟩ = some (.int .i64 (c.lr k)) ∧ w'.cell? ⟨b, off + k * 2 + 1, none⟩ = some (.slice (c.lca k) (c.ll k) (c.lcc k)))
                (first
                  | exact HS3.out
                  | go_keep)
                (first
                  | (go_at_call 22; refine (HP.out _).mono ?_; rintro e9 w9 ⟨rfl, rfl⟩)
                  | (go_at_call 23; refine (HA.out _ (HTc.out _ HX.out)).mono ?_; rintro e9 w9 ⟨rfl, k9⟩; replace HX := Lib.hid (HX.out.keeps (below_keeps k9)); replace HK := Lib.hid (HK.out.trans (below_keeps k9)); replace HS3 := Lib.hid (HLS.out _ HX.out); clear k9)
                  | fail)
              all_goals
                go_wp2_with fail
                go_roundw
                case rel => exact ⟨k + 1, X4, hlt, by go_num, rfl, HE.out, HX.out, HK.out⟩
                case measure => simp [intOf]; omega
            · obtain rfl : k = c.nL := by omega
              clear hlt
              generalize hH3 : H2 ++ lvlT c LC c.nL = H3 at HT
              have hH3l : H3.length ≤ 800000 := by rw [← HT.out]; omega
              have HH3 := Lib.hid hH3
              clear hH3
              unfold maxLen at hCC
              go_wp2_with fail
              go_loopw [5, 12] (fun s i wr => ∃ (k : Nat) (T : List UInt8), 20 * k < N + 20 ∧ i = .int .i64 ((20 * k : Nat) : Int) ∧ s = .string ⟨T.toArray⟩ ∧ T = H3 ++ chT N F k ∧ TX wr w.heap.size c TC LC A N F ∧ Keeps (fun _ => False) w wr) (fun _ i _ => N + 20 - (intOf i).toNat)
              case atStart => exact ⟨0, T, by omega, rfl, rfl, by rw [HT.out]; exact (List.append_nil _).symm, HX.out, HK.out⟩
              case round =>
                clear HT hTl
                obtain ⟨k, T, hk, rfl, rfl, hT, hX, hK⟩ := hrel
                clear HX HK e0 e1 e2 e3
                have HX := Lib.hid hX
                have HK := Lib.hid hK
                have hTl : T.length ≤ 900000 := by have h := HCL.out k; rw [hT, List.length_append]; omega
                have HT := Lib.hid hT
                clear hX hK hT
                by_cases hlt : 20 * k < N
                · obtain ⟨g, o, rfl, hg, hc⟩ := HX.out.ch (by omega)
                  have hFo : ∀ j, j < min 20 (N - 20 * k) → -9223372036854775808 ≤ F (20 * k + j) ∧ F (20 * k + j) ≤ 9223372036854775807 := fun j hj => HS.out.f _ (by omega)
                  have hJl := joinN_len [32] (fun j => F (20 * k + j)) 1 (by simp) (min 20 (N - 20 * k)) hFo
                  have HJ := Lib.hid (rjoin_some wr g (o + 20 * k) (min 20 (N - 20 * k)) (CC - 20 * k) (fun j => F (20 * k + j)) [32] (by omega) (by simp) hFo (fun i hi => by rw [Nat.add_assoc]; exact hc _ (by omega)))
                  obtain ⟨a1, a2, a3⟩ := add_row hCh T (joinN [32] (fun j => F (20 * k + j)) (min 20 (N - 20 * k))) (by omega) (by decide) (by omega)
                  have HE := Lib.hid (show T ++ (hCh ++ [32]) ++ joinN [32] (fun j => F (20 * k + j)) (min 20 (N - 20 * k)) ++ [10] = H3 ++ chT N F (k + 1) by rw [HT.out]; exact ch_row H3 N F k)
                  generalize T ++ (hCh ++ [32]) ++ joinN [32] (fun j => F (20 * k + j)) (min 20 (N - 20 * k)) ++ [10] = X3 at a3 HE
                  generalize T ++ (hCh ++ [32]) ++ joinN [32] (fun j => F (20 * k + j)) (min 20 (N - 20 * k)) = X2 at a2 a3
                  generalize T ++ (hCh ++ [32]) = X1 at a1 a2
                  generalize joinN [32] (fun j => F (20 * k + j)) (min 20 (N - 20 * k)) = J at a2 HJ
                  have a1 : ∀ w : World, (Op.stringOp .add ⟨T.toArray⟩ ⟨#[99, 104, 111, 111, 115, 101, 32]⟩).run Try.prog w = .ok (.string ⟨X1.toArray⟩) w := a1
                  clear hJl hFo hc
                  go_wp2_with fail
                  rw [show (min (20 * (k : Int) + 20) (N : Int)).toNat - 20 * k = min 20 (N - 20 * k) by omega]
                  refine HJ.out.mono ?_
                  rintro e9 w9 ⟨rfl, rfl⟩
                  go_wp2_with fail
                  go_roundw
                  case rel => exact ⟨k + 1, X3, by omega, by go_num, rfl, HE.out, HX.out, HK.out⟩
                  case measure => simp [intOf]; omega
                · have hkN : k = (N + 19) / 20 := by omega
                  have HF := Lib.hid (show textT c TC LC N F = T by rw [HT.out, hkN, ← HH3.out, ← HH2.out, ← HH.out]; rfl)
                  clear hkN
                  go_wp2_with fail
                  go_ret
                  exact ⟨by rw [HF.out]; rfl, HK.out.none⟩
end Go.Proofs.Ytdjfelabdofaaaa
