import Derived.Test.YtdjfelabdofaaaaTxYz
import Derived.Test.YtdjfelabdofaaaaTextP
namespace Go.Proofs.Ytdjfelabdofaaaa
open Go.ChangeShapes Go.WideShapes Go.ChangeAt Go.RowKit
set_option linter.unusedVariables false
set_option linter.unusedSimpArgs false
def yieldC : CallD := ⟨12, 0, 0, 0, 0, 0, 0⟩
def aliveR : List RowT := [.tick 0, .task 3 true, .call yieldC]
def aliveB : List UInt8 := [116, 105, 99, 107, 101, 114, 32, 48, 10, 116, 97, 115, 107, 32, 51, 32, 49, 10, 121, 105, 101, 108, 100, 10]
theorem prnL_dig (m : Nat) (h : m < 10) : prnL (m : Int) = [UInt8.ofNat (48 + m)] := by
  unfold prnL
  rw [if_neg (by omega), Int.natAbs_natCast, digL_small h]
set_option maxRecDepth 20000 in
theorem aliveR_text : catL (aliveR.map wordsR) = aliveB := by
  show (joinB [hTick, prnL ((0 : Nat) : Int)] ++ [10]) ++ ((joinB [hTask, prnL ((3 : Nat) : Int), prnL ((1 : Nat) : Int)] ++ [10]) ++ ((joinB (wordsC yieldC) ++ [10]) ++ [])) = aliveB
  rw [prnL_dig 0 (by decide), prnL_dig 3 (by decide), prnL_dig 1 (by decide)]
  decide
theorem yield_fit : yieldC.Fit := ⟨by decide, by decide, by decide, by decide, by decide, by decide, by decide⟩
theorem aliveR_ok : OkS ms0 aliveR := by
  refine ⟨⟨⟨by decide, by decide⟩, rfl⟩, ⟨⟨by decide, by decide⟩, by decide⟩, ⟨yield_fit, true, _, rfl, by decide⟩, trivial⟩
set_option maxRecDepth 20000 in
theorem text_one (c : CfD) (TC LC : Nat → List CallD) (F : Nat → Int) (h1 : c.nO = 0) (h2 : c.tick = 0) (h3 : c.nT = 1) (h4 : c.tp 0 = 3) (h5 : c.tb 0 = true) (h6 : TC 0 = [yieldC]) (h7 : c.nL = 0) : textT c TC LC 0 F = aliveB := by
  rw [← cat_text, ← aliveR_text]
  unfold wordsT
  rw [h1, h2, h3, h7]
  have e : tskF c 0 = fun j => if j = 0 then 3 else if true then 1 else 0 := by funext j; unfold tskF; rw [h4, h5]
  show catL (([] ++ [wRow hTick (fun _ => 0) 1]) ++ ([] ++ (wRow hTask (tskF c 0) 2 :: (TC 0).map wordsC)) ++ [] ++ []) = _
  rw [h6, e]
  rfl
theorem alive_m {m : MS (PD × Value)} (hq : m.map Prod.fst = runP ms0 aliveR) : ∃ d, m.allT = [d] ∧ m.allV = [] ∧ d.1 = ⟨3, true, [yieldC]⟩ ∧ m.O = [] ∧ m.tick = 0 ∧ m.C = [] := by
  obtain ⟨T, V, cur, O, tick, tk, C⟩ := m
  have hq : MS.mk (T.map Prod.fst) (V.map Prod.fst) (cur.map fun d => (d.1, d.2.1)) O tick tk C = MS.mk [] [] (some (true, ⟨3, true, [yieldC]⟩)) [] 0 true [] := hq
  injection hq with h1 h2 h3 h4 h5 h6 h7
  rcases cur with _ | ⟨b, d⟩
  · cases h3
  · injection h3 with h3
    injection h3 with h3 h8
    have h3 : b = true := h3
    subst h3
    obtain rfl := List.map_eq_nil_iff.1 h1
    obtain rfl := List.map_eq_nil_iff.1 h2
    exact ⟨d, rfl, rfl, h8, h4, h5, h7⟩
/-- What the example is parsed to. -/
structure AlW (w : World) (t l o ch : Value) (tick : Int) (g c dc : Nat) (da : Option Addr) (cf : CfD) (TC LC : Nat → List CallD) : Prop where
  tv : t = .slice (some ⟨g, 0, none⟩) 1 c
  cv : ∃ a n, ch = .slice a 0 n
  gl : g < w.heap.size
  c0 : w.cell? ⟨g, 0, none⟩ = some (.int .i64 3)
  c1 : w.cell? ⟨g, 1, none⟩ = some (.bool true)
  c2 : w.cell? ⟨g, 2, none⟩ = some (.slice da 1 dc)
  cells : (#[t, l, o, .int .i64 tick] : Array Value) = cf.cells
  tx : TxIn w cf TC LC
  text : ∀ F, textT cf TC LC 0 F = aliveB
  small : ∀ F, TxS cf 0 F
theorem alive_w {w : World} {B p : Nat} {m : MS (PD × Value)} {t l o ch ow : Value} {Bk : Nat} (h : MsW w B p m t l o ch ow Bk) (hq : m.map Prod.fst = runP ms0 aliveR) : ∃ g c dc da cf TC LC, AlW w t l o ch m.tick g c dc da cf TC LC := by
  obtain ⟨d, hT, hV, hd, hO, htk, hC⟩ := alive_m hq
  have hin := cfd_in h (by
    rw [hT, hV]
    intro e he x hx
    simp at he
    subst he
    rw [hd] at hx
    simp at hx
    subst hx
    exact yield_fit.ok)
  have htr := h.tr
  rw [hT] at htr
  obtain ⟨g, c, e, hg, hc⟩ := own_cells htr (by simp)
  have hcr := h.cr
  rw [hC] at hcr
  obtain ⟨ca, cc, hch⟩ := own_slice hcr
  have hcode := h.allcode d (by rw [hT, hV]; simp)
  rw [hd] at hcode
  obtain ⟨da, dc, hdv⟩ := own_slice hcode
  have e0 : (cfdM m t l o).nT = 1 := by show m.allT.length = 1; rw [hT]; rfl
  have e1 : (cfdM m t l o).nL = 0 := by show m.allV.length = 0; rw [hV]; rfl
  have e2 : (cfdM m t l o).nO = 0 := by show m.O.length = 0; rw [hO]; rfl
  have e3 : (cfdM m t l o).tp 0 = 3 := by simp only [cfdM, hT, List.getElem?_cons_zero, hd]
  have e4 : (cfdM m t l o).tb 0 = true := by simp only [cfdM, hT, List.getElem?_cons_zero, hd]
  have e5 : codeM m.allT 0 = [yieldC] := by simp only [codeM, hT, List.getElem?_cons_zero, hd]
  have e6 : (cfdM m t l o).tl 0 = 1 := by simp only [cfdM, hT, List.getElem?_cons_zero, hd]; rfl
  refine ⟨g, c, dc, da, cfdM m t l o, codeM m.allT, codeM m.allV, ⟨e, ⟨ca, cc, hch⟩, hg, ?_, ?_, ?_, hin.1, hin.2, fun F => text_one _ _ _ F e2 htk e0 e3 e4 e5 e1, fun F => ⟨⟨⟨?_, ?_, ?_, ?_, ?_, ?_⟩, ?_, ?_⟩, by omega, by omega, by omega, ?_, ?_, by omega, fun i hi => by omega⟩⟩⟩
  · exact hc 0 _ (by show some (Value.int .i64 d.1.x) = _; rw [hd])
  · exact hc 1 _ (by show some (Value.bool d.1.b) = _; rw [hd])
  · exact hc 2 _ (by show some d.2 = _; rw [hdv]; rfl)
  · unfold maxLen; omega
  · unfold maxLen; omega
  · unfold maxLen; omega
  · show _ ≤ m.tick ∧ m.tick ≤ _; rw [htk]; decide
  · intro i hi; omega
  · intro i hi; omega
  · intro i hi; obtain rfl : i = 0 := by omega
    rw [e3]; decide
  · intro i hi; omega
  · intro i hi; obtain rfl : i = 0 := by omega
    rw [e6]; decide
  · intro i hi; omega
set_option maxRecDepth 100000 in
set_option maxHeartbeats 4000000 in
theorem alive44_any (w : World) : Calls Try.prog 6 #[] w fun e w' => e = .returned (.bool true) ∧ Below w.heap.size w w' := by
  have hp := parse_rows w aliveR (by rw [aliveR_text]; decide) aliveR_ok
  rw [aliveR_text] at hp
  have HP := Lib.hid hp
  clear hp
  go_enter Try.func6, Try.ntmps6
  go_wp2_with fail
  refine HP.out.mono ?_
  rintro e1 w1 ⟨t, l, o, ch, ow, p, Bk, m, rfl, hm, hq, hpz, hbl⟩
  obtain ⟨g, c, dc, da, cf, TC, LC, ha⟩ := alive_w hm hq
  obtain rfl := ha.tv
  obtain ⟨ca, cc, rfl⟩ := ha.cv
  obtain ⟨la, lc, rfl⟩ := own_slice hm.lr
  obtain ⟨oa, oc, rfl⟩ := own_slice hm.or
  have k0 := (Keeps.refl (fun _ => False) w1).alloc (.cells #[.slice (some ⟨g, 0, none⟩) 1 c, .slice la m.allV.length lc, .slice oa m.O.length oc, .int .i64 m.tick] 26)
  have HA := Lib.hid ha
  have HK := Lib.hid k0
  have HBL := Lib.hid hbl
  have y0 := heap_new w1 (.cells #[.slice (some ⟨g, 0, none⟩) 1 c, .slice la m.allV.length lc, .slice oa m.O.length oc, .int .i64 m.tick] 26)
  have x0 := cell_of y0 0
  have x1 := cell_of y0 1
  have x2 := cell_of y0 2
  have x3 := cell_of y0 3
  have lx := lt_of y0
  have c0 := (k0.none.cell (p := ⟨g, 0, none⟩) ha.gl).trans ha.c0
  have c1 := (k0.none.cell (p := ⟨g, 1, none⟩) ha.gl).trans ha.c1
  have c2 := (k0.none.cell (p := ⟨g, 2, none⟩) ha.gl).trans ha.c2
  have lg : g < (w1.alloc (.cells #[.slice (some ⟨g, 0, none⟩) 1 c, .slice la m.allV.length lc, .slice oa m.O.length oc, .int .i64 m.tick] 26)).heap.size := Nat.lt_of_lt_of_le ha.gl k0.size
  have HT := Lib.hid (show Calls Try.prog 7 #[.agg #[.slice (some ⟨g, 0, none⟩) 1 c, .slice la m.allV.length lc, .slice oa m.O.length oc, .int .i64 m.tick], .slice none 0 0] (w1.alloc (.cells #[.slice (some ⟨g, 0, none⟩) 1 c, .slice la m.allV.length lc, .slice oa m.O.length oc, .int .i64 m.tick] 26)) fun e w' => e = .returned (.string ⟨aliveB.toArray⟩) ∧ Below (w1.alloc (.cells #[.slice (some ⟨g, 0, none⟩) 1 c, .slice la m.allV.length lc, .slice oa m.O.length oc, .int .i64 m.tick] 26)).heap.size (w1.alloc (.cells #[.slice (some ⟨g, 0, none⟩) 1 c, .slice la m.allV.length lc, .slice oa m.O.length oc, .int .i64 m.tick] 26)) w' from by
    rw [ha.cells, ← ha.text fun _ => 0]
    exact text_any _ cf TC LC none 0 0 (fun _ => 0) (ha.tx.keeps (ha.cells ▸ k0)) (fun h => by omega) (ha.small _) (Nat.le_refl _) (by unfold maxLen; omega))
  clear ha k0 hbl y0 hm hq hpz HP
  go_wp2_with fail
  refine HT.out.mono ?_
  rintro e2 w2 ⟨rfl, k2⟩
  have HE := Lib.hid ((HBL.out.trans (HK.out.none.mono HBL.out.size)).trans (k2.mono (Nat.le_trans HBL.out.size HK.out.size)))
  have hs : (⟨#[116, 105, 99, 107, 101, 114, 32, 48, 10, 116, 97, 115, 107, 32, 51, 32, 49, 10, 121, 105, 101, 108, 100, 10]⟩ : ByteArray) = ⟨aliveB.toArray⟩ := rfl
  have hs2 : (⟨aliveB.toArray⟩ : ByteArray) = ⟨#[116, 105, 99, 107, 101, 114, 32, 48, 10, 116, 97, 115, 107, 32, 51, 32, 49, 10, 121, 105, 101, 108, 100, 10]⟩ := rfl
  rw [hs2]
  clear hs hs2 k2 c0 c1 c2 x0 x1 x2 x3 lx lg
  go_wp2_with fail
  go_ret
  exact ⟨rfl, HE.out⟩
end Go.Proofs.Ytdjfelabdofaaaa
