/-
  Whatever the configuration, the choices and the word, bellropelaw44.TextPrints returns true.
-/
import Derived.Test.YtdjfelabdofaaaaTextZ
import Derived.Test.YtdjfelabdofaaaaTxNz
import Derived.Test.YtdjfelabdofaaaaTextLight
import Derived.Test.YtdjfelabdofaaaaRow
import Derived.Deep.RegionHeld3
namespace Go.Proofs.Ytdjfelabdofaaaa
open Go.ChangeShapes Go.WideShapes Go.ChangeAt Go.RowKit
set_option linter.unusedVariables false
set_option linter.unusedSimpArgs false
theorem light44_any (c : CfD) (w : World) (hc : CfIn w c) (ho : c.Ok) :
    Calls Try.prog 5 #[.agg #[.slice c.ta c.nT c.tc, .slice c.la c.nL c.lc, .slice c.oa c.nO c.oc, .int .i64 c.tick]] w fun e w' => ∃ b, e = .returned (.bool b) ∧ (b = true → c.nT ≤ 20 ∧ c.nL ≤ 40 ∧ c.nO ≤ 20 ∧ (∀ i, i < c.nT → c.tl i ≤ 70) ∧ (∀ i, i < c.nL → c.ll i ≤ 70)) ∧ Keeps (fun _ => False) w w' := light3_any c w hc ho
set_option maxRecDepth 100000 in
set_option maxHeartbeats 8000000 in
theorem tprints_any (w : World) (c : CfD) (TC LC : Nat → List CallD) (A : Option Addr) (N CC : Nat) (F : Nat → Int) (W : ByteArray) (hx : TxIn w c TC LC) (hok : TxOk c) (hch : ChAt w A N F) (hNC : N ≤ CC) (hCC : CC ≤ maxLen) (hF : ∀ i, i < N → -9223372036854775808 ≤ F i ∧ F i ≤ 9223372036854775807) (hW : W.size ≤ maxLen) :
    Calls Try.prog 3 #[.agg c.cells, .slice A N CC, .string W] w fun e w' => e = .returned (.bool true) ∧ Below w.heap.size w w' := by
  have hCC' := hCC
  have hW' := hW
  unfold maxLen at hCC' hW'
  have k0 := (Keeps.refl (fun _ => False) w).alloc (.cells #[.slice c.ta c.nT c.tc, .slice c.la c.nL c.lc, .slice c.oa c.nO c.oc, .int .i64 c.tick] 26)
  have HB := Lib.hid (heap_new w (.cells #[.slice c.ta c.nT c.tc, .slice c.la c.nL c.lc, .slice c.oa c.nO c.oc, .int .i64 c.tick] 26))
  have HK := Lib.hid k0.none
  have HX := Lib.hid hx
  have HCH := Lib.hid hch
  have HOK := Lib.hid hok
  have HLT := Lib.hid (light44_any c _ (hx.cf.none k0) hok.ok)
  clear hx hch hok k0
  go_enter Try.func3, Try.ntmps3
  go_wp2_with fail
  refine HLT.out.mono ?_
  rintro e1 w1 ⟨b, rfl, hb, k1⟩
  replace HB := Lib.hid (k1.at HB.out fun h => h)
  replace HK := Lib.hid (HK.out.trans (k1.none.mono HK.out.size))
  have HBB := Lib.hid hb
  clear hb k1 HLT
  cases b with
  | false =>
    go_wp2_with fail
    refine (alive44_any _).mono ?_
    rintro e2 w2 ⟨rfl, k2⟩
    replace HK := Lib.hid (HK.out.trans (k2.mono HK.out.size))
    clear k2
    go_wp2
    go_ret
    exact ⟨rfl, HK.out⟩
  | true =>
    by_cases hN : 300 < N
    · have d0 : decide ((300 : Int) < (N : Int)) = true := decide_eq_true (by omega)
      have d1 : ((N : Int) > 300) = True := by simp; omega
      have d2 : (300 < (N : Int)) = True := by simp; omega
      go_wp2_with fail
      all_goals
        refine (alive44_any _).mono ?_
        rintro e2 w2 ⟨rfl, k2⟩
        replace HK := Lib.hid (HK.out.trans (k2.mono HK.out.size))
        clear k2
        go_wp2
        go_ret
        exact ⟨rfl, HK.out⟩
    · have d0 : decide ((300 : Int) < (N : Int)) = false := decide_eq_false (by omega)
      have d2 : (300 < (N : Int)) = False := by simp; omega
      by_cases hw : 60 < W.size
      · have d3 : decide ((60 : Int) < (W.size : Int)) = true := decide_eq_true (by omega)
        have d4 : (60 < (W.size : Int)) = True := by simp; omega
        go_wp2_with fail
        all_goals
          refine (alive44_any _).mono ?_
          rintro e2 w2 ⟨rfl, k2⟩
          replace HK := Lib.hid (HK.out.trans (k2.mono HK.out.size))
          clear k2
          go_wp2
          go_ret
          exact ⟨rfl, HK.out⟩
      · have d3 : decide ((60 : Int) < (W.size : Int)) = false := decide_eq_false (by omega)
        have d4 : (60 < (W.size : Int)) = False := by simp; omega
        have hs := HBB.out rfl
        have HS := Lib.hid (show TxS c N F from ⟨HOK.out, hs.1, hs.2.1, hs.2.2.1, hs.2.2.2.1, hs.2.2.2.2, by omega, hF⟩)
        have HP := Lib.hid (fun (w' : World) (hb : Below w.heap.size w w') => show Calls Try.prog 7 #[.agg #[.slice c.ta c.nT c.tc, .slice c.la c.nL c.lc, .slice c.oa c.nO c.oc, .int .i64 c.tick], .slice A N CC] w' fun e w'' => e = .returned (.string ⟨(textT c TC LC N F).toArray⟩) ∧ Below w'.heap.size w' w'' from text_any w' c TC LC A N CC F (HX.out.keeps (below_keeps hb)) (HCH.out.keeps (below_keeps hb)) HS.out hNC hCC)
        have HQ := Lib.hid (fun (w' : World) (hb : Below w.heap.size w w') => show Calls Try.prog 8 #[.agg #[.slice c.ta c.nT c.tc, .slice c.la c.nL c.lc, .slice c.oa c.nO c.oc, .int .i64 c.tick], .slice A N CC] w' fun e w'' => e = .returned (.string ⟨(textT c TC LC N F).toArray⟩) ∧ Below w'.heap.size w' w'' from rtext_any w' c TC LC A N CC F (HX.out.keeps (below_keeps hb)) (HCH.out.keeps (below_keeps hb)) HS.out hNC hCC)
        generalize (⟨(textT c TC LC N F).toArray⟩ : ByteArray) = T at HP HQ
        clear hs HS HBB
        replace HB := Lib.hid (show w1.drew.heap[w.heap.size]? = _ from HB.out)
        replace HK := Lib.hid (show Below w.heap.size w w1.drew from ⟨HK.out.os, HK.out.tape, HK.out.output, HK.out.size, HK.out.block⟩)
        go_wp2_with fail
        go_region_held3 (fun w' => w'.cell? ⟨w.heap.size, 0, none⟩ = some (.slice c.ta c.nT c.tc) ∧ w'.cell? ⟨w.heap.size, 1, none⟩ = some (.slice c.la c.nL c.lc) ∧ w'.cell? ⟨w.heap.size, 2, none⟩ = some (.slice c.oa c.nO c.oc) ∧ w'.cell? ⟨w.heap.size, 3, none⟩ = some (.int .i64 c.tick))
          (first
            | exact ⟨cell_of HB.out 0, cell_of HB.out 1, cell_of HB.out 2, cell_of HB.out 3⟩
            | go_keep)
          (first
            | (go_at_call 7; refine (HP.out _ HK.out).mono ?_; rintro e w8 ⟨rfl, k8⟩; replace HB := Lib.hid (Below.at k8 HB.out (lt_of HB.out)); replace HK := Lib.hid (HK.out.trans (k8.mono HK.out.size)); clear k8)
            | (go_at_call 8; refine (HQ.out _ HK.out).mono ?_; rintro e w8 ⟨rfl, k8⟩; replace HB := Lib.hid (Below.at k8 HB.out (lt_of HB.out)); replace HK := Lib.hid (HK.out.trans (k8.mono HK.out.size)); clear k8)
            | (go_at_call 9; refine (head_any _ W).mono ?_; rintro e w8 ⟨rfl, k8⟩; replace HB := Lib.hid (k8.at HB.out fun h => h); replace HK := Lib.hid (HK.out.trans (k8.none.mono HK.out.size)); clear k8)
            | (go_at_call 10; refine (rhead_any _ W).mono ?_; rintro e w8 ⟨rfl, rfl⟩)
            | (go_at_call 6; refine (alive44_any _).mono ?_; rintro e w8 ⟨rfl, k8⟩; replace HB := Lib.hid (Below.at k8 HB.out (lt_of HB.out)); replace HK := Lib.hid (HK.out.trans (k8.mono HK.out.size)); clear k8))
        all_goals
          go_wp2
          go_ret
          exact ⟨rfl, HK.out⟩
set_option maxRecDepth 100000 in
theorem row_ofT {H : Type} {enc : TypeId × Value → H} {W : World} {base : Nat} {v : Value} {d : DataW H} {p : List MemPlace}
    (k : Value.okWide Try.prog W .any base 27 v) (h : DataW.Trod enc Try.prog W 0 (fun _ => true) true 27 v d p) :
    ∃ (a : Option Addr) (n cap : Nat) (F : Nat → Int), v = .slice a n cap ∧ n ≤ cap ∧ cap ≤ maxLen ∧ ChAt W a n F ∧ ∀ i, i < n → -9223372036854775808 ≤ F i ∧ F i ≤ 9223372036854775807 := by
  obtain ⟨a, n, cap, F, rfl, hn, hr, hwf⟩ := row_of k h
  obtain ⟨a1, n1, c1, e, hl, hm, _⟩ := (reads_of h).rows Try.underlying27 (n := 1) (by kernel_rfl) (by omega)
  simp [Value.cells] at e
  obtain ⟨rfl, rfl, rfl⟩ := e
  exact ⟨a, n, cap, F, rfl, hl, hm, fun h0 => by
    obtain ⟨g, o, e, hg, hc⟩ := hr h0
    exact ⟨g, o, e, hg, hc⟩, fun i hi => bounds_i64 (hwf i hi)⟩
set_option maxRecDepth 100000 in
theorem textPrints_walk {H : Type} {enc : TypeId × Value → H} (W : World) (base : Nat) {v0 v1 v2 : Value} {d0 d1 d2 : DataW H} {p0 p1 p2 : List MemPlace}
    (k0 : Value.okWide Try.prog W .any base 26 v0) (h0 : DataW.Trod enc Try.prog W 0 (fun _ => true) true 26 v0 d0 p0)
    (k1 : Value.okWide Try.prog W .any base 27 v1) (h1 : DataW.Trod enc Try.prog W 0 (fun _ => true) true 27 v1 d1 p1)
    (k2 : Value.okWide Try.prog W .any base 9 v2) (h2 : DataW.Trod enc Try.prog W 0 (fun _ => true) true 9 v2 d2 p2) :
    Calls Try.prog 3 #[v0, v1, v2] W fun e w' => e = .returned (.bool true) ∧ Below W.heap.size W w' := by
  obtain ⟨cs0, rfl, _⟩ := okWide_struct Try.underlying26 k0
  obtain ⟨a, n, cap, F, rfl, hl, hm, hch, hF⟩ := row_ofT k1 h1
  obtain ⟨B, rfl, _, _, hB⟩ := Go.ChangeMaps.open_string Try.underlying9 k2 h2
  obtain ⟨c, TC, LC, e0, hc, ho⟩ := txcfg_of (reads_of h0)
  obtain rfl : cs0 = c.cells := by
    have : cs0.toList = c.cells.toList := by simpa [Value.cells] using e0
    exact Array.toList_inj.1 this
  exact tprints_any W c TC LC a n cap F B hc ho hch hl hm hF hB
end Go.Proofs.Ytdjfelabdofaaaa
