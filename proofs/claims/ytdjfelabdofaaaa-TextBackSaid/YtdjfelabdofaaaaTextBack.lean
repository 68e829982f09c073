/-
  Whatever the configuration and the choices, bellropelaw44.TextBack returns true.
-/
import Derived.Test.YtdjfelabdofaaaaTextPrints
import Derived.Test.YtdjfelabdofaaaaTextBb
import Derived.Test.YtdjfelabdofaaaaTextBc
import Derived.Test.YtdjfelabdofaaaaSame
namespace Go.Proofs.Ytdjfelabdofaaaa
open Go.ChangeShapes Go.WideShapes Go.ChangeAt Go.RowKit
set_option linter.unusedVariables false
set_option linter.unusedSimpArgs false
theorem fitB_is {n : Int} (h : fitB n = true) : is32 n := by
  simp [fitB] at h
  exact ⟨h.1, by omega⟩
theorem back_ok {w : World} {c : CfD} {TC LC : Nat → List CallD} {N : Nat} {F : Nat → Int} (hx : TxIn w c TC LC) (hok : TxOk c) (hs : TxS c N F) (hw : WholeP c TC LC) (hf : ∀ i, i < N → fitB (F i) = true) : BackOk c TC LC N F := by
  have hfit : ∀ {a n} {L : List CallD}, CodeAt w a n L → (∀ x, x ∈ L → callB x) → ∀ x, x ∈ L → x.Fit := fun {a n L} hc hb x hm => by
    have h1 := hc.2.1 x hm
    have h2 := hb x hm
    have h3 := fitB_is h2.1
    exact ⟨⟨by have := h2.2.1; omega, by have := h2.2.2; omega⟩, h3, h1.v0, h1.v1, h1.v2, h1.v3, h1.n⟩
  refine ⟨hs.t, hs.l, hs.o, hs.n, fitB_is hw.k, fun i hi => fitB_is (hw.t i hi).1, fun i hi => fitB_is (hw.l i hi).1, fun i hi j hj => fitB_is (hw.o i hi j hj), hok.oi, fun i hi => fitB_is (hf i hi), fun i hi => ⟨?_, hfit (hx.tc i hi) (hw.t i hi).2⟩, fun i hi => ⟨?_, hfit (hx.lc i hi) (hw.l i hi).2⟩⟩
  · rw [(hx.tc i hi).1]; exact hs.tl i hi
  · rw [(hx.lc i hi).1]; exact hs.ll i hi
theorem agree_of {w : World} {B p : Nat} {c : CfD} {TC LC : Nat → List CallD} {N : Nat} {F : Nat → Int} {m : MS (PD × Value)} (t l o : Value) (hb : BackOk c TC LC N F) (hq : m.map Prod.fst = runP ms0 (rowsT c TC LC N F)) :
    Agree c (cfdM m t l o) TC (codeM m.allT) LC (codeM m.allV) ∧ m.C = (List.range N).map F ∧ (∀ d, d ∈ m.allT ++ m.allV → ∀ x, x ∈ d.1.L → x.Ok) := by
  obtain ⟨_, hT, hV, hO, htk, hC⟩ := rows_run hb
  rw [← hq, map_allT] at hT
  rw [← hq, map_allV] at hV
  rw [← hq] at hO htk hC
  have hO : m.O = _ := hO
  have htk : m.tick = _ := htk
  have hC : m.C = _ := hC
  have gT : ∀ i, i < c.nT → ∃ d, m.allT[i]? = some d ∧ d.1 = ⟨c.tp i, c.tb i, TC i⟩ := fun i hi => by
    have h := congrArg (fun l => l[i]?) hT
    simp only [List.getElem?_map, List.getElem?_range hi, Option.map_some] at h
    cases h2 : m.allT[i]? with
    | none => rw [h2] at h; cases h
    | some d => rw [h2] at h; exact ⟨d, rfl, Option.some.inj h⟩
  have gV : ∀ i, i < c.nL → ∃ d, m.allV[i]? = some d ∧ d.1 = ⟨c.lr i, false, LC i⟩ := fun i hi => by
    have h := congrArg (fun l => l[i]?) hV
    simp only [List.getElem?_map, List.getElem?_range hi, Option.map_some] at h
    cases h2 : m.allV[i]? with
    | none => rw [h2] at h; cases h
    | some d => rw [h2] at h; exact ⟨d, rfl, Option.some.inj h⟩
  have lT : m.allT.length = c.nT := by have := congrArg List.length hT; simpa using this
  have lV : m.allV.length = c.nL := by have := congrArg List.length hV; simpa using this
  refine ⟨⟨lT, lV, ?_, htk, fun i hi => ?_, fun i hi => ?_, fun i hi => ?_⟩, hC, ?_⟩
  · show m.O.length = c.nO
    rw [hO]; simp
  · obtain ⟨d, h1, h2⟩ := gT i hi
    simp only [cfdM, codeM, h1, h2]
    exact ⟨trivial, trivial, trivial⟩
  · obtain ⟨d, h1, h2⟩ := gV i hi
    simp only [cfdM, codeM, h1, h2]
    exact ⟨trivial, trivial⟩
  · have h1 : m.O[i]? = some (objF c i) := by rw [hO]; simp [List.getElem?_range hi]
    simp only [cfdM, CfD.obj, h1]
    rfl
  · intro d hd x hx
    rcases List.mem_append.1 hd with hd | hd
    · obtain ⟨i, hi⟩ := List.getElem?_of_mem hd
      have hlt : i < c.nT := by rw [← lT]; exact (List.getElem?_eq_some_iff.1 hi).1
      obtain ⟨d', h1, h2⟩ := gT i hlt
      rw [hi] at h1
      obtain rfl := Option.some.inj h1
      rw [h2] at hx
      exact ((hb.tc i hlt).2 x hx).ok
    · obtain ⟨i, hi⟩ := List.getElem?_of_mem hd
      have hlt : i < c.nL := by rw [← lV]; exact (List.getElem?_eq_some_iff.1 hi).1
      obtain ⟨d', h1, h2⟩ := gV i hlt
      rw [hi] at h1
      obtain rfl := Option.some.inj h1
      rw [h2] at hx
      exact ((hb.lc i hlt).2 x hx).ok
theorem same01_at (w : World) (B : Nat) (v : Value) (A : Option Addr) (N CC : Nat) (F : Nat → Int) (h : w.ownsRow B 3 1 v N (intsV ((List.range N).map F))) (hch : ChAt w A N F) (hN : N ≤ maxLen) :
    Calls Try.prog 15 #[v, .slice A N CC] w fun e w' => e = .returned (.bool true) ∧ Keeps (fun _ => False) w w' := by
  rcases Nat.eq_zero_or_pos N with rfl | hp
  · obtain ⟨a, c, rfl⟩ := own_slice h
    exact rsame_zero a A c CC w
  · obtain ⟨g, c, rfl, hg, hc⟩ := own_cells h hp
    obtain ⟨b, o, rfl, hb, hcc⟩ := hch hp
    refine rsame_some g 0 b o N c CC F w hN (fun i hi => ?_) hcc
    rw [Nat.zero_add]
    exact hc i _ (by simp [intsV, List.getElem?_range hi])
/-- **What was printed is parsed as it was.** -/
theorem back_parse (w : World) (c : CfD) (TC LC : Nat → List CallD) (N : Nat) (F : Nat → Int) (hb : BackOk c TC LC N F) (hlen : (textT c TC LC N F).length ≤ 65536) :
    Calls Try.prog 13 #[.string ⟨(textT c TC LC N F).toArray⟩] w fun e w' => ∃ (d : CfD) (TD LD : Nat → List CallD) (v : Value) (B : Nat), e = .returned (.tuple #[.agg d.cells, v, .int .i64 0, .int .i64 0]) ∧ TxIn w' d TD LD ∧ Agree c d TC TD LC LD ∧ w'.ownsRow B 3 1 v N (intsV ((List.range N).map F)) ∧ Below w.heap.size w w' := by
  have ht : catL ((rowsT c TC LC N F).map wordsR) = textT c TC LC N F := by rw [words_rows, cat_text]
  have hp := parse_rows w (rowsT c TC LC N F) (by rw [ht]; exact hlen) (rows_run hb).1
  rw [ht] at hp
  refine hp.mono ?_
  rintro e w' ⟨t, l, o, ch, ow, p, Bk, m, rfl, hm, hq, _, hbl⟩
  obtain ⟨ag, hC, hO⟩ := agree_of (w := w) (B := 0) (p := p) t l o hb hq
  obtain ⟨hcells, hin⟩ := cfd_in hm hO
  have hcr := hm.cr
  rw [hC] at hcr
  rw [List.length_map, List.length_range] at hcr
  exact ⟨_, _, _, ch, p, by rw [← hcells], hin, ag, hcr, hbl⟩
set_option maxRecDepth 100000 in
set_option maxHeartbeats 8000000 in
theorem tback_any (w : World) (c : CfD) (TC LC : Nat → List CallD) (A : Option Addr) (N CC : Nat) (F : Nat → Int) (hx : TxIn w c TC LC) (hok : TxOk c) (hch : ChAt w A N F) (hNC : N ≤ CC) (hCC : CC ≤ maxLen) (hF : ∀ i, i < N → -9223372036854775808 ≤ F i ∧ F i ≤ 9223372036854775807) :
    Calls Try.prog 4 #[.agg c.cells, .slice A N CC] w fun e w' => e = .returned (.bool true) ∧ Below w.heap.size w w' := by
  have hCC' := hCC
  unfold maxLen at hCC'
  have k0 := (Keeps.refl (fun _ => False) w).alloc (.cells #[.slice c.ta c.nT c.tc, .slice c.la c.nL c.lc, .slice c.oa c.nO c.oc, .int .i64 c.tick] 26)
  have HB := Lib.hid (heap_new w (.cells #[.slice c.ta c.nT c.tc, .slice c.la c.nL c.lc, .slice c.oa c.nO c.oc, .int .i64 c.tick] 26))
  have HK := Lib.hid k0.none
  have HX := Lib.hid hx
  have HCH := Lib.hid hch
  have HOK := Lib.hid hok
  have HLT := Lib.hid (light44_any c _ (hx.cf.none k0) hok.ok)
  clear hx hch hok k0
  go_enter Try.func4, Try.ntmps4
  go_wp2_with fail
  refine HLT.out.mono ?_
  rintro e1 w1 ⟨b, rfl, hb, k1⟩
  replace HB := Lib.hid (k1.at HB.out fun h => h)
  replace HK := Lib.hid (HK.out.trans (k1.none.mono HK.out.size))
  have HBB := Lib.hid hb
  clear hb k1 HLT
  cases b with
  | false =>
    go_wp2_with fail
    refine (alive44_any _).mono ?_
    rintro e2 w2 ⟨rfl, k2⟩
    replace HK := Lib.hid (HK.out.trans (k2.mono HK.out.size))
    clear k2
    go_wp2
    go_ret
    exact ⟨rfl, HK.out⟩
  | true =>
    by_cases hN : 300 < N
    · have d0 : decide ((300 : Int) < (N : Int)) = true := decide_eq_true (by omega)
      have d2 : (300 < (N : Int)) = True := by simp; omega
      go_wp2_with fail
      all_goals
        refine (alive44_any _).mono ?_
        rintro e2 w2 ⟨rfl, k2⟩
        replace HK := Lib.hid (HK.out.trans (k2.mono HK.out.size))
        clear k2
        go_wp2
        go_ret
        exact ⟨rfl, HK.out⟩
    · have d0 : decide ((300 : Int) < (N : Int)) = false := decide_eq_false (by omega)
      have d2 : (300 < (N : Int)) = False := by simp; omega
      have hs := HBB.out rfl
      have HS := Lib.hid (show TxS c N F from ⟨HOK.out, hs.1, hs.2.1, hs.2.2.1, hs.2.2.2.1, hs.2.2.2.2, by omega, hF⟩)
      clear hs HBB hF
      go_wp2_with fail
      go_loopw [5] (fun i wr => ∃ (k : Nat), k ≤ N ∧ i = .int .i64 (k : Int) ∧ (∀ i, i < k → fitB (F i) = true) ∧ wr.heap[w.heap.size]? = some (.cells #[.slice c.ta c.nT c.tc, .slice c.la c.nL c.lc, .slice c.oa c.nO c.oc, .int .i64 c.tick] 26 (0, 0)) ∧ Below w.heap.size w wr) (fun i _ => N - (intOf i).toNat)
      case atStart => exact ⟨0, by omega, rfl, (fun i hi => by omega), HB.out, HK.out⟩
      case round =>
        obtain ⟨k, hk, rfl, hall, hb0, hkp⟩ := hrel
        clear HB HK
        have HALL := Lib.hid hall
        have HB := Lib.hid hb0
        have HK := Lib.hid hkp
        clear hall hb0 hkp
        rcases Nat.lt_or_ge k N with hlt | hge
        · have d1 : ((k : Int) < (N : Int)) = True := by simp; omega
          obtain ⟨g, o, rfl, hg, hc⟩ := (HCH.out.keeps (below_keeps HK.out)) (by omega)
          have c0 := hc k hlt
          clear hc
          cases h0 : fitB (F k) with
          | false =>
            go_wp2_with (go_at_call 11; refine (fits_any _ _).mono ?_; rintro e1 w1 ⟨rfl, rfl⟩; rw [h0])
            refine (alive44_any _).mono ?_
            rintro e2 w2 ⟨rfl, k2⟩
            replace HK := Lib.hid (HK.out.trans (k2.mono HK.out.size))
            clear k2
            go_wp2
            go_ret
            exact ⟨rfl, HK.out⟩
          | true =>
            have H0 := Lib.hid h0
            go_wp2_with (go_at_call 11; refine (fits_any _ _).mono ?_; rintro e1 w1 ⟨rfl, rfl⟩; rw [h0])
            go_roundw
            case rel =>
              refine ⟨k + 1, by omega, by go_num, ?_, HB.out, HK.out⟩
              intro i hi
              rcases Nat.lt_or_ge i k with h | h
              · exact HALL.out i h
              · obtain rfl : i = k := by omega
                exact H0.out
            case measure => simp [intOf]; omega
        · obtain rfl : k = N := by omega
          have x0 : wr.cell? ⟨w.heap.size, 0, none⟩ = some (.slice c.ta c.nT c.tc) := cell_of HB.out 0
          have x1 : wr.cell? ⟨w.heap.size, 1, none⟩ = some (.slice c.la c.nL c.lc) := cell_of HB.out 1
          have x2 : wr.cell? ⟨w.heap.size, 2, none⟩ = some (.slice c.oa c.nO c.oc) := cell_of HB.out 2
          have x3 : wr.cell? ⟨w.heap.size, 3, none⟩ = some (.int .i64 c.tick) := cell_of HB.out 3
          have lx := lt_of HB.out
          go_wp2_with fail
          refine (show Calls Try.prog 12 #[.agg #[.slice c.ta c.nT c.tc, .slice c.la c.nL c.lc, .slice c.oa c.nO c.oc, .int .i64 c.tick]] wr (WholeQ wr c TC LC) from whole_any wr c TC LC (HX.out.keeps (below_keeps HK.out)) HS.out.t HS.out.l HS.out.o HS.out.tl HS.out.ll).mono ?_
          rintro e3 w3 ⟨b3, rfl, hb3, k3⟩
          replace HB := Lib.hid (k3.at HB.out fun h => h)
          replace HK := Lib.hid (HK.out.trans (k3.none.mono HK.out.size))
          have HBB := Lib.hid hb3
          clear hb3 k3 x0 x1 x2 x3 lx
          cases b3 with
          | false =>
            go_wp2_with fail
            refine (alive44_any _).mono ?_
            rintro e2 w2 ⟨rfl, k2⟩
            replace HK := Lib.hid (HK.out.trans (k2.mono HK.out.size))
            clear k2
            go_wp2
            go_ret
            exact ⟨rfl, HK.out⟩
          | true =>
            have HOKB := Lib.hid (back_ok HX.out HOK.out HS.out (HBB.out rfl) HALL.out)
            have x0 : w3.cell? ⟨w.heap.size, 0, none⟩ = some (.slice c.ta c.nT c.tc) := cell_of HB.out 0
            have x1 : w3.cell? ⟨w.heap.size, 1, none⟩ = some (.slice c.la c.nL c.lc) := cell_of HB.out 1
            have x2 : w3.cell? ⟨w.heap.size, 2, none⟩ = some (.slice c.oa c.nO c.oc) := cell_of HB.out 2
            have x3 : w3.cell? ⟨w.heap.size, 3, none⟩ = some (.int .i64 c.tick) := cell_of HB.out 3
            have lx := lt_of HB.out
            go_wp2_with fail
            refine (show Calls Try.prog 7 #[.agg #[.slice c.ta c.nT c.tc, .slice c.la c.nL c.lc, .slice c.oa c.nO c.oc, .int .i64 c.tick], .slice A k CC] w3 _ from text_any w3 c TC LC A k CC F (HX.out.keeps (below_keeps HK.out)) (HCH.out.keeps (below_keeps HK.out)) HS.out hNC hCC).mono ?_
            rintro e4 w4 ⟨rfl, k4⟩
            replace HB := Lib.hid (Below.at k4 HB.out (lt_of HB.out))
            replace HK := Lib.hid (HK.out.trans (k4.mono HK.out.size))
            clear k4 x0 x1 x2 x3 lx HBB HALL
            have HPA := Lib.hid (fun (W : World) (hl : (textT c TC LC k F).length ≤ 65536) => back_parse W c TC LC k F HOKB.out hl)
            have hsz : (⟨(textT c TC LC k F).toArray⟩ : ByteArray).size = (textT c TC LC k F).length := str_size _
            generalize (⟨(textT c TC LC k F).toArray⟩ : ByteArray) = T at HPA hsz ⊢
            generalize (textT c TC LC k F).length = tl at *
            subst hsz
            by_cases hbig : 65536 < T.size
            · have d3 : decide ((65536 : Int) < (T.size : Int)) = true := decide_eq_true (by omega)
              have d4 : ((65536 : Int) < (T.size : Int)) = True := by simp; omega
              go_wp2_with fail
              all_goals
                refine (alive44_any _).mono ?_
                rintro e2 w2 ⟨rfl, k2⟩
                replace HK := Lib.hid (HK.out.trans (k2.mono HK.out.size))
                clear k2
                go_wp2
                go_ret
                exact ⟨rfl, HK.out⟩
            · have d3 : decide ((65536 : Int) < (T.size : Int)) = false := decide_eq_false (by omega)
              have d4 : ((65536 : Int) < (T.size : Int)) = False := by simp; omega
              go_wp2_with fail
              refine (HPA.out _ (by omega)).mono ?_
              rintro e5 w5 ⟨d, TD, LD, v, B, rfl, hin, ag, hown, k5⟩
              obtain ⟨va, vc, rfl⟩ := own_slice hown
              replace HB := Lib.hid (Below.at k5 HB.out (lt_of HB.out))
              replace HK := Lib.hid (HK.out.trans (k5.mono HK.out.size))
              have hk6 := (Keeps.refl (fun _ => False) w5).alloc (.cells #[.slice d.ta d.nT d.tc, .slice d.la d.nL d.lc, .slice d.oa d.nO d.oc, .int .i64 d.tick] 26)
              have hb6 := heap_old HB.out (.cells #[.slice d.ta d.nT d.tc, .slice d.la d.nL d.lc, .slice d.oa d.nO d.oc, .int .i64 d.tick] 26)
              have hd6 := heap_new w5 (.cells #[.slice d.ta d.nT d.tc, .slice d.la d.nL d.lc, .slice d.oa d.nO d.oc, .int .i64 d.tick] 26)
              have x0 := cell_of hb6 0
              have x1 := cell_of hb6 1
              have x2 := cell_of hb6 2
              have x3 := cell_of hb6 3
              have y0 := cell_of hd6 0
              have y1 := cell_of hd6 1
              have y2 := cell_of hd6 2
              have y3 := cell_of hd6 3
              have lx := lt_of hb6
              have ly := lt_of hd6
              have HS4 := Lib.hid (show Calls Try.prog 14 #[.agg #[.slice c.ta c.nT c.tc, .slice c.la c.nL c.lc, .slice c.oa c.nO c.oc, .int .i64 c.tick], .agg #[.slice d.ta d.nT d.tc, .slice d.la d.nL d.lc, .slice d.oa d.nO d.oc, .int .i64 d.tick]] (w5.alloc (.cells #[.slice d.ta d.nT d.tc, .slice d.la d.nL d.lc, .slice d.oa d.nO d.oc, .int .i64 d.tick] 26)) _ from same44_any _ c d TC TD LC LD ((HX.out.keeps (below_keeps HK.out)).keeps hk6) (hin.keeps hk6) ag HS.out.t HS.out.l HS.out.o HS.out.tl HS.out.ll)
              have HK6 := Lib.hid (HK.out.trans (hk6.none.mono HK.out.size))
              have HS1 := Lib.hid (fun (W : World) (hk : Keeps (fun _ => False) (w5.alloc (.cells #[.slice d.ta d.nT d.tc, .slice d.la d.nL d.lc, .slice d.oa d.nO d.oc, .int .i64 d.tick] 26)) W) => same01_at W B (.slice va k vc) A k CC F (own_keepsT (own_keepsT hown hk6) hk) (((HCH.out.keeps (below_keeps HK.out)).keeps hk6).keeps hk) (by unfold maxLen; omega))
              clear hk6 hb6 hd6 hin ag hown k5
              go_wp2_with fail
              refine HS4.out.mono ?_
              rintro e7 w7 ⟨rfl, k7⟩
              replace HK := Lib.hid (HK6.out.trans (k7.none.mono HK6.out.size))
              have HK7 := Lib.hid k7
              clear k7 x0 x1 x2 x3 y0 y1 y2 y3 lx ly HB HS4 HK6
              go_wp2_with fail
              refine (HS1.out _ HK7.out).mono ?_
              rintro e8 w8 ⟨rfl, k8⟩
              replace HK := Lib.hid (HK.out.trans (k8.none.mono HK.out.size))
              clear k8 HS1 HK7
              go_wp2_with fail
              refine (alive44_any _).mono ?_
              rintro e9 w9 ⟨rfl, k9⟩
              replace HK := Lib.hid (HK.out.trans (k9.mono HK.out.size))
              clear k9
              go_wp2
              go_ret
              exact ⟨rfl, HK.out⟩
set_option maxRecDepth 100000 in
theorem textBack_walk {H : Type} {enc : TypeId × Value → H} (W : World) (base : Nat) {v0 v1 : Value} {d0 d1 : DataW H} {p0 p1 : List MemPlace}
    (k0 : Value.okWide Try.prog W .any base 26 v0) (h0 : DataW.Trod enc Try.prog W 0 (fun _ => true) true 26 v0 d0 p0)
    (k1 : Value.okWide Try.prog W .any base 27 v1) (h1 : DataW.Trod enc Try.prog W 0 (fun _ => true) true 27 v1 d1 p1) :
    Calls Try.prog 4 #[v0, v1] W fun e w' => e = .returned (.bool true) ∧ Below W.heap.size W w' := by
  obtain ⟨cs0, rfl, _⟩ := okWide_struct Try.underlying26 k0
  obtain ⟨a, n, cap, F, rfl, hl, hm, hch, hF⟩ := row_ofT k1 h1
  obtain ⟨c, TC, LC, e0, hc, ho⟩ := txcfg_of (reads_of h0)
  obtain rfl : cs0 = c.cells := by
    have : cs0.toList = c.cells.toList := by simpa [Value.cells] using e0
    exact Array.toList_inj.1 this
  exact tback_any W c TC LC a n cap F hc ho hch hl hm hF
end Go.Proofs.Ytdjfelabdofaaaa
