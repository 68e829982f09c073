import Derived.Test.YtilbendneahikaaRowJ
namespace Go.Proofs.Ytilbendneahikaa
open Go.ChangeShapes Go.WideShapes Go.ChangeAt Go.RowKit
set_option linter.unusedVariables false
set_option linter.unusedSimpArgs false
/-- A slice of strings, read. -/
theorem strs_of {w : World} {cs : List Value} (h : Reads Try.prog w 38 cs) :
    ∃ (a : Option Addr) (n c : Nat) (F : Nat → List UInt8), cs = [.slice a n c] ∧ n ≤ maxLen ∧ StrRow w a n F ∧ ∀ i, i < n → (F i).length ≤ maxLen := by
  obtain ⟨a, n, c, e, hl, hm, r⟩ := h.rows Try.underlying38 (n := 1) (by kernel_rfl) (by omega)
  rcases Nat.eq_zero_or_pos n with rfl | hp
  · exact ⟨a, 0, c, fun _ => [], e, by omega, (fun h => by omega), fun i hi => by omega⟩
  · obtain ⟨b, off, rfl, hb, hr⟩ := r hp
    obtain ⟨F, hF⟩ := Deep.choose_lt (n := n) (p := fun i (x : List UInt8) => w.cell? ⟨b, off + i, none⟩ = some (.string ⟨x.toArray⟩) ∧ x.length ≤ maxLen) (fun i hi => by
      obtain ⟨cs', _, hc, hrd⟩ := hr i hi
      obtain ⟨s, rfl, hs⟩ := hrd.string Try.underlying9
      have h0 := hc 0 (by omega)
      obtain ⟨x, rfl⟩ : ∃ l : List UInt8, s = ⟨l.toArray⟩ := ⟨s.data.toList, by apply ByteArray.ext; simp⟩
      rw [str_size] at hs
      refine ⟨x, ?_, hs⟩
      simpa using h0)
    exact ⟨_, n, c, F, e, by omega, fun _ => ⟨b, off, rfl, hb, fun i hi => (hF i hi).1⟩, fun i hi => (hF i hi).2⟩
theorem row03_of {w : World} {cs : List Value} (h : Reads Try.prog w 40 cs) :
    ∃ (N : Int) (a : Option Addr) (n c : Nat) (F : Nat → List UInt8), cs = [.int .i64 N, .slice a n c] ∧ n ≤ maxLen ∧ StrRow w a n F ∧ ∀ i, i < n → (F i).length ≤ maxLen := by
  obtain ⟨hl, hf⟩ := h.struct Try.underlying40
  have hc : Try.prog.cellsOf 40 = 2 := by kernel_rfl
  have hi : Try.prog.cellsOf 3 = 1 := by kernel_rfl
  have hs : Try.prog.cellsOf 38 = 1 := by kernel_rfl
  rw [hc] at hl
  match cs, hl with
  | [v0, v1], _ =>
    obtain ⟨N, hN, _⟩ := (h.field Try.underlying40 0 3 0 1 rfl hi).int Try.underlying3
    obtain ⟨a, n, c, F, hS, h1, h2, h3⟩ := strs_of (h.field Try.underlying40 1 38 1 1 rfl hs)
    simp at hN hS
    exact ⟨N, a, n, c, F, by simp [hN, hS], h1, h2, h3⟩
set_option maxRecDepth 20000 in
set_option maxHeartbeats 1000000 in
theorem takes_any (w : World) (N : Int) (A : Option Addr) (n c : Nat) (F : Nat → List UInt8) (x a b : Int) (hn : n ≤ maxLen) (hr : StrRow w A n F) (hF : ∀ i, i < n → (F i).length ≤ maxLen)
    (hx : -9223372036854775808 ≤ x ∧ x ≤ 9223372036854775807) (ha : -9223372036854775808 ≤ a ∧ a ≤ 9223372036854775807) (hb : -9223372036854775808 ≤ b ∧ b ≤ 9223372036854775807) :
    Calls Try.prog 5 #[.agg #[.int .i64 N, .slice A n c], .int .i64 x, .int .i64 a, .int .i64 b] w fun e w' => e = .returned (.bool true) ∧ Below w.heap.size w w' := by
  have HR := Lib.hid hr
  have HF := Lib.hid hF
  have HN := Lib.hid hn
  clear hr hF hn
  go_enter Try.func5, Try.ntmps5
  go_wp2_with fail
  have h1 := heap_old (heap_new w (.cells #[.int .i64 N, .slice A n c] 40)) (.cells #[.int .i64 N, .slice A n c] 40)
  have h2 := heap_new (w.alloc (.cells #[.int .i64 N, .slice A n c] 40)) (.cells #[.int .i64 N, .slice A n c] 40)
  have hz : (w.alloc (.cells #[.int .i64 N, .slice A n c] 40)).heap.size = w.heap.size + 1 := by simp
  rw [hz] at h2
  have HB := Lib.hid (show Below w.heap.size w ((w.alloc (.cells #[.int .i64 N, .slice A n c] 40)).alloc (.cells #[.int .i64 N, .slice A n c] 40)) from ((Below.refl _ w).alloc (Nat.le_refl _) _).alloc (by simp) _)
  have c0 := cell_of h1 0
  have c1 := cell_of h1 1
  have c0 : ((w.alloc (.cells #[.int .i64 N, .slice A n c] 40)).alloc (.cells #[.int .i64 N, .slice A n c] 40)).cell? ⟨w.heap.size, 0, none⟩ = some (.int .i64 N) := c0
  have c1 : ((w.alloc (.cells #[.int .i64 N, .slice A n c] 40)).alloc (.cells #[.int .i64 N, .slice A n c] 40)).cell? ⟨w.heap.size, 1, none⟩ = some (.slice A n c) := c1
  have hzz : ((w.alloc (.cells #[.int .i64 N, .slice A n c] 40)).alloc (.cells #[.int .i64 N, .slice A n c] 40)).heap.size = w.heap.size + 2 := by simp
  have HL := Lib.hid (large_any _ (w.heap.size + 1) N A n c _ F h2 HN.out (HR.out.below HB.out) HF.out)
  generalize (w.alloc (.cells #[.int .i64 N, .slice A n c] 40)).alloc (.cells #[.int .i64 N, .slice A n c] 40) = W at *
  have H1 := Lib.hid h1
  have HZZ := Lib.hid hzz
  clear h1 h2 hz hzz
  refine HL.out.mono ?_
  rintro e1 w1 ⟨r, rfl, hsm, hw1⟩
  have hw1' := hw1.symm
  subst hw1'
  cases r with
  | true =>
    clear hsm
    go_wp2_with fail
    refine (alive03_any _).mono ?_
    rintro e2 w2 ⟨rfl, k2⟩
    have HK := Lib.hid (HB.out.trans (k2.mono HB.out.size))
    clear k2
    go_wp2_with fail
    go_ret
    exact ⟨rfl, HK.out⟩
  | false =>
    obtain ⟨hn20, hF60⟩ := hsm rfl
    have HF2 := Lib.hid (show ∀ i, i < n → (F i).length < 1000000 from fun i hi => by have := hF60 i hi; omega)
    obtain ⟨L, hLl, hN1, hN2⟩ := both_numbers w N A n c F x hn20 HR.out HF2.out hx
    have HN1 := Lib.hid hN1
    have HN2 := Lib.hid hN2
    have hNl : (splN 0 4294967295 L).length ≤ 1000001 := by unfold splN; split <;> simp; omega
    have HNl := Lib.hid hNl
    have HT1 := Lib.hid (fun w1 (h : Below w.heap.size w w1) => take_any w1 N A n c F x a b HN.out (HR.out.below h) HF2.out hx ha hb)
    have HT2 := Lib.hid (fun w1 (h : Below w.heap.size w w1) => rtake_any w1 N A n c F x a b HN.out (HR.out.below h) HF2.out hx ha hb)
    generalize (takP F n x a b).1 = t1 at *
    generalize (takP F n x a b).2 = t2 at *
    clear hF60 hsm hN1 hN2 hNl hLl hn20
    go_wp2_with fail
    refine (HT1.out _ HB.out).mono ?_
    rintro e2 w2 ⟨rfl, k2⟩
    have H2 := Lib.hid (k2.at H1.out fun h => h)
    have HB2 := Lib.hid (HB.out.trans (k2.none.mono HB.out.size))
    have d0 := (cell_of H2.out 0).trans (show (#[Value.int .i64 N, .slice A n c] : Array Value)[0]? = some (.int .i64 N) from rfl)
    have d1 := (cell_of H2.out 1).trans (show (#[Value.int .i64 N, .slice A n c] : Array Value)[1]? = some (.slice A n c) from rfl)
    clear k2 c0 c1
    go_wp2_with fail
    refine (HT2.out _ HB2.out).mono ?_
    rintro e3 w3 ⟨rfl, k3⟩
    have H3 := Lib.hid (k3.at H2.out fun h => h)
    have HB3 := Lib.hid (HB2.out.trans (k3.none.mono HB2.out.size))
    have f0 := (cell_of H3.out 0).trans (show (#[Value.int .i64 N, .slice A n c] : Array Value)[0]? = some (.int .i64 N) from rfl)
    have f1 := (cell_of H3.out 1).trans (show (#[Value.int .i64 N, .slice A n c] : Array Value)[1]? = some (.slice A n c) from rfl)
    clear k3 d0 d1
    go_wp2_with fail
    refine (HN1.out _ HB3.out).mono ?_
    rintro e4 w4 ⟨v4, rfl, o4, k4⟩
    have H4 := Lib.hid ((k4.block _ (lt_of H3.out)).trans H3.out)
    have HB4 := Lib.hid (And.intro o4 (HB3.out.trans (k4.mono HB3.out.size)))
    have i0 := (cell_of H4.out 0).trans (show (#[Value.int .i64 N, .slice A n c] : Array Value)[0]? = some (.int .i64 N) from rfl)
    have i1 := (cell_of H4.out 1).trans (show (#[Value.int .i64 N, .slice A n c] : Array Value)[1]? = some (.slice A n c) from rfl)
    clear k4 o4 f0 f1
    go_wp2_with fail
    refine (HN2.out _ HB4.out.2).mono ?_
    rintro e5 w5 ⟨v5, rfl, o5, k5⟩
    have HB5 := Lib.hid (And.intro (row_on HB4.out.1 k5) (And.intro o5 (HB4.out.2.trans (k5.mono HB4.out.2.size))))
    clear k5 o5 i0 i1
    generalize splF 0 4294967295 L = f at *
    go_wp2_with fail
    refine (same_words _ _ _ v4 v5 _ _ HNl.out HB5.out.1 HB5.out.2.1).mono ?_
    rintro e6 w6 ⟨rfl, k6⟩
    have HB6 := Lib.hid (HB5.out.2.2.trans (k6.none.mono HB5.out.2.2.size))
    clear k6
    go_wp2_with fail
    refine (alive03_any _).mono ?_
    rintro e7 w7 ⟨rfl, k7⟩
    have HB7 := Lib.hid (HB6.out.trans (k7.mono HB6.out.size))
    clear k7
    go_wp2_with fail
    go_ret
    exact ⟨rfl, HB7.out⟩
set_option maxRecDepth 100000 in
theorem rowsTakes_walk {H : Type} {enc : TypeId × Value → H} (W : World) (base : Nat) {v0 v1 v2 v3 : Value} {d0 d1 d2 d3 : DataW H} {p0 p1 p2 p3 : List MemPlace}
    (k0 : Value.okWide Try.prog W .any base 40 v0) (h0 : DataW.Trod enc Try.prog W 0 (fun _ => true) true 40 v0 d0 p0)
    (k1 : Value.okWide Try.prog W .any base 3 v1) (h1 : DataW.Trod enc Try.prog W 0 (fun _ => true) true 3 v1 d1 p1)
    (k2 : Value.okWide Try.prog W .any base 3 v2) (h2 : DataW.Trod enc Try.prog W 0 (fun _ => true) true 3 v2 d2 p2)
    (k3 : Value.okWide Try.prog W .any base 3 v3) (h3 : DataW.Trod enc Try.prog W 0 (fun _ => true) true 3 v3 d3 p3) :
    Calls Try.prog 5 #[v0, v1, v2, v3] W fun e w' => e = .returned (.bool true) ∧ Below W.heap.size W w' := by
  obtain ⟨cs, rfl, _⟩ := okWide_struct Try.underlying40 k0
  obtain ⟨N, A, n, c, F, hcs, hn, hr, hF⟩ := row03_of (reads_of h0)
  obtain rfl : cs = #[.int .i64 N, .slice A n c] := by
    have : cs.toList = [.int .i64 N, .slice A n c] := by simpa [Value.cells] using hcs
    cases cs; simp_all
  obtain ⟨x, rfl, _, _, wx⟩ := open_int Try.underlying3 k1 h1
  obtain ⟨a, rfl, _, _, wa⟩ := open_int Try.underlying3 k2 h2
  obtain ⟨b, rfl, _, _, wb⟩ := open_int Try.underlying3 k3 h3
  exact takes_any W N A n c F x a b hn hr hF (bounds_i64 wx) (bounds_i64 wa) (bounds_i64 wb)
end Go.Proofs.Ytilbendneahikaa
