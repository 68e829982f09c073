import Derived.Test.YtilbendneahikaaNumU
import Derived.Test.YtilbendneahikaaNumO
import Derived.Test.YtilbendneahikaaNumP
import Derived.Test.YtilbendneahikaaOpen
import Derived.ChangeMaps5
namespace Go.Proofs.Ytilbendneahikaa
open Go.ChangeShapes Go.WideShapes Go.ChangeAt Go.RowKit
set_option linter.unusedVariables false
set_option linter.unusedSimpArgs false
theorem own_on {W W' : World} {B e size n : Nat} {v : Value} {xs : List Value} (h : W.ownsRow B e size v n xs) (hb : Below W.heap.size W W') : W'.ownsRow B e size v n xs :=
  h.kept (row := none) ⟨hb.os, hb.tape, hb.output, hb.size, fun j hj _ => hb.block j hj⟩ (by cases hv : v.ownBlock <;> simp)
theorem cellsI_at (N : List Int) (i : Nat) (h : i < N.length) : (cellsI N)[i]? = some (.int .i64 (N.getD i 0)) := by
  simp [cellsI, List.getElem?_map, List.getElem?_eq_getElem h, List.getD_eq_getElem?_getD]
theorem own_cell {W : World} {B n : Nat} {e : TypeId} {g c : Nat} {N : List Int} (h : W.ownsRow B e 1 (.slice (some ⟨g, 0, none⟩) n c) N.length (cellsI N)) (i : Nat) (hi : i < N.length) : W.cell? ⟨g, 0 + i, none⟩ = some (.int .i64 (N.getD i 0)) := by
  have := h.cells (g := g) rfl i _ (cellsI_at N i hi)
  rw [show ((⟨g, 0, none⟩ : Addr).add i) = ⟨g, 0 + i, none⟩ by unfold Addr.add; split <;> simp_all] at this
  exact this
/-- The document's comparison of two rows of the same numbers. -/
theorem same_rows (w : World) (B C : Nat) (u v : Value) (e : TypeId) (N : List Int) (hN : N.length ≤ 1001) (hu : w.ownsRow B e 1 u N.length (cellsI N)) (hv : w.ownsRow C e 1 v N.length (cellsI N)) :
    Calls Try.prog 17 #[u, v] w fun e w' => e = .returned (.bool true) ∧ Keeps (fun _ => False) w w' := by
  cases hl : N.length with
  | zero =>
    have h0 : ∀ {D : Nat} {x : Value}, w.ownsRow D e 1 x N.length (cellsI N) → ∃ a c, x = .slice a 0 c := by
      intro D x h
      rw [hl] at h
      rcases h.2 with ⟨rfl, _⟩ | ⟨g, cap, cur, rfl, _⟩
      · exact ⟨none, 0, rfl⟩
      · exact ⟨_, _, rfl⟩
    obtain ⟨a, c, rfl⟩ := h0 hu
    obtain ⟨a', c', rfl⟩ := h0 hv
    exact rsame_zero a a' c c' w
  | succ k =>
    obtain ⟨g, c, rfl⟩ := ownsRow_succ (k := k) (hl ▸ hu)
    obtain ⟨g', c', rfl⟩ := ownsRow_succ (k := k) (hl ▸ hv)
    rw [← hl]
    exact rsame_some g 0 g' 0 N.length c c' (fun i => N.getD i 0) w (by unfold maxLen; omega) (fun i hi => own_cell hu i hi) (fun i hi => own_cell hv i hi)
/-- Both joins of a row that lies in memory. -/
theorem both_join (w : World) (a : Option Addr) (n c : Nat) (F : Nat → Int) (b : List UInt8) (hn : n ≤ 1000) (hb : b.length ≤ 1000) (hF : ∀ i, i < n → -9223372036854775808 ≤ F i ∧ F i ≤ 9223372036854775807) (hr : Row w a n F) :
    ∃ J : ByteArray, (∀ w1, Below w.heap.size w w1 → Calls Try.prog 15 #[.slice a n c, .string ⟨b.toArray⟩] w1 fun e w' => e = .returned (.string J) ∧ Below w1.heap.size w1 w') ∧
      (∀ w1, Below w.heap.size w w1 → Calls Try.prog 16 #[.slice a n c, .string ⟨b.toArray⟩] w1 fun e w' => e = .returned (.string J) ∧ w' = w1) := by
  rcases Nat.eq_zero_or_pos n with rfl | hp
  · exact ⟨⟨#[]⟩, fun w1 _ => join_zero w1 a c _, fun w1 _ => rjoin_zero w1 a c _⟩
  · obtain ⟨g, o, rfl, hg, hc⟩ := hr hp
    exact ⟨⟨(joinN b F n).toArray⟩, fun w1 h => join_some w1 g o n c F b hn hb hF (Nat.lt_of_lt_of_le hg h.size) (fun i hi => (h.cell (p := ⟨g, o + i, none⟩) hg).trans (hc i hi)),
      fun w1 h => rjoin_some w1 g o n c F b hn hb hF (fun i hi => (h.cell (p := ⟨g, o + i, none⟩) hg).trans (hc i hi))⟩
set_option maxRecDepth 20000 in
theorem rows_light (w : World) (a : Option Addr) (n c : Nat) (B S : ByteArray) (x y z : Int) (hn : n ≤ maxLen) (hB : B.size ≤ maxLen) (hS : S.size ≤ maxLen) (h : 30 < n ∨ 20 < B.size ∨ 200 < S.size) :
    Calls Try.prog 4 #[.slice a n c, .string B, .string S, .int .i64 x, .int .i64 y, .int .i64 z] w fun e w' => e = .returned (.bool true) ∧ Below w.heap.size w w' := by
  unfold maxLen at hn hB hS
  have fin : ∀ (d1 : Bool) (d2 : Bool) (d3 : Bool), decide (30 < (n : Int)) = d1 → decide (20 < (B.size : Int)) = d2 → decide (200 < (S.size : Int)) = d3 → (d1 || d2 || d3) = true →
      Calls Try.prog 4 #[.slice a n c, .string B, .string S, .int .i64 x, .int .i64 y, .int .i64 z] w fun e w' => e = .returned (.bool true) ∧ Below w.heap.size w w' := by
    intro d1 d2 d3 h1 h2 h3 h4
    clear h
    cases d1
    · cases d2
      · cases d3
        · cases h4
        · clear h4
          go_enter Try.func4, Try.ntmps4
          go_wp2_with fail
          refine (alive01_any _).mono ?_
          rintro e1 w1 ⟨rfl, k1⟩
          have HK := Lib.hid k1
          clear k1
          go_wp2_with fail
          go_ret
          exact ⟨rfl, HK.out⟩
      · clear h4
        go_enter Try.func4, Try.ntmps4
        go_wp2_with fail
        refine (alive01_any _).mono ?_
        rintro e1 w1 ⟨rfl, k1⟩
        have HK := Lib.hid k1
        clear k1
        go_wp2_with fail
        go_ret
        exact ⟨rfl, HK.out⟩
    · clear h4
      go_enter Try.func4, Try.ntmps4
      go_wp2_with fail
      refine (alive01_any _).mono ?_
      rintro e1 w1 ⟨rfl, k1⟩
      have HK := Lib.hid k1
      clear k1
      go_wp2_with fail
      go_ret
      exact ⟨rfl, HK.out⟩
  refine fin _ _ _ rfl rfl rfl ?_
  rcases h with h | h | h
  · rw [decide_eq_true (by omega : 30 < (n : Int))]; rfl
  · rw [decide_eq_true (by omega : 20 < (B.size : Int))]; simp
  · rw [decide_eq_true (by omega : 200 < (S.size : Int))]; simp
set_option maxRecDepth 20000 in
set_option maxHeartbeats 1000000 in
theorem rows_any (w : World) (a : Option Addr) (n c : Nat) (F : Nat → Int) (b s : List UInt8) (x y z : Int) (hn : n ≤ 30) (hb : b.length ≤ 20) (hs : s.length ≤ 200) (hF : ∀ i, i < n → -9223372036854775808 ≤ F i ∧ F i ≤ 9223372036854775807) (hr : Row w a n F)
    (hx : -9223372036854775808 ≤ x ∧ x ≤ 9223372036854775807) (hy : -9223372036854775808 ≤ y ∧ y ≤ 9223372036854775807) (hz : -9223372036854775808 ≤ z ∧ z ≤ 9223372036854775807) (m : Int) (hg : 0 < w.heap.size) (hm : w.cell? ⟨0, 0, none⟩ = some (.int .i64 m)) :
    Calls Try.prog 4 #[.slice a n c, .string ⟨b.toArray⟩, .string ⟨s.toArray⟩, .int .i64 x, .int .i64 y, .int .i64 z] w fun e w' => e = .returned (.bool true) ∧ Below w.heap.size w w' := by
  obtain ⟨f, N, hNl, hS, hR⟩ := both_split s b (by omega) (by omega) x y hx hy
  obtain ⟨J, hJ, hK⟩ := both_join w a n c F b (by omega) (by omega) hF hr
  have HS := Lib.hid (hS w m hg hm)
  have HR := Lib.hid hR
  have HJ := Lib.hid hJ
  have HJR := Lib.hid hK
  have HP := Lib.hid (fun w => pad_any w x z hx hz)
  have HPR := Lib.hid (fun w => rpad_any w x z hx)
  have HN := Lib.hid hNl
  have hBz := str_size b
  have hSz := str_size s
  have d1 : decide (30 < (n : Int)) = false := decide_eq_false (by omega)
  have d2 : decide (20 < (b.length : Int)) = false := decide_eq_false (by omega)
  have d3 : decide (200 < (s.length : Int)) = false := decide_eq_false (by omega)
  clear hS hR hJ hK hm hF hr hNl
  generalize (⟨b.toArray⟩ : ByteArray) = B at *
  generalize (⟨s.toArray⟩ : ByteArray) = S at *
  generalize (⟨(padL x z).toArray⟩ : ByteArray) = PD at *
  go_enter Try.func4, Try.ntmps4
  go_wp2_with fail
  refine HS.out.mono ?_
  rintro e1 w1 ⟨v1, rfl, o1, k1⟩
  have HK1 := Lib.hid (And.intro o1 k1)
  clear o1 k1
  go_wp2_with fail
  refine (HR.out _).mono ?_
  rintro e2 w2 ⟨v2, rfl, o2, k2⟩
  have HK2 := Lib.hid (And.intro (own_on HK1.out.1 k2) (And.intro o2 (HK1.out.2.trans (k2.mono HK1.out.2.size))))
  clear o2 k2
  go_wp2_with fail
  refine (HJ.out _ HK2.out.2.2).mono ?_
  rintro e3 w3 ⟨rfl, k3⟩
  have HK3 := Lib.hid (And.intro (own_on HK2.out.1 k3) (And.intro (own_on HK2.out.2.1 k3) (HK2.out.2.2.trans (k3.mono HK2.out.2.2.size))))
  clear k3
  go_wp2_with fail
  refine (HJR.out _ HK3.out.2.2).mono ?_
  rintro e4 w4 ⟨rfl, hw4⟩
  have hw4' := hw4.symm
  subst hw4'
  go_wp2_with fail
  refine (same_rows _ _ _ v1 v2 _ N HN.out HK3.out.1 HK3.out.2.1).mono ?_
  rintro e5 w5 ⟨rfl, k5⟩
  have HK5 := Lib.hid (HK3.out.2.2.trans (k5.none.mono HK3.out.2.2.size))
  clear k5
  go_wp2_with fail
  refine (HP.out _).mono ?_
  rintro e6 w6 ⟨rfl, k6⟩
  have HK6 := Lib.hid (HK5.out.trans (k6.mono HK5.out.size))
  clear k6
  go_wp2_with fail
  refine (HPR.out _).mono ?_
  rintro e7 w7 ⟨rfl, hw7⟩
  have hw7' := hw7.symm
  subst hw7'
  go_wp2_with fail
  refine (alive01_any _).mono ?_
  rintro e8 w8 ⟨rfl, k8⟩
  have HK8 := Lib.hid (HK6.out.trans (k8.mono HK6.out.size))
  clear k8
  go_wp2_with fail
  go_ret
  exact ⟨rfl, HK8.out⟩
set_option maxRecDepth 100000 in
theorem numRows_walk {H : Type} {enc : TypeId × Value → H} (W : World) (base : Nat) {v0 v1 v2 v3 v4 v5 : Value} {d0 d1 d2 d3 d4 d5 : DataW H} {p0 p1 p2 p3 p4 p5 : List MemPlace}
    (k0 : Value.okWide Try.prog W .any base 31 v0) (h0 : DataW.Trod enc Try.prog W 0 (fun _ => true) true 31 v0 d0 p0)
    (k1 : Value.okWide Try.prog W .any base 9 v1) (h1 : DataW.Trod enc Try.prog W 0 (fun _ => true) true 9 v1 d1 p1)
    (k2 : Value.okWide Try.prog W .any base 9 v2) (h2 : DataW.Trod enc Try.prog W 0 (fun _ => true) true 9 v2 d2 p2)
    (k3 : Value.okWide Try.prog W .any base 3 v3) (h3 : DataW.Trod enc Try.prog W 0 (fun _ => true) true 3 v3 d3 p3)
    (k4 : Value.okWide Try.prog W .any base 3 v4) (h4 : DataW.Trod enc Try.prog W 0 (fun _ => true) true 3 v4 d4 p4)
    (k5 : Value.okWide Try.prog W .any base 3 v5) (h5 : DataW.Trod enc Try.prog W 0 (fun _ => true) true 3 v5 d5 p5)
    (hsh : W.ShapedOpen Try.prog) :
    Calls Try.prog 4 #[v0, v1, v2, v3, v4, v5] W fun e w' => e = .returned (.bool true) ∧ Below W.heap.size W w' := by
  obtain ⟨a, n, c, F, rfl, hn, hr, hwf⟩ := row_of k0 h0
  obtain ⟨B, rfl, _, _, hB⟩ := Go.ChangeMaps.open_string Try.underlying9 k1 h1
  obtain ⟨S, rfl, _, _, hS⟩ := Go.ChangeMaps.open_string Try.underlying9 k2 h2
  obtain ⟨x, rfl, _, _, wx⟩ := open_int Try.underlying3 k3 h3
  obtain ⟨y, rfl, _, _, wy⟩ := open_int Try.underlying3 k4 h4
  obtain ⟨z, rfl, _, _, wz⟩ := open_int Try.underlying3 k5 h5
  by_cases hl : 30 < n ∨ 20 < B.size ∨ 200 < S.size
  · exact rows_light W a n c B S x y z hn hB hS hl
  · obtain ⟨m, hm⟩ := Try.laysM143.s1_3 W hsh
    have hg := (spot_none hm).2
    obtain ⟨b, rfl⟩ : ∃ l : List UInt8, B = ⟨l.toArray⟩ := ⟨B.data.toList, by apply ByteArray.ext; simp⟩
    obtain ⟨s, rfl⟩ : ∃ l : List UInt8, S = ⟨l.toArray⟩ := ⟨S.data.toList, by apply ByteArray.ext; simp⟩
    rw [str_size, str_size] at hl
    exact rows_any W a n c F b s x y z (by omega) (by omega) (by omega) (fun i hi => bounds_i64 (hwf i hi)) hr (bounds_i64 wx) (bounds_i64 wy) (bounds_i64 wz) m hg hm
end Go.Proofs.Ytilbendneahikaa
