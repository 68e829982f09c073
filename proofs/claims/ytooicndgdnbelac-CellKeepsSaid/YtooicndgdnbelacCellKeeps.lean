import Derived.Test.YtooicndgdnbelacCellDo
namespace Go.Proofs.Ytooicndgdnbelac
open Go.ChangeShapes Go.WideShapes Go.ChangeAt Go.RowKit
set_option linter.unusedVariables false

set_option maxRecDepth 20000 in
set_option maxHeartbeats 600000 in
theorem cellKeeps_plain (b0 off n cap0 j v u : Nat) (kind i : Int) (N : Nat → Nat) (w : World) (hn : n ≤ 60) (hj : j < n) (hij : i ≠ j) (hv : v < 4294967296) (hu : u < 4294967296)
    (hb : b0 < w.heap.size) (hN : ∀ k, k < n → N k < 4294967296) (hc : ∀ k, k < n → w.cell? ⟨b0, off + k, none⟩ = some (.int .u32 (N k))) :
    Calls Try.prog 3 #[.slice (some ⟨b0, off, none⟩) n cap0, .int .i64 j, .int .u32 v, .agg #[.int .i64 kind, .int .i64 i, .int .u32 u]] w fun e w' => e = .returned (.bool true) ∧ Below w.heap.size w w' := by
  have d1 : decide (60 < (n : Int)) = false := by simp; omega
  have d0 : decide ((j : Int) < 0) = false := by simp
  have d2 : decide (n ≤ j) = false := by simp; omega
  have d3 : (i == (j : Int)) = false := by simpa using hij
  have ka : Keeps (fun _ => False) w (w.alloc (.cells #[.int .i64 kind, .int .i64 i, .int .u32 u] 25)) := (Keeps.refl _ _).alloc _
  have hx := heap_new w (.cells #[.int .i64 kind, .int .i64 i, .int .u32 u] 25)
  have HX := Lib.hid (And.intro ka hx)
  have HC := Lib.hid hc
  have HN := Lib.hid hN
  clear hc hN ka hx
  go_enter Try.func3, Try.ntmps3
  go_wp2_with fail
  generalize hw0 : w.alloc (.cells #[.int .i64 kind, .int .i64 i, .int .u32 u] 25) = w0 at HX ⊢
  have sz0 := lt_of HX.out.2
  have hsame : ∀ k, k < n → w0.cell? ⟨b0, off + k, none⟩ = some (.int .u32 (N k)) := fun k hk => (World.cell?_of_block (w := w) (HX.out.1.block b0 hb fun h => h)).trans (HC.out k hk)
  refine (of_some b0 off n cap0 N w0 (by omega) (by omega) (Nat.lt_of_lt_of_le hb HX.out.1.size) hsame).mono ?_
  rintro e w1 ⟨rfl, h1, k1⟩
  clear hsame hw0
  have H1 := Lib.hid h1
  have K1 := Lib.hid (HX.out.1.trans k1)
  have X1 := Lib.hid (k1.at HX.out.2 fun h => h)
  clear h1 k1 HX
  go_wp2_with fail
  refine (store_yes _ _ n N j v w1 H1.out hj).mono ?_
  rintro e w2 ⟨rfl, h2, k2⟩
  have K2 := Lib.hid ((K1.out.mono (T := fun k => k = w0.heap.size + 1 ∨ k = w0.heap.size) fun _ _ h => h.elim).trans k2)
  have X2 := k2.at X1.out (by omega)
  have x0 : w2.cell? ⟨w.heap.size, 0, none⟩ = some (.int .i64 kind) := cell_of X2 0
  have x1 : w2.cell? ⟨w.heap.size, 1, none⟩ = some (.int .i64 i) := cell_of X2 1
  have x2 : w2.cell? ⟨w.heap.size, 2, none⟩ = some (.int .u32 u) := cell_of X2 2
  have lx := lt_of X2
  have H2 := Lib.hid h2
  have HX2 := Lib.hid X2
  clear h2 k2 H1 K1 X1 X2
  go_wp2_with fail
  refine (do_any _ _ n _ kind i u w2 H2.out (fun k hk => by show (if k = j then v else N k) < _; split; exact hv; exact HN.out k hk) hu).mono ?_
  rintro e w3 ⟨x, r, rfl, N2, h3, hkeep, hb32, k3⟩
  have X3 := k3.at HX2.out (by omega)
  have K3 := Lib.hid (K2.out.trans k3)
  have hNj : N2 j = v := by rw [hkeep j (fun e => hij e.symm)]; exact if_pos rfl
  have hNk : ∀ k : Nat, k ≠ j → (k : Int) ≠ i → N2 k = N k := fun k h1 h2 => by rw [hkeep k h2]; exact if_neg h1
  have H3 := Lib.hid h3
  have HX3 := Lib.hid X3
  have HNk := Lib.hid hNk
  clear h3 k3 X3 x0 x1 x2 lx HX2 H2 K2 hkeep hb32 hNk
  go_wp2_with fail
  refine (all_any _ _ n N2 w3 H3.out).mono ?_
  rintro e w4 ⟨rfl, hg, k4⟩
  have H4 := Lib.hid (H3.out.none k4)
  have HG := Lib.hid hg
  have HX4 := Lib.hid (k4.at HX3.out fun h => h)
  have K4 := Lib.hid (K3.out.trans (k4.mono fun _ _ h => h.elim))
  have s3 := K3.out.size
  have sX := lt_of HX3.out
  have m3 : w0.heap.size + 1 < w3.heap.size := lt_of H3.out.1.choose_spec.choose_spec
  generalize hgn : w3.heap.size = g at *
  clear hg k4 H3 K3 HX3
  go_wp2_with fail
  obtain ⟨wo, hwo⟩ : ∃ wo : World, wo = w4 := ⟨_, rfl⟩
  go_loopw [11] (fun t wr => ∃ k : Nat, k ≤ n ∧ t = .int .i64 k ∧ Keeps (fun _ => False) w4 wr) (fun t _ => n - (intOf t).toNat)
  case atStart => exact ⟨0, by omega, rfl, Keeps.refl _ _⟩
  case round =>
    obtain ⟨k, hk, rfl, hkr⟩ := hrel
    have KR := Lib.hid hkr
    have HX5 := hkr.at HX4.out fun h => h
    have x1 : wr.cell? ⟨w.heap.size, 1, none⟩ = some (.int .i64 i) := cell_of HX5 1
    have lx := lt_of HX5
    have HG5 := hkr.at HG.out fun h => h
    have lg := lt_of HG5
    by_cases hlt : k < n
    · have gk : wr.cell? ⟨g, k, none⟩ = some (.int .u32 (N2 k)) := (cell_of HG5 k).trans (words_get N2 n k hlt)
      have sk : wr.cell? ⟨b0, off + k, none⟩ = some (.int .u32 (N k)) := by
        rw [← HC.out k hlt]
        exact World.cell?_of_block (w := w) (((K4.out.trans (hkr.mono fun _ _ h => h.elim)).block b0 hb (by omega)))
      have lb : b0 < wr.heap.size := Nat.lt_of_lt_of_le hb (K4.out.trans (hkr.mono fun _ _ h => h.elim)).size
      clear HX5 HG5 hkr
      by_cases c1 : k = j
      · have e1 : decide ((k : Int) = (j : Int)) = true := by simp; omega
        have e2 : (k : Int) = (j : Int) := by omega
        go_wp2_with fail
        go_quiet (fail)
        go_wp2
        go_roundw
        case rel => exact ⟨k + 1, by omega, by go_num, KR.out.drewN nq⟩
        case measure => simp [intOf]; omega
      · have e1 : ¬ ((k : Int) = (j : Int)) := by omega
        by_cases c2 : (k : Int) = i
        · subst c2
          have e7 : ((k : Int) != (j : Int)) = true := by simp; omega
          go_wp2_with fail
          go_quiet (fail)
          go_wp2
          go_roundw
          case rel => exact ⟨k + 1, by omega, by go_num, KR.out.drewN nq⟩
          case measure => simp [intOf]; omega
        · have e3 : N2 k = N k := HNk.out k c1 c2
          rw [e3] at gk
          have hI : (k : Int) < (n : Int) := by omega
          have hI0 : (0 : Int) ≤ (k : Int) := by omega
          have e4 : ((k : Int) == (j : Int)) = false := by simp; omega
          have e5 : ((k : Int) == i) = false := by simpa using c2
          clear e3
          go_wp2_with fail
          go_quiet (fail)
          go_wp2
          go_roundw
          case rel => exact ⟨k + 1, by omega, by go_num, KR.out.drewN nq⟩
          case measure => simp [intOf]; omega
    · have gj : wr.cell? ⟨g, j, none⟩ = some (.int .u32 (N2 j)) := (cell_of HG5 j).trans (words_get N2 n j hj)
      have H5 := Lib.hid (H4.out.none hkr)
      have K5 := Lib.hid (K4.out.trans (hkr.mono fun _ _ h => h.elim))
      have HG6 := Lib.hid HG5
      clear HX5 HG5 hkr gj
      go_wp2_with fail
      refine (load_yes _ _ n N2 j wr H5.out hj).mono ?_
      rintro e w6 ⟨rfl, h6, k6⟩
      rw [hNj]
      have K6 := Lib.hid (K5.out.trans (k6.mono (T := fun k => k = w0.heap.size + 1 ∨ k = w0.heap.size) fun _ _ h => .inl h))
      have G6 := k6.at HG6.out (by omega)
      have gj : w6.cell? ⟨g, j, none⟩ = some (.int .u32 (N2 j)) := (cell_of G6 j).trans (words_get N2 n j hj)
      have fj : w6.frozen? ⟨g, j, none⟩ = false := free_of G6 j
      have lg6 := lt_of G6
      have hk7 : ∀ z, Keeps (fun k => k = g) w6 (w6.setCell ⟨g, j, none⟩ z) := fun z => (Keeps.refl (fun k => k = g) w6).setCell (p := ⟨g, j, none⟩) (.inl rfl) z
      have h7 : ∀ z, IsMem (w6.setCell ⟨g, j, none⟩ z) (w0.heap.size + 1) w0.heap.size n N2 := fun z => h6.keeps (hk7 z) (by omega) (by omega)
      have H7 := Lib.hid h7
      have K7 := Lib.hid hk7
      clear h6 k6 G6 hk7 h7
      go_wp2_with fail
      refine (load_yes _ _ n N2 j _ (H7.out _) hj).mono ?_
      rintro e w8 ⟨rfl, h8, k8⟩
      rw [hNj]
      go_wp2_with fail
      refine (alive06_any _).mono ?_
      rintro e w9 ⟨rfl, hb9⟩
      go_wp2
      go_ret
      have g1 : Below w.heap.size w w6 := K6.out.below (Nat.le_refl _) fun k _ h => by omega
      have g2 : ∀ z, Below w.heap.size w (w6.setCell ⟨g, j, none⟩ z) := fun z => g1.trans ((K7.out z).below g1.size fun k _ h => by omega)
      have g3 := (g2 _).trans (k8.below (g2 _).size fun k _ h => by omega)
      exact ⟨rfl, g3.trans (hb9.mono g3.size)⟩

set_option maxRecDepth 20000 in
theorem cellKeeps_alive (a0 : Option Addr) (n cap0 v u : Nat) (kind i at_ : Int) (w : World) (hn : n ≤ maxLen) (h : 60 < n ∨ at_ < 0 ∨ (n : Int) ≤ at_ ∨ i = at_) :
    Calls Try.prog 3 #[.slice a0 n cap0, .int .i64 at_, .int .u32 v, .agg #[.int .i64 kind, .int .i64 i, .int .u32 u]] w fun e w' => e = .returned (.bool true) ∧ Below w.heap.size w w' := by
  unfold maxLen at hn
  have k0 : Below w.heap.size w (w.alloc (.cells #[.int .i64 kind, .int .i64 i, .int .u32 u] 25)) := ((Keeps.refl (fun _ => False) w).alloc _).none
  have H0 := Lib.hid k0
  clear k0
  by_cases h1 : 60 < n
  · go_enter Try.func3, Try.ntmps3
    go_wp2_with fail
    refine (alive06_any _).mono ?_
    rintro e w6 ⟨rfl, hb⟩
    go_wp2
    go_ret
    exact ⟨rfl, H0.out.trans (hb.mono H0.out.size)⟩
  have d1 : decide (60 < (n : Int)) = false := by simp; omega
  by_cases h2 : at_ < 0
  · have d2 : decide (at_ < 0) = true := by simpa using h2
    go_enter Try.func3, Try.ntmps3
    go_wp2_with fail
    refine (alive06_any _).mono ?_
    rintro e w6 ⟨rfl, hb⟩
    go_wp2
    go_ret
    exact ⟨rfl, H0.out.trans (hb.mono H0.out.size)⟩
  have d2 : decide (at_ < 0) = false := by simpa using h2
  by_cases h3 : (n : Int) ≤ at_
  · have d3 : decide ((n : Int) ≤ at_) = true := by simpa using h3
    go_enter Try.func3, Try.ntmps3
    go_wp2_with fail
    refine (alive06_any _).mono ?_
    rintro e w6 ⟨rfl, hb⟩
    go_wp2
    go_ret
    exact ⟨rfl, H0.out.trans (hb.mono H0.out.size)⟩
  have d3 : decide ((n : Int) ≤ at_) = false := by simpa using h3
  obtain rfl : i = at_ := by omega
  go_enter Try.func3, Try.ntmps3
  go_wp2_with fail
  refine (alive06_any _).mono ?_
  rintro e w6 ⟨rfl, hb⟩
  go_wp2
  go_ret
  exact ⟨rfl, H0.out.trans (hb.mono H0.out.size)⟩

theorem step06_cells {w : World} {cs : List Value} (h : Reads Try.prog w 25 cs) :
    ∃ (k i : Int) (u : Nat), cs = [.int .i64 k, .int .i64 i, .int .u32 u] ∧ u < 4294967296 := by
  obtain ⟨hl, hf⟩ := h.struct Try.underlying25
  have hc : Try.prog.cellsOf 25 = 3 := by kernel_rfl
  have hi : Try.prog.cellsOf 3 = 1 := by kernel_rfl
  have hu : Try.prog.cellsOf 23 = 1 := by kernel_rfl
  rw [hc] at hl
  match cs, hl with
  | [v0, v1, v2], _ =>
    obtain ⟨s, hs, _⟩ := (h.field Try.underlying25 0 3 0 1 rfl hi).int Try.underlying3
    obtain ⟨f, hf, _⟩ := (h.field Try.underlying25 1 3 1 1 rfl hi).int Try.underlying3
    obtain ⟨m, hm, hw⟩ := (h.field Try.underlying25 2 23 2 1 rfl hu).int Try.underlying23
    have hb := bounds_u32 hw
    obtain ⟨y, rfl⟩ := Int.eq_ofNat_of_zero_le hb.1
    simp at hs hf hm
    exact ⟨s, f, y, by simp [hs, hf, hm], by omega⟩

set_option maxRecDepth 100000 in
theorem cellKeeps_walk {H : Type} {enc : TypeId × Value → H} (W : World) (base : Nat) {v0 v1 v2 v3 : Value} {d0 d1 d2 d3 : DataW H} {p0 p1 p2 p3 : List MemPlace}
    (k0 : Value.okWide Try.prog W .any base 22 v0) (h0 : DataW.Trod enc Try.prog W 0 (fun _ => true) true 22 v0 d0 p0)
    (k1 : Value.okWide Try.prog W .any base 3 v1) (h1 : DataW.Trod enc Try.prog W 0 (fun _ => true) true 3 v1 d1 p1)
    (k2 : Value.okWide Try.prog W .any base 23 v2) (h2 : DataW.Trod enc Try.prog W 0 (fun _ => true) true 23 v2 d2 p2)
    (k3 : Value.okWide Try.prog W .any base 25 v3) (h3 : DataW.Trod enc Try.prog W 0 (fun _ => true) true 25 v3 d3 p3) :
    Calls Try.prog 3 #[v0, v1, v2, v3] W fun e w' => e = .returned (.bool true) ∧ Below W.heap.size W w' := by
  obtain ⟨a0, n0, c0, rfl⟩ := okWide_slice Try.underlying22 k0
  obtain ⟨at_, rfl⟩ := okWide_int Try.underlying3 k1
  obtain ⟨vv, rfl⟩ := okWide_int Try.underlying23 k2
  obtain ⟨cs, rfl, _⟩ := okWide_struct Try.underlying25 k3
  obtain ⟨x, hx, hxw⟩ := (reads_of h2).int Try.underlying23
  simp [Value.cells] at hx
  subst hx
  have hvb := bounds_u32 hxw
  obtain ⟨v, rfl⟩ := Int.eq_ofNat_of_zero_le hvb.1
  obtain ⟨kind, i, u, hcs, hu⟩ := step06_cells (reads_of h3)
  obtain rfl : cs = #[.int .i64 kind, .int .i64 i, .int .u32 u] := by
    have : cs.toList = [.int .i64 kind, .int .i64 i, .int .u32 u] := by simpa [Value.cells] using hcs
    cases cs; simp_all
  obtain ⟨a, n, c, e, hl0, hm0, r0⟩ := (reads_of h0).rows Try.underlying22 (n := 1) (by kernel_rfl) (by omega)
  simp [Value.cells] at e
  obtain ⟨rfl, rfl, rfl⟩ := e
  by_cases hal : 60 < n0 ∨ at_ < 0 ∨ (n0 : Int) ≤ at_ ∨ i = at_
  · exact cellKeeps_alive _ _ _ _ _ _ _ _ W (by omega) hal
  · obtain ⟨j, rfl⟩ := Int.eq_ofNat_of_zero_le (a := at_) (by omega)
    obtain ⟨b, off, rfl, hb, hr⟩ := r0 (by omega)
    obtain ⟨N, hN⟩ := Deep.choose_lt (n := n0) (p := fun i (x : Nat) => x < 4294967296 ∧ W.cell? ⟨b, off + i, none⟩ = some (.int .u32 x)) (fun i hi => by
      obtain ⟨cs', _, hc, hrd⟩ := hr i hi
      obtain ⟨x, rfl, hx⟩ := hrd.int Try.underlying23
      have hb := bounds_u32 hx
      obtain ⟨y, rfl⟩ := Int.eq_ofNat_of_zero_le hb.1
      have := hc 0 (by omega)
      simp at this
      exact ⟨y, by omega, this⟩)
    exact cellKeeps_plain _ _ _ _ j v u kind i N W (by omega) (by omega) (by omega) (by omega) hu hb (fun i hi => (hN i hi).1) (fun i hi => (hN i hi).2)
end Go.Proofs.Ytooicndgdnbelac
