import Derived.Test.YtfniicgfnlklbacRq
namespace Go.Proofs.Ytfniicgfnlklbac
open Go.ChangeShapes Go.WideShapes Go.ChangeAt Go.RowKit
set_option linter.unusedVariables false
attribute [local go_sem ↓ 2000] app_pre
attribute [local go_sem] app_run
set_option maxRecDepth 20000 in
theorem radd_no (a : Option Addr) (c B : Nat) (L : List QN) (t k o : Int) (m : Nat) (w : World) (h : DW w B (.slice a L.length c) L) (hl : L.length < 1000000) (ht : t < 0 ∨ 15 < t ∨ fnd L t ≠ none) :
    Calls Try.prog 10 #[.slice a L.length c, av t k o m] w fun e w' => e = .returned (.tuple #[.slice a L.length c, .bool false]) ∧ Below w.heap.size w w' := by
  unfold av
  by_cases h0 : t < 0
  · have d0 : decide (t < 0) = true := decide_eq_true h0
    clear ht h
    go_enter Try.func10, Try.ntmps10
    go_wp2
    exact bodyPost_ret (v := .tuple #[.slice a L.length c, .bool false]) (by simp [results, Try.results10, go_sem]) rfl ⟨rfl, (Below.refl _ _).alloc (Nat.le_refl _) _⟩
  · have d0 : decide (t < 0) = false := decide_eq_false h0
    by_cases h15 : 15 < t
    · have d1 : decide (15 < t) = true := decide_eq_true h15
      have d2 : decide (t > 15) = true := decide_eq_true h15
      clear ht h
      go_enter Try.func10, Try.ntmps10
      go_wp2
      exact bodyPost_ret (v := .tuple #[.slice a L.length c, .bool false]) (by simp [results, Try.results10, go_sem]) rfl ⟨rfl, (Below.refl _ _).alloc (Nat.le_refl _) _⟩
    · have d1 : decide (15 < t) = false := decide_eq_false h15
      have d2 : decide (t > 15) = false := decide_eq_false h15
      obtain ⟨x, hx⟩ : ∃ x, fnd L t = some x := by
        rcases ht with h1 | h1 | h1
        · exact absurd h1 h0
        · exact absurd h1 h15
        · exact Option.ne_none_iff_exists'.1 h1
      obtain ⟨P, R, hL, rfl, hP⟩ := fnd_split hx
      have hd : DW (w.alloc (.cells #[.int .i64 x.t, .int .i64 k, .int .i64 o, .int .u32 (m : Int)] 34)) B (.slice a L.length c) (P ++ x :: R) := by rw [← hL]; exact h.below ((Below.refl _ _).alloc (Nat.le_refl _) _)
      have HC := Lib.hid (rplace_yes a c B L.length P R x _ hd (by rw [hL]) hl hP)
      have d3 : decide ((P.length : Int) ≥ 0) = true := decide_eq_true (by omega)
      have d4 : decide ((0 : Int) ≤ (P.length : Int)) = true := decide_eq_true (by omega)
      clear hd hL hP hx ht h
      go_enter Try.func10, Try.ntmps10
      go_wp2_with fail
      refine HC.out.mono ?_
      rintro e w2 ⟨rfl, rfl⟩
      go_wp2
      exact bodyPost_ret (v := .tuple #[.slice a L.length c, .bool false]) (by simp [results, Try.results10, go_sem]) rfl ⟨rfl, (Below.refl _ _).alloc (Nat.le_refl _) _⟩
/-- A row, and an empty one of one's own beside it, in a world: the run of 'append([]Wait{}, q...)'. -/
theorem first_app {W : World} {B0 B c e : Nat} {a : Option Addr} {L : List QN} (hd : DW W B0 (.slice a L.length c) L) (hE : DW W B (.slice (some ⟨e, 0, none⟩) 0 0) []) (hB : B ≤ W.heap.size) (hl : L.length < 100000) :
    ∃ a' c' w1, appRun Try.prog #[33, 33] 33 #[.slice (some ⟨e, 0, none⟩) 0 0, .slice a L.length c] W = .ok (.slice a' L.length c') w1 ∧ DW w1 B (.slice a' L.length c') L ∧
      Keeps (fun k => B ≤ k ∧ some k = some e ∧ ∃ cs, W.heap[k]? = some (.cells cs 34 (0, 0))) W w1 := by
  have := app_rw (M := L) hE hB a c (fun e => by
    subst e
    obtain ⟨_, h4 | ⟨g, _, _, e, _⟩⟩ := hd
    · exact ⟨h4.2, by injection h4.1⟩
    · cases e) (fun ad e j u hj => by
      subst e
      rcases Nat.eq_zero_or_pos L.length with h0 | hp
      · have : L = [] := List.length_eq_zero_iff.1 h0
        subst this; simp [flat] at hj
      · obtain ⟨b, e, hb, hc⟩ := hd.part rfl 0 (.inl hp)
        cases e
        have := hc j u (by simpa using hj)
        simpa using this) (by simp; omega)
  obtain ⟨a', c', w1, h1, h2, h3⟩ := this
  simp only [List.length_nil, Nat.zero_add, List.nil_append] at h1 h2
  exact ⟨a', c', w1, h1, h2, h3⟩
/-- The run of 'append(.., w)', the one wait in a block. -/
theorem last_app {W : World} {B c g : Nat} {a : Option Addr} {L : List QN} {x : QN} (hd : DW W B (.slice a L.length c) L) (hB : B ≤ W.heap.size) (hl : L.length < 100000) (hx : W.heap[g]? = some (.cells #[.int .i64 x.t, .int .i64 x.k, .int .i64 x.o, .int .u32 (x.m : Int)] 34 (0, 0))) :
    ∃ a' c' w1, appRun Try.prog #[33, 33] 33 #[.slice a L.length c, .slice (some ⟨g, 0, none⟩) 1 1] W = .ok (.slice a' (L.length + 1) c') w1 ∧ DW w1 B (.slice a' (L.length + 1) c') (L ++ [x]) ∧
      Keeps (fun k => B ≤ k ∧ some k = Value.ownBlock (.slice a L.length c) ∧ ∃ cs, W.heap[k]? = some (.cells cs 34 (0, 0))) W w1 := by
  exact app_rw (M := [x]) hd hB (some ⟨g, 0, none⟩) 1 (fun e => by cases e) (fun ad e j u hj => by
    cases e
    have e : ((⟨g, 0, none⟩ : Addr).add j) = ⟨g, j, none⟩ := by
      simp only [Addr.add]
      by_cases h : j = 0 <;> simp [h]
    rw [e, cell_of hx]
    simpa [flat, QN.cells] using hj) (by simp; omega)
theorem empty_lit (W : World) (B : Nat) (hB : B ≤ W.heap.size) : DW (W.alloc (.cells #[] 34)).drew B (.slice (some ⟨W.heap.size, 0, none⟩) 0 0) [] := (World.ownsRow_lit W #[] 0 hB (by decide) rfl)
set_option maxRecDepth 20000 in
set_option maxHeartbeats 1000000 in
theorem radd_yes (a : Option Addr) (c B : Nat) (L : List QN) (x : QN) (w : World) (h : DW w B (.slice a L.length c) L) (hl : L.length < 100000) (ht : 0 ≤ x.t ∧ x.t < 16) (hf : fnd L x.t = none) :
    Calls Try.prog 10 #[.slice a L.length c, av x.t x.k x.o x.m] w fun e w' => (∃ a' c', e = .returned (.tuple #[.slice a' (L.length + 1) c', .bool true]) ∧ DW w' w.heap.size (.slice a' (L.length + 1) c') (L ++ [x])) ∧ Below w.heap.size w w' := by
  unfold av
  have d0 : decide (x.t < 0) = false := decide_eq_false (by omega)
  have d1 : decide (15 < x.t) = false := decide_eq_false (by omega)
  have d2 : decide (x.t > 15) = false := decide_eq_false (by omega)
  obtain ⟨w1, hw1⟩ : ∃ w1, w.alloc (.cells #[.int .i64 x.t, .int .i64 x.k, .int .i64 x.o, .int .u32 (x.m : Int)] 34) = w1 := ⟨_, rfl⟩
  have hb1 : Below w.heap.size w w1 := by rw [← hw1]; exact (Below.refl _ _).alloc (Nat.le_refl _) _
  have hn1 : w1.heap[w.heap.size]? = some (.cells #[.int .i64 x.t, .int .i64 x.k, .int .i64 x.o, .int .u32 (x.m : Int)] 34 (0, 0)) := by rw [← hw1]; exact heap_new _ _
  have hs1 : w1.heap.size = w.heap.size + 1 := by rw [← hw1]; simp
  have hd1 : DW w1 B (.slice a L.length c) L := h.below hb1
  have HC := Lib.hid (rplace_no a c B L x.t w1 hd1 (by omega) hf)
  have hX := heap_new w1 (.cells #[.int .i64 x.t, .int .i64 x.k, .int .i64 x.o, .int .u32 (x.m : Int)] 34)
  have hbE : Below w1.heap.size w1 (w1.alloc (.cells #[] 34)) := (Below.refl _ _).alloc (Nat.le_refl _) _
  have hbX : Below w1.heap.size w1 (w1.alloc (.cells #[.int .i64 x.t, .int .i64 x.k, .int .i64 x.o, .int .u32 (x.m : Int)] 34)) := (Below.refl _ _).alloc (Nat.le_refl _) _
  have hbEX : Below w1.heap.size w1 ((w1.alloc (.cells #[] 34)).alloc (.cells #[.int .i64 x.t, .int .i64 x.k, .int .i64 x.o, .int .u32 (x.m : Int)] 34)).drew := (hbE.alloc (by simp) _).drew
  have hbXE : Below w1.heap.size w1 ((w1.alloc (.cells #[.int .i64 x.t, .int .i64 x.k, .int .i64 x.o, .int .u32 (x.m : Int)] 34)).alloc (.cells #[] 34)).drew := (hbX.alloc (by simp) _).drew
  -- (b) the empty row, the first append, the one wait, the last append
  obtain ⟨ab, cb, wb, hrunb, hdb, hkb⟩ := first_app (hd1.below hbE.drew) (empty_lit w1 w1.heap.size (Nat.le_refl _)) hbE.size hl
  have hkb1 : Below w1.heap.size w1 wb := hbE.drew.trans (hkb.below hbE.size fun j _ hj => hj.1)
  have hnb := at_below hkb1 hn1 (by omega)
  have hbbX : Below wb.heap.size wb (wb.alloc (.cells #[.int .i64 x.t, .int .i64 x.k, .int .i64 x.o, .int .u32 (x.m : Int)] 34)) := (Below.refl _ _).alloc (Nat.le_refl _) _
  obtain ⟨ab2, cb2, wb2, hrunb2, hdb2, hkb2⟩ := last_app (x := x) (hdb.below hbbX) (Nat.le_trans hkb1.size hbbX.size) hl (heap_new wb _)
  have hkb3 : Below w1.heap.size w1 wb2 := (hkb1.trans (hbbX.mono hkb1.size)).trans (hkb2.below (Nat.le_trans hkb1.size hbbX.size) fun j _ hj => hj.1)
  -- (a) the empty row, the one wait, the appends
  have hEa : DW ((w1.alloc (.cells #[] 34)).alloc (.cells #[.int .i64 x.t, .int .i64 x.k, .int .i64 x.o, .int .u32 (x.m : Int)] 34)).drew w1.heap.size (.slice (some ⟨w1.heap.size, 0, none⟩) 0 0) [] := (empty_lit w1 w1.heap.size (Nat.le_refl _)).below ((Below.refl _ _).alloc (Nat.le_refl _) _)
  obtain ⟨aa, ca, wa, hruna, hda, hka⟩ := first_app (hd1.below hbEX) hEa hbEX.size hl
  have hXa : ((w1.alloc (.cells #[] 34)).alloc (.cells #[.int .i64 x.t, .int .i64 x.k, .int .i64 x.o, .int .u32 (x.m : Int)] 34)).drew.heap[w1.heap.size + 1]? = some (.cells #[.int .i64 x.t, .int .i64 x.k, .int .i64 x.o, .int .u32 (x.m : Int)] 34 (0, 0)) := by
    have := heap_new (w1.alloc (.cells #[] 34)) (.cells #[.int .i64 x.t, .int .i64 x.k, .int .i64 x.o, .int .u32 (x.m : Int)] 34)
    rwa [World.size_alloc] at this
  have hka1 : Below w1.heap.size w1 wa := hbEX.trans (hka.below hbEX.size fun j _ hj => hj.1)
  obtain ⟨aa2, ca2, wa2, hruna2, hda2, hka2⟩ := last_app (x := x) hda hka1.size hl (hka.at hXa (fun hs => by have := hs.2.1; simp at this))
  have hka3 : Below w1.heap.size w1 wa2 := hka1.trans (hka2.below hka1.size fun j _ hj => hj.1)
  -- (c) the one wait, the empty row, the appends
  have hEc := empty_lit (w1.alloc (.cells #[.int .i64 x.t, .int .i64 x.k, .int .i64 x.o, .int .u32 (x.m : Int)] 34)) w1.heap.size (by simp)
  rw [World.size_alloc] at hEc
  obtain ⟨ac, cc, wc, hrunc, hdc, hkc⟩ := first_app (hd1.below hbXE) hEc hbXE.size hl
  have hXc : ((w1.alloc (.cells #[.int .i64 x.t, .int .i64 x.k, .int .i64 x.o, .int .u32 (x.m : Int)] 34)).alloc (.cells #[] 34)).drew.heap[w1.heap.size]? = some (.cells #[.int .i64 x.t, .int .i64 x.k, .int .i64 x.o, .int .u32 (x.m : Int)] 34 (0, 0)) := heap_old (heap_new w1 (.cells #[.int .i64 x.t, .int .i64 x.k, .int .i64 x.o, .int .u32 (x.m : Int)] 34)) (.cells #[] 34)
  have hkc1 : Below w1.heap.size w1 wc := hbXE.trans (hkc.below hbXE.size fun j _ hj => hj.1)
  obtain ⟨ac2, cc2, wc2, hrunc2, hdc2, hkc2⟩ := last_app (x := x) hdc hkc1.size hl (hkc.at hXc (fun hs => by have := hs.2.1; simp at this))
  have hkc3 : Below w1.heap.size w1 wc2 := hkc1.trans (hkc2.below hkc1.size fun j _ hj => hj.1)
  have x0 : w1.cell? ⟨w.heap.size, 0, none⟩ = some (.int .i64 x.t) := cell_of hn1 0
  have x1 : w1.cell? ⟨w.heap.size, 1, none⟩ = some (.int .i64 x.k) := cell_of hn1 1
  have x2 : w1.cell? ⟨w.heap.size, 2, none⟩ = some (.int .i64 x.o) := cell_of hn1 2
  have x3 : w1.cell? ⟨w.heap.size, 3, none⟩ = some (.int .u32 (x.m : Int)) := cell_of hn1 3
  have y0 : wb.cell? ⟨w.heap.size, 0, none⟩ = some (.int .i64 x.t) := cell_of hnb 0
  have y1 : wb.cell? ⟨w.heap.size, 1, none⟩ = some (.int .i64 x.k) := cell_of hnb 1
  have y2 : wb.cell? ⟨w.heap.size, 2, none⟩ = some (.int .i64 x.o) := cell_of hnb 2
  have y3 : wb.cell? ⟨w.heap.size, 3, none⟩ = some (.int .u32 (x.m : Int)) := cell_of hnb 3
  have lx := lt_of hn1
  have ly := lt_of hnb
  have FIN : ∀ w2, Below w1.heap.size w1 w2 → Below w.heap.size w w2 := fun w2 h2 => hb1.trans (h2.mono (by omega))
  have HFIN := Lib.hid (And.intro (FIN _ hkb3) (And.intro (FIN _ hka3) (FIN _ hkc3)))
  have HD := Lib.hid (And.intro (hdb2.base (B' := w.heap.size) (by omega)) (And.intro (hda2.base (B' := w.heap.size) (by omega)) (hdc2.base (B' := w.heap.size) (by omega))))
  clear hb1 hn1 hs1 hd1 hX hbE hbX hbEX hbXE hdb hkb hkb1 hnb hbbX hdb2 hkb2 hkb3 hEa hda hka hXa hka1 hda2 hka2 hka3 hEc hdc hkc hXc hkc1 hdc2 hkc2 hkc3 FIN h hf ht
  go_enter Try.func10, Try.ntmps10
  go_wp2_with fail
  refine HC.out.mono ?_
  rintro e w2 ⟨rfl, rfl⟩
  go_wp2_with fail
  go_region
  all_goals
    go_wp2
    first
      | exact bodyPost_ret (v := .tuple #[.slice ab2 (L.length + 1) cb2, .bool true]) (by simp [results, Try.results10, go_sem]) rfl ⟨⟨_, _, rfl, HD.out.1⟩, HFIN.out.1⟩
      | exact bodyPost_ret (v := .tuple #[.slice aa2 (L.length + 1) ca2, .bool true]) (by simp [results, Try.results10, go_sem]) rfl ⟨⟨_, _, rfl, HD.out.2.1⟩, HFIN.out.2.1⟩
      | exact bodyPost_ret (v := .tuple #[.slice ac2 (L.length + 1) cc2, .bool true]) (by simp [results, Try.results10, go_sem]) rfl ⟨⟨_, _, rfl, HD.out.2.2⟩, HFIN.out.2.2⟩
end Go.Proofs.Ytfniicgfnlklbac
