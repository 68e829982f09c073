import Derived.Test.YtdnppkihpddlhaaBdL
import Derived.Test.YtdnppkihpddlhaaBdP
import Derived.Test.YtdnppkihpddlhaaKeepRow
import Derived.Great.BuildSlice
import Derived.Great.Ranges
import Derived.Deep.WholeRow
import Derived.Laws.Tables
namespace Go
section
variable {P : Program}
/-- A new variable: the block's number and its cells said by the caller. -/
theorem wpList_alloc_as {ops : Array Oper} {rest : List Oper} {o : Oper} {a : Act} {w : World} {Q : Exit → Act → World → Prop} (hg : o.guard = none) (t : TypeId) (ho : o.op = .alloc t)
    (dst : Option Tmp) (hdst : o.dst = dst) (N : Nat) (hN : w.heap.size = N) (z : Value) (hz : (zeroValue t).run P w = .ok z w) (cells : Array Value) (hc : z.cells = cells)
    (h : wpList P ops Q rest (a.put dst (.pointer (some ⟨N, 0, none⟩))) (w.alloc (.cells cells t))) : wpList P ops Q (o :: rest) a w := by
  subst hdst hN hc
  refine wpList_plain hg fun K hK => ?_
  unfold Oper.wp execOp
  simp only [ho, Sem.run_bind, Instr.alloc, hz, newVar, newRow, run_newObj_alloc, Sem.run_pure, Result.andThen_ok]
  exact hK _ _ h
end
end Go
namespace Go.Proofs.Ytdnppkihpddlhaa
open Go.ChangeShapes Go.WideShapes Go.ChangeAt Go.RowKit
set_option linter.unusedVariables false
set_option linter.unusedSimpArgs false
set_option maxRecDepth 100000
@[reducible] def zN : Nat → Int := fun _ => 0
def BegQ (w : World) (cs : Int → Array Value) (e : Ending) (w' : World) : Prop := (∃ x : Int, e = .returned (.agg (cs x))) ∧ Keeps (fun _ => False) w w'
theorem place_info : (Try.prog.info? 41).map (·.size) = some 5 := by kernel_rfl
theorem rg_one (p : Nat → Int) (st o1 o2 o3 own : Int) (W : Nat → Int) (a f : Int) (V : Nat → Int) : (rgC p st o1 o2 o3 own W a f V).all (·.oneCell') = true := by kernel_rfl
theorem fo_one (p : Nat → Int) (st o1 o2 o3 s0 s1 : Int) (W : Nat → Int) (a f : Int) (V : Nat → Int) : (foC p st o1 o2 o3 s0 s1 W a f V).all (·.oneCell') = true := by kernel_rfl
theorem rgb_built (p : Nat → Int) : Try.prog.built 79 [(0, .agg (plC p))] = some (rgC p 0 0 0 0 0 zN 0 0 zN) := by kernel_rfl
theorem rgb_zero (w : World) : (zeroValue 79).run Try.prog w = .ok (.agg (rgC zN 0 0 0 0 0 zN 0 0 zN)) w := by kernel_rfl
theorem rgb_info : (Try.prog.info? 79).map (·.size) = some 20 := by kernel_rfl
set_option maxHeartbeats 4000000 in
theorem rgb_begin (w : World) (p : Nat → Int) (own : Int) (hp : PlOk p) (ho : 1 ≤ own ∧ own ≤ 8) (h3 : own ≠ 3) (hs : 0 ≤ singP (p 0) own) :
    Calls Try.prog 33 #[.agg (plC p), .int .i64 own] w (BegQ w fun x => rgC p 1 1 x 0 0 zN 0 0 zN) := by
  have HC := Lib.hid (fun W => cell_some p own 0 0 W hp.r hp.a ho)
  have HS := Lib.hid (And.intro h3 hs)
  have HO := Lib.hid ho
  have HP := Lib.hid hp
  clear hp ho h3 hs
  obtain ⟨P1, hP1⟩ : ∃ W, W = w.alloc (.cells (plC p) 41) := ⟨_, rfl⟩
  obtain ⟨W1, hW1⟩ : ∃ W, W = P1.alloc (.cells (rgC zN 0 0 0 0 0 zN 0 0 zN) 79) := ⟨_, rfl⟩
  obtain ⟨W2, hW2⟩ : ∃ W, W = W1.alloc (.cells (rgC p 0 0 0 0 0 zN 0 0 zN) 79) := ⟨_, rfl⟩
  have h1 := (Has.start w).alloc (.cells (plC p) 41)
  rw [← hP1] at h1
  have h2 := h1.alloc (.cells (rgC zN 0 0 0 0 0 zN 0 0 zN) 79)
  rw [← hW1] at h2
  have hz := h2.alloc (.cells (rgC p 0 0 0 0 0 zN 0 0 zN) 79)
  rw [← hW2] at hz
  have HB1 := Lib.hid h1
  have HB2 := Lib.hid h2
  have HB3 := Lib.hid hz
  have HP1 := Lib.hid hP1
  have HW1 := Lib.hid hW1
  have HW2 := Lib.hid hW2
  have HZ := Lib.hid (show P1.heap.size = w.heap.size + 1 ∧ W1.heap.size = w.heap.size + 2 from by rw [hW1, hP1]; simp)
  clear h1 h2 hz hP1 hW1 hW2
  go_enter Try.func33, Try.ntmps33
  go_wp2_with (first
    | (refine Great.wpList_boxTo rfl 41 (.tmp 0) rfl (some 2) rfl w.heap.size rfl (plC p) rfl ?_; rw [← HP1.out])
    | (refine wpList_alloc_as rfl 79 rfl (some 4) rfl P1.heap.size rfl _ (rgb_zero _) (rgC zN 0 0 0 0 0 zN 0 0 zN) rfl ?_; rw [← HW1.out])
    | (refine wpList_load_row rfl 41 (.tmp 2) rfl w.heap.size rfl 41 (plC p) (0, 0) _ (HB2.out.at 1 rfl) Try.underlying41 rfl place_info ?_)
    | (refine Great.wpList_buildTo rfl 79 _ rfl (some 7) rfl (rgC p 0 0 0 0 0 zN 0 0 zN) (rgb_built p) ?_)
    | (refine wpList_alloc_as rfl 79 rfl (some 5) rfl W1.heap.size rfl _ (rgb_zero _) (rgC zN 0 0 0 0 0 zN 0 0 zN) rfl ?_)
    | (refine wpList_store_row rfl 79 (.tmp 5) (.tmp 7) rfl W1.heap.size (rgC p 0 0 0 0 0 zN 0 0 zN) rfl rfl 79 _ (heap_new _ _) rgb_info rfl (rg_one _ _ _ _ _ _ _ _ _ _) ?_; rw [World.setRow_alloc_new, ← HW2.out])
    | (refine wpList_load_row rfl 41 (.tmp 2) rfl w.heap.size rfl 41 (plC p) (0, 0) _ (HB3.out.at 2 rfl) Try.underlying41 rfl place_info ?_))
  refine (HC.out _).mono ?_
  rintro e w1 ⟨⟨x, rfl, hx⟩, k1⟩
  have hx0 := hx rfl HS.out.1 HS.out.2
  have d0 : decide (x < 0) = false := decide_eq_false (by omega)
  have HB4 := Lib.hid (HB3.out.none k1)
  clear k1 hx hx0
  go_wp2_with (first
    | (refine wpList_load_row rfl 41 (.tmp 2) rfl w.heap.size rfl 41 (plC p) (0, 0) _ (HB4.out.at 2 rfl) Try.underlying41 rfl place_info ?_))
  refine (HC.out _).mono ?_
  rintro e w2 ⟨⟨y, rfl, _⟩, k2⟩
  have HB5 := Lib.hid (HB4.out.none k2)
  clear k2 d0
  go_wp2_with fail
  refine (rg_load w2 W1.heap.size 79 _ 1 y (HB5.out.at 0 rfl) (Nat.le_refl 20)).mono ?_
  rintro e w3 ⟨rfl, hb3, k3⟩
  have HB6 := Lib.hid (show w3.heap[W1.heap.size]? = some (.cells (rgC p 1 1 y 0 0 zN 0 0 zN) 79 (0, 0)) from hb3.trans (by kernel_rfl))
  have hz1 := HZ.out.1
  have hz2 := HZ.out.2
  have HP6 := Lib.hid (k3.at (HB5.out.at 1 rfl) (by intro h; have h' : P1.heap.size = W1.heap.size := h; omega))
  have HK6 := Lib.hid (HB5.out.keeps.own k3 (by intro X hX; have h' : X = W1.heap.size := hX; exact .inr (by omega)))
  clear hb3 k3 hz1 hz2
  go_wp2_with (first
    | (refine wpList_load_row rfl 79 (.tmp 5) rfl W1.heap.size rfl 79 (rgC p 1 1 y 0 0 zN 0 0 zN) (0, 0) _ HB6.out Try.underlying79 rfl rgb_info ?_)
    | (refine wpList_store_row rfl 79 (.tmp 4) (.tmp 18) rfl P1.heap.size (rgC p 1 1 y 0 0 zN 0 0 zN) rfl rfl 79 _ HP6.out rgb_info rfl (rg_one _ _ _ _ _ _ _ _ _ _) ?_))
  refine bodyPost_ret (v := .agg (rgC p 1 1 y 0 0 zN 0 0 zN)) (results_cell_row Try.results33 _ _ P1.heap.size 79 _ (0, 0) _ rfl (setRow_heap _ _ _ _ _ _ HP6.out) Try.underlying79 rfl rgb_info) rfl ?_
  exact ⟨⟨y, rfl⟩, HK6.out.setRow (.inr (by have := HZ.out.1; omega)) _⟩
theorem fob_built (p : Nat → Int) : Try.prog.built 86 [(0, .agg (plC p))] = some (foC p 0 0 0 0 0 0 zN 0 0 zN) := by kernel_rfl
theorem fob_zero (w : World) : (zeroValue 86).run Try.prog w = .ok (.agg (foC zN 0 0 0 0 0 0 zN 0 0 zN)) w := by kernel_rfl
theorem fob_info : (Try.prog.info? 86).map (·.size) = some 21 := by kernel_rfl
set_option maxHeartbeats 4000000 in
theorem fob_begin (w : World) (p : Nat → Int) (own : Int) (hp : PlOk p) (ho : 1 ≤ own ∧ own ≤ 8) (h3 : own ≠ 3) (hs : 0 ≤ singP (p 0) own) :
    Calls Try.prog 34 #[.agg (plC p), .int .i64 own] w (BegQ w fun x => foC p 1 1 x 0 0 0 zN 0 0 zN) := by
  have HC := Lib.hid (fun W => cell_some p own 0 0 W hp.r hp.a ho)
  have HS := Lib.hid (And.intro h3 hs)
  have HO := Lib.hid ho
  have HP := Lib.hid hp
  clear hp ho h3 hs
  obtain ⟨P1, hP1⟩ : ∃ W, W = w.alloc (.cells (plC p) 41) := ⟨_, rfl⟩
  obtain ⟨W1, hW1⟩ : ∃ W, W = P1.alloc (.cells (foC zN 0 0 0 0 0 0 zN 0 0 zN) 86) := ⟨_, rfl⟩
  obtain ⟨W2, hW2⟩ : ∃ W, W = W1.alloc (.cells (foC p 0 0 0 0 0 0 zN 0 0 zN) 86) := ⟨_, rfl⟩
  have h1 := (Has.start w).alloc (.cells (plC p) 41)
  rw [← hP1] at h1
  have h2 := h1.alloc (.cells (foC zN 0 0 0 0 0 0 zN 0 0 zN) 86)
  rw [← hW1] at h2
  have hz := h2.alloc (.cells (foC p 0 0 0 0 0 0 zN 0 0 zN) 86)
  rw [← hW2] at hz
  have HB1 := Lib.hid h1
  have HB2 := Lib.hid h2
  have HB3 := Lib.hid hz
  have HP1 := Lib.hid hP1
  have HW1 := Lib.hid hW1
  have HW2 := Lib.hid hW2
  have HZ := Lib.hid (show P1.heap.size = w.heap.size + 1 ∧ W1.heap.size = w.heap.size + 2 from by rw [hW1, hP1]; simp)
  clear h1 h2 hz hP1 hW1 hW2
  go_enter Try.func34, Try.ntmps34
  go_wp2_with (first
    | (refine Great.wpList_boxTo rfl 41 (.tmp 0) rfl (some 2) rfl w.heap.size rfl (plC p) rfl ?_; rw [← HP1.out])
    | (refine wpList_alloc_as rfl 86 rfl (some 4) rfl P1.heap.size rfl _ (fob_zero _) (foC zN 0 0 0 0 0 0 zN 0 0 zN) rfl ?_; rw [← HW1.out])
    | (refine wpList_load_row rfl 41 (.tmp 2) rfl w.heap.size rfl 41 (plC p) (0, 0) _ (HB2.out.at 1 rfl) Try.underlying41 rfl place_info ?_)
    | (refine Great.wpList_buildTo rfl 86 _ rfl (some 7) rfl (foC p 0 0 0 0 0 0 zN 0 0 zN) (fob_built p) ?_)
    | (refine wpList_alloc_as rfl 86 rfl (some 5) rfl W1.heap.size rfl _ (fob_zero _) (foC zN 0 0 0 0 0 0 zN 0 0 zN) rfl ?_)
    | (refine wpList_store_row rfl 86 (.tmp 5) (.tmp 7) rfl W1.heap.size (foC p 0 0 0 0 0 0 zN 0 0 zN) rfl rfl 86 _ (heap_new _ _) fob_info rfl (fo_one _ _ _ _ _ _ _ _ _ _ _) ?_; rw [World.setRow_alloc_new, ← HW2.out])
    | (refine wpList_load_row rfl 41 (.tmp 2) rfl w.heap.size rfl 41 (plC p) (0, 0) _ (HB3.out.at 2 rfl) Try.underlying41 rfl place_info ?_))
  refine (HC.out _).mono ?_
  rintro e w1 ⟨⟨x, rfl, hx⟩, k1⟩
  have hx0 := hx rfl HS.out.1 HS.out.2
  have d0 : decide (x < 0) = false := decide_eq_false (by omega)
  have HB4 := Lib.hid (HB3.out.none k1)
  clear k1 hx hx0
  have HB5 := HB4
  go_wp2_with fail
  refine (fo_load w1 W1.heap.size 86 _ p 1 own 0 0 (HB5.out.at 0 rfl) (Nat.le_refl 21) (plAt_of (HB5.out.at 0 rfl) rfl rfl rfl rfl rfl) (cell_of (HB5.out.at 0 rfl) 9) HP.out HO.out).mono ?_
  rintro e w3 ⟨y, rfl, hb3, k3⟩
  have HB6 := Lib.hid (show w3.heap[W1.heap.size]? = some (.cells (foC p 1 1 y 0 0 0 zN 0 0 zN) 86 (0, 0)) from hb3.trans (by kernel_rfl))
  clear d0
  have hz1 := HZ.out.1
  have hz2 := HZ.out.2
  have HP6 := Lib.hid (k3.at (HB5.out.at 1 rfl) (by intro h; have h' : P1.heap.size = W1.heap.size := h; omega))
  have HK6 := Lib.hid (HB5.out.keeps.own k3 (by intro X hX; have h' : X = W1.heap.size := hX; exact .inr (by omega)))
  clear hb3 k3 hz1 hz2
  go_wp2_with (first
    | (refine wpList_load_row rfl 86 (.tmp 5) rfl W1.heap.size rfl 86 (foC p 1 1 y 0 0 0 zN 0 0 zN) (0, 0) _ HB6.out Try.underlying86 rfl fob_info ?_)
    | (refine wpList_store_row rfl 86 (.tmp 4) (.tmp 16) rfl P1.heap.size (foC p 1 1 y 0 0 0 zN 0 0 zN) rfl rfl 86 _ HP6.out fob_info rfl (fo_one _ _ _ _ _ _ _ _ _ _ _) ?_))
  refine bodyPost_ret (v := .agg (foC p 1 1 y 0 0 0 zN 0 0 zN)) (results_cell_row Try.results34 _ _ P1.heap.size 86 _ (0, 0) _ rfl (setRow_heap _ _ _ _ _ _ HP6.out) Try.underlying86 rfl fob_info) rfl ?_
  exact ⟨⟨y, rfl⟩, HK6.out.setRow (.inr (by have := HZ.out.1; omega)) _⟩
theorem lkb_built (p : Nat → Int) : Try.prog.built 92 [(0, .agg (plC p))] = some (rgC p 0 0 0 0 0 zN 0 0 zN) := by kernel_rfl
theorem lkb_zero (w : World) : (zeroValue 92).run Try.prog w = .ok (.agg (rgC zN 0 0 0 0 0 zN 0 0 zN)) w := by kernel_rfl
theorem lkb_info : (Try.prog.info? 92).map (·.size) = some 20 := by kernel_rfl
set_option maxHeartbeats 4000000 in
theorem lkb_begin (w : World) (p : Nat → Int)  (hp : PlOk p) (h4 : p 0 = 3) :
    Calls Try.prog 35 #[.agg (plC p), .bool true] w (BegQ w fun x => rgC p 1 1 x 0 0 zN 0 0 zN) := by
  have ho : (1 : Int) ≤ 7 ∧ (7 : Int) ≤ 8 := by omega
  have h3 : (7 : Int) ≠ 3 := by omega
  have hs : 0 ≤ singP (p 0) 7 := by rw [h4]; decide
  clear h4
  have HC := Lib.hid (fun W => cell_some p 7 0 0 W hp.r hp.a ho)
  have HS := Lib.hid (And.intro h3 hs)
  have HO := Lib.hid ho
  have HP := Lib.hid hp
  clear hp ho h3 hs
  obtain ⟨P1, hP1⟩ : ∃ W, W = w.alloc (.cells (plC p) 41) := ⟨_, rfl⟩
  obtain ⟨W1, hW1⟩ : ∃ W, W = P1.alloc (.cells (rgC zN 0 0 0 0 0 zN 0 0 zN) 92) := ⟨_, rfl⟩
  obtain ⟨W2, hW2⟩ : ∃ W, W = W1.alloc (.cells (rgC p 0 0 0 0 0 zN 0 0 zN) 92) := ⟨_, rfl⟩
  have h1 := (Has.start w).alloc (.cells (plC p) 41)
  rw [← hP1] at h1
  have h2 := h1.alloc (.cells (rgC zN 0 0 0 0 0 zN 0 0 zN) 92)
  rw [← hW1] at h2
  have hz := h2.alloc (.cells (rgC p 0 0 0 0 0 zN 0 0 zN) 92)
  rw [← hW2] at hz
  have HB1 := Lib.hid h1
  have HB2 := Lib.hid h2
  have HB3 := Lib.hid hz
  have HP1 := Lib.hid hP1
  have HW1 := Lib.hid hW1
  have HW2 := Lib.hid hW2
  have HZ := Lib.hid (show P1.heap.size = w.heap.size + 1 ∧ W1.heap.size = w.heap.size + 2 from by rw [hW1, hP1]; simp)
  clear h1 h2 hz hP1 hW1 hW2
  obtain ⟨q0, q1, q2, q3, q4⟩ := five_cells (HB3.out.at 2 rfl)
  have ql := lt_of (HB3.out.at 2 rfl)
  go_enter Try.func35, Try.ntmps35
  go_wp2_with (first
    | (refine Great.wpList_boxTo rfl 41 (.tmp 0) rfl (some 2) rfl w.heap.size rfl (plC p) rfl ?_; rw [← HP1.out])
    | (refine wpList_alloc_as rfl 92 rfl (some 4) rfl P1.heap.size rfl _ (lkb_zero _) (rgC zN 0 0 0 0 0 zN 0 0 zN) rfl ?_; rw [← HW1.out])
    | (refine wpList_load_row rfl 41 (.tmp 2) rfl w.heap.size rfl 41 (plC p) (0, 0) _ (HB2.out.at 1 rfl) Try.underlying41 rfl place_info ?_)
    | (refine Great.wpList_buildTo rfl 92 _ rfl (some 7) rfl (rgC p 0 0 0 0 0 zN 0 0 zN) (lkb_built p) ?_)
    | (refine wpList_alloc_as rfl 92 rfl (some 5) rfl W1.heap.size rfl _ (lkb_zero _) (rgC zN 0 0 0 0 0 zN 0 0 zN) rfl ?_)
    | (refine wpList_store_row rfl 92 (.tmp 5) (.tmp 7) rfl W1.heap.size (rgC p 0 0 0 0 0 zN 0 0 zN) rfl rfl 92 _ (heap_new _ _) lkb_info rfl (rg_one _ _ _ _ _ _ _ _ _ _) ?_; rw [World.setRow_alloc_new, ← HW2.out])
    | (refine wpList_load_row rfl 41 (.tmp 2) rfl w.heap.size rfl 41 (plC p) (0, 0) _ (HB3.out.at 2 rfl) Try.underlying41 rfl place_info ?_))
  refine (HC.out _).mono ?_
  rintro e w1 ⟨⟨x, rfl, hx⟩, k1⟩
  have hx0 := hx rfl HS.out.1 HS.out.2
  have d0 : decide (x < 0) = false := decide_eq_false (by omega)
  have HB4 := Lib.hid (HB3.out.none k1)
  clear k1 hx hx0
  clear q0 q1 q2 q3 q4 ql
  go_wp2_with fail
  refine (lk_counter w1 W1.heap.size p (plAt_of (HB4.out.at 0 rfl) rfl rfl rfl rfl rfl) HP.out).mono ?_
  rintro e w2 ⟨⟨y, rfl⟩, k2⟩
  have HB5 := Lib.hid (HB4.out.none k2)
  clear k2 d0
  go_wp2_with fail
  refine (lk_load w2 W1.heap.size 92 _ 1 y (HB5.out.at 0 rfl) (Nat.le_refl 20)).mono ?_
  rintro e w3 ⟨rfl, hb3, k3⟩
  have HB6 := Lib.hid (show w3.heap[W1.heap.size]? = some (.cells (rgC p 1 1 y 0 0 zN 0 0 zN) 92 (0, 0)) from hb3.trans (by kernel_rfl))
  have hz1 := HZ.out.1
  have hz2 := HZ.out.2
  have HP6 := Lib.hid (k3.at (HB5.out.at 1 rfl) (by intro h; have h' : P1.heap.size = W1.heap.size := h; omega))
  have HK6 := Lib.hid (HB5.out.keeps.own k3 (by intro X hX; have h' : X = W1.heap.size := hX; exact .inr (by omega)))
  clear hb3 k3 hz1 hz2
  go_wp2_with (first
    | (refine wpList_load_row rfl 92 (.tmp 5) rfl W1.heap.size rfl 92 (rgC p 1 1 y 0 0 zN 0 0 zN) (0, 0) _ HB6.out Try.underlying92 rfl lkb_info ?_)
    | (refine wpList_store_row rfl 92 (.tmp 4) (.tmp 19) rfl P1.heap.size (rgC p 1 1 y 0 0 zN 0 0 zN) rfl rfl 92 _ HP6.out lkb_info rfl (rg_one _ _ _ _ _ _ _ _ _ _) ?_))
  refine bodyPost_ret (v := .agg (rgC p 1 1 y 0 0 zN 0 0 zN)) (results_cell_row Try.results35 _ _ P1.heap.size 92 _ (0, 0) _ rfl (setRow_heap _ _ _ _ _ _ HP6.out) Try.underlying92 rfl lkb_info) rfl ?_
  exact ⟨⟨y, rfl⟩, HK6.out.setRow (.inr (by have := HZ.out.1; omega)) _⟩
end Go.Proofs.Ytdnppkihpddlhaa
