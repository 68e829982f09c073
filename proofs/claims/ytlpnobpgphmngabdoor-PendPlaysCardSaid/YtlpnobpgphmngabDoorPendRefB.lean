import Derived.Test.YtlpnobpgphmngabDoorPendRef
import Derived.Deep.Cut
import Derived.BigRegion
namespace Go.Proofs.YtlpnobpgphmngabDoor
open Go.ChangeShapes Go.WideShapes Go.ChangeAt Go.RowKit
set_option linter.unusedVariables false
/-- The two blocks of Raise and Take: the argument's and the result's. -/
structure Two (w wr : World) (x r m : Nat) : Prop where
  keeps : Keeps (fun _ => False) w wr
  arg : wr.heap[w.heap.size]? = some (.cells (rp x r m) 30 (0, 0))
  res : ∃ cs, wr.heap[w.heap.size + 1]? = some (.cells cs 30 (0, 0)) ∧ cs.size = 34
theorem two_new (w : World) (x r m : Nat) : Two w ((w.alloc (.cells (rp x r m) 30)).alloc (.cells #[.bool false, .bool false, .bool false, .bool false, .bool false, .bool false, .bool false, .bool false, .bool false, .bool false, .bool false, .bool false, .bool false, .bool false, .bool false, .bool false, .bool false, .bool false, .bool false, .bool false, .bool false, .bool false, .bool false, .bool false, .bool false, .bool false, .bool false, .bool false, .bool false, .bool false, .bool false, .bool false, .int .i64 0, .int .i64 0] 30)) x r m := by
  have e := heap_new (w.alloc (.cells (rp x r m) 30)) (.cells #[.bool false, .bool false, .bool false, .bool false, .bool false, .bool false, .bool false, .bool false, .bool false, .bool false, .bool false, .bool false, .bool false, .bool false, .bool false, .bool false, .bool false, .bool false, .bool false, .bool false, .bool false, .bool false, .bool false, .bool false, .bool false, .bool false, .bool false, .bool false, .bool false, .bool false, .bool false, .bool false, .int .i64 0, .int .i64 0] 30)
  rw [show (w.alloc (.cells (rp x r m) 30)).heap.size = w.heap.size + 1 by simp] at e
  exact ⟨((Keeps.refl _ w).alloc _).alloc _, heap_old (heap_new _ _) _, _, e, rfl⟩
section
variable {w wr : World} {x r m : Nat}
theorem Two.size (h : Two w wr x r m) : w.heap.size + 1 < wr.heap.size := lt_of h.res.choose_spec.1
theorem Two.setm (h : Two w wr x r m) (z : Nat) : Two w (wr.setCell ⟨w.heap.size, 33, none⟩ (.int .i64 (z : Int))) x r z :=
  ⟨h.keeps.setCell (p := ⟨w.heap.size, 33, none⟩) (.inr (Nat.le_refl _)) _, by rw [← rp_setm x r m z]; exact heap_set h.arg 33 _, by obtain ⟨cs, h1, h2⟩ := h.res; exact ⟨cs, heap_other h1 (by simp) _, h2⟩⟩
theorem Two.setr (h : Two w wr x r m) (z : Nat) : Two w (wr.setCell ⟨w.heap.size, 32, none⟩ (.int .i64 (z : Int))) x z m :=
  ⟨h.keeps.setCell (p := ⟨w.heap.size, 32, none⟩) (.inr (Nat.le_refl _)) _, by rw [← rp_setr x r m z]; exact heap_set h.arg 32 _, by obtain ⟨cs, h1, h2⟩ := h.res; exact ⟨cs, heap_other h1 (by simp) _, h2⟩⟩
theorem Two.setb (h : Two w wr x r m) (k : Nat) (b : Bool) (hx : x < 4294967296) (hk : k < 32) : Two w (wr.setCell ⟨w.heap.size, k, none⟩ (.bool b)) (if b then setB x k else clrB x k) r m :=
  ⟨h.keeps.setCell (p := ⟨w.heap.size, k, none⟩) (.inr (Nat.le_refl _)) _, by rw [← rp_set x r m k b hx hk]; exact heap_set h.arg k _, by obtain ⟨cs, h1, h2⟩ := h.res; exact ⟨cs, heap_other h1 (by simp) _, h2⟩⟩
theorem Two.bit (h : Two w wr x r m) (k : Nat) (hk : k < 32) : wr.cell? ⟨w.heap.size, k, none⟩ = some (.bool (x.testBit k)) := (cell_of h.arg k).trans (rp_bit x r m k hk)
theorem Two.cr (h : Two w wr x r m) : wr.cell? ⟨w.heap.size, 32, none⟩ = some (.int .i64 (r : Int)) := (cell_of h.arg 32).trans (rp_r x r m)
theorem Two.cm (h : Two w wr x r m) : wr.cell? ⟨w.heap.size, 33, none⟩ = some (.int .i64 (m : Int)) := (cell_of h.arg 33).trans (rp_m x r m)
theorem Two.free (h : Two w wr x r m) (i : Nat) : wr.frozen? ⟨w.heap.size, i, none⟩ = false := free_of h.arg i
end
/-- What Raise and Take hand back. -/
theorem two_ret {fn : Func} {w wr : World} {x r m : Nat} {b : Bool} (h : Two w wr x r m) (hres : fn.results = #[.cell 4 30, .tmp 5]) (a : Act) (hd : a.defers = []) (h4 : a.tmps.getD 4 undef = .pointer (some ⟨w.heap.size + 1, 0, none⟩)) (h5 : a.tmps.getD 5 undef = .bool b) :
    bodyPost Tryd.prog fn (fun e w' => e = .returned (.tuple #[.agg (rp x r m), .bool b]) ∧ Keeps (fun _ => False) w w') .ret a (wr.setRow (w.heap.size + 1) (rp x r m)) := by
  obtain ⟨cs, h1, h2⟩ := h.res
  have e := results_row_tmp (P := Tryd.prog) hres a.tmps (wr.setRow (w.heap.size + 1) (rp x r m)) (w.heap.size + 1) 30 (rp x r m) (0, 0) _ h4 ((setRow_heap _ _ _ _ _ _ h1).trans rfl) Tryd.underlying30 rfl (rp_info x r m)
  rw [h5] at e
  exact bodyPost_ret (v := .tuple #[.agg (rp x r m), .bool b]) e hd ⟨rfl, h.keeps.setRow (.inr (by omega)) _⟩
set_option maxRecDepth 20000 in
theorem rpraise_out (x r m : Nat) (i : Int) (w : World) (hi : ¬ (0 ≤ i ∧ i ≤ 31)) :
    Calls Tryd.prog 8 #[.agg (rp x r m), .int .i64 i] w fun e w' => e = .returned (.tuple #[.agg (rp x r m), .bool false]) ∧ Keeps (fun _ => False) w w' := by
  rcases (by omega : i < 0 ∨ (¬ i < 0 ∧ 31 < i)) with h | ⟨h0, h⟩
  · have d0 : decide (i < 0) = true := by simp; exact h
    clear hi
    have H0 := Lib.hid (two_new w x r m)
    go_enter Tryd.func8, Tryd.ntmps8
    go_upto_region 1 with (fail)
    generalize hw2 : World.alloc (World.alloc w _) _ = w2
    have H2 : Hid (Two w w2 x r m) := Lib.hid (hw2 ▸ H0.out)
    clear hw2 H0
    have sz := H2.out.size
    obtain ⟨cs, hr1, hr2⟩ := H2.out.res
    have HR := Lib.hid (And.intro hr1 hr2)
    clear hr1 hr2
    go_wp2_with (first
      | (with_reducible refine wpList_load_row rfl 30 (.tmp 2) rfl w.heap.size rfl 30 (rp x r m) (0, 0) _ H2.out.arg Tryd.underlying30 rfl (rp_info _ _ _) ?_)
      | (refine wpList_store_row rfl 30 (.tmp 4) (.tmp 12) rfl (w.heap.size + 1) (rp x r m) rfl rfl 30 _ HR.out.1 (rp_info _ _ _) (by rw [HR.out.2, rp_size]) (rp_one _ _ _) ?_))
    exact two_ret H2.out Tryd.results8 _ rfl rfl rfl
  · have d0 : decide (i < 0) = false := by simp; omega
    have d1 : decide (31 < i) = true := by simp; exact h
    clear hi h0
    have H0 := Lib.hid (two_new w x r m)
    go_enter Tryd.func8, Tryd.ntmps8
    go_upto_region 1 with (fail)
    generalize hw2 : World.alloc (World.alloc w _) _ = w2
    have H2 : Hid (Two w w2 x r m) := Lib.hid (hw2 ▸ H0.out)
    clear hw2 H0
    have sz := H2.out.size
    obtain ⟨cs, hr1, hr2⟩ := H2.out.res
    have HR := Lib.hid (And.intro hr1 hr2)
    clear hr1 hr2
    go_wp2_with (first
      | (with_reducible refine wpList_load_row rfl 30 (.tmp 2) rfl w.heap.size rfl 30 (rp x r m) (0, 0) _ H2.out.arg Tryd.underlying30 rfl (rp_info _ _ _) ?_)
      | (refine wpList_store_row rfl 30 (.tmp 4) (.tmp 12) rfl (w.heap.size + 1) (rp x r m) rfl rfl 30 _ HR.out.1 (rp_info _ _ _) (by rw [HR.out.2, rp_size]) (rp_one _ _ _) ?_))
    exact two_ret H2.out Tryd.results8 _ rfl rfl rfl
set_option maxRecDepth 20000 in
theorem rpraise_had (x r m k : Nat) (w : World) (hm : m < 4611686018427387904) (hk : k < 32) (hb : x.testBit k = true) :
    Calls Tryd.prog 8 #[.agg (rp x r m), .int .i64 k] w fun e w' => e = .returned (.tuple #[.agg (rp x r (m + 1)), .bool false]) ∧ Keeps (fun _ => False) w w' := by
  have d0 : decide ((k : Int) < 0) = false := by simp
  have d1 : decide (31 < (k : Int)) = false := by simp; omega
  have H0 := Lib.hid (two_new w x r m)
  go_enter Tryd.func8, Tryd.ntmps8
  go_upto_region 1 with (fail)
  generalize hw2 : World.alloc (World.alloc w _) _ = w2
  have H2 : Hid (Two w w2 x r m) := Lib.hid (hw2 ▸ H0.out)
  clear hw2 H0
  have sz := H2.out.size
  have c0 := H2.out.bit k hk
  have cm := H2.out.cm
  have fm := H2.out.free 33
  rw [hb] at c0
  have h3 := H2.out.setm (m + 1)
  rw [show ((m + 1 : Nat) : Int) = (m : Int) + 1 from rfl] at h3
  have H3 := Lib.hid h3
  clear h3
  clear hb
  obtain ⟨cs, hr1, hr2⟩ := H3.out.res
  have HR := Lib.hid (And.intro hr1 hr2)
  clear hr1 hr2
  go_wp2_with (first
    | (with_reducible refine wpList_load_row rfl 30 (.tmp 2) rfl w.heap.size rfl 30 (rp x r (m + 1)) (0, 0) _ H3.out.arg Tryd.underlying30 rfl (rp_info _ _ _) ?_)
    | (refine wpList_store_row rfl 30 (.tmp 4) (.tmp 21) rfl (w.heap.size + 1) (rp x r (m + 1)) rfl rfl 30 _ HR.out.1 (rp_info _ _ _) (by rw [HR.out.2, rp_size]) (rp_one _ _ _) ?_))
  exact two_ret H3.out Tryd.results8 _ rfl rfl rfl
set_option maxRecDepth 20000 in
theorem rpraise_new (x r m k : Nat) (w : World) (hx : x < 4294967296) (hr : r < 4611686018427387904) (hk : k < 32) (hb : x.testBit k = false) :
    Calls Tryd.prog 8 #[.agg (rp x r m), .int .i64 k] w fun e w' => e = .returned (.tuple #[.agg (rp (setB x k) (r + 1) m), .bool true]) ∧ Keeps (fun _ => False) w w' := by
  have d0 : decide ((k : Int) < 0) = false := by simp
  have d1 : decide (31 < (k : Int)) = false := by simp; omega
  have H0 := Lib.hid (two_new w x r m)
  go_enter Tryd.func8, Tryd.ntmps8
  go_upto_region 1 with (fail)
  generalize hw2 : World.alloc (World.alloc w _) _ = w2
  have H2 : Hid (Two w w2 x r m) := Lib.hid (hw2 ▸ H0.out)
  clear hw2 H0
  have sz := H2.out.size
  have c0 := H2.out.bit k hk
  have cr := H2.out.cr
  have fk := H2.out.free k
  have fr := H2.out.free 32
  rw [hb] at c0
  have h3 : Two w _ (setB x k) (r + 1) m := (H2.out.setb k true hx hk).setr (r + 1)
  rw [show ((r + 1 : Nat) : Int) = (r : Int) + 1 from rfl] at h3
  have H3 := Lib.hid h3
  clear h3
  clear hb
  obtain ⟨cs, hr1, hr2⟩ := H3.out.res
  have HR := Lib.hid (And.intro hr1 hr2)
  clear hr1 hr2
  go_wp2_with (first
    | (with_reducible refine wpList_load_row rfl 30 (.tmp 2) rfl w.heap.size rfl 30 (rp (setB x k) (r + 1) m) (0, 0) _ H3.out.arg Tryd.underlying30 rfl (rp_info _ _ _) ?_)
    | (refine wpList_store_row rfl 30 (.tmp 4) (.tmp 29) rfl (w.heap.size + 1) (rp (setB x k) (r + 1) m) rfl rfl 30 _ HR.out.1 (rp_info _ _ _) (by rw [HR.out.2, rp_size]) (rp_one _ _ _) ?_))
  exact two_ret H3.out Tryd.results8 _ rfl rfl rfl
set_option maxRecDepth 20000 in
theorem rptake_out (x r m : Nat) (i : Int) (w : World) (hi : ¬ (0 ≤ i ∧ i ≤ 31)) :
    Calls Tryd.prog 10 #[.agg (rp x r m), .int .i64 i] w fun e w' => e = .returned (.tuple #[.agg (rp x r m), .bool false]) ∧ Keeps (fun _ => False) w w' := by
  rcases (by omega : i < 0 ∨ (¬ i < 0 ∧ 31 < i)) with h | ⟨h0, h⟩
  · have d0 : decide (i < 0) = true := by simp; exact h
    clear hi
    have H0 := Lib.hid (two_new w x r m)
    go_enter Tryd.func10, Tryd.ntmps10
    go_upto_region 1 with (fail)
    generalize hw2 : World.alloc (World.alloc w _) _ = w2
    have H2 : Hid (Two w w2 x r m) := Lib.hid (hw2 ▸ H0.out)
    clear hw2 H0
    have sz := H2.out.size
    obtain ⟨cs, hr1, hr2⟩ := H2.out.res
    have HR := Lib.hid (And.intro hr1 hr2)
    clear hr1 hr2
    go_wp2_with (first
      | (with_reducible refine wpList_load_row rfl 30 (.tmp 2) rfl w.heap.size rfl 30 (rp x r m) (0, 0) _ H2.out.arg Tryd.underlying30 rfl (rp_info _ _ _) ?_)
      | (refine wpList_store_row rfl 30 (.tmp 4) (.tmp 19) rfl (w.heap.size + 1) (rp x r m) rfl rfl 30 _ HR.out.1 (rp_info _ _ _) (by rw [HR.out.2, rp_size]) (rp_one _ _ _) ?_))
    exact two_ret H2.out Tryd.results10 _ rfl rfl rfl
  · have d0 : decide (i < 0) = false := by simp; omega
    have d1 : decide (31 < i) = true := by simp; exact h
    clear hi h0
    have H0 := Lib.hid (two_new w x r m)
    go_enter Tryd.func10, Tryd.ntmps10
    go_upto_region 1 with (fail)
    generalize hw2 : World.alloc (World.alloc w _) _ = w2
    have H2 : Hid (Two w w2 x r m) := Lib.hid (hw2 ▸ H0.out)
    clear hw2 H0
    have sz := H2.out.size
    obtain ⟨cs, hr1, hr2⟩ := H2.out.res
    have HR := Lib.hid (And.intro hr1 hr2)
    clear hr1 hr2
    go_wp2_with (first
      | (with_reducible refine wpList_load_row rfl 30 (.tmp 2) rfl w.heap.size rfl 30 (rp x r m) (0, 0) _ H2.out.arg Tryd.underlying30 rfl (rp_info _ _ _) ?_)
      | (refine wpList_store_row rfl 30 (.tmp 4) (.tmp 19) rfl (w.heap.size + 1) (rp x r m) rfl rfl 30 _ HR.out.1 (rp_info _ _ _) (by rw [HR.out.2, rp_size]) (rp_one _ _ _) ?_))
    exact two_ret H2.out Tryd.results10 _ rfl rfl rfl
set_option maxRecDepth 20000 in
theorem rptake_no (x r m k : Nat) (w : World) (hk : k < 32) (hb : x.testBit k = false) :
    Calls Tryd.prog 10 #[.agg (rp x r m), .int .i64 k] w fun e w' => e = .returned (.tuple #[.agg (rp x r m), .bool false]) ∧ Keeps (fun _ => False) w w' := by
  have d0 : decide ((k : Int) < 0) = false := by simp
  have d1 : decide (31 < (k : Int)) = false := by simp; omega
  have H0 := Lib.hid (two_new w x r m)
  go_enter Tryd.func10, Tryd.ntmps10
  go_upto_region 1 with (fail)
  generalize hw2 : World.alloc (World.alloc w _) _ = w2
  have H2 : Hid (Two w w2 x r m) := Lib.hid (hw2 ▸ H0.out)
  clear hw2 H0
  have sz := H2.out.size
  have c0 := H2.out.bit k hk
  rw [hb] at c0
  clear hb
  obtain ⟨cs, hr1, hr2⟩ := H2.out.res
  have HR := Lib.hid (And.intro hr1 hr2)
  clear hr1 hr2
  go_wp2_with (first
    | (with_reducible refine wpList_load_row rfl 30 (.tmp 2) rfl w.heap.size rfl 30 (rp x r m) (0, 0) _ H2.out.arg Tryd.underlying30 rfl (rp_info _ _ _) ?_)
    | (refine wpList_store_row rfl 30 (.tmp 4) (.tmp 19) rfl (w.heap.size + 1) (rp x r m) rfl rfl 30 _ HR.out.1 (rp_info _ _ _) (by rw [HR.out.2, rp_size]) (rp_one _ _ _) ?_))
  exact two_ret H2.out Tryd.results10 _ rfl rfl rfl
set_option maxRecDepth 20000 in
theorem rptake_yes (x r m k : Nat) (w : World) (hx : x < 4294967296) (hk : k < 32) (hb : x.testBit k = true) :
    Calls Tryd.prog 10 #[.agg (rp x r m), .int .i64 k] w fun e w' => e = .returned (.tuple #[.agg (rp (clrB x k) r m), .bool true]) ∧ Keeps (fun _ => False) w w' := by
  have d0 : decide ((k : Int) < 0) = false := by simp
  have d1 : decide (31 < (k : Int)) = false := by simp; omega
  have H0 := Lib.hid (two_new w x r m)
  go_enter Tryd.func10, Tryd.ntmps10
  go_upto_region 1 with (fail)
  generalize hw2 : World.alloc (World.alloc w _) _ = w2
  have H2 : Hid (Two w w2 x r m) := Lib.hid (hw2 ▸ H0.out)
  clear hw2 H0
  have sz := H2.out.size
  have c0 := H2.out.bit k hk
  have fk := H2.out.free k
  rw [hb] at c0
  have H3 : Hid (Two w _ (clrB x k) r m) := Lib.hid (H2.out.setb k false hx hk)
  clear hb
  obtain ⟨cs, hr1, hr2⟩ := H3.out.res
  have HR := Lib.hid (And.intro hr1 hr2)
  clear hr1 hr2
  go_wp2_with (first
    | (with_reducible refine wpList_load_row rfl 30 (.tmp 2) rfl w.heap.size rfl 30 (rp (clrB x k) r m) (0, 0) _ H3.out.arg Tryd.underlying30 rfl (rp_info _ _ _) ?_)
    | (refine wpList_store_row rfl 30 (.tmp 4) (.tmp 23) rfl (w.heap.size + 1) (rp (clrB x k) r m) rfl rfl 30 _ HR.out.1 (rp_info _ _ _) (by rw [HR.out.2, rp_size]) (rp_one _ _ _) ?_))
  exact two_ret H3.out Tryd.results10 _ rfl rfl rfl
theorem rpabove (x r m : Nat) (l : Int) (w : World) (hx : x < 4294967296) :
    Calls Tryd.prog 17 #[.agg (rp x r m), .int .i64 l] w fun e w' => e = .returned (.int .i64 (if l < (Lib.bitLen x : Int) - 1 then (Lib.bitLen x : Int) - 1 else -1)) ∧ Keeps (fun _ => False) w w' := by
  have H0 := Lib.hid (And.intro (heap_new w (.cells (rp x r m) 30)) ((Keeps.refl (fun _ => False) w).alloc (.cells (rp x r m) 30)))
  by_cases hl : l < (Lib.bitLen x : Int) - 1
  · rw [if_pos hl]
    have dl : decide (l < (Lib.bitLen x : Int) - 1) = true := by simp; omega
    go_enter Tryd.func17, Tryd.ntmps17
    go_wp2_with (with_reducible refine wpList_load_row rfl 30 (.tmp 2) rfl w.heap.size rfl 30 (rp x r m) (0, 0) _ H0.out.1 Tryd.underlying30 rfl (rp_info _ _ _) ?_)
    refine (rptop x r m _ hx).mono ?_
    rintro e w1 ⟨rfl, k1⟩
    have H1 := Lib.hid (And.intro (k1.at H0.out.1 fun h => h) (H0.out.2.trans k1))
    clear k1 H0
    go_wp2_with (with_reducible refine wpList_load_row rfl 30 (.tmp 2) rfl w.heap.size rfl 30 (rp x r m) (0, 0) _ H1.out.1 Tryd.underlying30 rfl (rp_info _ _ _) ?_)
    refine (rptop x r m _ hx).mono ?_
    rintro e w2 ⟨rfl, k2⟩
    go_wp2
    go_ret
    exact ⟨rfl, H1.out.2.trans k2⟩
  · rw [if_neg hl]
    have dl : decide (l < (Lib.bitLen x : Int) - 1) = false := by simp; omega
    go_enter Tryd.func17, Tryd.ntmps17
    go_wp2_with (with_reducible refine wpList_load_row rfl 30 (.tmp 2) rfl w.heap.size rfl 30 (rp x r m) (0, 0) _ H0.out.1 Tryd.underlying30 rfl (rp_info _ _ _) ?_)
    refine (rptop x r m _ hx).mono ?_
    rintro e w1 ⟨rfl, k1⟩
    go_wp2
    go_ret
    exact ⟨rfl, H0.out.2.trans k1⟩
end Go.Proofs.YtlpnobpgphmngabDoor
