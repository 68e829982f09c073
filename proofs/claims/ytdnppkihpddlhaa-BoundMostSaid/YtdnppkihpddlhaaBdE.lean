import Derived.Test.YtdnppkihpddlhaaBdD
namespace Go.Proofs.Ytdnppkihpddlhaa
open Go.ChangeShapes Go.WideShapes Go.ChangeAt Go.RowKit
set_option linter.unusedVariables false
set_option linter.unusedSimpArgs false
theorem PlAt.drew {w : World} {b : Nat} {p : Nat → Int} (h : PlAt w b p) : PlAt w.drew b p := h.none (Keeps.refl _ w).drew
set_option maxHeartbeats 2000000 in
theorem fo_cell (w : World) (b : Nat) (p : Nat → Int) (part s : Int) (h : PlAt w b p) (hs : w.cell? ⟨b, 9, none⟩ = some (.int .u32 s)) (hp : PlOk p) (hpart : 1 ≤ part ∧ part ≤ 8) :
    Calls Try.prog 48 #[.pointer (some ⟨b, 0, none⟩), .int .i64 part] w (SomeQ w) := by
  obtain ⟨c0, c1, c2, c3, c4, lb⟩ := h.drew
  have c9 : w.drew.cell? ⟨b, 9, none⟩ = some (.int .u32 s) := hs
  have HC := Lib.hid (fun i W => cell_some p part i 0 W hp.r hp.a hpart)
  have HK0 := Lib.hid ((Keeps.refl (fun _ => False) w).drew)
  clear hp hpart h hs
  go_enter Try.func48, Try.ntmps48
  go_wp2_with fail
  go_region_held3 (fun w' => w'.cell? ⟨b, 0, none⟩ = some (.int .i64 (p 0)) ∧ w'.cell? ⟨b, 1, none⟩ = some (.int .i64 (p 1)) ∧ w'.cell? ⟨b, 2, none⟩ = some (.int .i64 (p 2)) ∧ w'.cell? ⟨b, 3, none⟩ = some (.int .i64 (p 3)) ∧ w'.cell? ⟨b, 4, none⟩ = some (.int .i64 (p 4)) ∧ w'.cell? ⟨b, 9, none⟩ = some (.int .u32 s))
    (first
      | exact ⟨c0, c1, c2, c3, c4, c9⟩
      | trivial
      | go_keep)
    (first
      | (go_at_call 36; refine (HC.out _ _).mono ?_; rintro e9 w9 ⟨⟨x9, rfl, _⟩, k9⟩; have HK := Lib.hid (HK0.out.trans k9); replace c0 := (k9.none.cell (p := ⟨b, 0, none⟩) lb).trans c0; replace c1 := (k9.none.cell (p := ⟨b, 1, none⟩) lb).trans c1; replace c2 := (k9.none.cell (p := ⟨b, 2, none⟩) lb).trans c2; replace c3 := (k9.none.cell (p := ⟨b, 3, none⟩) lb).trans c3; replace c4 := (k9.none.cell (p := ⟨b, 4, none⟩) lb).trans c4; replace c9 := (k9.none.cell (p := ⟨b, 9, none⟩) lb).trans c9; clear k9)
      | fail)
  all_goals
    clear c0 c1 c2 c3 c4 c9
    go_wp2_with fail
    go_ret
    exact ⟨⟨_, rfl⟩, HK.out⟩
set_option maxHeartbeats 2000000 in
theorem lk_data (w : World) (b : Nat) (p : Nat → Int) (a : Int) (h : PlAt w b p) (hs : w.cell? ⟨b, 14, none⟩ = some (.int .i64 a)) (hp : PlOk p) :
    Calls Try.prog 100 #[.pointer (some ⟨b, 0, none⟩)] w (SomeQ w) := by
  obtain ⟨c0, c1, c2, c3, c4, lb⟩ := h.drew
  have c9 : w.drew.cell? ⟨b, 14, none⟩ = some (.int .i64 a) := hs
  have HC := Lib.hid (fun j W => cell_some p 3 0 j W hp.r hp.a (by omega))
  have HK0 := Lib.hid ((Keeps.refl (fun _ => False) w).drew)
  clear hp h hs
  go_enter Try.func100, Try.ntmps100
  go_wp2_with fail
  go_region_held3 (fun w' => w'.cell? ⟨b, 0, none⟩ = some (.int .i64 (p 0)) ∧ w'.cell? ⟨b, 1, none⟩ = some (.int .i64 (p 1)) ∧ w'.cell? ⟨b, 2, none⟩ = some (.int .i64 (p 2)) ∧ w'.cell? ⟨b, 3, none⟩ = some (.int .i64 (p 3)) ∧ w'.cell? ⟨b, 4, none⟩ = some (.int .i64 (p 4)) ∧ w'.cell? ⟨b, 14, none⟩ = some (.int .i64 a))
    (first
      | exact ⟨c0, c1, c2, c3, c4, c9⟩
      | trivial
      | go_keep)
    (first
      | (go_at_call 36; refine (HC.out _ _).mono ?_; rintro e9 w9 ⟨⟨x9, rfl, _⟩, k9⟩; have HK := Lib.hid (HK0.out.trans k9); replace c0 := (k9.none.cell (p := ⟨b, 0, none⟩) lb).trans c0; replace c1 := (k9.none.cell (p := ⟨b, 1, none⟩) lb).trans c1; replace c2 := (k9.none.cell (p := ⟨b, 2, none⟩) lb).trans c2; replace c3 := (k9.none.cell (p := ⟨b, 3, none⟩) lb).trans c3; replace c4 := (k9.none.cell (p := ⟨b, 4, none⟩) lb).trans c4; replace c9 := (k9.none.cell (p := ⟨b, 14, none⟩) lb).trans c9; clear k9)
      | fail)
  all_goals
    clear c0 c1 c2 c3 c4 c9
    go_wp2_with fail
    go_ret
    exact ⟨⟨_, rfl⟩, HK.out⟩
set_option maxHeartbeats 2000000 in
theorem fo_load (w : World) (b : Nat) (T : TypeId) (cs : Array Value) (p : Nat → Int) (s part q v : Int) (hb : w.heap[b]? = some (.cells cs T (0, 0))) (hs : 21 ≤ cs.size) (h : PlAt w b p) (hq : w.cell? ⟨b, 9, none⟩ = some (.int .u32 q)) (hp : PlOk p) (hpart : 1 ≤ part ∧ part ≤ 8) :
    Calls Try.prog 40 #[.pointer (some ⟨b, 0, none⟩), .int .i64 s, .int .i64 part] w fun e w' => ∃ x, SetQ w b T cs [(5, .int .i64 s), (6, .int .i64 1), (7, .int .i64 x), (8, .int .u32 0)] e w' := by
  have HC := Lib.hid (fo_cell w b p part q h hq hp hpart)
  have HB := Lib.hid hb
  have lb := lt_of hb
  clear h hq hp hpart hb
  go_enter Try.func40, Try.ntmps40
  go_wp2_with fail
  refine HC.out.mono ?_
  rintro e1 w1 ⟨⟨x, rfl⟩, k1⟩
  have HK := Lib.hid k1
  have hb := k1.at HB.out fun h => h
  obtain ⟨u5, c5⟩ := old_cell hb hs 5 (by omega)
  obtain ⟨u6, c6⟩ := old_cell hb hs 6 (by omega)
  obtain ⟨u7, c7⟩ := old_cell hb hs 7 (by omega)
  obtain ⟨u8, c8⟩ := old_cell hb hs 8 (by omega)
  have f5 := free_of hb 5
  have f6 := free_of hb 6
  have f7 := free_of hb 7
  have f8 := free_of hb 8
  have l1 := lt_of hb
  have HB1 := Lib.hid hb
  clear hb k1
  go_wp2_with fail
  go_end0
  exact ⟨x, rfl, setsL_heap [(5, .int .i64 s), (6, .int .i64 1), (7, .int .i64 x), (8, .int .u32 0)] HB1.out, (HK.out.mono (T := fun X => X = b) fun _ _ h => h.elim).trans (setsL_keep [(5, .int .i64 s), (6, .int .i64 1), (7, .int .i64 x), (8, .int .u32 0)] w1 b)⟩
set_option maxHeartbeats 2000000 in
theorem fo_store (w : World) (b : Nat) (T : TypeId) (cs : Array Value) (p : Nat → Int) (s part q v : Int) (hb : w.heap[b]? = some (.cells cs T (0, 0))) (hs : 21 ≤ cs.size) (h : PlAt w b p) (hq : w.cell? ⟨b, 9, none⟩ = some (.int .u32 q)) (hp : PlOk p) (hpart : 1 ≤ part ∧ part ≤ 8) :
    Calls Try.prog 87 #[.pointer (some ⟨b, 0, none⟩), .int .i64 s, .int .i64 part, .int .u32 v] w fun e w' => ∃ x, SetQ w b T cs [(5, .int .i64 s), (6, .int .i64 2), (7, .int .i64 x), (8, .int .u32 v)] e w' := by
  have HC := Lib.hid (fo_cell w b p part q h hq hp hpart)
  have HB := Lib.hid hb
  have lb := lt_of hb
  clear h hq hp hpart hb
  go_enter Try.func87, Try.ntmps87
  go_wp2_with fail
  refine HC.out.mono ?_
  rintro e1 w1 ⟨⟨x, rfl⟩, k1⟩
  have HK := Lib.hid k1
  have hb := k1.at HB.out fun h => h
  obtain ⟨u5, c5⟩ := old_cell hb hs 5 (by omega)
  obtain ⟨u6, c6⟩ := old_cell hb hs 6 (by omega)
  obtain ⟨u7, c7⟩ := old_cell hb hs 7 (by omega)
  obtain ⟨u8, c8⟩ := old_cell hb hs 8 (by omega)
  have f5 := free_of hb 5
  have f6 := free_of hb 6
  have f7 := free_of hb 7
  have f8 := free_of hb 8
  have l1 := lt_of hb
  have HB1 := Lib.hid hb
  clear hb k1
  go_wp2_with fail
  go_end0
  exact ⟨x, rfl, setsL_heap [(5, .int .i64 s), (6, .int .i64 2), (7, .int .i64 x), (8, .int .u32 v)] HB1.out, (HK.out.mono (T := fun X => X = b) fun _ _ h => h.elim).trans (setsL_keep [(5, .int .i64 s), (6, .int .i64 2), (7, .int .i64 x), (8, .int .u32 v)] w1 b)⟩
set_option maxHeartbeats 2000000 in
theorem room_some (w : World) (p : Nat → Int) (a : Int) (hp : PlOk p) (h1 : p 0 = 1) :
    Calls Try.prog 77 #[.agg (plC p), .int .u32 a] w (SomeQ w) := by
  have HB := Lib.hid ((Has.start w).alloc (.cells (plC p) 41))
  have HC := Lib.hid (fun W => cell_some p 1 0 0 W hp.r hp.a (by omega))
  have hs : 0 ≤ singP (p 0) 1 := by rw [h1]; decide
  have HS := Lib.hid hs
  have hc2 : 1 ≤ p 2 ∧ p 2 ≤ 64 := (right_nums hp.r).2.2.1 h1
  have hw2 : IntKind.u32.wrap (p 2) = p 2 := IntWalk.u32_in _ ⟨by omega, by omega⟩
  have hz2 : (p 2 == 0) = false := by rw [beq_eq_false_iff_ne]; omega
  have hz3 : ¬ (p 2 = 0) := by omega
  clear hs hp h1
  go_enter Try.func77, Try.ntmps77
  go_wp2_with fail
  refine (HC.out _).mono ?_
  rintro e1 w1 ⟨⟨x, rfl, hx⟩, k1⟩
  have hx0 := hx rfl (by decide) HS.out
  have d0 : decide (x < 0) = false := decide_eq_false (by omega)
  replace HB := Lib.hid (HB.out.none k1)
  clear k1 hx hx0
  obtain ⟨c0, c1, c2, c3, c4⟩ := five_cells (HB.out.at 0 rfl)
  have lx := lt_of (HB.out.at 0 rfl)
  go_wp2_with fail
  go_ret
  exact ⟨⟨_, rfl⟩, HB.out.keeps⟩
/-- A place read off explicit cells. -/
theorem plAt_of {w : World} {b : Nat} {cs : Array Value} {T : TypeId} {p : Nat → Int} (h : w.heap[b]? = some (.cells cs T (0, 0))) (h0 : cs[0]? = some (.int .i64 (p 0))) (h1 : cs[1]? = some (.int .i64 (p 1))) (h2 : cs[2]? = some (.int .i64 (p 2))) (h3 : cs[3]? = some (.int .i64 (p 3))) (h4 : cs[4]? = some (.int .i64 (p 4))) : PlAt w b p :=
  ⟨(cell_of h 0).trans h0, (cell_of h 1).trans h1, (cell_of h 2).trans h2, (cell_of h 3).trans h3, (cell_of h 4).trans h4, lt_of h⟩
/-- A closure over the block and an entry. -/
def EntQ (K : Nat) (PT : TypeId) (w : World) (b : Nat) (e : Ending) (w' : World) : Prop := ∃ (X Y : Nat) (i : Int), e = .returned (.func (.func K) #[] #[.pointer (some ⟨X, 0, none⟩), .pointer (some ⟨Y, 0, none⟩)]) ∧ w'.heap[X]? = some (.cells #[.pointer (some ⟨b, 0, none⟩)] PT (0, 0)) ∧ w'.heap[Y]? = some (.cells #[.int .i64 i] 3 (0, 0)) ∧ Keeps (fun _ => False) w w'
set_option maxHeartbeats 2000000 in
theorem entry_cell (w : World) (b X Y : Nat) (p : Nat → Int) (i j : Int) (h : PlAt w b p) (hp : PlOk p) (hX : w.heap[X]? = some (.cells #[.pointer (some ⟨b, 0, none⟩)] 109 (0, 0))) (hY : w.heap[Y]? = some (.cells #[.int .i64 i] 3 (0, 0))) :
    Calls Try.prog 78 #[.int .i64 j, .pointer (some ⟨X, 0, none⟩), .pointer (some ⟨Y, 0, none⟩)] w (SomeQ w) := by
  obtain ⟨c0, c1, c2, c3, c4, lb⟩ := h.drew
  have x0 : w.drew.cell? ⟨X, 0, none⟩ = some (.pointer (some ⟨b, 0, none⟩)) := cell_of hX 0
  have y0 : w.drew.cell? ⟨Y, 0, none⟩ = some (.int .i64 i) := cell_of hY 0
  have lX : X < w.drew.heap.size := lt_of hX
  have lY : Y < w.drew.heap.size := lt_of hY
  have HC := Lib.hid (fun W => cell_some p 3 i j W hp.r hp.a (by omega))
  have HK0 := Lib.hid ((Keeps.refl (fun _ => False) w).drew)
  clear hp h hX hY
  go_enter Try.func78, Try.ntmps78
  go_wp2_with fail
  go_region_held3 (fun w' => w'.cell? ⟨X, 0, none⟩ = some (.pointer (some ⟨b, 0, none⟩)) ∧ w'.cell? ⟨Y, 0, none⟩ = some (.int .i64 i) ∧ w'.cell? ⟨b, 0, none⟩ = some (.int .i64 (p 0)) ∧ w'.cell? ⟨b, 1, none⟩ = some (.int .i64 (p 1)) ∧ w'.cell? ⟨b, 2, none⟩ = some (.int .i64 (p 2)) ∧ w'.cell? ⟨b, 3, none⟩ = some (.int .i64 (p 3)) ∧ w'.cell? ⟨b, 4, none⟩ = some (.int .i64 (p 4)))
    (first
      | exact ⟨x0, y0, c0, c1, c2, c3, c4⟩
      | go_keep)
    (first
      | (go_at_call 36; refine (HC.out _).mono ?_; rintro e9 w9 ⟨⟨x9, rfl, _⟩, k9⟩; have HK := Lib.hid (HK0.out.trans k9); replace x0 := (k9.none.cell (p := ⟨X, 0, none⟩) lX).trans x0; replace y0 := (k9.none.cell (p := ⟨Y, 0, none⟩) lY).trans y0; replace c0 := (k9.none.cell (p := ⟨b, 0, none⟩) lb).trans c0; replace c1 := (k9.none.cell (p := ⟨b, 1, none⟩) lb).trans c1; replace c2 := (k9.none.cell (p := ⟨b, 2, none⟩) lb).trans c2; replace c3 := (k9.none.cell (p := ⟨b, 3, none⟩) lb).trans c3; replace c4 := (k9.none.cell (p := ⟨b, 4, none⟩) lb).trans c4; clear k9)
      | fail)
  all_goals
    clear x0 y0 c0 c1 c2 c3 c4
    go_wp2_with fail
    go_ret
    exact ⟨⟨_, rfl⟩, HK.out⟩
set_option maxHeartbeats 2000000 in
theorem slot_cell (w : World) (b X Y : Nat) (p : Nat → Int) (i j : Int) (h : PlAt w b p) (hp : PlOk p) (hX : w.heap[X]? = some (.cells #[.pointer (some ⟨b, 0, none⟩)] 110 (0, 0))) (hY : w.heap[Y]? = some (.cells #[.int .i64 i] 3 (0, 0))) :
    Calls Try.prog 89 #[.int .i64 j, .pointer (some ⟨X, 0, none⟩), .pointer (some ⟨Y, 0, none⟩)] w (SomeQ w) := by
  obtain ⟨c0, c1, c2, c3, c4, lb⟩ := h.drew
  have x0 : w.drew.cell? ⟨X, 0, none⟩ = some (.pointer (some ⟨b, 0, none⟩)) := cell_of hX 0
  have y0 : w.drew.cell? ⟨Y, 0, none⟩ = some (.int .i64 i) := cell_of hY 0
  have lX : X < w.drew.heap.size := lt_of hX
  have lY : Y < w.drew.heap.size := lt_of hY
  have HC := Lib.hid (fun W => cell_some p 3 i j W hp.r hp.a (by omega))
  have HK0 := Lib.hid ((Keeps.refl (fun _ => False) w).drew)
  clear hp h hX hY
  go_enter Try.func89, Try.ntmps89
  go_wp2_with fail
  go_region_held3 (fun w' => w'.cell? ⟨X, 0, none⟩ = some (.pointer (some ⟨b, 0, none⟩)) ∧ w'.cell? ⟨Y, 0, none⟩ = some (.int .i64 i) ∧ w'.cell? ⟨b, 0, none⟩ = some (.int .i64 (p 0)) ∧ w'.cell? ⟨b, 1, none⟩ = some (.int .i64 (p 1)) ∧ w'.cell? ⟨b, 2, none⟩ = some (.int .i64 (p 2)) ∧ w'.cell? ⟨b, 3, none⟩ = some (.int .i64 (p 3)) ∧ w'.cell? ⟨b, 4, none⟩ = some (.int .i64 (p 4)))
    (first
      | exact ⟨x0, y0, c0, c1, c2, c3, c4⟩
      | go_keep)
    (first
      | (go_at_call 36; refine (HC.out _).mono ?_; rintro e9 w9 ⟨⟨x9, rfl, _⟩, k9⟩; have HK := Lib.hid (HK0.out.trans k9); replace x0 := (k9.none.cell (p := ⟨X, 0, none⟩) lX).trans x0; replace y0 := (k9.none.cell (p := ⟨Y, 0, none⟩) lY).trans y0; replace c0 := (k9.none.cell (p := ⟨b, 0, none⟩) lb).trans c0; replace c1 := (k9.none.cell (p := ⟨b, 1, none⟩) lb).trans c1; replace c2 := (k9.none.cell (p := ⟨b, 2, none⟩) lb).trans c2; replace c3 := (k9.none.cell (p := ⟨b, 3, none⟩) lb).trans c3; replace c4 := (k9.none.cell (p := ⟨b, 4, none⟩) lb).trans c4; clear k9)
      | fail)
  all_goals
    clear x0 y0 c0 c1 c2 c3 c4
    go_wp2_with fail
    go_ret
    exact ⟨⟨_, rfl⟩, HK.out⟩
end Go.Proofs.Ytdnppkihpddlhaa
