import Derived.Test.YtkhmfjfclpehfaaGreatSpecHz
namespace Go.Proofs.YtkhmfjfclpehfaaGreat
open Go.ChangeShapes Go.WideShapes Go.ChangeAt Go.RowKit
set_option linter.unusedVariables false
set_option linter.unusedSimpArgs false
set_option maxRecDepth 20000 in
set_option maxHeartbeats 8000000 in
theorem doRing_recv (w : World) (g o : Nat) (cur : Array Value) (x : ItemD) (a : Option Addr) (c : Nat) (v : W4) (hb : w.heap[g]? = some (.cells cur 106 (0, 0))) (hx : ItemW w g o cur x a c) (y : W4) (t : List W4) (hr : x.row = y :: t) (hn : x.row.length ≤ 64) :
    Calls Tryz.prog 95 #[.pointer (some ⟨g, o, none⟩), .int .i64 2, .agg v.cells] w fun e w' => e = .returned (.agg (ResD.mk 0 y).cells) ∧ Became w w' g o 106 cur a x.row {x with row := t} := by
  have hx' := hx.fifteen hb
  have hl := lt_of hb
  have hne3 : w.heap.size + 1 ≠ g := by omega
  have hne4 : g ≠ w.heap.size + 1 := by omega
  have hne1 : ¬ g = w.heap.size := by omega
  have hne2 : ¬ w.heap.size = g := by omega
  obtain ⟨b, off, rfl, hbl, htv, hrow⟩ := hx.row (by rw [hr]; simp)
  have hb1 : ¬ b = w.heap.size := by omega
  have c10 : w.cell? ⟨g, o + 10, none⟩ = some (.slice (some ⟨b, off, none⟩) (t.length + 1) c) := by rw [show t.length + 1 = x.row.length by rw [hr]; rfl]; exact hx' 10 _ rfl
  have v0 : w.cell? ⟨b, off, none⟩ = some (.int .u32 y.a) := by simpa using hrow 0 y (by rw [hr]; rfl) 0 _ rfl
  have v1 : w.cell? ⟨b, off + 1, none⟩ = some (.int .u32 y.b) := by simpa using hrow 0 y (by rw [hr]; rfl) 1 _ rfl
  have v2 : w.cell? ⟨b, off + 2, none⟩ = some (.int .u32 y.c) := by simpa using hrow 0 y (by rw [hr]; rfl) 2 _ rfl
  have v3 : w.cell? ⟨b, off + 3, none⟩ = some (.int .u32 y.d) := by simpa using hrow 0 y (by rw [hr]; rfl) 3 _ rfl
  have HX := Lib.hid (And.intro hx hb)
  have htl : t.length + 1 ≤ 64 := by rw [hr] at hn; exact hn
  have htc : t.length + 1 ≤ c := by have := hx.le; rw [hr] at this; exact this
  have HROW := Lib.hid (show ∀ k z, t[k]? = some z → w.rangeAt b (off + 4 + k * 4) z.l from fun k z hz j u hu => by
    have := hrow (k + 1) z (by rw [hr]; exact hz) j u hu
    rwa [show off + (k + 1) * 4 + j = off + 4 + k * 4 + j by omega] at this)
  obtain ⟨q, hq⟩ : ∃ q, t.length = q := ⟨_, rfl⟩
  have HQ := Lib.hid hq
  rw [hq] at c10 htl htc
  have HTV := Lib.hid htv
  clear hx hx' hb hr hn hrow htv
  rcases Nat.eq_zero_or_pos q with rfl | hpos
  · have HA0 : Has w ((((w.alloc (.cells v.cells 36)).alloc (.cells #[.int .i64 0, .int .u32 0, .int .u32 0, .int .u32 0, .int .u32 0] 41)).alloc (.cells #[.int .u32 y.a, .int .u32 y.b, .int .u32 y.c, .int .u32 y.d] 36)).alloc (.cells (madeCells #[.int .u32 0, .int .u32 0, .int .u32 0, .int .u32 0] (0 * 4)) 36)) [(w.heap.size + 3, .cells (madeCells #[.int .u32 0, .int .u32 0, .int .u32 0, .int .u32 0] (0 * 4)) 36 (0, 0)), (w.heap.size + 2, .cells #[.int .u32 y.a, .int .u32 y.b, .int .u32 y.c, .int .u32 y.d] 36 (0, 0)), (w.heap.size + 1, .cells #[.int .i64 0, .int .u32 0, .int .u32 0, .int .u32 0, .int .u32 0] 41 (0, 0)), (w.heap.size, .cells v.cells 36 (0, 0)), (g, .cells cur 106 (0, 0))] := ((((Has.start w).old HX.out.2).alloc (.cells v.cells 36)).alloc (.cells #[.int .i64 0, .int .u32 0, .int .u32 0, .int .u32 0, .int .u32 0] 41) |>.alloc (.cells #[.int .u32 y.a, .int .u32 y.b, .int .u32 y.c, .int .u32 y.d] 36) |>.alloc (.cells (madeCells #[.int .u32 0, .int .u32 0, .int .u32 0, .int .u32 0] (0 * 4)) 36)).eq (by simp)
    have hrow : RowIn ((((w.alloc (.cells v.cells 36)).alloc (.cells #[.int .i64 0, .int .u32 0, .int .u32 0, .int .u32 0, .int .u32 0] 41)).alloc (.cells #[.int .u32 y.a, .int .u32 y.b, .int .u32 y.c, .int .u32 y.d] 36)).alloc (.cells (madeCells #[.int .u32 0, .int .u32 0, .int .u32 0, .int .u32 0] (0 * 4)) 36)) (some ⟨b, off, none⟩) t := fun hp => by omega
    obtain ⟨w3, hcp, ho, hgr⟩ := copy_values (T := 36) (dT := 104) (g := w.heap.size + 3) (cap := 0) (B := w.heap.size + 3) Tryz.underlying104 (by kernel_rfl) (HA0.at 0 rfl) (by omega) (size_madeCells _ _) (by unfold maxLen; omega) t (by omega) (some ⟨b, off, none⟩) 0 hrow 3
    have HA := Lib.hid (HA0.tl.grown hgr (by omega) (by intro y hy; simp at hy; rcases hy with rfl | rfl | rfl | rfl <;> simp <;> omega))
    rw [hq] at hcp
    have HO := Lib.hid ho
    have HCP := Lib.hid hcp
    clear hcp ho hgr HA0 hrow hq
    have y10 : w3.cell? ⟨g, o + 10, none⟩ = some _ := (World.cell?_of_block (a := ⟨g, o + 10, none⟩) (HA.out.keeps.block g hl (fun h => h))).trans c10
    have f10 : w3.frozen? ⟨g, o + 10, none⟩ = false := free_of (HA.out.at 3 rfl) (o + 10)
    have p0 : w3.cell? ⟨w.heap.size + 2, 0, none⟩ = some (.int .u32 y.a) := cell_of (HA.out.at 0 rfl) 0
    have p1 : w3.cell? ⟨w.heap.size + 2, 1, none⟩ = some (.int .u32 y.b) := cell_of (HA.out.at 0 rfl) 1
    have p2 : w3.cell? ⟨w.heap.size + 2, 2, none⟩ = some (.int .u32 y.c) := cell_of (HA.out.at 0 rfl) 2
    have p3 : w3.cell? ⟨w.heap.size + 2, 3, none⟩ = some (.int .u32 y.d) := cell_of (HA.out.at 0 rfl) 3
    have hr3 : w3.heap[w.heap.size + 1]? = some (.cells #[.int .i64 0, .int .u32 0, .int .u32 0, .int .u32 0, .int .u32 0] 41 (0, 0)) := HA.out.at 1 rfl
    have q0 := cell_of hr3 0
    have q1 := cell_of hr3 1
    have q2 := cell_of hr3 2
    have q3 := cell_of hr3 3
    have q4 := cell_of hr3 4
    have fq0 := free_of hr3 0
    have fq1 := free_of hr3 1
    have fq2 := free_of hr3 2
    have fq3 := free_of hr3 3
    have fq4 := free_of hr3 4
    simp only [List.getElem?_toArray, List.getElem?_cons_zero, List.getElem?_cons_succ] at q0 q1 q2 q3 q4
    have hmk : ∀ w : World, (Instr.makeSlice 104 (.int .i64 (0 : Int)) (.int .i64 (0 : Int))).run Tryz.prog w = .ok (.slice (some ⟨w.heap.size, 0, none⟩) 0 0) (w.alloc (.cells (madeCells #[.int .u32 0, .int .u32 0, .int .u32 0, .int .u32 0] (0 * 4)) 36)) := fun w => make_values w 0 0 (by omega) (by omega)
    have c10' : ∀ o1 o2 o3 o4, ((((w.alloc o1).alloc o2).alloc o3).alloc o4).cell? ⟨g, o + 10, none⟩ = some (.slice (some ⟨b, off, none⟩) (0 + 1) c) := fun o1 o2 o3 o4 => by
      rw [World.cell?_of_block (w := w) (((Below.refl w.heap.size w).alloc (Nat.le_refl _) o1 |>.alloc (by simp) o2 |>.alloc (by simp; omega) o3 |>.alloc (by simp; omega) o4).block g hl)]
      exact c10
    clear hr3
    go_enter Tryz.func95, Tryz.ntmps95
    go_wp2_with (refine wpList_copy_known rfl (.tmp 77) (.tmp 84) 104 104 rfl _ _ rfl rfl HCP.out ?_)
    refine bodyPost_ret (v := .agg (ResD.mk 0 y).cells) (by simp [results, Tryz.results95, go_sem, q0, q1, q2, q3, q4]) rfl ⟨rfl, ?_⟩
    obtain ⟨a9, c9, e9, h91, h92, h93, h94, h95⟩ := row_own (R := t) HO.out rfl
    cases e9
    have hk3 : Keeps (fun j => j = g) w w3 := ⟨HA.out.keeps.os, HA.out.keeps.tape, HA.out.keeps.output, HA.out.keeps.size, fun k hk1 _ => HA.out.keeps.block k hk1 fun h => h⟩
    have HA3 := Lib.hid (show w3.heap[g]? = some (.cells cur 106 (0, 0)) from HA.out.at 3 rfl)
    rw [HQ.out] at h91
    refine Became.row HX.out.1 t _ _ ((((((hk3.setCell (p := ⟨g, o + 10, none⟩) (.inl rfl) _).setCell (p := ⟨w.heap.size + 1, 0, none⟩) (.inr (by show w.heap.size ≤ w.heap.size + 1; omega)) _).setCell (p := ⟨w.heap.size + 1, 1, none⟩) (.inr (by show w.heap.size ≤ w.heap.size + 1; omega)) _).setCell (p := ⟨w.heap.size + 1, 2, none⟩) (.inr (by show w.heap.size ≤ w.heap.size + 1; omega)) _).setCell (p := ⟨w.heap.size + 1, 3, none⟩) (.inr (by show w.heap.size ≤ w.heap.size + 1; omega)) _).setCell (p := ⟨w.heap.size + 1, 4, none⟩) (.inr (by show w.heap.size ≤ w.heap.size + 1; omega)) _) (by rw [HQ.out]; exact heap_other (heap_other (heap_other (heap_other (heap_other (heap_set HA3.out (o + 10) _) hne4 _) hne4 _) hne4 _) hne4 _) hne4 _) (by rw [HQ.out]; exact h91) (by unfold maxLen; omega) (fun e => by cases e) (h94.keeps (S := fun j => j = g ∨ j = w.heap.size + 1) (((((((Keeps.refl _ w3).setCell (p := ⟨g, o + 10, none⟩) (.inl (.inl rfl)) _).setCell (p := ⟨w.heap.size + 1, 0, none⟩) (.inl (.inr rfl)) _).setCell (p := ⟨w.heap.size + 1, 1, none⟩) (.inl (.inr rfl)) _).setCell (p := ⟨w.heap.size + 1, 2, none⟩) (.inl (.inr rfl)) _).setCell (p := ⟨w.heap.size + 1, 3, none⟩) (.inl (.inr rfl)) _).setCell (p := ⟨w.heap.size + 1, 4, none⟩) (.inl (.inr rfl)) _) fun b off e => ?_) (fun b off e => ?_) hl
    all_goals have h1 := h95 b off e
    all_goals omega
  · have HA0 : Has w ((((w.alloc (.cells v.cells 36)).alloc (.cells #[.int .i64 0, .int .u32 0, .int .u32 0, .int .u32 0, .int .u32 0] 41)).alloc (.cells #[.int .u32 y.a, .int .u32 y.b, .int .u32 y.c, .int .u32 y.d] 36)).alloc (.cells (madeCells #[.int .u32 0, .int .u32 0, .int .u32 0, .int .u32 0] (q * 4)) 36)) [(w.heap.size + 3, .cells (madeCells #[.int .u32 0, .int .u32 0, .int .u32 0, .int .u32 0] (q * 4)) 36 (0, 0)), (w.heap.size + 2, .cells #[.int .u32 y.a, .int .u32 y.b, .int .u32 y.c, .int .u32 y.d] 36 (0, 0)), (w.heap.size + 1, .cells #[.int .i64 0, .int .u32 0, .int .u32 0, .int .u32 0, .int .u32 0] 41 (0, 0)), (w.heap.size, .cells v.cells 36 (0, 0)), (g, .cells cur 106 (0, 0))] := ((((Has.start w).old HX.out.2).alloc (.cells v.cells 36)).alloc (.cells #[.int .i64 0, .int .u32 0, .int .u32 0, .int .u32 0, .int .u32 0] 41) |>.alloc (.cells #[.int .u32 y.a, .int .u32 y.b, .int .u32 y.c, .int .u32 y.d] 36) |>.alloc (.cells (madeCells #[.int .u32 0, .int .u32 0, .int .u32 0, .int .u32 0] (q * 4)) 36)).eq (by simp)
    have hrow : RowIn ((((w.alloc (.cells v.cells 36)).alloc (.cells #[.int .i64 0, .int .u32 0, .int .u32 0, .int .u32 0, .int .u32 0] 41)).alloc (.cells #[.int .u32 y.a, .int .u32 y.b, .int .u32 y.c, .int .u32 y.d] 36)).alloc (.cells (madeCells #[.int .u32 0, .int .u32 0, .int .u32 0, .int .u32 0] (q * 4)) 36)) (some ⟨b, off + 4, none⟩) t := fun hp => ⟨b, off + 4, rfl, Nat.lt_of_lt_of_le hbl HA0.keeps.size, HTV.out.eq (HA0.keeps.none.block b hbl), fun k z hz => range_below (HROW.out k z hz) HA0.keeps.none hbl⟩
    obtain ⟨w3, hcp, ho, hgr⟩ := copy_values (T := 36) (dT := 104) (g := w.heap.size + 3) (cap := q) (B := w.heap.size + 3) Tryz.underlying104 (by kernel_rfl) (HA0.at 0 rfl) (by omega) (size_madeCells _ _) (by unfold maxLen; omega) t (by omega) (some ⟨b, off + 4, none⟩) q hrow 3
    have HA := Lib.hid (HA0.tl.grown hgr (by omega) (by intro y hy; simp at hy; rcases hy with rfl | rfl | rfl | rfl <;> simp <;> omega))
    rw [hq] at hcp
    have HO := Lib.hid ho
    have HCP := Lib.hid hcp
    clear hcp ho hgr HA0 hrow hq
    have y10 : w3.cell? ⟨g, o + 10, none⟩ = some _ := (World.cell?_of_block (a := ⟨g, o + 10, none⟩) (HA.out.keeps.block g hl (fun h => h))).trans c10
    have f10 : w3.frozen? ⟨g, o + 10, none⟩ = false := free_of (HA.out.at 3 rfl) (o + 10)
    have p0 : w3.cell? ⟨w.heap.size + 2, 0, none⟩ = some (.int .u32 y.a) := cell_of (HA.out.at 0 rfl) 0
    have p1 : w3.cell? ⟨w.heap.size + 2, 1, none⟩ = some (.int .u32 y.b) := cell_of (HA.out.at 0 rfl) 1
    have p2 : w3.cell? ⟨w.heap.size + 2, 2, none⟩ = some (.int .u32 y.c) := cell_of (HA.out.at 0 rfl) 2
    have p3 : w3.cell? ⟨w.heap.size + 2, 3, none⟩ = some (.int .u32 y.d) := cell_of (HA.out.at 0 rfl) 3
    have hr3 : w3.heap[w.heap.size + 1]? = some (.cells #[.int .i64 0, .int .u32 0, .int .u32 0, .int .u32 0, .int .u32 0] 41 (0, 0)) := HA.out.at 1 rfl
    have q0 := cell_of hr3 0
    have q1 := cell_of hr3 1
    have q2 := cell_of hr3 2
    have q3 := cell_of hr3 3
    have q4 := cell_of hr3 4
    have fq0 := free_of hr3 0
    have fq1 := free_of hr3 1
    have fq2 := free_of hr3 2
    have fq3 := free_of hr3 3
    have fq4 := free_of hr3 4
    simp only [List.getElem?_toArray, List.getElem?_cons_zero, List.getElem?_cons_succ] at q0 q1 q2 q3 q4
    have hmk : ∀ w : World, (Instr.makeSlice 104 (.int .i64 (q : Int)) (.int .i64 (q : Int))).run Tryz.prog w = .ok (.slice (some ⟨w.heap.size, 0, none⟩) q q) (w.alloc (.cells (madeCells #[.int .u32 0, .int .u32 0, .int .u32 0, .int .u32 0] (q * 4)) 36)) := fun w => make_values w q q (by omega) (by omega)
    have c10' : ∀ o1 o2 o3 o4, ((((w.alloc o1).alloc o2).alloc o3).alloc o4).cell? ⟨g, o + 10, none⟩ = some (.slice (some ⟨b, off, none⟩) (q + 1) c) := fun o1 o2 o3 o4 => by
      rw [World.cell?_of_block (w := w) (((Below.refl w.heap.size w).alloc (Nat.le_refl _) o1 |>.alloc (by simp) o2 |>.alloc (by simp; omega) o3 |>.alloc (by simp; omega) o4).block g hl)]
      exact c10
    have hq0 : ¬ q = 0 := by omega
    clear hr3
    go_enter Tryz.func95, Tryz.ntmps95
    go_wp2_with (refine wpList_copy_known rfl (.tmp 77) (.tmp 84) 104 104 rfl _ _ rfl rfl HCP.out ?_)
    refine bodyPost_ret (v := .agg (ResD.mk 0 y).cells) (by simp [results, Tryz.results95, go_sem, q0, q1, q2, q3, q4]) rfl ⟨rfl, ?_⟩
    obtain ⟨a9, c9, e9, h91, h92, h93, h94, h95⟩ := row_own (R := t) HO.out rfl
    cases e9
    have hk3 : Keeps (fun j => j = g) w w3 := ⟨HA.out.keeps.os, HA.out.keeps.tape, HA.out.keeps.output, HA.out.keeps.size, fun k hk1 _ => HA.out.keeps.block k hk1 fun h => h⟩
    have HA3 := Lib.hid (show w3.heap[g]? = some (.cells cur 106 (0, 0)) from HA.out.at 3 rfl)
    rw [HQ.out] at h91
    refine Became.row HX.out.1 t _ _ ((((((hk3.setCell (p := ⟨g, o + 10, none⟩) (.inl rfl) _).setCell (p := ⟨w.heap.size + 1, 0, none⟩) (.inr (by show w.heap.size ≤ w.heap.size + 1; omega)) _).setCell (p := ⟨w.heap.size + 1, 1, none⟩) (.inr (by show w.heap.size ≤ w.heap.size + 1; omega)) _).setCell (p := ⟨w.heap.size + 1, 2, none⟩) (.inr (by show w.heap.size ≤ w.heap.size + 1; omega)) _).setCell (p := ⟨w.heap.size + 1, 3, none⟩) (.inr (by show w.heap.size ≤ w.heap.size + 1; omega)) _).setCell (p := ⟨w.heap.size + 1, 4, none⟩) (.inr (by show w.heap.size ≤ w.heap.size + 1; omega)) _) (by rw [HQ.out]; exact heap_other (heap_other (heap_other (heap_other (heap_other (heap_set HA3.out (o + 10) _) hne4 _) hne4 _) hne4 _) hne4 _) hne4 _) (by rw [HQ.out]; exact h91) (by unfold maxLen; omega) (fun e => by cases e) (h94.keeps (S := fun j => j = g ∨ j = w.heap.size + 1) (((((((Keeps.refl _ w3).setCell (p := ⟨g, o + 10, none⟩) (.inl (.inl rfl)) _).setCell (p := ⟨w.heap.size + 1, 0, none⟩) (.inl (.inr rfl)) _).setCell (p := ⟨w.heap.size + 1, 1, none⟩) (.inl (.inr rfl)) _).setCell (p := ⟨w.heap.size + 1, 2, none⟩) (.inl (.inr rfl)) _).setCell (p := ⟨w.heap.size + 1, 3, none⟩) (.inl (.inr rfl)) _).setCell (p := ⟨w.heap.size + 1, 4, none⟩) (.inl (.inr rfl)) _) fun b off e => ?_) (fun b off e => ?_) hl
    all_goals have h1 := h95 b off e
    all_goals omega
end Go.Proofs.YtkhmfjfclpehfaaGreat
