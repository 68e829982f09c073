import Derived.Test.YtdnppkihpddlhaaBdG
namespace Go.Proofs.Ytdnppkihpddlhaa
open Go.ChangeShapes Go.WideShapes Go.ChangeAt Go.RowKit
set_option linter.unusedVariables false
set_option linter.unusedSimpArgs false
set_option maxHeartbeats 4000000 in
theorem rg_result (w : World) (b : Nat) (st f : Int) (h : StAt w b 15 st f) :
    Calls Try.prog 71 #[.pointer (some ⟨b, 0, none⟩)] w (ResQ w f (st == 5)) := by
  have k0 := (Keeps.refl (fun _ => False) w).alloc (.cells #[.int .i64 0, .int .u32 0, .int .u32 0, .int .u32 0, .int .u32 0] 48)
  have hh := h.none k0
  have hN := heap_new w (.cells #[.int .i64 0, .int .u32 0, .int .u32 0, .int .u32 0, .int .u32 0] 48)
  have HK := Lib.hid k0
  have hne : b ≠ w.heap.size := Nat.ne_of_lt h.lt
  clear k0 h
  go_enter Try.func71, Try.ntmps71
  go_wp2_with fail
  generalize (w.alloc (.cells #[.int .i64 0, .int .u32 0, .int .u32 0, .int .u32 0, .int .u32 0] 48)) = Wg at *
  generalize hN0 : w.heap.size = N0 at *
  obtain ⟨v0, v1, v2, v3, c0, c1, c2, c3, c4⟩ := hh.re
  have c5' := hh.c5
  have lb := hh.lt
  have HS := Lib.hid (fun (w' : World) (k : Keeps (fun X => X = N0) Wg w') => show w'.cell? ⟨b, 15, none⟩ = some (.int .i64 f) ∧ w'.cell? ⟨b, 16, none⟩ = some (.int .u32 v0) ∧ w'.cell? ⟨b, 17, none⟩ = some (.int .u32 v1) ∧ w'.cell? ⟨b, 18, none⟩ = some (.int .u32 v2) ∧ w'.cell? ⟨b, 19, none⟩ = some (.int .u32 v3) ∧ w'.cell? ⟨b, 5, none⟩ = some (.int .i64 st) from
    have hc : ∀ i v, Wg.cell? ⟨b, i, none⟩ = some v → w'.cell? ⟨b, i, none⟩ = some v := fun i v hv => (World.cell?_of_block (w := Wg) (k.block b lb hne)).trans hv
    ⟨hc _ _ c0, hc _ _ c1, hc _ _ c2, hc _ _ c3, hc _ _ c4, hc _ _ c5'⟩)
  have n0 : Wg.cell? ⟨N0, 0, none⟩ = some (.int .i64 0) := cell_of hN 0
  have m0 : Wg.frozen? ⟨N0, 0, none⟩ = false := free_of hN 0
  have n1 : Wg.cell? ⟨N0, 1, none⟩ = some (.int .u32 0) := cell_of hN 1
  have m1 : Wg.frozen? ⟨N0, 1, none⟩ = false := free_of hN 1
  have n2 : Wg.cell? ⟨N0, 2, none⟩ = some (.int .u32 0) := cell_of hN 2
  have m2 : Wg.frozen? ⟨N0, 2, none⟩ = false := free_of hN 2
  have n3 : Wg.cell? ⟨N0, 3, none⟩ = some (.int .u32 0) := cell_of hN 3
  have m3 : Wg.frozen? ⟨N0, 3, none⟩ = false := free_of hN 3
  have n4 : Wg.cell? ⟨N0, 4, none⟩ = some (.int .u32 0) := cell_of hN 4
  have m4 : Wg.frozen? ⟨N0, 4, none⟩ = false := free_of hN 4
  have ln : N0 < Wg.heap.size := lt_of hN
  have HN := Lib.hid hN
  have HN0 := Lib.hid hN0
  clear hh hN hN0
  go_region_held3 (fun w' => w'.cell? ⟨b, 15, none⟩ = some (.int .i64 f) ∧ w'.cell? ⟨b, 16, none⟩ = some (.int .u32 v0) ∧ w'.cell? ⟨b, 17, none⟩ = some (.int .u32 v1) ∧ w'.cell? ⟨b, 18, none⟩ = some (.int .u32 v2) ∧ w'.cell? ⟨b, 19, none⟩ = some (.int .u32 v3) ∧ w'.cell? ⟨b, 5, none⟩ = some (.int .i64 st))
    (first
      | exact HS.out _ (Keeps.refl (fun X => X = N0) Wg).drew
      | exact HS.out _ ((((((Keeps.refl (fun X => X = N0) Wg).setCell (p := ⟨N0, 0, none⟩) (.inl rfl) _).setCell (p := ⟨N0, 1, none⟩) (.inl rfl) _).setCell (p := ⟨N0, 2, none⟩) (.inl rfl) _).setCell (p := ⟨N0, 3, none⟩) (.inl rfl) _).setCell (p := ⟨N0, 4, none⟩) (.inl rfl) _).drew
      | go_keep)
    (fail)
  all_goals
    have HF := Lib.hid (And.intro (show ((((((Wg.setCell ⟨N0, 0, none⟩ (.int .i64 f)).setCell ⟨N0, 1, none⟩ (.int .u32 v0)).setCell ⟨N0, 2, none⟩ (.int .u32 v1)).setCell ⟨N0, 3, none⟩ (.int .u32 v2)).setCell ⟨N0, 4, none⟩ (.int .u32 v3)).drew).heap[N0]? = some (.cells #[.int .i64 f, .int .u32 v0, .int .u32 v1, .int .u32 v2, .int .u32 v3] 48 (0, 0)) from heap_set (heap_set (heap_set (heap_set (heap_set HN.out 0 _) 1 _) 2 _) 3 _) 4 _)
      ((((((HK.out.setCell (p := ⟨N0, 0, none⟩) (.inr (Nat.le_of_eq HN0.out)) (.int .i64 f)).setCell (p := ⟨N0, 1, none⟩) (.inr (Nat.le_of_eq HN0.out)) (.int .u32 v0)).setCell (p := ⟨N0, 2, none⟩) (.inr (Nat.le_of_eq HN0.out)) (.int .u32 v1)).setCell (p := ⟨N0, 3, none⟩) (.inr (Nat.le_of_eq HN0.out)) (.int .u32 v2)).setCell (p := ⟨N0, 4, none⟩) (.inr (Nat.le_of_eq HN0.out)) (.int .u32 v3)).drew))
    generalize (((((Wg.setCell ⟨N0, 0, none⟩ (.int .i64 f)).setCell ⟨N0, 1, none⟩ (.int .u32 v0)).setCell ⟨N0, 2, none⟩ (.int .u32 v1)).setCell ⟨N0, 3, none⟩ (.int .u32 v2)).setCell ⟨N0, 4, none⟩ (.int .u32 v3)).drew = W9 at HF ⊢
    clear n0 m0 n1 m1 n2 m2 n3 m3 n4 m4 ln c0 c1 c2 c3 c4 c5' lb
    go_wp2_with fail
    refine bodyPost_ret (v := .tuple #[.agg #[.int .i64 f, .int .u32 v0, .int .u32 v1, .int .u32 v2, .int .u32 v3], .bool (st == 5)]) (res_res _ Try.results71 W9 _ N0 f v0 v1 v2 v3 _ rfl rfl HF.out.1) rfl ⟨⟨v0, v1, v2, v3, rfl⟩, HF.out.2⟩
set_option maxHeartbeats 4000000 in
theorem fo_act (w : World) (b : Nat) (st f : Int) (h : StAt w b 16 st f) (hst : st ≠ 0) :
    Calls Try.prog 85 #[.pointer (some ⟨b, 0, none⟩)] w (ActQ w (busyP 7 st)) := by
  have k0 := (Keeps.refl (fun _ => False) w).alloc (.cells #[.int .i64 0, .int .i64 0, .int .u32 0] 43)
  have hh := h.none k0
  have hN := heap_new w (.cells #[.int .i64 0, .int .i64 0, .int .u32 0] 43)
  have HK := Lib.hid k0
  have hne : b ≠ w.heap.size := Nat.ne_of_lt h.lt
  have d0 : (st != 0) = true := by simpa using hst
  have e0 : (st == 0) = false := by rw [beq_eq_false_iff_ne]; exact hst
  have D0 := Lib.hid d0
  clear k0 h
  go_enter Try.func85, Try.ntmps85
  go_wp2_with fail
  generalize (w.alloc (.cells #[.int .i64 0, .int .i64 0, .int .u32 0] 43)) = Wg at *
  generalize hN0 : w.heap.size = N0 at *
  obtain ⟨o1, o2, o3, c0, c1, c2⟩ := hh.nx
  have c5' := hh.c5
  have lb := hh.lt
  have HS := Lib.hid (fun (w' : World) (k : Keeps (fun X => X = N0) Wg w') => show w'.cell? ⟨b, 6, none⟩ = some (.int .i64 o1) ∧ w'.cell? ⟨b, 7, none⟩ = some (.int .i64 o2) ∧ w'.cell? ⟨b, 8, none⟩ = some (.int .u32 o3) ∧ w'.cell? ⟨b, 5, none⟩ = some (.int .i64 st) from
    have hc : ∀ i v, Wg.cell? ⟨b, i, none⟩ = some v → w'.cell? ⟨b, i, none⟩ = some v := fun i v hv => (World.cell?_of_block (w := Wg) (k.block b lb hne)).trans hv
    ⟨hc _ _ c0, hc _ _ c1, hc _ _ c2, hc _ _ c5'⟩)
  have n0 : Wg.cell? ⟨N0, 0, none⟩ = some (.int .i64 0) := cell_of hN 0
  have m0 : Wg.frozen? ⟨N0, 0, none⟩ = false := free_of hN 0
  have n1 : Wg.cell? ⟨N0, 1, none⟩ = some (.int .i64 0) := cell_of hN 1
  have m1 : Wg.frozen? ⟨N0, 1, none⟩ = false := free_of hN 1
  have n2 : Wg.cell? ⟨N0, 2, none⟩ = some (.int .u32 0) := cell_of hN 2
  have m2 : Wg.frozen? ⟨N0, 2, none⟩ = false := free_of hN 2
  have ln : N0 < Wg.heap.size := lt_of hN
  have HN := Lib.hid hN
  have HN0 := Lib.hid hN0
  clear hh hN hN0
  go_region_held3 (fun w' => w'.cell? ⟨b, 6, none⟩ = some (.int .i64 o1) ∧ w'.cell? ⟨b, 7, none⟩ = some (.int .i64 o2) ∧ w'.cell? ⟨b, 8, none⟩ = some (.int .u32 o3) ∧ w'.cell? ⟨b, 5, none⟩ = some (.int .i64 st))
    (first
      | exact HS.out _ (Keeps.refl (fun X => X = N0) Wg).drew
      | exact HS.out _ ((((Keeps.refl (fun X => X = N0) Wg).setCell (p := ⟨N0, 0, none⟩) (.inl rfl) _).setCell (p := ⟨N0, 1, none⟩) (.inl rfl) _).setCell (p := ⟨N0, 2, none⟩) (.inl rfl) _).drew
      | go_keep)
    (fail)
  all_goals
    have HF := Lib.hid (And.intro (show ((((Wg.setCell ⟨N0, 0, none⟩ (.int .i64 o1)).setCell ⟨N0, 1, none⟩ (.int .i64 o2)).setCell ⟨N0, 2, none⟩ (.int .u32 o3)).drew).heap[N0]? = some (.cells #[.int .i64 o1, .int .i64 o2, .int .u32 o3] 43 (0, 0)) from heap_set (heap_set (heap_set HN.out 0 _) 1 _) 2 _)
      ((((HK.out.setCell (p := ⟨N0, 0, none⟩) (.inr (Nat.le_of_eq HN0.out)) (.int .i64 o1)).setCell (p := ⟨N0, 1, none⟩) (.inr (Nat.le_of_eq HN0.out)) (.int .i64 o2)).setCell (p := ⟨N0, 2, none⟩) (.inr (Nat.le_of_eq HN0.out)) (.int .u32 o3)).drew))
    generalize (((Wg.setCell ⟨N0, 0, none⟩ (.int .i64 o1)).setCell ⟨N0, 1, none⟩ (.int .i64 o2)).setCell ⟨N0, 2, none⟩ (.int .u32 o3)).drew = W9 at HF ⊢
    clear n0 m0 n1 m1 n2 m2 ln c0 c1 c2 c5' lb
    go_wp2_with fail
    refine bodyPost_ret (v := .tuple #[.agg #[.int .i64 o1, .int .i64 o2, .int .u32 o3], .bool (busyP 7 st)]) (res_act _ Try.results85 W9 _ N0 o1 o2 o3 _ rfl (by first | rfl | (unfold busyP; rw [D0.out]; rfl)) HF.out.1) rfl ⟨⟨o1, o2, o3, rfl⟩, HF.out.2⟩
set_option maxHeartbeats 4000000 in
theorem fo_result (w : World) (b : Nat) (st f : Int) (h : StAt w b 16 st f) :
    Calls Try.prog 86 #[.pointer (some ⟨b, 0, none⟩)] w (ResQ w f (st == 7)) := by
  have k0 := (Keeps.refl (fun _ => False) w).alloc (.cells #[.int .i64 0, .int .u32 0, .int .u32 0, .int .u32 0, .int .u32 0] 48)
  have hh := h.none k0
  have hN := heap_new w (.cells #[.int .i64 0, .int .u32 0, .int .u32 0, .int .u32 0, .int .u32 0] 48)
  have HK := Lib.hid k0
  have hne : b ≠ w.heap.size := Nat.ne_of_lt h.lt
  clear k0 h
  go_enter Try.func86, Try.ntmps86
  go_wp2_with fail
  generalize (w.alloc (.cells #[.int .i64 0, .int .u32 0, .int .u32 0, .int .u32 0, .int .u32 0] 48)) = Wg at *
  generalize hN0 : w.heap.size = N0 at *
  obtain ⟨v0, v1, v2, v3, c0, c1, c2, c3, c4⟩ := hh.re
  have c5' := hh.c5
  have lb := hh.lt
  have HS := Lib.hid (fun (w' : World) (k : Keeps (fun X => X = N0) Wg w') => show w'.cell? ⟨b, 16, none⟩ = some (.int .i64 f) ∧ w'.cell? ⟨b, 17, none⟩ = some (.int .u32 v0) ∧ w'.cell? ⟨b, 18, none⟩ = some (.int .u32 v1) ∧ w'.cell? ⟨b, 19, none⟩ = some (.int .u32 v2) ∧ w'.cell? ⟨b, 20, none⟩ = some (.int .u32 v3) ∧ w'.cell? ⟨b, 5, none⟩ = some (.int .i64 st) from
    have hc : ∀ i v, Wg.cell? ⟨b, i, none⟩ = some v → w'.cell? ⟨b, i, none⟩ = some v := fun i v hv => (World.cell?_of_block (w := Wg) (k.block b lb hne)).trans hv
    ⟨hc _ _ c0, hc _ _ c1, hc _ _ c2, hc _ _ c3, hc _ _ c4, hc _ _ c5'⟩)
  have n0 : Wg.cell? ⟨N0, 0, none⟩ = some (.int .i64 0) := cell_of hN 0
  have m0 : Wg.frozen? ⟨N0, 0, none⟩ = false := free_of hN 0
  have n1 : Wg.cell? ⟨N0, 1, none⟩ = some (.int .u32 0) := cell_of hN 1
  have m1 : Wg.frozen? ⟨N0, 1, none⟩ = false := free_of hN 1
  have n2 : Wg.cell? ⟨N0, 2, none⟩ = some (.int .u32 0) := cell_of hN 2
  have m2 : Wg.frozen? ⟨N0, 2, none⟩ = false := free_of hN 2
  have n3 : Wg.cell? ⟨N0, 3, none⟩ = some (.int .u32 0) := cell_of hN 3
  have m3 : Wg.frozen? ⟨N0, 3, none⟩ = false := free_of hN 3
  have n4 : Wg.cell? ⟨N0, 4, none⟩ = some (.int .u32 0) := cell_of hN 4
  have m4 : Wg.frozen? ⟨N0, 4, none⟩ = false := free_of hN 4
  have ln : N0 < Wg.heap.size := lt_of hN
  have HN := Lib.hid hN
  have HN0 := Lib.hid hN0
  clear hh hN hN0
  go_region_held3 (fun w' => w'.cell? ⟨b, 16, none⟩ = some (.int .i64 f) ∧ w'.cell? ⟨b, 17, none⟩ = some (.int .u32 v0) ∧ w'.cell? ⟨b, 18, none⟩ = some (.int .u32 v1) ∧ w'.cell? ⟨b, 19, none⟩ = some (.int .u32 v2) ∧ w'.cell? ⟨b, 20, none⟩ = some (.int .u32 v3) ∧ w'.cell? ⟨b, 5, none⟩ = some (.int .i64 st))
    (first
      | exact HS.out _ (Keeps.refl (fun X => X = N0) Wg).drew
      | exact HS.out _ ((((((Keeps.refl (fun X => X = N0) Wg).setCell (p := ⟨N0, 0, none⟩) (.inl rfl) _).setCell (p := ⟨N0, 1, none⟩) (.inl rfl) _).setCell (p := ⟨N0, 2, none⟩) (.inl rfl) _).setCell (p := ⟨N0, 3, none⟩) (.inl rfl) _).setCell (p := ⟨N0, 4, none⟩) (.inl rfl) _).drew
      | go_keep)
    (fail)
  all_goals
    have HF := Lib.hid (And.intro (show ((((((Wg.setCell ⟨N0, 0, none⟩ (.int .i64 f)).setCell ⟨N0, 1, none⟩ (.int .u32 v0)).setCell ⟨N0, 2, none⟩ (.int .u32 v1)).setCell ⟨N0, 3, none⟩ (.int .u32 v2)).setCell ⟨N0, 4, none⟩ (.int .u32 v3)).drew).heap[N0]? = some (.cells #[.int .i64 f, .int .u32 v0, .int .u32 v1, .int .u32 v2, .int .u32 v3] 48 (0, 0)) from heap_set (heap_set (heap_set (heap_set (heap_set HN.out 0 _) 1 _) 2 _) 3 _) 4 _)
      ((((((HK.out.setCell (p := ⟨N0, 0, none⟩) (.inr (Nat.le_of_eq HN0.out)) (.int .i64 f)).setCell (p := ⟨N0, 1, none⟩) (.inr (Nat.le_of_eq HN0.out)) (.int .u32 v0)).setCell (p := ⟨N0, 2, none⟩) (.inr (Nat.le_of_eq HN0.out)) (.int .u32 v1)).setCell (p := ⟨N0, 3, none⟩) (.inr (Nat.le_of_eq HN0.out)) (.int .u32 v2)).setCell (p := ⟨N0, 4, none⟩) (.inr (Nat.le_of_eq HN0.out)) (.int .u32 v3)).drew))
    generalize (((((Wg.setCell ⟨N0, 0, none⟩ (.int .i64 f)).setCell ⟨N0, 1, none⟩ (.int .u32 v0)).setCell ⟨N0, 2, none⟩ (.int .u32 v1)).setCell ⟨N0, 3, none⟩ (.int .u32 v2)).setCell ⟨N0, 4, none⟩ (.int .u32 v3)).drew = W9 at HF ⊢
    clear n0 m0 n1 m1 n2 m2 n3 m3 n4 m4 ln c0 c1 c2 c3 c4 c5' lb
    go_wp2_with fail
    refine bodyPost_ret (v := .tuple #[.agg #[.int .i64 f, .int .u32 v0, .int .u32 v1, .int .u32 v2, .int .u32 v3], .bool (st == 7)]) (res_res _ Try.results86 W9 _ N0 f v0 v1 v2 v3 _ rfl rfl HF.out.1) rfl ⟨⟨v0, v1, v2, v3, rfl⟩, HF.out.2⟩
set_option maxHeartbeats 4000000 in
theorem lk_act (w : World) (b : Nat) (st f : Int) (h : StAt w b 15 st f) (hst : st ≠ 0) :
    Calls Try.prog 96 #[.pointer (some ⟨b, 0, none⟩)] w (ActQ w (busyP 5 st)) := by
  have k0 := (Keeps.refl (fun _ => False) w).alloc (.cells #[.int .i64 0, .int .i64 0, .int .u32 0] 43)
  have hh := h.none k0
  have hN := heap_new w (.cells #[.int .i64 0, .int .i64 0, .int .u32 0] 43)
  have HK := Lib.hid k0
  have hne : b ≠ w.heap.size := Nat.ne_of_lt h.lt
  have d0 : (st != 0) = true := by simpa using hst
  have e0 : (st == 0) = false := by rw [beq_eq_false_iff_ne]; exact hst
  have D0 := Lib.hid d0
  clear k0 h
  go_enter Try.func96, Try.ntmps96
  go_wp2_with fail
  generalize (w.alloc (.cells #[.int .i64 0, .int .i64 0, .int .u32 0] 43)) = Wg at *
  generalize hN0 : w.heap.size = N0 at *
  obtain ⟨o1, o2, o3, c0, c1, c2⟩ := hh.nx
  have c5' := hh.c5
  have lb := hh.lt
  have HS := Lib.hid (fun (w' : World) (k : Keeps (fun X => X = N0) Wg w') => show w'.cell? ⟨b, 6, none⟩ = some (.int .i64 o1) ∧ w'.cell? ⟨b, 7, none⟩ = some (.int .i64 o2) ∧ w'.cell? ⟨b, 8, none⟩ = some (.int .u32 o3) ∧ w'.cell? ⟨b, 5, none⟩ = some (.int .i64 st) from
    have hc : ∀ i v, Wg.cell? ⟨b, i, none⟩ = some v → w'.cell? ⟨b, i, none⟩ = some v := fun i v hv => (World.cell?_of_block (w := Wg) (k.block b lb hne)).trans hv
    ⟨hc _ _ c0, hc _ _ c1, hc _ _ c2, hc _ _ c5'⟩)
  have n0 : Wg.cell? ⟨N0, 0, none⟩ = some (.int .i64 0) := cell_of hN 0
  have m0 : Wg.frozen? ⟨N0, 0, none⟩ = false := free_of hN 0
  have n1 : Wg.cell? ⟨N0, 1, none⟩ = some (.int .i64 0) := cell_of hN 1
  have m1 : Wg.frozen? ⟨N0, 1, none⟩ = false := free_of hN 1
  have n2 : Wg.cell? ⟨N0, 2, none⟩ = some (.int .u32 0) := cell_of hN 2
  have m2 : Wg.frozen? ⟨N0, 2, none⟩ = false := free_of hN 2
  have ln : N0 < Wg.heap.size := lt_of hN
  have HN := Lib.hid hN
  have HN0 := Lib.hid hN0
  clear hh hN hN0
  go_region_held3 (fun w' => w'.cell? ⟨b, 6, none⟩ = some (.int .i64 o1) ∧ w'.cell? ⟨b, 7, none⟩ = some (.int .i64 o2) ∧ w'.cell? ⟨b, 8, none⟩ = some (.int .u32 o3) ∧ w'.cell? ⟨b, 5, none⟩ = some (.int .i64 st))
    (first
      | exact HS.out _ (Keeps.refl (fun X => X = N0) Wg).drew
      | exact HS.out _ ((((Keeps.refl (fun X => X = N0) Wg).setCell (p := ⟨N0, 0, none⟩) (.inl rfl) _).setCell (p := ⟨N0, 1, none⟩) (.inl rfl) _).setCell (p := ⟨N0, 2, none⟩) (.inl rfl) _).drew
      | go_keep)
    (fail)
  all_goals
    have HF := Lib.hid (And.intro (show ((((Wg.setCell ⟨N0, 0, none⟩ (.int .i64 o1)).setCell ⟨N0, 1, none⟩ (.int .i64 o2)).setCell ⟨N0, 2, none⟩ (.int .u32 o3)).drew).heap[N0]? = some (.cells #[.int .i64 o1, .int .i64 o2, .int .u32 o3] 43 (0, 0)) from heap_set (heap_set (heap_set HN.out 0 _) 1 _) 2 _)
      ((((HK.out.setCell (p := ⟨N0, 0, none⟩) (.inr (Nat.le_of_eq HN0.out)) (.int .i64 o1)).setCell (p := ⟨N0, 1, none⟩) (.inr (Nat.le_of_eq HN0.out)) (.int .i64 o2)).setCell (p := ⟨N0, 2, none⟩) (.inr (Nat.le_of_eq HN0.out)) (.int .u32 o3)).drew))
    generalize (((Wg.setCell ⟨N0, 0, none⟩ (.int .i64 o1)).setCell ⟨N0, 1, none⟩ (.int .i64 o2)).setCell ⟨N0, 2, none⟩ (.int .u32 o3)).drew = W9 at HF ⊢
    clear n0 m0 n1 m1 n2 m2 ln c0 c1 c2 c5' lb
    go_wp2_with fail
    refine bodyPost_ret (v := .tuple #[.agg #[.int .i64 o1, .int .i64 o2, .int .u32 o3], .bool (busyP 5 st)]) (res_act _ Try.results96 W9 _ N0 o1 o2 o3 _ rfl (by first | rfl | (unfold busyP; rw [D0.out]; rfl)) HF.out.1) rfl ⟨⟨o1, o2, o3, rfl⟩, HF.out.2⟩
set_option maxHeartbeats 4000000 in
theorem lk_result (w : World) (b : Nat) (st f : Int) (h : StAt w b 15 st f) :
    Calls Try.prog 97 #[.pointer (some ⟨b, 0, none⟩)] w (ResQ w f (st == 5)) := by
  have k0 := (Keeps.refl (fun _ => False) w).alloc (.cells #[.int .i64 0, .int .u32 0, .int .u32 0, .int .u32 0, .int .u32 0] 48)
  have hh := h.none k0
  have hN := heap_new w (.cells #[.int .i64 0, .int .u32 0, .int .u32 0, .int .u32 0, .int .u32 0] 48)
  have HK := Lib.hid k0
  have hne : b ≠ w.heap.size := Nat.ne_of_lt h.lt
  clear k0 h
  go_enter Try.func97, Try.ntmps97
  go_wp2_with fail
  generalize (w.alloc (.cells #[.int .i64 0, .int .u32 0, .int .u32 0, .int .u32 0, .int .u32 0] 48)) = Wg at *
  generalize hN0 : w.heap.size = N0 at *
  obtain ⟨v0, v1, v2, v3, c0, c1, c2, c3, c4⟩ := hh.re
  have c5' := hh.c5
  have lb := hh.lt
  have HS := Lib.hid (fun (w' : World) (k : Keeps (fun X => X = N0) Wg w') => show w'.cell? ⟨b, 15, none⟩ = some (.int .i64 f) ∧ w'.cell? ⟨b, 16, none⟩ = some (.int .u32 v0) ∧ w'.cell? ⟨b, 17, none⟩ = some (.int .u32 v1) ∧ w'.cell? ⟨b, 18, none⟩ = some (.int .u32 v2) ∧ w'.cell? ⟨b, 19, none⟩ = some (.int .u32 v3) ∧ w'.cell? ⟨b, 5, none⟩ = some (.int .i64 st) from
    have hc : ∀ i v, Wg.cell? ⟨b, i, none⟩ = some v → w'.cell? ⟨b, i, none⟩ = some v := fun i v hv => (World.cell?_of_block (w := Wg) (k.block b lb hne)).trans hv
    ⟨hc _ _ c0, hc _ _ c1, hc _ _ c2, hc _ _ c3, hc _ _ c4, hc _ _ c5'⟩)
  have n0 : Wg.cell? ⟨N0, 0, none⟩ = some (.int .i64 0) := cell_of hN 0
  have m0 : Wg.frozen? ⟨N0, 0, none⟩ = false := free_of hN 0
  have n1 : Wg.cell? ⟨N0, 1, none⟩ = some (.int .u32 0) := cell_of hN 1
  have m1 : Wg.frozen? ⟨N0, 1, none⟩ = false := free_of hN 1
  have n2 : Wg.cell? ⟨N0, 2, none⟩ = some (.int .u32 0) := cell_of hN 2
  have m2 : Wg.frozen? ⟨N0, 2, none⟩ = false := free_of hN 2
  have n3 : Wg.cell? ⟨N0, 3, none⟩ = some (.int .u32 0) := cell_of hN 3
  have m3 : Wg.frozen? ⟨N0, 3, none⟩ = false := free_of hN 3
  have n4 : Wg.cell? ⟨N0, 4, none⟩ = some (.int .u32 0) := cell_of hN 4
  have m4 : Wg.frozen? ⟨N0, 4, none⟩ = false := free_of hN 4
  have ln : N0 < Wg.heap.size := lt_of hN
  have HN := Lib.hid hN
  have HN0 := Lib.hid hN0
  clear hh hN hN0
  go_region_held3 (fun w' => w'.cell? ⟨b, 15, none⟩ = some (.int .i64 f) ∧ w'.cell? ⟨b, 16, none⟩ = some (.int .u32 v0) ∧ w'.cell? ⟨b, 17, none⟩ = some (.int .u32 v1) ∧ w'.cell? ⟨b, 18, none⟩ = some (.int .u32 v2) ∧ w'.cell? ⟨b, 19, none⟩ = some (.int .u32 v3) ∧ w'.cell? ⟨b, 5, none⟩ = some (.int .i64 st))
    (first
      | exact HS.out _ (Keeps.refl (fun X => X = N0) Wg).drew
      | exact HS.out _ ((((((Keeps.refl (fun X => X = N0) Wg).setCell (p := ⟨N0, 0, none⟩) (.inl rfl) _).setCell (p := ⟨N0, 1, none⟩) (.inl rfl) _).setCell (p := ⟨N0, 2, none⟩) (.inl rfl) _).setCell (p := ⟨N0, 3, none⟩) (.inl rfl) _).setCell (p := ⟨N0, 4, none⟩) (.inl rfl) _).drew
      | go_keep)
    (fail)
  all_goals
    have HF := Lib.hid (And.intro (show ((((((Wg.setCell ⟨N0, 0, none⟩ (.int .i64 f)).setCell ⟨N0, 1, none⟩ (.int .u32 v0)).setCell ⟨N0, 2, none⟩ (.int .u32 v1)).setCell ⟨N0, 3, none⟩ (.int .u32 v2)).setCell ⟨N0, 4, none⟩ (.int .u32 v3)).drew).heap[N0]? = some (.cells #[.int .i64 f, .int .u32 v0, .int .u32 v1, .int .u32 v2, .int .u32 v3] 48 (0, 0)) from heap_set (heap_set (heap_set (heap_set (heap_set HN.out 0 _) 1 _) 2 _) 3 _) 4 _)
      ((((((HK.out.setCell (p := ⟨N0, 0, none⟩) (.inr (Nat.le_of_eq HN0.out)) (.int .i64 f)).setCell (p := ⟨N0, 1, none⟩) (.inr (Nat.le_of_eq HN0.out)) (.int .u32 v0)).setCell (p := ⟨N0, 2, none⟩) (.inr (Nat.le_of_eq HN0.out)) (.int .u32 v1)).setCell (p := ⟨N0, 3, none⟩) (.inr (Nat.le_of_eq HN0.out)) (.int .u32 v2)).setCell (p := ⟨N0, 4, none⟩) (.inr (Nat.le_of_eq HN0.out)) (.int .u32 v3)).drew))
    generalize (((((Wg.setCell ⟨N0, 0, none⟩ (.int .i64 f)).setCell ⟨N0, 1, none⟩ (.int .u32 v0)).setCell ⟨N0, 2, none⟩ (.int .u32 v1)).setCell ⟨N0, 3, none⟩ (.int .u32 v2)).setCell ⟨N0, 4, none⟩ (.int .u32 v3)).drew = W9 at HF ⊢
    clear n0 m0 n1 m1 n2 m2 n3 m3 n4 m4 ln c0 c1 c2 c3 c4 c5' lb
    go_wp2_with fail
    refine bodyPost_ret (v := .tuple #[.agg #[.int .i64 f, .int .u32 v0, .int .u32 v1, .int .u32 v2, .int .u32 v3], .bool (st == 5)]) (res_res _ Try.results97 W9 _ N0 f v0 v1 v2 v3 _ rfl rfl HF.out.1) rfl ⟨⟨v0, v1, v2, v3, rfl⟩, HF.out.2⟩
end Go.Proofs.Ytdnppkihpddlhaa
