import Derived.Test.YtdnppkihpddlhaaBdQ
namespace Go.Proofs.Ytdnppkihpddlhaa
open Go.ChangeShapes Go.WideShapes Go.ChangeAt Go.RowKit
set_option linter.unusedVariables false
set_option linter.unusedSimpArgs false
set_option maxRecDepth 100000
set_option maxHeartbeats 4000000 in
theorem flag_act (w : World) (b : Nat) (p : Nat → Int) (k m f : Int) (hk : 1 ≤ k ∧ k ≤ 5) (h : IsFl w b p k m 1 f) :
    Calls Try.prog 105 #[.pointer (some ⟨b, 0, none⟩)] w (ActQ w true) := by
  obtain ⟨V, hb⟩ := h
  have lb0 := lt_of hb
  have hs1 : (w.alloc (.cells #[.int .i64 0, .int .i64 0, .int .u32 0] 43)).heap.size = w.heap.size + 1 := by simp
  have hN0 : (((w.alloc (.cells #[.int .i64 0, .int .i64 0, .int .u32 0] 43)).alloc (.cells #[.int .i64 0, .int .i64 (p 1), .int .u32 0] 43))).heap[w.heap.size]? = _ := ((Keeps.refl (fun _ => False) (w.alloc (.cells #[.int .i64 0, .int .i64 0, .int .u32 0] 43))).alloc (.cells #[.int .i64 0, .int .i64 (p 1), .int .u32 0] 43)).at (heap_new w (.cells #[.int .i64 0, .int .i64 0, .int .u32 0] 43)) fun h => h
  have hN1 := heap_new (w.alloc (.cells #[.int .i64 0, .int .i64 0, .int .u32 0] 43)) (.cells #[.int .i64 0, .int .i64 (p 1), .int .u32 0] 43)
  rw [hs1] at hN1
  have kk := ((Keeps.refl (fun _ => False) w).alloc (.cells #[.int .i64 0, .int .i64 0, .int .u32 0] 43)).alloc (.cells #[.int .i64 0, .int .i64 (p 1), .int .u32 0] 43)
  have hb' := kk.at hb fun h => h
  have k0 := (Keeps.refl (fun _ => False) w).alloc (.cells #[.int .i64 0, .int .i64 0, .int .u32 0] 43)
  have hbA := k0.at hb fun h => h
  have c1 := cell_of hbA 1
  have c5 := cell_of hbA 5
  have c7 := cell_of hbA 7
  have d5 := cell_of hb' 5
  have lb := lt_of hbA
  have HB := Lib.hid hb'
  have HN0 := Lib.hid hN0
  have HN1 := Lib.hid hN1
  have HK := Lib.hid kk
  have hpn : ∀ (b : Nat) w, (binOp .eql 76 (.pointer (some ⟨b, 0, none⟩)) (.pointer none)).run Try.prog w = .ok (.bool false) w := fun b w => by kernel_rfl
  clear hb hN0 hN1 k0 kk hb' hbA
  rcases (by omega : k = 1 ∨ k = 2 ∨ k = 3 ∨ k = 4 ∨ k = 5) with rfl | rfl | rfl | rfl | rfl
  · have LB0 := Lib.hid lb0
    go_enter Try.func105, Try.ntmps105
    go_wp2_with fail
    have c6 := cell_of HB.out 6
    have n0 := cell_of HN1.out 0
    have m0 := free_of HN1.out 0
    have n2 := cell_of HN1.out 2
    have m2 := free_of HN1.out 2
    have l1 := lt_of HN1.out
    have L2 := lt_of HB.out
    clear c1 c5 d5 c7 lb lb0
    generalize ((w.alloc (.cells #[.int .i64 0, .int .i64 0, .int .u32 0] 43)).alloc (.cells #[.int .i64 0, .int .i64 (p 1), .int .u32 0] 43)) = Wg at *
    generalize hn0 : w.heap.size = N0 at *
    have HN0' := Lib.hid hn0
    clear hn0
    have hne : b ≠ N0 + 1 := by have := LB0.out; omega
    have HS := Lib.hid (fun (w' : World) (kq : Keeps (fun X => X = N0 + 1) Wg w') => show w'.cell? ⟨b, 6, none⟩ = some (.int .u32 m) from (World.cell?_of_block (w := Wg) (kq.block b L2 hne)).trans c6)
    clear hne
    go_region_held3 (fun w' => w'.cell? ⟨b, 6, none⟩ = some (.int .u32 m))
      (first
        | exact HS.out _ (Keeps.refl (fun X => X = N0 + 1) Wg).drew
        | exact HS.out _ ((Keeps.refl (fun X => X = N0 + 1) Wg).setCell (p := ⟨N0 + 1, 0, none⟩) (.inl rfl) _).drew
        | exact HS.out _ (((Keeps.refl (fun X => X = N0 + 1) Wg).setCell (p := ⟨N0 + 1, 0, none⟩) (.inl rfl) _).setCell (p := ⟨N0 + 1, 2, none⟩) (.inl rfl) _).drew
        | go_keep)
      (fail)
    all_goals
      have HF1 := Lib.hid (show (((Wg.setCell ⟨N0 + 1, 0, none⟩ (.int .i64 4)).setCell ⟨N0 + 1, 2, none⟩ (.int .u32 (m))).drew).heap[N0 + 1]? = some (.cells #[.int .i64 4, .int .i64 (p 1), .int .u32 (m)] 43 (0, 0)) from heap_set (heap_set HN1.out 0 _) 2 _)
      have KQ := (((Keeps.refl (fun X => X = N0 + 1) Wg).setCell (p := ⟨N0 + 1, 0, none⟩) (.inl rfl) (.int .i64 4)).setCell (p := ⟨N0 + 1, 2, none⟩) (.inl rfl) (.int .u32 (m))).drew
      have HA := KQ.at HN0.out (fun h : N0 = N0 + 1 => by omega)
      have HK9 := Lib.hid (HK.out.own KQ fun X hX => .inr (by have := HN0'.out; have hX' : X = N0 + 1 := hX; omega))
      clear KQ
      clear n0 m0 n2 m2 l1 L2 c6
      generalize ((Wg.setCell ⟨N0 + 1, 0, none⟩ (.int .i64 4)).setCell ⟨N0 + 1, 2, none⟩ (.int .u32 (m))).drew = W9 at HF1 HA HK9 ⊢
      have x0 := cell_of HF1.out 0
      have x1 := cell_of HF1.out 1
      have x2 := cell_of HF1.out 2
      have y0 := cell_of HA 0
      have y1 := cell_of HA 1
      have y2 := cell_of HA 2
      have z0 := free_of HA 0
      have z1 := free_of HA 1
      have z2 := free_of HA 2
      have lA := lt_of HA
      have HAA := Lib.hid HA
      clear HA
      go_wp2_with fail
      have HF := Lib.hid (And.intro (setsL_heap [(0, .int .i64 4), (1, .int .i64 (p 1)), (2, .int .u32 (m))] HAA.out) ((HK9.out.own (setsL_keep [(0, .int .i64 4), (1, .int .i64 (p 1)), (2, .int .u32 (m))] W9 N0) fun X hX => .inr (by have := HN0'.out; have hX' : X = N0 := hX; omega))))
      refine bodyPost_ret (v := .tuple #[.agg #[.int .i64 4, .int .i64 (p 1), .int .u32 (m)], .bool true]) (res_act _ Try.results105 (setsL W9 N0 [(0, .int .i64 4), (1, .int .i64 (p 1)), (2, .int .u32 (m))]) _ N0 4 (p 1) (m) _ rfl rfl HF.out.1) rfl ⟨⟨4, p 1, m, rfl⟩, HF.out.2⟩
  · have LB0 := Lib.hid lb0
    go_enter Try.func105, Try.ntmps105
    go_wp2_with fail
    have c6 := cell_of HB.out 6
    have n0 := cell_of HN1.out 0
    have m0 := free_of HN1.out 0
    have n2 := cell_of HN1.out 2
    have m2 := free_of HN1.out 2
    have l1 := lt_of HN1.out
    have L2 := lt_of HB.out
    clear c1 c5 d5 c7 lb lb0
    generalize ((w.alloc (.cells #[.int .i64 0, .int .i64 0, .int .u32 0] 43)).alloc (.cells #[.int .i64 0, .int .i64 (p 1), .int .u32 0] 43)) = Wg at *
    generalize hn0 : w.heap.size = N0 at *
    have HN0' := Lib.hid hn0
    clear hn0
    have hne : b ≠ N0 + 1 := by have := LB0.out; omega
    have HS := Lib.hid (fun (w' : World) (kq : Keeps (fun X => X = N0 + 1) Wg w') => show w'.cell? ⟨b, 6, none⟩ = some (.int .u32 m) from (World.cell?_of_block (w := Wg) (kq.block b L2 hne)).trans c6)
    clear hne
    go_region_held3 (fun w' => w'.cell? ⟨b, 6, none⟩ = some (.int .u32 m))
      (first
        | exact HS.out _ (Keeps.refl (fun X => X = N0 + 1) Wg).drew
        | exact HS.out _ ((Keeps.refl (fun X => X = N0 + 1) Wg).setCell (p := ⟨N0 + 1, 0, none⟩) (.inl rfl) _).drew
        | exact HS.out _ (((Keeps.refl (fun X => X = N0 + 1) Wg).setCell (p := ⟨N0 + 1, 0, none⟩) (.inl rfl) _).setCell (p := ⟨N0 + 1, 2, none⟩) (.inl rfl) _).drew
        | go_keep)
      (fail)
    all_goals
      have HF1 := Lib.hid (show (((Wg.setCell ⟨N0 + 1, 0, none⟩ (.int .i64 5)).setCell ⟨N0 + 1, 2, none⟩ (.int .u32 (bits BinOp.xor IntKind.u32 (if IntKind.u32.signed = true then -1 else IntKind.u32.max) m))).drew).heap[N0 + 1]? = some (.cells #[.int .i64 5, .int .i64 (p 1), .int .u32 (bits BinOp.xor IntKind.u32 (if IntKind.u32.signed = true then -1 else IntKind.u32.max) m)] 43 (0, 0)) from heap_set (heap_set HN1.out 0 _) 2 _)
      have KQ := (((Keeps.refl (fun X => X = N0 + 1) Wg).setCell (p := ⟨N0 + 1, 0, none⟩) (.inl rfl) (.int .i64 5)).setCell (p := ⟨N0 + 1, 2, none⟩) (.inl rfl) (.int .u32 (bits BinOp.xor IntKind.u32 (if IntKind.u32.signed = true then -1 else IntKind.u32.max) m))).drew
      have HA := KQ.at HN0.out (fun h : N0 = N0 + 1 => by omega)
      have HK9 := Lib.hid (HK.out.own KQ fun X hX => .inr (by have := HN0'.out; have hX' : X = N0 + 1 := hX; omega))
      clear KQ
      clear n0 m0 n2 m2 l1 L2 c6
      generalize ((Wg.setCell ⟨N0 + 1, 0, none⟩ (.int .i64 5)).setCell ⟨N0 + 1, 2, none⟩ (.int .u32 (bits BinOp.xor IntKind.u32 (if IntKind.u32.signed = true then -1 else IntKind.u32.max) m))).drew = W9 at HF1 HA HK9 ⊢
      have x0 := cell_of HF1.out 0
      have x1 := cell_of HF1.out 1
      have x2 := cell_of HF1.out 2
      have y0 := cell_of HA 0
      have y1 := cell_of HA 1
      have y2 := cell_of HA 2
      have z0 := free_of HA 0
      have z1 := free_of HA 1
      have z2 := free_of HA 2
      have lA := lt_of HA
      have HAA := Lib.hid HA
      clear HA
      go_wp2_with fail
      have HF := Lib.hid (And.intro (setsL_heap [(0, .int .i64 5), (1, .int .i64 (p 1)), (2, .int .u32 (bits BinOp.xor IntKind.u32 (if IntKind.u32.signed = true then -1 else IntKind.u32.max) m))] HAA.out) ((HK9.out.own (setsL_keep [(0, .int .i64 5), (1, .int .i64 (p 1)), (2, .int .u32 (bits BinOp.xor IntKind.u32 (if IntKind.u32.signed = true then -1 else IntKind.u32.max) m))] W9 N0) fun X hX => .inr (by have := HN0'.out; have hX' : X = N0 := hX; omega))))
      refine bodyPost_ret (v := .tuple #[.agg #[.int .i64 5, .int .i64 (p 1), .int .u32 (bits BinOp.xor IntKind.u32 (if IntKind.u32.signed = true then -1 else IntKind.u32.max) m)], .bool true]) (res_act _ Try.results105 (setsL W9 N0 [(0, .int .i64 5), (1, .int .i64 (p 1)), (2, .int .u32 (bits BinOp.xor IntKind.u32 (if IntKind.u32.signed = true then -1 else IntKind.u32.max) m))]) _ N0 5 (p 1) (bits BinOp.xor IntKind.u32 (if IntKind.u32.signed = true then -1 else IntKind.u32.max) m) _ rfl rfl HF.out.1) rfl ⟨⟨5, p 1, bits BinOp.xor IntKind.u32 (if IntKind.u32.signed = true then -1 else IntKind.u32.max) m, rfl⟩, HF.out.2⟩
  · have n0 := cell_of HN1.out 0
    have m0 := free_of HN1.out 0
    have n1 := cell_of HN1.out 1
    have n2 := cell_of HN1.out 2
    have l1 := lt_of HN1.out
    have y0 := cell_of HN0.out 0
    have y1 := cell_of HN0.out 1
    have y2 := cell_of HN0.out 2
    have z0 := free_of HN0.out 0
    have z1 := free_of HN0.out 1
    have z2 := free_of HN0.out 2
    have lA := lt_of HN0.out
    go_enter Try.func105, Try.ntmps105
    go_wp2_with fail
    have HC := Lib.hid (((Keeps.refl (fun _ => False) (w.alloc (.cells #[.int .i64 1, .int .i64 (p 1), .int .u32 0] 43))).alloc (.cells #[.int .i64 1, .int .i64 (p 1), .int .u32 0] 43)).at (heap_new w (.cells #[.int .i64 1, .int .i64 (p 1), .int .u32 0] 43)) fun h => h)
    have HKC := Lib.hid (((Keeps.refl (fun _ => False) w).alloc (.cells #[.int .i64 1, .int .i64 (p 1), .int .u32 0] 43)).alloc (.cells #[.int .i64 1, .int .i64 (p 1), .int .u32 0] 43))
    refine bodyPost_ret (v := .tuple #[.agg #[.int .i64 1, .int .i64 (p 1), .int .u32 0], .bool true]) (res_act _ Try.results105 _ _ w.heap.size 1 (p 1) 0 _ rfl rfl HC.out) rfl ⟨⟨1, p 1, 0, rfl⟩, HKC.out⟩
  · have n0 := cell_of HN1.out 0
    have m0 := free_of HN1.out 0
    have n1 := cell_of HN1.out 1
    have n2 := cell_of HN1.out 2
    have l1 := lt_of HN1.out
    have y0 := cell_of HN0.out 0
    have y1 := cell_of HN0.out 1
    have y2 := cell_of HN0.out 2
    have z0 := free_of HN0.out 0
    have z1 := free_of HN0.out 1
    have z2 := free_of HN0.out 2
    have lA := lt_of HN0.out
    go_enter Try.func105, Try.ntmps105
    go_wp2_with fail
    have HC := Lib.hid (((Keeps.refl (fun _ => False) (w.alloc (.cells #[.int .i64 1, .int .i64 (p 1), .int .u32 0] 43))).alloc (.cells #[.int .i64 1, .int .i64 (p 1), .int .u32 0] 43)).at (heap_new w (.cells #[.int .i64 1, .int .i64 (p 1), .int .u32 0] 43)) fun h => h)
    have HKC := Lib.hid (((Keeps.refl (fun _ => False) w).alloc (.cells #[.int .i64 1, .int .i64 (p 1), .int .u32 0] 43)).alloc (.cells #[.int .i64 1, .int .i64 (p 1), .int .u32 0] 43))
    refine bodyPost_ret (v := .tuple #[.agg #[.int .i64 1, .int .i64 (p 1), .int .u32 0], .bool true]) (res_act _ Try.results105 _ _ w.heap.size 1 (p 1) 0 _ rfl rfl HC.out) rfl ⟨⟨1, p 1, 0, rfl⟩, HKC.out⟩
  · have n0 := cell_of HN1.out 0
    have m0 := free_of HN1.out 0
    have n1 := cell_of HN1.out 1
    have n2 := cell_of HN1.out 2
    have l1 := lt_of HN1.out
    have y0 := cell_of HN0.out 0
    have y1 := cell_of HN0.out 1
    have y2 := cell_of HN0.out 2
    have z0 := free_of HN0.out 0
    have z1 := free_of HN0.out 1
    have z2 := free_of HN0.out 2
    have lA := lt_of HN0.out
    go_enter Try.func105, Try.ntmps105
    go_wp2_with fail
    have HC := Lib.hid (((Keeps.refl (fun _ => False) (w.alloc (.cells #[.int .i64 1, .int .i64 (p 1), .int .u32 0] 43))).alloc (.cells #[.int .i64 1, .int .i64 (p 1), .int .u32 0] 43)).at (heap_new w (.cells #[.int .i64 1, .int .i64 (p 1), .int .u32 0] 43)) fun h => h)
    have HKC := Lib.hid (((Keeps.refl (fun _ => False) w).alloc (.cells #[.int .i64 1, .int .i64 (p 1), .int .u32 0] 43)).alloc (.cells #[.int .i64 1, .int .i64 (p 1), .int .u32 0] 43))
    refine bodyPost_ret (v := .tuple #[.agg #[.int .i64 1, .int .i64 (p 1), .int .u32 0], .bool true]) (res_act _ Try.results105 _ _ w.heap.size 1 (p 1) 0 _ rfl rfl HC.out) rfl ⟨⟨1, p 1, 0, rfl⟩, HKC.out⟩
end Go.Proofs.Ytdnppkihpddlhaa
