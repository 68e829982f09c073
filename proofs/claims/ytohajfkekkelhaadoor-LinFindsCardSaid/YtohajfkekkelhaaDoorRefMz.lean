import Derived.Test.YtohajfkekkelhaaDoorRefGz
import Derived.Deep.MidRow
import Derived.Deep.AppendLies
namespace Go.Proofs.YtohajfkekkelhaaDoor
open Go.ChangeShapes Go.WideShapes Go.ChangeAt Go.RowKit
set_option linter.unusedVariables false
set_option linter.unusedSimpArgs false
set_option maxRecDepth 100000 in
set_option maxHeartbeats 16000000 in
theorem rdo_get24 (w : World) (a : Option Addr) (c : Nat) (L : List ItemD) (h : StateR w a L) (ok : ∀ x, x ∈ L → x.Ok) (hn : L.length ≤ 1000) (k N : Int) (hki : i64B k) (v : W4) (hv : v.Ok) (i : Nat) (x : ItemD) (hi : L[i]? = some x) (hK : kindP x.o = 2) (hkk : plainP k = 4) :
    Calls Tryd.prog 41 #[.slice a L.length c, .agg #[.int .i64 k, .int .i64 (i : Int), .int .u32 v.a, .int .u32 v.b, .int .u32 v.c, .int .u32 v.d, .int .u32 N]] w (DoesR w L.length (L, ⟨0, x.v⟩)) := by
  have hil := (List.getElem?_eq_some_iff.1 hi).1
  have okx := ok x (List.mem_of_getElem? hi)
  have HB0 := Lib.hid (show Below w.heap.size w ((w.alloc (.cells #[.int .i64 k, .int .i64 (i : Int), .int .u32 v.a, .int .u32 v.b, .int .u32 v.c, .int .u32 v.d, .int .u32 N] 43)).alloc (.cells #[.int .i64 0, .int .u32 0, .int .u32 0, .int .u32 0, .int .u32 0] 45)) from ((Below.refl _ w).alloc (Nat.le_refl _) _).alloc (by simp) _)
  have HS0 := Lib.hid (show Has w ((w.alloc (.cells #[.int .i64 k, .int .i64 (i : Int), .int .u32 v.a, .int .u32 v.b, .int .u32 v.c, .int .u32 v.d, .int .u32 N] 43)).alloc (.cells #[.int .i64 0, .int .u32 0, .int .u32 0, .int .u32 0, .int .u32 0] 45)) [(w.heap.size + 1, .cells #[.int .i64 0, .int .u32 0, .int .u32 0, .int .u32 0, .int .u32 0] 45 (0, 0)), (w.heap.size, .cells #[.int .i64 k, .int .i64 (i : Int), .int .u32 v.a, .int .u32 v.b, .int .u32 v.c, .int .u32 v.d, .int .u32 N] 43 (0, 0))] from (((Has.start w).alloc (.cells #[.int .i64 k, .int .i64 (i : Int), .int .u32 v.a, .int .u32 v.b, .int .u32 v.c, .int .u32 v.d, .int .u32 N] 43)).alloc (.cells #[.int .i64 0, .int .u32 0, .int .u32 0, .int .u32 0, .int .u32 0] 45)).eq (by simp))
  have HST := Lib.hid h
  have HP := Lib.hid (fun w => rplain_any w k hki)
  obtain ⟨n, hne⟩ : ∃ n, L.length = n := ⟨_, rfl⟩
  have HN := Lib.hid hne
  have HCO := Lib.hid (fun w a c h => rcopied_any w a c L h ok hn n hne (by omega))
  have HR := Lib.hid (fun w => rright_all x.o x.oi w (okx.o 1 (by omega)))
  have hr0 := kindR (by omega : kindP x.o ≠ 0)
  rw [hr0.1] at HR
  unfold objC at HR
  have e0 : x.o 0 = 2 := by rw [← hr0.2, hK]
  have E0 := Lib.hid e0
  rw [e0] at HR
  clear hr0 e0
  have HK := Lib.hid hK
  have HOK := Lib.hid okx
  rw [hne] at hil
  have d3 : decide ((i : Int) < 0) = false := decide_eq_false (by omega)
  have d4 : decide ((n : Int) ≤ (i : Int)) = false := decide_eq_false (by omega)
  have d5 : decide (n ≤ i) = false := decide_eq_false (by omega)
  have d6 : decide (i < n) = true := decide_eq_true hil
  rw [hne]
  have HI := Lib.hid hi
  clear h ok hv hne hi okx hK hn
  rw [hkk] at HP
  clear hki hkk
  go_enter Tryd.func41, Tryd.ntmps41
  go_wp2_with fail
  refine (HP.out _).mono ?_
  rintro e1 w1 ⟨rfl, hw1⟩
  obtain rfl := hw1.symm
  go_wp2_with fail
  refine (HCO.out _ a c (HST.out.below HB0.out)).mono ?_
  rintro e2 w2 ⟨g1, cap1, cur, A, C, rfl, hcap, hcp, hb2⟩
  have HS2 := Lib.hid (HS0.out.none (Keeps.ofBelow hb2))
  have HB2 := Lib.hid (HB0.out.trans (hb2.mono (by simp only [World.size_alloc]; omega)))
  have hBB : ((w.alloc (.cells #[.int .i64 k, .int .i64 (i : Int), .int .u32 v.a, .int .u32 v.b, .int .u32 v.c, .int .u32 v.d, .int .u32 N] 43)).alloc (.cells #[.int .i64 0, .int .u32 0, .int .u32 0, .int .u32 0, .int .u32 0] 45)).heap.size = w.heap.size + 2 := by rw [World.size_alloc, World.size_alloc]
  rw [hBB] at hcp
  clear hBB
  have HCP2 := Lib.hid hcp
  have HCAP := Lib.hid hcap
  have hg1 : w.heap.size + 2 ≤ g1 := hcp.ge
  have hc2 : w2.heap[w.heap.size]? = some (.cells #[.int .i64 k, .int .i64 (i : Int), .int .u32 v.a, .int .u32 v.b, .int .u32 v.c, .int .u32 v.d, .int .u32 N] 43 (0, 0)) := HS2.out.at 1 rfl
  clear hb2 hcp hcap
  have k0 := cell_of hc2 0
  have k1 := cell_of hc2 1
  have k2 := cell_of hc2 2
  have k3 := cell_of hc2 3
  have k4 := cell_of hc2 4
  have k5 := cell_of hc2 5
  have k6 := cell_of hc2 6
  simp only [List.getElem?_toArray, List.getElem?_cons_zero, List.getElem?_cons_succ] at k0 k1 k2 k3 k4 k5 k6
  clear hc2
  have HRO := Lib.hid (show w2.rangeAt g1 (i * 15) [.int .i64 (2 : Int), .int .i64 (x.o 1), .int .i64 (x.o 2), .int .i64 (x.o 3), .int .i64 (x.o 4), .int .i64 (x.o 5), .int .u32 (x.oi 0), .int .u32 (x.oi 1), .int .u32 (x.oi 2), .int .u32 (x.oi 3)] from fun j u hu => HCP2.out.fifteen HI.out j u (obj_partR x (A i) x.row.length (C i) j u (by rw [E0.out]; exact hu)))
  go_wp2_with (refine wpList_load_mid rfl 49 _ rfl g1 (i * 15) rfl [.int .i64 (2 : Int), .int .i64 (x.o 1), .int .i64 (x.o 2), .int .i64 (x.o 3), .int .i64 (x.o 4), .int .i64 (x.o 5), .int .u32 (x.oi 0), .int .u32 (x.oi 1), .int .u32 (x.oi 2), .int .u32 (x.oi 3)] _ HRO.out Tryd.underlying49 rfl obj_info19 ?_)
  refine (HR.out _).mono ?_
  rintro e3 w3 ⟨rfl, k3'⟩
  have HS3 := Lib.hid (HS2.out.none k3')
  have HB3 := Lib.hid (HB2.out.trans (k3'.none.mono HB2.out.size))
  have HCP3 := Lib.hid (HCP2.out.none k3')
  have hc3 : w3.heap[w.heap.size]? = some (.cells #[.int .i64 k, .int .i64 (i : Int), .int .u32 v.a, .int .u32 v.b, .int .u32 v.c, .int .u32 v.d, .int .u32 N] 43 (0, 0)) := HS3.out.at 1 rfl
  have hr4 : w3.heap[w.heap.size + 1]? = some (.cells #[.int .i64 0, .int .u32 0, .int .u32 0, .int .u32 0, .int .u32 0] 45 (0, 0)) := HS3.out.at 0 rfl
  clear k0 k1 k2 k3 k4 k5 k6 k3' HRO HCP2 HB2 HS2
  have k0 := cell_of hc3 0
  have k1 := cell_of hc3 1
  have k2 := cell_of hc3 2
  have k3 := cell_of hc3 3
  have k4 := cell_of hc3 4
  have k5 := cell_of hc3 5
  have k6 := cell_of hc3 6
  simp only [List.getElem?_toArray, List.getElem?_cons_zero, List.getElem?_cons_succ] at k0 k1 k2 k3 k4 k5 k6
  clear hc3
  have q0 := cell_of hr4 0
  have q1 := cell_of hr4 1
  have q2 := cell_of hr4 2
  have q3 := cell_of hr4 3
  have q4 := cell_of hr4 4
  have fq0 := free_of hr4 0
  have fq1 := free_of hr4 1
  have fq2 := free_of hr4 2
  have fq3 := free_of hr4 3
  have fq4 := free_of hr4 4
  simp only [List.getElem?_toArray, List.getElem?_cons_zero, List.getElem?_cons_succ] at q0 q1 q2 q3 q4
  have HR4 := Lib.hid hr4
  clear hr4
  have c0 : w3.cell? ⟨g1, i * 15, none⟩ = some (.int .i64 (2 : Int)) := by rw [← E0.out]; exact HCP3.out.fifteen HI.out 0 _ rfl
  have c1 : w3.cell? ⟨g1, i * 15 + 1, none⟩ = some (.int .i64 (x.o 1)) := HCP3.out.fifteen HI.out 1 _ rfl
  have c2 : w3.cell? ⟨g1, i * 15 + 2, none⟩ = some (.int .i64 (x.o 2)) := HCP3.out.fifteen HI.out 2 _ rfl
  have c10 : w3.cell? ⟨g1, i * 15 + 10, none⟩ = some (.slice (A i) x.row.length (C i)) := HCP3.out.fifteen HI.out 10 _ rfl
  have c11 : w3.cell? ⟨g1, i * 15 + 11, none⟩ = some (.int .u32 x.v.a) := HCP3.out.fifteen HI.out 11 _ rfl
  have c12 : w3.cell? ⟨g1, i * 15 + 12, none⟩ = some (.int .u32 x.v.b) := HCP3.out.fifteen HI.out 12 _ rfl
  have c13 : w3.cell? ⟨g1, i * 15 + 13, none⟩ = some (.int .u32 x.v.c) := HCP3.out.fifteen HI.out 13 _ rfl
  have c14 : w3.cell? ⟨g1, i * 15 + 14, none⟩ = some (.int .u32 x.v.d) := HCP3.out.fifteen HI.out 14 _ rfl
  have f10 : w3.frozen? ⟨g1, i * 15 + 10, none⟩ = false := free_of HCP3.out.blk (i * 15 + 10)
  have f11 : w3.frozen? ⟨g1, i * 15 + 11, none⟩ = false := free_of HCP3.out.blk (i * 15 + 11)
  have f12 : w3.frozen? ⟨g1, i * 15 + 12, none⟩ = false := free_of HCP3.out.blk (i * 15 + 12)
  have f13 : w3.frozen? ⟨g1, i * 15 + 13, none⟩ = false := free_of HCP3.out.blk (i * 15 + 13)
  have f14 : w3.frozen? ⟨g1, i * 15 + 14, none⟩ = false := free_of HCP3.out.blk (i * 15 + 14)
  have HRV := Lib.hid (show w3.rangeAt g1 (i * 15 + 11) [.int .u32 x.v.a, .int .u32 x.v.b, .int .u32 x.v.c, .int .u32 x.v.d] from fun j u hu => by
      have := HCP3.out.fifteen HI.out (11 + j) u (by have hj : j < 4 := (List.getElem?_eq_some_iff.1 hu).1; rcases (by omega : j = 0 ∨ j = 1 ∨ j = 2 ∨ j = 3) with rfl | rfl | rfl | rfl <;> exact hu)
      rwa [← Nat.add_assoc] at this)
  clear c1 c2 c10 c11 c12 c13 c14 f10 f11 f12 f13 f14 k1 k2 k3 k4 k5 k6
  have c11 : w3.cell? ⟨g1, i * 15 + 11, none⟩ = some (.int .u32 x.v.a) := HRV.out 0 _ rfl
  go_wp2_with fail
  clear c11 c0 k0 q0 q1 q2 q3 q4 fq0 fq1 fq2 fq3 fq4
  have HRVd := Lib.hid (show w3.drew.rangeAt g1 (i * 15 + 11) [.int .u32 x.v.a, .int .u32 x.v.b, .int .u32 x.v.c, .int .u32 x.v.d] from HRV.out)
  have HB5 := Lib.hid (below_drew HB3.out)
  have HR5 := Lib.hid (show w3.drew.heap[w.heap.size + 1]? = some (.cells #[.int .i64 0, .int .u32 0, .int .u32 0, .int .u32 0, .int .u32 0] 45 (0, 0)) from HR4.out)
  refine wp_region_noPanic ?_
  refine wp_region_held_drew (S := (fun W => W.rangeAt g1 (i * 15 + 11) [.int .u32 x.v.a, .int .u32 x.v.b, .int .u32 x.v.c, .int .u32 x.v.d])) (by kernel_rfl) ?_ (fun hHeld => ?_)
  · exact HRVd.out
  refine wpAnyH_take (i := 0) (v := ?_) rfl (by kernel_rfl) (by kernel_rfl) (by kernel_rfl) (fun _ _ _ h => h) (Or.inl ⟨by rfl, ?_⟩) (by assumption) ?_
  rotate_left
  · (intro w hSw; (try dsimp only at hSw); go_simp; try with_reducible rfl)
  simp only [Act.put, List.getElem_toArray, List.getElem_cons_zero, List.getElem_cons_succ, List.setIfInBounds_toArray, List.set_cons_zero, List.set_cons_succ]
  refine wpAnyH_take (i := 1) (v := ?_) rfl (by kernel_rfl) (by kernel_rfl) (by kernel_rfl) (fun _ _ _ h => h) (Or.inl ⟨by rfl, ?_⟩) (by assumption) ?_
  rotate_left
  · (intro w hSw; (try dsimp only at hSw); go_simp; try with_reducible rfl)
  simp only [Act.put, List.getElem_toArray, List.getElem_cons_zero, List.getElem_cons_succ, List.setIfInBounds_toArray, List.set_cons_zero, List.set_cons_succ]
  refine wpAnyH_take (i := 2) (v := ?_) rfl (by kernel_rfl) (by kernel_rfl) (by kernel_rfl) (fun _ _ _ h => h) (Or.inl ⟨by rfl, ?_⟩) (by assumption) ?_
  rotate_left
  · (intro w hSw; (try dsimp only at hSw); go_simp; try with_reducible rfl)
  simp only [Act.put, List.getElem_toArray, List.getElem_cons_zero, List.getElem_cons_succ, List.setIfInBounds_toArray, List.set_cons_zero, List.set_cons_succ]
  refine wpAnyH_take (i := 3) (v := ?_) rfl (by kernel_rfl) (by kernel_rfl) (by kernel_rfl) (fun _ _ _ h => h) (Or.inl ⟨by rfl, ?_⟩) (by assumption) ?_
  rotate_left
  · (intro w hSw; (try dsimp only at hSw); go_simp; try with_reducible rfl)
  simp only [Act.put, List.getElem_toArray, List.getElem_cons_zero, List.getElem_cons_succ, List.setIfInBounds_toArray, List.set_cons_zero, List.set_cons_succ]
  refine wpAnyH_take (i := 4) (v := .agg [.int .u32 x.v.a, .int .u32 x.v.b, .int .u32 x.v.c, .int .u32 x.v.d].toArray) rfl (by kernel_rfl) (by kernel_rfl) (by kernel_rfl) (fun _ _ _ h => h) (yieldsIf_load_mid (by rfl) 41 (.tmp 182) rfl g1 (i * 15 + 11) rfl [.int .u32 x.v.a, .int .u32 x.v.b, .int .u32 x.v.c, .int .u32 x.v.d] _ (fun w h => h) Tryd.underlying41 rfl val_info19) (by assumption) ?_
  simp only [Act.put, List.getElem_toArray, List.getElem_cons_zero, List.getElem_cons_succ, List.setIfInBounds_toArray, List.set_cons_zero, List.set_cons_succ]
  refine wpAnyH_take (i := 5) (v := ?_) rfl (by kernel_rfl) (by kernel_rfl) (by kernel_rfl) (fun _ _ _ h => h) (Or.inl ⟨by rfl, ?_⟩) (by assumption) ?_
  rotate_left
  · (intro w hSw; (try dsimp only at hSw); go_simp; try with_reducible rfl)
  simp only [Act.put, List.getElem_toArray, List.getElem_cons_zero, List.getElem_cons_succ, List.setIfInBounds_toArray, List.set_cons_zero, List.set_cons_succ]
  refine wpAnyH_take (i := 6) (v := ?_) rfl (by kernel_rfl) (by kernel_rfl) (by kernel_rfl) (fun _ _ _ h => h) (Or.inl ⟨by rfl, ?_⟩) (by assumption) ?_
  rotate_left
  · (intro w hSw; (try dsimp only at hSw); go_simp; try with_reducible rfl)
  simp only [Act.put, List.getElem_toArray, List.getElem_cons_zero, List.getElem_cons_succ, List.setIfInBounds_toArray, List.set_cons_zero, List.set_cons_succ]
  generalize w3.drew = w5 at *
  have q0 := cell_of HR5.out 0
  have q1 := cell_of HR5.out 1
  have q2 := cell_of HR5.out 2
  have q3 := cell_of HR5.out 3
  have q4 := cell_of HR5.out 4
  have fq0 := free_of HR5.out 0
  have fq1 := free_of HR5.out 1
  have fq2 := free_of HR5.out 2
  have fq3 := free_of HR5.out 3
  have fq4 := free_of HR5.out 4
  simp only [List.getElem?_toArray, List.getElem?_cons_zero, List.getElem?_cons_succ] at q0 q1 q2 q3 q4
  refine wpAnyH_ready (rs := [7]) (by kernel_rfl) (by simp) ?_
  refine AllReadyH.cons rfl (fun K hK => ?_) AllReadyH.nil
  go_simp
  refine hK.out _ _ ?_ (fun hHeld => ?_)
  · ((try dsimp only); exact far5R HRVd.out (by omega))
  clear hK K
  try simp only [Act.put, List.getElem_toArray, List.getElem_cons_zero, List.getElem_cons_succ, List.setIfInBounds_toArray, List.set_cons_zero, List.set_cons_succ]
  refine wpAnyH_done (by kernel_rfl) ?_ _
  refine NoPanic.normal ?_
  go_wp2_with fail
  refine bodyPost_ret (res_do _ _ a n c (w.heap.size + 1) ⟨0, x.v⟩ rfl rfl ?_) rfl ?_
  · exact range_heap (heap_set (heap_set (heap_set (heap_set (heap_set HR5.out 0 _) 1 _) 2 _) 3 _) 4 _) rfl
  have hbz := HB5.out
  exact ⟨(((((hbz.setCell (p := ⟨w.heap.size + 1, 0, none⟩) (by show w.heap.size ≤ w.heap.size + 1; omega) _).setCell (p := ⟨w.heap.size + 1, 1, none⟩) (by show w.heap.size ≤ w.heap.size + 1; omega) _).setCell (p := ⟨w.heap.size + 1, 2, none⟩) (by show w.heap.size ≤ w.heap.size + 1; omega) _).setCell (p := ⟨w.heap.size + 1, 3, none⟩) (by show w.heap.size ≤ w.heap.size + 1; omega) _).setCell (p := ⟨w.heap.size + 1, 4, none⟩) (by show w.heap.size ≤ w.heap.size + 1; omega) _), a, c, rfl, HST.out.below (((((hbz.setCell (p := ⟨w.heap.size + 1, 0, none⟩) (by show w.heap.size ≤ w.heap.size + 1; omega) _).setCell (p := ⟨w.heap.size + 1, 1, none⟩) (by show w.heap.size ≤ w.heap.size + 1; omega) _).setCell (p := ⟨w.heap.size + 1, 2, none⟩) (by show w.heap.size ≤ w.heap.size + 1; omega) _).setCell (p := ⟨w.heap.size + 1, 3, none⟩) (by show w.heap.size ≤ w.heap.size + 1; omega) _).setCell (p := ⟨w.heap.size + 1, 4, none⟩) (by show w.heap.size ≤ w.heap.size + 1; omega) _)⟩
set_option maxRecDepth 100000 in
set_option maxHeartbeats 16000000 in
theorem rdo_get35 (w : World) (a : Option Addr) (c : Nat) (L : List ItemD) (h : StateR w a L) (ok : ∀ x, x ∈ L → x.Ok) (hn : L.length ≤ 1000) (k N : Int) (hki : i64B k) (v : W4) (hv : v.Ok) (i : Nat) (x : ItemD) (hi : L[i]? = some x) (hK : kindP x.o = 3) (hkk : plainP k = 5) :
    Calls Tryd.prog 41 #[.slice a L.length c, .agg #[.int .i64 k, .int .i64 (i : Int), .int .u32 v.a, .int .u32 v.b, .int .u32 v.c, .int .u32 v.d, .int .u32 N]] w (DoesR w L.length (L, ⟨0, x.v⟩)) := by
  have hil := (List.getElem?_eq_some_iff.1 hi).1
  have okx := ok x (List.mem_of_getElem? hi)
  have HB0 := Lib.hid (show Below w.heap.size w ((w.alloc (.cells #[.int .i64 k, .int .i64 (i : Int), .int .u32 v.a, .int .u32 v.b, .int .u32 v.c, .int .u32 v.d, .int .u32 N] 43)).alloc (.cells #[.int .i64 0, .int .u32 0, .int .u32 0, .int .u32 0, .int .u32 0] 45)) from ((Below.refl _ w).alloc (Nat.le_refl _) _).alloc (by simp) _)
  have HS0 := Lib.hid (show Has w ((w.alloc (.cells #[.int .i64 k, .int .i64 (i : Int), .int .u32 v.a, .int .u32 v.b, .int .u32 v.c, .int .u32 v.d, .int .u32 N] 43)).alloc (.cells #[.int .i64 0, .int .u32 0, .int .u32 0, .int .u32 0, .int .u32 0] 45)) [(w.heap.size + 1, .cells #[.int .i64 0, .int .u32 0, .int .u32 0, .int .u32 0, .int .u32 0] 45 (0, 0)), (w.heap.size, .cells #[.int .i64 k, .int .i64 (i : Int), .int .u32 v.a, .int .u32 v.b, .int .u32 v.c, .int .u32 v.d, .int .u32 N] 43 (0, 0))] from (((Has.start w).alloc (.cells #[.int .i64 k, .int .i64 (i : Int), .int .u32 v.a, .int .u32 v.b, .int .u32 v.c, .int .u32 v.d, .int .u32 N] 43)).alloc (.cells #[.int .i64 0, .int .u32 0, .int .u32 0, .int .u32 0, .int .u32 0] 45)).eq (by simp))
  have HST := Lib.hid h
  have HP := Lib.hid (fun w => rplain_any w k hki)
  obtain ⟨n, hne⟩ : ∃ n, L.length = n := ⟨_, rfl⟩
  have HN := Lib.hid hne
  have HCO := Lib.hid (fun w a c h => rcopied_any w a c L h ok hn n hne (by omega))
  have HR := Lib.hid (fun w => rright_all x.o x.oi w (okx.o 1 (by omega)))
  have hr0 := kindR (by omega : kindP x.o ≠ 0)
  rw [hr0.1] at HR
  unfold objC at HR
  have e0 : x.o 0 = 3 := by rw [← hr0.2, hK]
  have E0 := Lib.hid e0
  rw [e0] at HR
  clear hr0 e0
  have HK := Lib.hid hK
  have HOK := Lib.hid okx
  rw [hne] at hil
  have d3 : decide ((i : Int) < 0) = false := decide_eq_false (by omega)
  have d4 : decide ((n : Int) ≤ (i : Int)) = false := decide_eq_false (by omega)
  have d5 : decide (n ≤ i) = false := decide_eq_false (by omega)
  have d6 : decide (i < n) = true := decide_eq_true hil
  rw [hne]
  have HI := Lib.hid hi
  clear h ok hv hne hi okx hK hn
  rw [hkk] at HP
  clear hki hkk
  go_enter Tryd.func41, Tryd.ntmps41
  go_wp2_with fail
  refine (HP.out _).mono ?_
  rintro e1 w1 ⟨rfl, hw1⟩
  obtain rfl := hw1.symm
  go_wp2_with fail
  refine (HCO.out _ a c (HST.out.below HB0.out)).mono ?_
  rintro e2 w2 ⟨g1, cap1, cur, A, C, rfl, hcap, hcp, hb2⟩
  have HS2 := Lib.hid (HS0.out.none (Keeps.ofBelow hb2))
  have HB2 := Lib.hid (HB0.out.trans (hb2.mono (by simp only [World.size_alloc]; omega)))
  have hBB : ((w.alloc (.cells #[.int .i64 k, .int .i64 (i : Int), .int .u32 v.a, .int .u32 v.b, .int .u32 v.c, .int .u32 v.d, .int .u32 N] 43)).alloc (.cells #[.int .i64 0, .int .u32 0, .int .u32 0, .int .u32 0, .int .u32 0] 45)).heap.size = w.heap.size + 2 := by rw [World.size_alloc, World.size_alloc]
  rw [hBB] at hcp
  clear hBB
  have HCP2 := Lib.hid hcp
  have HCAP := Lib.hid hcap
  have hg1 : w.heap.size + 2 ≤ g1 := hcp.ge
  have hc2 : w2.heap[w.heap.size]? = some (.cells #[.int .i64 k, .int .i64 (i : Int), .int .u32 v.a, .int .u32 v.b, .int .u32 v.c, .int .u32 v.d, .int .u32 N] 43 (0, 0)) := HS2.out.at 1 rfl
  clear hb2 hcp hcap
  have k0 := cell_of hc2 0
  have k1 := cell_of hc2 1
  have k2 := cell_of hc2 2
  have k3 := cell_of hc2 3
  have k4 := cell_of hc2 4
  have k5 := cell_of hc2 5
  have k6 := cell_of hc2 6
  simp only [List.getElem?_toArray, List.getElem?_cons_zero, List.getElem?_cons_succ] at k0 k1 k2 k3 k4 k5 k6
  clear hc2
  have HRO := Lib.hid (show w2.rangeAt g1 (i * 15) [.int .i64 (3 : Int), .int .i64 (x.o 1), .int .i64 (x.o 2), .int .i64 (x.o 3), .int .i64 (x.o 4), .int .i64 (x.o 5), .int .u32 (x.oi 0), .int .u32 (x.oi 1), .int .u32 (x.oi 2), .int .u32 (x.oi 3)] from fun j u hu => HCP2.out.fifteen HI.out j u (obj_partR x (A i) x.row.length (C i) j u (by rw [E0.out]; exact hu)))
  go_wp2_with (refine wpList_load_mid rfl 49 _ rfl g1 (i * 15) rfl [.int .i64 (3 : Int), .int .i64 (x.o 1), .int .i64 (x.o 2), .int .i64 (x.o 3), .int .i64 (x.o 4), .int .i64 (x.o 5), .int .u32 (x.oi 0), .int .u32 (x.oi 1), .int .u32 (x.oi 2), .int .u32 (x.oi 3)] _ HRO.out Tryd.underlying49 rfl obj_info19 ?_)
  refine (HR.out _).mono ?_
  rintro e3 w3 ⟨rfl, k3'⟩
  have HS3 := Lib.hid (HS2.out.none k3')
  have HB3 := Lib.hid (HB2.out.trans (k3'.none.mono HB2.out.size))
  have HCP3 := Lib.hid (HCP2.out.none k3')
  have hc3 : w3.heap[w.heap.size]? = some (.cells #[.int .i64 k, .int .i64 (i : Int), .int .u32 v.a, .int .u32 v.b, .int .u32 v.c, .int .u32 v.d, .int .u32 N] 43 (0, 0)) := HS3.out.at 1 rfl
  have hr4 : w3.heap[w.heap.size + 1]? = some (.cells #[.int .i64 0, .int .u32 0, .int .u32 0, .int .u32 0, .int .u32 0] 45 (0, 0)) := HS3.out.at 0 rfl
  clear k0 k1 k2 k3 k4 k5 k6 k3' HRO HCP2 HB2 HS2
  have k0 := cell_of hc3 0
  have k1 := cell_of hc3 1
  have k2 := cell_of hc3 2
  have k3 := cell_of hc3 3
  have k4 := cell_of hc3 4
  have k5 := cell_of hc3 5
  have k6 := cell_of hc3 6
  simp only [List.getElem?_toArray, List.getElem?_cons_zero, List.getElem?_cons_succ] at k0 k1 k2 k3 k4 k5 k6
  clear hc3
  have q0 := cell_of hr4 0
  have q1 := cell_of hr4 1
  have q2 := cell_of hr4 2
  have q3 := cell_of hr4 3
  have q4 := cell_of hr4 4
  have fq0 := free_of hr4 0
  have fq1 := free_of hr4 1
  have fq2 := free_of hr4 2
  have fq3 := free_of hr4 3
  have fq4 := free_of hr4 4
  simp only [List.getElem?_toArray, List.getElem?_cons_zero, List.getElem?_cons_succ] at q0 q1 q2 q3 q4
  have HR4 := Lib.hid hr4
  clear hr4
  have c0 : w3.cell? ⟨g1, i * 15, none⟩ = some (.int .i64 (3 : Int)) := by rw [← E0.out]; exact HCP3.out.fifteen HI.out 0 _ rfl
  have c1 : w3.cell? ⟨g1, i * 15 + 1, none⟩ = some (.int .i64 (x.o 1)) := HCP3.out.fifteen HI.out 1 _ rfl
  have c2 : w3.cell? ⟨g1, i * 15 + 2, none⟩ = some (.int .i64 (x.o 2)) := HCP3.out.fifteen HI.out 2 _ rfl
  have c10 : w3.cell? ⟨g1, i * 15 + 10, none⟩ = some (.slice (A i) x.row.length (C i)) := HCP3.out.fifteen HI.out 10 _ rfl
  have c11 : w3.cell? ⟨g1, i * 15 + 11, none⟩ = some (.int .u32 x.v.a) := HCP3.out.fifteen HI.out 11 _ rfl
  have c12 : w3.cell? ⟨g1, i * 15 + 12, none⟩ = some (.int .u32 x.v.b) := HCP3.out.fifteen HI.out 12 _ rfl
  have c13 : w3.cell? ⟨g1, i * 15 + 13, none⟩ = some (.int .u32 x.v.c) := HCP3.out.fifteen HI.out 13 _ rfl
  have c14 : w3.cell? ⟨g1, i * 15 + 14, none⟩ = some (.int .u32 x.v.d) := HCP3.out.fifteen HI.out 14 _ rfl
  have f10 : w3.frozen? ⟨g1, i * 15 + 10, none⟩ = false := free_of HCP3.out.blk (i * 15 + 10)
  have f11 : w3.frozen? ⟨g1, i * 15 + 11, none⟩ = false := free_of HCP3.out.blk (i * 15 + 11)
  have f12 : w3.frozen? ⟨g1, i * 15 + 12, none⟩ = false := free_of HCP3.out.blk (i * 15 + 12)
  have f13 : w3.frozen? ⟨g1, i * 15 + 13, none⟩ = false := free_of HCP3.out.blk (i * 15 + 13)
  have f14 : w3.frozen? ⟨g1, i * 15 + 14, none⟩ = false := free_of HCP3.out.blk (i * 15 + 14)
  have HRV := Lib.hid (show w3.rangeAt g1 (i * 15 + 11) [.int .u32 x.v.a, .int .u32 x.v.b, .int .u32 x.v.c, .int .u32 x.v.d] from fun j u hu => by
      have := HCP3.out.fifteen HI.out (11 + j) u (by have hj : j < 4 := (List.getElem?_eq_some_iff.1 hu).1; rcases (by omega : j = 0 ∨ j = 1 ∨ j = 2 ∨ j = 3) with rfl | rfl | rfl | rfl <;> exact hu)
      rwa [← Nat.add_assoc] at this)
  clear c1 c2 c10 c11 c12 c13 c14 f10 f11 f12 f13 f14 k1 k2 k3 k4 k5 k6
  have c11 : w3.cell? ⟨g1, i * 15 + 11, none⟩ = some (.int .u32 x.v.a) := HRV.out 0 _ rfl
  go_wp2_with fail
  clear c11 c0 k0 q0 q1 q2 q3 q4 fq0 fq1 fq2 fq3 fq4
  have HRVd := Lib.hid (show w3.drew.rangeAt g1 (i * 15 + 11) [.int .u32 x.v.a, .int .u32 x.v.b, .int .u32 x.v.c, .int .u32 x.v.d] from HRV.out)
  have HB5 := Lib.hid (below_drew HB3.out)
  have HR5 := Lib.hid (show w3.drew.heap[w.heap.size + 1]? = some (.cells #[.int .i64 0, .int .u32 0, .int .u32 0, .int .u32 0, .int .u32 0] 45 (0, 0)) from HR4.out)
  refine wp_region_noPanic ?_
  refine wp_region_held_drew (S := (fun W => W.rangeAt g1 (i * 15 + 11) [.int .u32 x.v.a, .int .u32 x.v.b, .int .u32 x.v.c, .int .u32 x.v.d])) (by kernel_rfl) ?_ (fun hHeld => ?_)
  · exact HRVd.out
  refine wpAnyH_take (i := 0) (v := ?_) rfl (by kernel_rfl) (by kernel_rfl) (by kernel_rfl) (fun _ _ _ h => h) (Or.inl ⟨by rfl, ?_⟩) (by assumption) ?_
  rotate_left
  · (intro w hSw; (try dsimp only at hSw); go_simp; try with_reducible rfl)
  simp only [Act.put, List.getElem_toArray, List.getElem_cons_zero, List.getElem_cons_succ, List.setIfInBounds_toArray, List.set_cons_zero, List.set_cons_succ]
  refine wpAnyH_take (i := 1) (v := ?_) rfl (by kernel_rfl) (by kernel_rfl) (by kernel_rfl) (fun _ _ _ h => h) (Or.inl ⟨by rfl, ?_⟩) (by assumption) ?_
  rotate_left
  · (intro w hSw; (try dsimp only at hSw); go_simp; try with_reducible rfl)
  simp only [Act.put, List.getElem_toArray, List.getElem_cons_zero, List.getElem_cons_succ, List.setIfInBounds_toArray, List.set_cons_zero, List.set_cons_succ]
  refine wpAnyH_take (i := 2) (v := ?_) rfl (by kernel_rfl) (by kernel_rfl) (by kernel_rfl) (fun _ _ _ h => h) (Or.inl ⟨by rfl, ?_⟩) (by assumption) ?_
  rotate_left
  · (intro w hSw; (try dsimp only at hSw); go_simp; try with_reducible rfl)
  simp only [Act.put, List.getElem_toArray, List.getElem_cons_zero, List.getElem_cons_succ, List.setIfInBounds_toArray, List.set_cons_zero, List.set_cons_succ]
  refine wpAnyH_take (i := 3) (v := ?_) rfl (by kernel_rfl) (by kernel_rfl) (by kernel_rfl) (fun _ _ _ h => h) (Or.inl ⟨by rfl, ?_⟩) (by assumption) ?_
  rotate_left
  · (intro w hSw; (try dsimp only at hSw); go_simp; try with_reducible rfl)
  simp only [Act.put, List.getElem_toArray, List.getElem_cons_zero, List.getElem_cons_succ, List.setIfInBounds_toArray, List.set_cons_zero, List.set_cons_succ]
  refine wpAnyH_take (i := 4) (v := .agg [.int .u32 x.v.a, .int .u32 x.v.b, .int .u32 x.v.c, .int .u32 x.v.d].toArray) rfl (by kernel_rfl) (by kernel_rfl) (by kernel_rfl) (fun _ _ _ h => h) (yieldsIf_load_mid (by rfl) 41 (.tmp 182) rfl g1 (i * 15 + 11) rfl [.int .u32 x.v.a, .int .u32 x.v.b, .int .u32 x.v.c, .int .u32 x.v.d] _ (fun w h => h) Tryd.underlying41 rfl val_info19) (by assumption) ?_
  simp only [Act.put, List.getElem_toArray, List.getElem_cons_zero, List.getElem_cons_succ, List.setIfInBounds_toArray, List.set_cons_zero, List.set_cons_succ]
  refine wpAnyH_take (i := 5) (v := ?_) rfl (by kernel_rfl) (by kernel_rfl) (by kernel_rfl) (fun _ _ _ h => h) (Or.inl ⟨by rfl, ?_⟩) (by assumption) ?_
  rotate_left
  · (intro w hSw; (try dsimp only at hSw); go_simp; try with_reducible rfl)
  simp only [Act.put, List.getElem_toArray, List.getElem_cons_zero, List.getElem_cons_succ, List.setIfInBounds_toArray, List.set_cons_zero, List.set_cons_succ]
  refine wpAnyH_take (i := 6) (v := ?_) rfl (by kernel_rfl) (by kernel_rfl) (by kernel_rfl) (fun _ _ _ h => h) (Or.inl ⟨by rfl, ?_⟩) (by assumption) ?_
  rotate_left
  · (intro w hSw; (try dsimp only at hSw); go_simp; try with_reducible rfl)
  simp only [Act.put, List.getElem_toArray, List.getElem_cons_zero, List.getElem_cons_succ, List.setIfInBounds_toArray, List.set_cons_zero, List.set_cons_succ]
  generalize w3.drew = w5 at *
  have q0 := cell_of HR5.out 0
  have q1 := cell_of HR5.out 1
  have q2 := cell_of HR5.out 2
  have q3 := cell_of HR5.out 3
  have q4 := cell_of HR5.out 4
  have fq0 := free_of HR5.out 0
  have fq1 := free_of HR5.out 1
  have fq2 := free_of HR5.out 2
  have fq3 := free_of HR5.out 3
  have fq4 := free_of HR5.out 4
  simp only [List.getElem?_toArray, List.getElem?_cons_zero, List.getElem?_cons_succ] at q0 q1 q2 q3 q4
  refine wpAnyH_ready (rs := [7]) (by kernel_rfl) (by simp) ?_
  refine AllReadyH.cons rfl (fun K hK => ?_) AllReadyH.nil
  go_simp
  refine hK.out _ _ ?_ (fun hHeld => ?_)
  · ((try dsimp only); exact far5R HRVd.out (by omega))
  clear hK K
  try simp only [Act.put, List.getElem_toArray, List.getElem_cons_zero, List.getElem_cons_succ, List.setIfInBounds_toArray, List.set_cons_zero, List.set_cons_succ]
  refine wpAnyH_done (by kernel_rfl) ?_ _
  refine NoPanic.normal ?_
  go_wp2_with fail
  refine bodyPost_ret (res_do _ _ a n c (w.heap.size + 1) ⟨0, x.v⟩ rfl rfl ?_) rfl ?_
  · exact range_heap (heap_set (heap_set (heap_set (heap_set (heap_set HR5.out 0 _) 1 _) 2 _) 3 _) 4 _) rfl
  have hbz := HB5.out
  exact ⟨(((((hbz.setCell (p := ⟨w.heap.size + 1, 0, none⟩) (by show w.heap.size ≤ w.heap.size + 1; omega) _).setCell (p := ⟨w.heap.size + 1, 1, none⟩) (by show w.heap.size ≤ w.heap.size + 1; omega) _).setCell (p := ⟨w.heap.size + 1, 2, none⟩) (by show w.heap.size ≤ w.heap.size + 1; omega) _).setCell (p := ⟨w.heap.size + 1, 3, none⟩) (by show w.heap.size ≤ w.heap.size + 1; omega) _).setCell (p := ⟨w.heap.size + 1, 4, none⟩) (by show w.heap.size ≤ w.heap.size + 1; omega) _), a, c, rfl, HST.out.below (((((hbz.setCell (p := ⟨w.heap.size + 1, 0, none⟩) (by show w.heap.size ≤ w.heap.size + 1; omega) _).setCell (p := ⟨w.heap.size + 1, 1, none⟩) (by show w.heap.size ≤ w.heap.size + 1; omega) _).setCell (p := ⟨w.heap.size + 1, 2, none⟩) (by show w.heap.size ≤ w.heap.size + 1; omega) _).setCell (p := ⟨w.heap.size + 1, 3, none⟩) (by show w.heap.size ≤ w.heap.size + 1; omega) _).setCell (p := ⟨w.heap.size + 1, 4, none⟩) (by show w.heap.size ≤ w.heap.size + 1; omega) _)⟩
set_option maxRecDepth 100000 in
set_option maxHeartbeats 16000000 in
theorem rdo_get36 (w : World) (a : Option Addr) (c : Nat) (L : List ItemD) (h : StateR w a L) (ok : ∀ x, x ∈ L → x.Ok) (hn : L.length ≤ 1000) (k N : Int) (hki : i64B k) (v : W4) (hv : v.Ok) (i : Nat) (x : ItemD) (hi : L[i]? = some x) (hK : kindP x.o = 3) (hkk : plainP k = 6) :
    Calls Tryd.prog 41 #[.slice a L.length c, .agg #[.int .i64 k, .int .i64 (i : Int), .int .u32 v.a, .int .u32 v.b, .int .u32 v.c, .int .u32 v.d, .int .u32 N]] w (DoesR w L.length (L, ⟨0, x.v⟩)) := by
  have hil := (List.getElem?_eq_some_iff.1 hi).1
  have okx := ok x (List.mem_of_getElem? hi)
  have HB0 := Lib.hid (show Below w.heap.size w ((w.alloc (.cells #[.int .i64 k, .int .i64 (i : Int), .int .u32 v.a, .int .u32 v.b, .int .u32 v.c, .int .u32 v.d, .int .u32 N] 43)).alloc (.cells #[.int .i64 0, .int .u32 0, .int .u32 0, .int .u32 0, .int .u32 0] 45)) from ((Below.refl _ w).alloc (Nat.le_refl _) _).alloc (by simp) _)
  have HS0 := Lib.hid (show Has w ((w.alloc (.cells #[.int .i64 k, .int .i64 (i : Int), .int .u32 v.a, .int .u32 v.b, .int .u32 v.c, .int .u32 v.d, .int .u32 N] 43)).alloc (.cells #[.int .i64 0, .int .u32 0, .int .u32 0, .int .u32 0, .int .u32 0] 45)) [(w.heap.size + 1, .cells #[.int .i64 0, .int .u32 0, .int .u32 0, .int .u32 0, .int .u32 0] 45 (0, 0)), (w.heap.size, .cells #[.int .i64 k, .int .i64 (i : Int), .int .u32 v.a, .int .u32 v.b, .int .u32 v.c, .int .u32 v.d, .int .u32 N] 43 (0, 0))] from (((Has.start w).alloc (.cells #[.int .i64 k, .int .i64 (i : Int), .int .u32 v.a, .int .u32 v.b, .int .u32 v.c, .int .u32 v.d, .int .u32 N] 43)).alloc (.cells #[.int .i64 0, .int .u32 0, .int .u32 0, .int .u32 0, .int .u32 0] 45)).eq (by simp))
  have HST := Lib.hid h
  have HP := Lib.hid (fun w => rplain_any w k hki)
  obtain ⟨n, hne⟩ : ∃ n, L.length = n := ⟨_, rfl⟩
  have HN := Lib.hid hne
  have HCO := Lib.hid (fun w a c h => rcopied_any w a c L h ok hn n hne (by omega))
  have HR := Lib.hid (fun w => rright_all x.o x.oi w (okx.o 1 (by omega)))
  have hr0 := kindR (by omega : kindP x.o ≠ 0)
  rw [hr0.1] at HR
  unfold objC at HR
  have e0 : x.o 0 = 3 := by rw [← hr0.2, hK]
  have E0 := Lib.hid e0
  rw [e0] at HR
  clear hr0 e0
  have HK := Lib.hid hK
  have HOK := Lib.hid okx
  rw [hne] at hil
  have d3 : decide ((i : Int) < 0) = false := decide_eq_false (by omega)
  have d4 : decide ((n : Int) ≤ (i : Int)) = false := decide_eq_false (by omega)
  have d5 : decide (n ≤ i) = false := decide_eq_false (by omega)
  have d6 : decide (i < n) = true := decide_eq_true hil
  rw [hne]
  have HI := Lib.hid hi
  clear h ok hv hne hi okx hK hn
  rw [hkk] at HP
  clear hki hkk
  go_enter Tryd.func41, Tryd.ntmps41
  go_wp2_with fail
  refine (HP.out _).mono ?_
  rintro e1 w1 ⟨rfl, hw1⟩
  obtain rfl := hw1.symm
  go_wp2_with fail
  refine (HCO.out _ a c (HST.out.below HB0.out)).mono ?_
  rintro e2 w2 ⟨g1, cap1, cur, A, C, rfl, hcap, hcp, hb2⟩
  have HS2 := Lib.hid (HS0.out.none (Keeps.ofBelow hb2))
  have HB2 := Lib.hid (HB0.out.trans (hb2.mono (by simp only [World.size_alloc]; omega)))
  have hBB : ((w.alloc (.cells #[.int .i64 k, .int .i64 (i : Int), .int .u32 v.a, .int .u32 v.b, .int .u32 v.c, .int .u32 v.d, .int .u32 N] 43)).alloc (.cells #[.int .i64 0, .int .u32 0, .int .u32 0, .int .u32 0, .int .u32 0] 45)).heap.size = w.heap.size + 2 := by rw [World.size_alloc, World.size_alloc]
  rw [hBB] at hcp
  clear hBB
  have HCP2 := Lib.hid hcp
  have HCAP := Lib.hid hcap
  have hg1 : w.heap.size + 2 ≤ g1 := hcp.ge
  have hc2 : w2.heap[w.heap.size]? = some (.cells #[.int .i64 k, .int .i64 (i : Int), .int .u32 v.a, .int .u32 v.b, .int .u32 v.c, .int .u32 v.d, .int .u32 N] 43 (0, 0)) := HS2.out.at 1 rfl
  clear hb2 hcp hcap
  have k0 := cell_of hc2 0
  have k1 := cell_of hc2 1
  have k2 := cell_of hc2 2
  have k3 := cell_of hc2 3
  have k4 := cell_of hc2 4
  have k5 := cell_of hc2 5
  have k6 := cell_of hc2 6
  simp only [List.getElem?_toArray, List.getElem?_cons_zero, List.getElem?_cons_succ] at k0 k1 k2 k3 k4 k5 k6
  clear hc2
  have HRO := Lib.hid (show w2.rangeAt g1 (i * 15) [.int .i64 (3 : Int), .int .i64 (x.o 1), .int .i64 (x.o 2), .int .i64 (x.o 3), .int .i64 (x.o 4), .int .i64 (x.o 5), .int .u32 (x.oi 0), .int .u32 (x.oi 1), .int .u32 (x.oi 2), .int .u32 (x.oi 3)] from fun j u hu => HCP2.out.fifteen HI.out j u (obj_partR x (A i) x.row.length (C i) j u (by rw [E0.out]; exact hu)))
  go_wp2_with (refine wpList_load_mid rfl 49 _ rfl g1 (i * 15) rfl [.int .i64 (3 : Int), .int .i64 (x.o 1), .int .i64 (x.o 2), .int .i64 (x.o 3), .int .i64 (x.o 4), .int .i64 (x.o 5), .int .u32 (x.oi 0), .int .u32 (x.oi 1), .int .u32 (x.oi 2), .int .u32 (x.oi 3)] _ HRO.out Tryd.underlying49 rfl obj_info19 ?_)
  refine (HR.out _).mono ?_
  rintro e3 w3 ⟨rfl, k3'⟩
  have HS3 := Lib.hid (HS2.out.none k3')
  have HB3 := Lib.hid (HB2.out.trans (k3'.none.mono HB2.out.size))
  have HCP3 := Lib.hid (HCP2.out.none k3')
  have hc3 : w3.heap[w.heap.size]? = some (.cells #[.int .i64 k, .int .i64 (i : Int), .int .u32 v.a, .int .u32 v.b, .int .u32 v.c, .int .u32 v.d, .int .u32 N] 43 (0, 0)) := HS3.out.at 1 rfl
  have hr4 : w3.heap[w.heap.size + 1]? = some (.cells #[.int .i64 0, .int .u32 0, .int .u32 0, .int .u32 0, .int .u32 0] 45 (0, 0)) := HS3.out.at 0 rfl
  clear k0 k1 k2 k3 k4 k5 k6 k3' HRO HCP2 HB2 HS2
  have k0 := cell_of hc3 0
  have k1 := cell_of hc3 1
  have k2 := cell_of hc3 2
  have k3 := cell_of hc3 3
  have k4 := cell_of hc3 4
  have k5 := cell_of hc3 5
  have k6 := cell_of hc3 6
  simp only [List.getElem?_toArray, List.getElem?_cons_zero, List.getElem?_cons_succ] at k0 k1 k2 k3 k4 k5 k6
  clear hc3
  have q0 := cell_of hr4 0
  have q1 := cell_of hr4 1
  have q2 := cell_of hr4 2
  have q3 := cell_of hr4 3
  have q4 := cell_of hr4 4
  have fq0 := free_of hr4 0
  have fq1 := free_of hr4 1
  have fq2 := free_of hr4 2
  have fq3 := free_of hr4 3
  have fq4 := free_of hr4 4
  simp only [List.getElem?_toArray, List.getElem?_cons_zero, List.getElem?_cons_succ] at q0 q1 q2 q3 q4
  have HR4 := Lib.hid hr4
  clear hr4
  have c0 : w3.cell? ⟨g1, i * 15, none⟩ = some (.int .i64 (3 : Int)) := by rw [← E0.out]; exact HCP3.out.fifteen HI.out 0 _ rfl
  have c1 : w3.cell? ⟨g1, i * 15 + 1, none⟩ = some (.int .i64 (x.o 1)) := HCP3.out.fifteen HI.out 1 _ rfl
  have c2 : w3.cell? ⟨g1, i * 15 + 2, none⟩ = some (.int .i64 (x.o 2)) := HCP3.out.fifteen HI.out 2 _ rfl
  have c10 : w3.cell? ⟨g1, i * 15 + 10, none⟩ = some (.slice (A i) x.row.length (C i)) := HCP3.out.fifteen HI.out 10 _ rfl
  have c11 : w3.cell? ⟨g1, i * 15 + 11, none⟩ = some (.int .u32 x.v.a) := HCP3.out.fifteen HI.out 11 _ rfl
  have c12 : w3.cell? ⟨g1, i * 15 + 12, none⟩ = some (.int .u32 x.v.b) := HCP3.out.fifteen HI.out 12 _ rfl
  have c13 : w3.cell? ⟨g1, i * 15 + 13, none⟩ = some (.int .u32 x.v.c) := HCP3.out.fifteen HI.out 13 _ rfl
  have c14 : w3.cell? ⟨g1, i * 15 + 14, none⟩ = some (.int .u32 x.v.d) := HCP3.out.fifteen HI.out 14 _ rfl
  have f10 : w3.frozen? ⟨g1, i * 15 + 10, none⟩ = false := free_of HCP3.out.blk (i * 15 + 10)
  have f11 : w3.frozen? ⟨g1, i * 15 + 11, none⟩ = false := free_of HCP3.out.blk (i * 15 + 11)
  have f12 : w3.frozen? ⟨g1, i * 15 + 12, none⟩ = false := free_of HCP3.out.blk (i * 15 + 12)
  have f13 : w3.frozen? ⟨g1, i * 15 + 13, none⟩ = false := free_of HCP3.out.blk (i * 15 + 13)
  have f14 : w3.frozen? ⟨g1, i * 15 + 14, none⟩ = false := free_of HCP3.out.blk (i * 15 + 14)
  have HRV := Lib.hid (show w3.rangeAt g1 (i * 15 + 11) [.int .u32 x.v.a, .int .u32 x.v.b, .int .u32 x.v.c, .int .u32 x.v.d] from fun j u hu => by
      have := HCP3.out.fifteen HI.out (11 + j) u (by have hj : j < 4 := (List.getElem?_eq_some_iff.1 hu).1; rcases (by omega : j = 0 ∨ j = 1 ∨ j = 2 ∨ j = 3) with rfl | rfl | rfl | rfl <;> exact hu)
      rwa [← Nat.add_assoc] at this)
  clear c1 c2 c10 c11 c12 c13 c14 f10 f11 f12 f13 f14 k1 k2 k3 k4 k5 k6
  have c11 : w3.cell? ⟨g1, i * 15 + 11, none⟩ = some (.int .u32 x.v.a) := HRV.out 0 _ rfl
  go_wp2_with fail
  clear c11 c0 k0 q0 q1 q2 q3 q4 fq0 fq1 fq2 fq3 fq4
  have HRVd := Lib.hid (show w3.drew.rangeAt g1 (i * 15 + 11) [.int .u32 x.v.a, .int .u32 x.v.b, .int .u32 x.v.c, .int .u32 x.v.d] from HRV.out)
  have HB5 := Lib.hid (below_drew HB3.out)
  have HR5 := Lib.hid (show w3.drew.heap[w.heap.size + 1]? = some (.cells #[.int .i64 0, .int .u32 0, .int .u32 0, .int .u32 0, .int .u32 0] 45 (0, 0)) from HR4.out)
  refine wp_region_noPanic ?_
  refine wp_region_held_drew (S := (fun W => W.rangeAt g1 (i * 15 + 11) [.int .u32 x.v.a, .int .u32 x.v.b, .int .u32 x.v.c, .int .u32 x.v.d])) (by kernel_rfl) ?_ (fun hHeld => ?_)
  · exact HRVd.out
  refine wpAnyH_take (i := 0) (v := ?_) rfl (by kernel_rfl) (by kernel_rfl) (by kernel_rfl) (fun _ _ _ h => h) (Or.inl ⟨by rfl, ?_⟩) (by assumption) ?_
  rotate_left
  · (intro w hSw; (try dsimp only at hSw); go_simp; try with_reducible rfl)
  simp only [Act.put, List.getElem_toArray, List.getElem_cons_zero, List.getElem_cons_succ, List.setIfInBounds_toArray, List.set_cons_zero, List.set_cons_succ]
  refine wpAnyH_take (i := 1) (v := ?_) rfl (by kernel_rfl) (by kernel_rfl) (by kernel_rfl) (fun _ _ _ h => h) (Or.inl ⟨by rfl, ?_⟩) (by assumption) ?_
  rotate_left
  · (intro w hSw; (try dsimp only at hSw); go_simp; try with_reducible rfl)
  simp only [Act.put, List.getElem_toArray, List.getElem_cons_zero, List.getElem_cons_succ, List.setIfInBounds_toArray, List.set_cons_zero, List.set_cons_succ]
  refine wpAnyH_take (i := 2) (v := ?_) rfl (by kernel_rfl) (by kernel_rfl) (by kernel_rfl) (fun _ _ _ h => h) (Or.inl ⟨by rfl, ?_⟩) (by assumption) ?_
  rotate_left
  · (intro w hSw; (try dsimp only at hSw); go_simp; try with_reducible rfl)
  simp only [Act.put, List.getElem_toArray, List.getElem_cons_zero, List.getElem_cons_succ, List.setIfInBounds_toArray, List.set_cons_zero, List.set_cons_succ]
  refine wpAnyH_take (i := 3) (v := ?_) rfl (by kernel_rfl) (by kernel_rfl) (by kernel_rfl) (fun _ _ _ h => h) (Or.inl ⟨by rfl, ?_⟩) (by assumption) ?_
  rotate_left
  · (intro w hSw; (try dsimp only at hSw); go_simp; try with_reducible rfl)
  simp only [Act.put, List.getElem_toArray, List.getElem_cons_zero, List.getElem_cons_succ, List.setIfInBounds_toArray, List.set_cons_zero, List.set_cons_succ]
  refine wpAnyH_take (i := 4) (v := .agg [.int .u32 x.v.a, .int .u32 x.v.b, .int .u32 x.v.c, .int .u32 x.v.d].toArray) rfl (by kernel_rfl) (by kernel_rfl) (by kernel_rfl) (fun _ _ _ h => h) (yieldsIf_load_mid (by rfl) 41 (.tmp 182) rfl g1 (i * 15 + 11) rfl [.int .u32 x.v.a, .int .u32 x.v.b, .int .u32 x.v.c, .int .u32 x.v.d] _ (fun w h => h) Tryd.underlying41 rfl val_info19) (by assumption) ?_
  simp only [Act.put, List.getElem_toArray, List.getElem_cons_zero, List.getElem_cons_succ, List.setIfInBounds_toArray, List.set_cons_zero, List.set_cons_succ]
  refine wpAnyH_take (i := 5) (v := ?_) rfl (by kernel_rfl) (by kernel_rfl) (by kernel_rfl) (fun _ _ _ h => h) (Or.inl ⟨by rfl, ?_⟩) (by assumption) ?_
  rotate_left
  · (intro w hSw; (try dsimp only at hSw); go_simp; try with_reducible rfl)
  simp only [Act.put, List.getElem_toArray, List.getElem_cons_zero, List.getElem_cons_succ, List.setIfInBounds_toArray, List.set_cons_zero, List.set_cons_succ]
  refine wpAnyH_take (i := 6) (v := ?_) rfl (by kernel_rfl) (by kernel_rfl) (by kernel_rfl) (fun _ _ _ h => h) (Or.inl ⟨by rfl, ?_⟩) (by assumption) ?_
  rotate_left
  · (intro w hSw; (try dsimp only at hSw); go_simp; try with_reducible rfl)
  simp only [Act.put, List.getElem_toArray, List.getElem_cons_zero, List.getElem_cons_succ, List.setIfInBounds_toArray, List.set_cons_zero, List.set_cons_succ]
  generalize w3.drew = w5 at *
  have q0 := cell_of HR5.out 0
  have q1 := cell_of HR5.out 1
  have q2 := cell_of HR5.out 2
  have q3 := cell_of HR5.out 3
  have q4 := cell_of HR5.out 4
  have fq0 := free_of HR5.out 0
  have fq1 := free_of HR5.out 1
  have fq2 := free_of HR5.out 2
  have fq3 := free_of HR5.out 3
  have fq4 := free_of HR5.out 4
  simp only [List.getElem?_toArray, List.getElem?_cons_zero, List.getElem?_cons_succ] at q0 q1 q2 q3 q4
  refine wpAnyH_ready (rs := [7]) (by kernel_rfl) (by simp) ?_
  refine AllReadyH.cons rfl (fun K hK => ?_) AllReadyH.nil
  go_simp
  refine hK.out _ _ ?_ (fun hHeld => ?_)
  · ((try dsimp only); exact far5R HRVd.out (by omega))
  clear hK K
  try simp only [Act.put, List.getElem_toArray, List.getElem_cons_zero, List.getElem_cons_succ, List.setIfInBounds_toArray, List.set_cons_zero, List.set_cons_succ]
  refine wpAnyH_done (by kernel_rfl) ?_ _
  refine NoPanic.normal ?_
  go_wp2_with fail
  refine bodyPost_ret (res_do _ _ a n c (w.heap.size + 1) ⟨0, x.v⟩ rfl rfl ?_) rfl ?_
  · exact range_heap (heap_set (heap_set (heap_set (heap_set (heap_set HR5.out 0 _) 1 _) 2 _) 3 _) 4 _) rfl
  have hbz := HB5.out
  exact ⟨(((((hbz.setCell (p := ⟨w.heap.size + 1, 0, none⟩) (by show w.heap.size ≤ w.heap.size + 1; omega) _).setCell (p := ⟨w.heap.size + 1, 1, none⟩) (by show w.heap.size ≤ w.heap.size + 1; omega) _).setCell (p := ⟨w.heap.size + 1, 2, none⟩) (by show w.heap.size ≤ w.heap.size + 1; omega) _).setCell (p := ⟨w.heap.size + 1, 3, none⟩) (by show w.heap.size ≤ w.heap.size + 1; omega) _).setCell (p := ⟨w.heap.size + 1, 4, none⟩) (by show w.heap.size ≤ w.heap.size + 1; omega) _), a, c, rfl, HST.out.below (((((hbz.setCell (p := ⟨w.heap.size + 1, 0, none⟩) (by show w.heap.size ≤ w.heap.size + 1; omega) _).setCell (p := ⟨w.heap.size + 1, 1, none⟩) (by show w.heap.size ≤ w.heap.size + 1; omega) _).setCell (p := ⟨w.heap.size + 1, 2, none⟩) (by show w.heap.size ≤ w.heap.size + 1; omega) _).setCell (p := ⟨w.heap.size + 1, 3, none⟩) (by show w.heap.size ≤ w.heap.size + 1; omega) _).setCell (p := ⟨w.heap.size + 1, 4, none⟩) (by show w.heap.size ≤ w.heap.size + 1; omega) _)⟩
end Go.Proofs.YtohajfkekkelhaaDoor
namespace Go.Proofs.YtohajfkekkelhaaDoor
open Go.ChangeShapes Go.WideShapes Go.ChangeAt Go.RowKit
set_option linter.unusedVariables false
set_option linter.unusedSimpArgs false
set_option maxRecDepth 100000 in
set_option maxHeartbeats 16000000 in
theorem rdo_put2 (w : World) (a : Option Addr) (c : Nat) (L : List ItemD) (h : StateR w a L) (ok : ∀ x, x ∈ L → x.Ok) (hn : L.length ≤ 1000) (k N : Int) (hki : i64B k) (v : W4) (hv : v.Ok) (i : Nat) (x : ItemD) (hi : L[i]? = some x) (hK : kindP x.o = 2) (hkk : plainP k = 3) (m : Nat) (hm : x.o 2 = (m : Int)) (hm4 : m ≤ 4) :
    Calls Tryd.prog 41 #[.slice a L.length c, .agg #[.int .i64 k, .int .i64 (i : Int), .int .u32 v.a, .int .u32 v.b, .int .u32 v.c, .int .u32 v.d, .int .u32 N]] w (DoesR w L.length (L.set i {x with v := v.clip m}, res9 0)) := by
  have hil := (List.getElem?_eq_some_iff.1 hi).1
  have okx := ok x (List.mem_of_getElem? hi)
  have HB0 := Lib.hid (show Below w.heap.size w ((w.alloc (.cells #[.int .i64 k, .int .i64 (i : Int), .int .u32 v.a, .int .u32 v.b, .int .u32 v.c, .int .u32 v.d, .int .u32 N] 43)).alloc (.cells #[.int .i64 0, .int .u32 0, .int .u32 0, .int .u32 0, .int .u32 0] 45)) from ((Below.refl _ w).alloc (Nat.le_refl _) _).alloc (by simp) _)
  have HS0 := Lib.hid (show Has w ((w.alloc (.cells #[.int .i64 k, .int .i64 (i : Int), .int .u32 v.a, .int .u32 v.b, .int .u32 v.c, .int .u32 v.d, .int .u32 N] 43)).alloc (.cells #[.int .i64 0, .int .u32 0, .int .u32 0, .int .u32 0, .int .u32 0] 45)) [(w.heap.size + 1, .cells #[.int .i64 0, .int .u32 0, .int .u32 0, .int .u32 0, .int .u32 0] 45 (0, 0)), (w.heap.size, .cells #[.int .i64 k, .int .i64 (i : Int), .int .u32 v.a, .int .u32 v.b, .int .u32 v.c, .int .u32 v.d, .int .u32 N] 43 (0, 0))] from (((Has.start w).alloc (.cells #[.int .i64 k, .int .i64 (i : Int), .int .u32 v.a, .int .u32 v.b, .int .u32 v.c, .int .u32 v.d, .int .u32 N] 43)).alloc (.cells #[.int .i64 0, .int .u32 0, .int .u32 0, .int .u32 0, .int .u32 0] 45)).eq (by simp))
  have HST := Lib.hid h
  have HP := Lib.hid (fun w => rplain_any w k hki)
  obtain ⟨n, hne⟩ : ∃ n, L.length = n := ⟨_, rfl⟩
  have HN := Lib.hid hne
  have HCO := Lib.hid (fun w a c h => rcopied_any w a c L h ok hn n hne (by omega))
  have HR := Lib.hid (fun w => rright_all x.o x.oi w (okx.o 1 (by omega)))
  have hr0 := kindR (by omega : kindP x.o ≠ 0)
  rw [hr0.1] at HR
  unfold objC at HR
  have e0 : x.o 0 = 2 := by rw [← hr0.2, hK]
  have E0 := Lib.hid e0
  rw [e0] at HR
  clear hr0 e0
  have HK := Lib.hid hK
  have HOK := Lib.hid okx
  have HMM := Lib.hid hm
  have HC : Hid (∀ w, Calls Tryd.prog 55 #[.agg v.cells, .int .i64 (m : Int)] w fun e w' => e = .returned (.agg #[.int .u32 (clipP m 0 v.a), .int .u32 (clipP m 1 v.b), .int .u32 (clipP m 2 v.c), .int .u32 (clipP m 3 v.d)]) ∧ Keeps (fun _ => False) w w') := Lib.hid (fun w => rclip_any w v m (by omega))
  clear hm
  rw [hne] at hil
  have d3 : decide ((i : Int) < 0) = false := decide_eq_false (by omega)
  have d4 : decide ((n : Int) ≤ (i : Int)) = false := decide_eq_false (by omega)
  have d5 : decide (n ≤ i) = false := decide_eq_false (by omega)
  have d6 : decide (i < n) = true := decide_eq_true hil
  rw [hne]
  have HI := Lib.hid hi
  clear h ok hv hne hi okx hK hn
  rw [hkk] at HP
  clear hki hkk
  go_enter Tryd.func41, Tryd.ntmps41
  go_wp2_with fail
  refine (HP.out _).mono ?_
  rintro e1 w1 ⟨rfl, hw1⟩
  obtain rfl := hw1.symm
  go_wp2_with fail
  refine (HCO.out _ a c (HST.out.below HB0.out)).mono ?_
  rintro e2 w2 ⟨g1, cap1, cur, A, C, rfl, hcap, hcp, hb2⟩
  have HS2 := Lib.hid (HS0.out.none (Keeps.ofBelow hb2))
  have HB2 := Lib.hid (HB0.out.trans (hb2.mono (by simp only [World.size_alloc]; omega)))
  have hBB : ((w.alloc (.cells #[.int .i64 k, .int .i64 (i : Int), .int .u32 v.a, .int .u32 v.b, .int .u32 v.c, .int .u32 v.d, .int .u32 N] 43)).alloc (.cells #[.int .i64 0, .int .u32 0, .int .u32 0, .int .u32 0, .int .u32 0] 45)).heap.size = w.heap.size + 2 := by rw [World.size_alloc, World.size_alloc]
  rw [hBB] at hcp
  clear hBB
  have HCP2 := Lib.hid hcp
  have HCAP := Lib.hid hcap
  have hg1 : w.heap.size + 2 ≤ g1 := hcp.ge
  have hc2 : w2.heap[w.heap.size]? = some (.cells #[.int .i64 k, .int .i64 (i : Int), .int .u32 v.a, .int .u32 v.b, .int .u32 v.c, .int .u32 v.d, .int .u32 N] 43 (0, 0)) := HS2.out.at 1 rfl
  clear hb2 hcp hcap
  have k0 := cell_of hc2 0
  have k1 := cell_of hc2 1
  have k2 := cell_of hc2 2
  have k3 := cell_of hc2 3
  have k4 := cell_of hc2 4
  have k5 := cell_of hc2 5
  have k6 := cell_of hc2 6
  simp only [List.getElem?_toArray, List.getElem?_cons_zero, List.getElem?_cons_succ] at k0 k1 k2 k3 k4 k5 k6
  clear hc2
  have HRO := Lib.hid (show w2.rangeAt g1 (i * 15) [.int .i64 (2 : Int), .int .i64 (x.o 1), .int .i64 (x.o 2), .int .i64 (x.o 3), .int .i64 (x.o 4), .int .i64 (x.o 5), .int .u32 (x.oi 0), .int .u32 (x.oi 1), .int .u32 (x.oi 2), .int .u32 (x.oi 3)] from fun j u hu => HCP2.out.fifteen HI.out j u (obj_partR x (A i) x.row.length (C i) j u (by rw [E0.out]; exact hu)))
  go_wp2_with (refine wpList_load_mid rfl 49 _ rfl g1 (i * 15) rfl [.int .i64 (2 : Int), .int .i64 (x.o 1), .int .i64 (x.o 2), .int .i64 (x.o 3), .int .i64 (x.o 4), .int .i64 (x.o 5), .int .u32 (x.oi 0), .int .u32 (x.oi 1), .int .u32 (x.oi 2), .int .u32 (x.oi 3)] _ HRO.out Tryd.underlying49 rfl obj_info19 ?_)
  refine (HR.out _).mono ?_
  rintro e3 w3 ⟨rfl, k3'⟩
  have HS3 := Lib.hid (HS2.out.none k3')
  have HB3 := Lib.hid (HB2.out.trans (k3'.none.mono HB2.out.size))
  have HCP3 := Lib.hid (HCP2.out.none k3')
  have hc3 : w3.heap[w.heap.size]? = some (.cells #[.int .i64 k, .int .i64 (i : Int), .int .u32 v.a, .int .u32 v.b, .int .u32 v.c, .int .u32 v.d, .int .u32 N] 43 (0, 0)) := HS3.out.at 1 rfl
  have hr4 : w3.heap[w.heap.size + 1]? = some (.cells #[.int .i64 0, .int .u32 0, .int .u32 0, .int .u32 0, .int .u32 0] 45 (0, 0)) := HS3.out.at 0 rfl
  clear k0 k1 k2 k3 k4 k5 k6 k3' HRO HCP2 HB2 HS2
  have k0 := cell_of hc3 0
  have k1 := cell_of hc3 1
  have k2 := cell_of hc3 2
  have k3 := cell_of hc3 3
  have k4 := cell_of hc3 4
  have k5 := cell_of hc3 5
  have k6 := cell_of hc3 6
  simp only [List.getElem?_toArray, List.getElem?_cons_zero, List.getElem?_cons_succ] at k0 k1 k2 k3 k4 k5 k6
  clear hc3
  have q0 := cell_of hr4 0
  have q1 := cell_of hr4 1
  have q2 := cell_of hr4 2
  have q3 := cell_of hr4 3
  have q4 := cell_of hr4 4
  have fq0 := free_of hr4 0
  have fq1 := free_of hr4 1
  have fq2 := free_of hr4 2
  have fq3 := free_of hr4 3
  have fq4 := free_of hr4 4
  simp only [List.getElem?_toArray, List.getElem?_cons_zero, List.getElem?_cons_succ] at q0 q1 q2 q3 q4
  have HR4 := Lib.hid hr4
  clear hr4
  have c0 : w3.cell? ⟨g1, i * 15, none⟩ = some (.int .i64 (2 : Int)) := by rw [← E0.out]; exact HCP3.out.fifteen HI.out 0 _ rfl
  have c1 : w3.cell? ⟨g1, i * 15 + 1, none⟩ = some (.int .i64 (x.o 1)) := HCP3.out.fifteen HI.out 1 _ rfl
  have c2 : w3.cell? ⟨g1, i * 15 + 2, none⟩ = some (.int .i64 (x.o 2)) := HCP3.out.fifteen HI.out 2 _ rfl
  have c10 : w3.cell? ⟨g1, i * 15 + 10, none⟩ = some (.slice (A i) x.row.length (C i)) := HCP3.out.fifteen HI.out 10 _ rfl
  have c11 : w3.cell? ⟨g1, i * 15 + 11, none⟩ = some (.int .u32 x.v.a) := HCP3.out.fifteen HI.out 11 _ rfl
  have c12 : w3.cell? ⟨g1, i * 15 + 12, none⟩ = some (.int .u32 x.v.b) := HCP3.out.fifteen HI.out 12 _ rfl
  have c13 : w3.cell? ⟨g1, i * 15 + 13, none⟩ = some (.int .u32 x.v.c) := HCP3.out.fifteen HI.out 13 _ rfl
  have c14 : w3.cell? ⟨g1, i * 15 + 14, none⟩ = some (.int .u32 x.v.d) := HCP3.out.fifteen HI.out 14 _ rfl
  have f10 : w3.frozen? ⟨g1, i * 15 + 10, none⟩ = false := free_of HCP3.out.blk (i * 15 + 10)
  have f11 : w3.frozen? ⟨g1, i * 15 + 11, none⟩ = false := free_of HCP3.out.blk (i * 15 + 11)
  have f12 : w3.frozen? ⟨g1, i * 15 + 12, none⟩ = false := free_of HCP3.out.blk (i * 15 + 12)
  have f13 : w3.frozen? ⟨g1, i * 15 + 13, none⟩ = false := free_of HCP3.out.blk (i * 15 + 13)
  have f14 : w3.frozen? ⟨g1, i * 15 + 14, none⟩ = false := free_of HCP3.out.blk (i * 15 + 14)
  go_wp2_with fail
  clear q0 q1 q2 q3 q4 fq0 fq1 fq2 fq3 fq4 c0 c1 c2 c10 c11 c12 c13 c14 f10 f11 f12 f13 f14 k0 k1 k2 k3 k4 k5 k6
  have HB5 := Lib.hid (below_drew HB3.out)
  have HR5 := Lib.hid (show w3.drew.heap[w.heap.size + 1]? = some (.cells #[.int .i64 0, .int .u32 0, .int .u32 0, .int .u32 0, .int .u32 0] 45 (0, 0)) from HR4.out)
  have HCP5 := Lib.hid (HCP3.out.none (Keeps.refl _ w3).drew)
  have HX5 := Lib.hid (show w3.drew.heap[w.heap.size]? = some (.cells #[.int .i64 k, .int .i64 (i : Int), .int .u32 v.a, .int .u32 v.b, .int .u32 v.c, .int .u32 v.d, .int .u32 N] 43 (0, 0)) from HS3.out.at 1 rfl)
  have HC25 := Lib.hid (show w3.drew.cell? ⟨g1, i * 15 + 2, none⟩ = some (.int .i64 (m : Int)) from (HCP5.out.fifteen HI.out 2 _ rfl).trans (by rw [HMM.out]))
  refine wp_region_noPanic ?_
  refine wp_region_held_drew (S := (fun W => W.cell? ⟨g1, i * 15 + 2, none⟩ = some (.int .i64 (m : Int)) ∧ W.rangeAt w.heap.size 2 [.int .u32 v.a, .int .u32 v.b, .int .u32 v.c, .int .u32 v.d])) (by kernel_rfl) ?_ (fun hHeld => ?_)
  · exact ⟨HC25.out, box4 HX5.out⟩
  generalize w3.drew = w5 at *
  refine wpAnyH_take (i := 0) (v := ?_) rfl (by kernel_rfl) (by kernel_rfl) (by kernel_rfl) (fun _ _ _ h => h) (Or.inl ⟨by rfl, ?_⟩) (by assumption) ?_
  rotate_left
  · (intro w hSw; (try dsimp only at hSw); go_simp; try with_reducible rfl)
  simp only [Act.put, List.getElem_toArray, List.getElem_cons_zero, List.getElem_cons_succ, List.setIfInBounds_toArray, List.set_cons_zero, List.set_cons_succ]
  refine wpAnyH_take (i := 1) (v := ?_) rfl (by kernel_rfl) (by kernel_rfl) (by kernel_rfl) (fun _ _ _ h => h) (Or.inl ⟨by rfl, ?_⟩) (by assumption) ?_
  rotate_left
  · (intro w hSw; (try dsimp only at hSw); go_simp; try with_reducible rfl)
  simp only [Act.put, List.getElem_toArray, List.getElem_cons_zero, List.getElem_cons_succ, List.setIfInBounds_toArray, List.set_cons_zero, List.set_cons_succ]
  refine wpAnyH_take (i := 2) (v := .agg [.int .u32 v.a, .int .u32 v.b, .int .u32 v.c, .int .u32 v.d].toArray) rfl (by kernel_rfl) (by kernel_rfl) (by kernel_rfl) (fun _ _ _ h => h) (yieldsIf_load_mid (by rfl) 41 (.tmp 148) rfl w.heap.size 2 rfl [.int .u32 v.a, .int .u32 v.b, .int .u32 v.c, .int .u32 v.d] _ (fun w h => h.2) Tryd.underlying41 rfl val_info19) (by assumption) ?_
  simp only [Act.put, List.getElem_toArray, List.getElem_cons_zero, List.getElem_cons_succ, List.setIfInBounds_toArray, List.set_cons_zero, List.set_cons_succ]
  refine wpAnyH_take (i := 3) (v := ?_) rfl (by kernel_rfl) (by kernel_rfl) (by kernel_rfl) (fun _ _ _ h => h) (Or.inl ⟨by rfl, ?_⟩) (by assumption) ?_
  rotate_left
  · (intro w hSw; (try dsimp only at hSw); go_simp; try with_reducible rfl)
  simp only [Act.put, List.getElem_toArray, List.getElem_cons_zero, List.getElem_cons_succ, List.setIfInBounds_toArray, List.set_cons_zero, List.set_cons_succ]
  refine wpAnyH_take (i := 4) (v := ?_) rfl (by kernel_rfl) (by kernel_rfl) (by kernel_rfl) (fun _ _ _ h => h) (Or.inl ⟨by rfl, ?_⟩) (by assumption) ?_
  rotate_left
  · (intro w hSw; (try dsimp only at hSw); go_simp; try with_reducible rfl)
  simp only [Act.put, List.getElem_toArray, List.getElem_cons_zero, List.getElem_cons_succ, List.setIfInBounds_toArray, List.set_cons_zero, List.set_cons_succ]
  refine wpAnyH_take (i := 5) (v := ?_) rfl (by kernel_rfl) (by kernel_rfl) (by kernel_rfl) (fun _ _ _ h => h) (Or.inl ⟨by rfl, ?_⟩) (by assumption) ?_
  rotate_left
  · (intro w hSw; (try dsimp only at hSw); go_simp; try with_reducible rfl)
  simp only [Act.put, List.getElem_toArray, List.getElem_cons_zero, List.getElem_cons_succ, List.setIfInBounds_toArray, List.set_cons_zero, List.set_cons_succ]
  refine wpAnyH_take (i := 6) (v := ?_) rfl (by kernel_rfl) (by kernel_rfl) (by kernel_rfl) (fun _ _ _ h => h) (Or.inl ⟨by rfl, ?_⟩) (by assumption) ?_
  rotate_left
  · (intro w hSw; (try dsimp only at hSw); go_simp; try with_reducible rfl)
  simp only [Act.put, List.getElem_toArray, List.getElem_cons_zero, List.getElem_cons_succ, List.setIfInBounds_toArray, List.set_cons_zero, List.set_cons_succ]
  refine wpAnyH_take (i := 7) (v := ?_) rfl (by kernel_rfl) (by kernel_rfl) (by kernel_rfl) (fun _ _ _ h => h) (Or.inl ⟨by rfl, ?_⟩) (by assumption) ?_
  rotate_left
  · (intro w hSw; (try dsimp only at hSw); go_simp; try with_reducible rfl)
  simp only [Act.put, List.getElem_toArray, List.getElem_cons_zero, List.getElem_cons_succ, List.setIfInBounds_toArray, List.set_cons_zero, List.set_cons_succ]
  refine wpAnyH_ready (rs := [8]) (by kernel_rfl) (by simp) ?_
  refine AllReadyH.cons rfl (fun K hK => ?_) AllReadyH.nil
  go_simp
  go_at_call 55
  refine (HC.out _).mono ?_
  rintro e4 w4 ⟨rfl, k4'⟩
  have HCP4 := Lib.hid (HCP5.out.none k4')
  have HB4 := Lib.hid (HB5.out.trans (k4'.none.mono HB5.out.size))
  have HR4b := Lib.hid (k4'.at HR5.out (fun h => h))
  have HX4 := Lib.hid (k4'.at HX5.out (fun h => h))
  have HC24 := Lib.hid (show w4.cell? ⟨g1, i * 15 + 2, none⟩ = some (.int .i64 (m : Int)) from (HCP4.out.fifteen HI.out 2 _ rfl).trans (by rw [HMM.out]))
  clear k4'
  dsimp only
  refine hK.out _ _ ?_ (fun hHeld => ?_)
  · ((try dsimp only); exact ⟨HC24.out, box4 HX4.out⟩)
  clear hK K
  try simp only [Act.put, List.getElem_toArray, List.getElem_cons_zero, List.getElem_cons_succ, List.setIfInBounds_toArray, List.set_cons_zero, List.set_cons_succ]
  refine wpAnyH_take (i := 9) (v := ?_) rfl (by kernel_rfl) (by kernel_rfl) (by kernel_rfl) (fun _ _ _ h => h) (Or.inl ⟨by rfl, ?_⟩) (by assumption) ?_
  rotate_left
  · (intro w hSw; (try dsimp only at hSw); go_simp; try with_reducible rfl)
  simp only [Act.put, List.getElem_toArray, List.getElem_cons_zero, List.getElem_cons_succ, List.setIfInBounds_toArray, List.set_cons_zero, List.set_cons_succ]
  refine wpAnyH_take (i := 10) (v := ?_) rfl (by kernel_rfl) (by kernel_rfl) (by kernel_rfl) (fun _ _ _ h => h) (Or.inl ⟨by rfl, ?_⟩) (by assumption) ?_
  rotate_left
  · (intro w hSw; (try dsimp only at hSw); go_simp; try with_reducible rfl)
  simp only [Act.put, List.getElem_toArray, List.getElem_cons_zero, List.getElem_cons_succ, List.setIfInBounds_toArray, List.set_cons_zero, List.set_cons_succ]
  have y11 : w4.cell? ⟨g1, i * 15 + 11, none⟩ = _ := HCP4.out.fifteen HI.out 11 _ rfl
  have y12 : w4.cell? ⟨g1, i * 15 + 12, none⟩ = _ := HCP4.out.fifteen HI.out 12 _ rfl
  have y13 : w4.cell? ⟨g1, i * 15 + 13, none⟩ = _ := HCP4.out.fifteen HI.out 13 _ rfl
  have y14 : w4.cell? ⟨g1, i * 15 + 14, none⟩ = _ := HCP4.out.fifteen HI.out 14 _ rfl
  have z11 : w4.frozen? ⟨g1, i * 15 + 11, none⟩ = false := free_of HCP4.out.blk (i * 15 + 11)
  have z12 : w4.frozen? ⟨g1, i * 15 + 12, none⟩ = false := free_of HCP4.out.blk (i * 15 + 12)
  have z13 : w4.frozen? ⟨g1, i * 15 + 13, none⟩ = false := free_of HCP4.out.blk (i * 15 + 13)
  have z14 : w4.frozen? ⟨g1, i * 15 + 14, none⟩ = false := free_of HCP4.out.blk (i * 15 + 14)
  refine wpAnyH_ready (rs := [11]) (by kernel_rfl) (by simp) ?_
  refine AllReadyH.cons rfl (fun K hK => ?_) AllReadyH.nil
  go_simp
  refine hK.out _ _ ?_ (fun hHeld => ?_)
  · ((try dsimp only); exact ⟨off_set (off_set (off_set (off_set HC24.out (by omega)) (by omega)) (by omega)) (by omega), farR (farR (farR (farR (box4 HX4.out) (by omega)) (by omega)) (by omega)) (by omega)⟩)
  clear hK K
  try simp only [Act.put, List.getElem_toArray, List.getElem_cons_zero, List.getElem_cons_succ, List.setIfInBounds_toArray, List.set_cons_zero, List.set_cons_succ]
  refine wpAnyH_done (by kernel_rfl) ?_ _
  refine NoPanic.normal ?_
  clear HB5 HR5
  have HB5 := Lib.hid (show Below w.heap.size w ((((w4.setCell ⟨g1, i * 15 + 11, none⟩ (.int .u32 (clipP m 0 v.a))).setCell ⟨g1, i * 15 + 11 + 1, none⟩ (.int .u32 (clipP m 1 v.b))).setCell ⟨g1, i * 15 + 11 + 2, none⟩ (.int .u32 (clipP m 2 v.c))).setCell ⟨g1, i * 15 + 11 + 3, none⟩ (.int .u32 (clipP m 3 v.d))) from ((((HB4.out.setCell (p := ⟨g1, i * 15 + 11, none⟩) (by show w.heap.size ≤ g1; omega) _).setCell (p := ⟨g1, i * 15 + 11 + 1, none⟩) (by show w.heap.size ≤ g1; omega) _).setCell (p := ⟨g1, i * 15 + 11 + 2, none⟩) (by show w.heap.size ≤ g1; omega) _).setCell (p := ⟨g1, i * 15 + 11 + 3, none⟩) (by show w.heap.size ≤ g1; omega) _))
  have HK5 := Lib.hid (show Keeps (fun j => j = g1 ∨ j < w.heap.size + 2) w4 ((((w4.setCell ⟨g1, i * 15 + 11, none⟩ (.int .u32 (clipP m 0 v.a))).setCell ⟨g1, i * 15 + 11 + 1, none⟩ (.int .u32 (clipP m 1 v.b))).setCell ⟨g1, i * 15 + 11 + 2, none⟩ (.int .u32 (clipP m 2 v.c))).setCell ⟨g1, i * 15 + 11 + 3, none⟩ (.int .u32 (clipP m 3 v.d))) from (((((Keeps.refl _ w4).setCell (p := ⟨g1, i * 15 + 11, none⟩) (.inl (.inl rfl)) _).setCell (p := ⟨g1, i * 15 + 11 + 1, none⟩) (.inl (.inl rfl)) _).setCell (p := ⟨g1, i * 15 + 11 + 2, none⟩) (.inl (.inl rfl)) _).setCell (p := ⟨g1, i * 15 + 11 + 3, none⟩) (.inl (.inl rfl)) _))
  have HG5 := Lib.hid (show ((((w4.setCell ⟨g1, i * 15 + 11, none⟩ (.int .u32 (clipP m 0 v.a))).setCell ⟨g1, i * 15 + 11 + 1, none⟩ (.int .u32 (clipP m 1 v.b))).setCell ⟨g1, i * 15 + 11 + 2, none⟩ (.int .u32 (clipP m 2 v.c))).setCell ⟨g1, i * 15 + 11 + 3, none⟩ (.int .u32 (clipP m 3 v.d))).heap[g1]? = some (.cells ((((cur.setIfInBounds (i * 15 + 11) (.int .u32 (v.clip m).a)).setIfInBounds (i * 15 + 12) (.int .u32 (v.clip m).b)).setIfInBounds (i * 15 + 13) (.int .u32 (v.clip m).c)).setIfInBounds (i * 15 + 14) (.int .u32 (v.clip m).d)) 103 (0, 0)) from (heap_set (heap_set (heap_set (heap_set HCP4.out.blk (i * 15 + 11) _) (i * 15 + 12) _) (i * 15 + 13) _) (i * 15 + 14) _))
  have hr5 : ((((w4.setCell ⟨g1, i * 15 + 11, none⟩ (.int .u32 (clipP m 0 v.a))).setCell ⟨g1, i * 15 + 11 + 1, none⟩ (.int .u32 (clipP m 1 v.b))).setCell ⟨g1, i * 15 + 11 + 2, none⟩ (.int .u32 (clipP m 2 v.c))).setCell ⟨g1, i * 15 + 11 + 3, none⟩ (.int .u32 (clipP m 3 v.d))).heap[w.heap.size + 1]? = some (.cells #[.int .i64 0, .int .u32 0, .int .u32 0, .int .u32 0, .int .u32 0] 45 (0, 0)) := (heap_other (heap_other (heap_other (heap_other HR4b.out (by show w.heap.size + 1 ≠ g1; omega) _) (by show w.heap.size + 1 ≠ g1; omega) _) (by show w.heap.size + 1 ≠ g1; omega) _) (by show w.heap.size + 1 ≠ g1; omega) _)
  generalize ((((w4.setCell ⟨g1, i * 15 + 11, none⟩ (.int .u32 (clipP m 0 v.a))).setCell ⟨g1, i * 15 + 11 + 1, none⟩ (.int .u32 (clipP m 1 v.b))).setCell ⟨g1, i * 15 + 11 + 2, none⟩ (.int .u32 (clipP m 2 v.c))).setCell ⟨g1, i * 15 + 11 + 3, none⟩ (.int .u32 (clipP m 3 v.d))) = W5 at *
  have q0 := cell_of hr5 0
  have q1 := cell_of hr5 1
  have q2 := cell_of hr5 2
  have q3 := cell_of hr5 3
  have q4 := cell_of hr5 4
  have fq0 := free_of hr5 0
  have fq1 := free_of hr5 1
  have fq2 := free_of hr5 2
  have fq3 := free_of hr5 3
  have fq4 := free_of hr5 4
  simp only [List.getElem?_toArray, List.getElem?_cons_zero, List.getElem?_cons_succ] at q0 q1 q2 q3 q4
  have HR5 := Lib.hid hr5
  clear hr5
  clear y11 y12 y13 y14 z11 z12 z13 z14
  go_wp2_with fail
  refine bodyPost_ret (res_do _ _ (some ⟨g1, 0, none⟩) n cap1 (w.heap.size + 1) ⟨0, ⟨0, 0, 0, 0⟩⟩ rfl rfl ?_) rfl ?_
  · exact range_heap (heap_set (heap_set (heap_set (heap_set (heap_set HR5.out 0 _) 1 _) 2 _) 3 _) 4 _) rfl
  have hbz := HB5.out
  exact ⟨(((((hbz.setCell (p := ⟨w.heap.size + 1, 0, none⟩) (by show w.heap.size ≤ w.heap.size + 1; omega) _).setCell (p := ⟨w.heap.size + 1, 1, none⟩) (by show w.heap.size ≤ w.heap.size + 1; omega) _).setCell (p := ⟨w.heap.size + 1, 2, none⟩) (by show w.heap.size ≤ w.heap.size + 1; omega) _).setCell (p := ⟨w.heap.size + 1, 3, none⟩) (by show w.heap.size ≤ w.heap.size + 1; omega) _).setCell (p := ⟨w.heap.size + 1, 4, none⟩) (by show w.heap.size ≤ w.heap.size + 1; omega) _), some ⟨g1, 0, none⟩, cap1, rfl, fun _ => ⟨g1, rfl, HCP4.out.words HI.out (v.clip m) (((((HK5.out.setCell (p := ⟨w.heap.size + 1, 0, none⟩) (.inl (.inr (by show w.heap.size + 1 < w.heap.size + 2; omega))) _).setCell (p := ⟨w.heap.size + 1, 1, none⟩) (.inl (.inr (by show w.heap.size + 1 < w.heap.size + 2; omega))) _).setCell (p := ⟨w.heap.size + 1, 2, none⟩) (.inl (.inr (by show w.heap.size + 1 < w.heap.size + 2; omega))) _).setCell (p := ⟨w.heap.size + 1, 3, none⟩) (.inl (.inr (by show w.heap.size + 1 < w.heap.size + 2; omega))) _).setCell (p := ⟨w.heap.size + 1, 4, none⟩) (.inl (.inr (by show w.heap.size + 1 < w.heap.size + 2; omega))) _) (heap_other (heap_other (heap_other (heap_other (heap_other HG5.out (by show g1 ≠ w.heap.size + 1; omega) _) (by show g1 ≠ w.heap.size + 1; omega) _) (by show g1 ≠ w.heap.size + 1; omega) _) (by show g1 ≠ w.heap.size + 1; omega) _) (by show g1 ≠ w.heap.size + 1; omega) _)⟩⟩
set_option maxRecDepth 100000 in
set_option maxHeartbeats 16000000 in
theorem rdo_put3 (w : World) (a : Option Addr) (c : Nat) (L : List ItemD) (h : StateR w a L) (ok : ∀ x, x ∈ L → x.Ok) (hn : L.length ≤ 1000) (k N : Int) (hki : i64B k) (v : W4) (hv : v.Ok) (i : Nat) (x : ItemD) (hi : L[i]? = some x) (hK : kindP x.o = 3) (hkk : plainP k = 3) (m : Nat) (hm : x.o 2 = (m : Int)) (hm4 : m ≤ 4) :
    Calls Tryd.prog 41 #[.slice a L.length c, .agg #[.int .i64 k, .int .i64 (i : Int), .int .u32 v.a, .int .u32 v.b, .int .u32 v.c, .int .u32 v.d, .int .u32 N]] w (DoesR w L.length (L.set i {x with v := v.clip m}, res9 0)) := by
  have hil := (List.getElem?_eq_some_iff.1 hi).1
  have okx := ok x (List.mem_of_getElem? hi)
  have HB0 := Lib.hid (show Below w.heap.size w ((w.alloc (.cells #[.int .i64 k, .int .i64 (i : Int), .int .u32 v.a, .int .u32 v.b, .int .u32 v.c, .int .u32 v.d, .int .u32 N] 43)).alloc (.cells #[.int .i64 0, .int .u32 0, .int .u32 0, .int .u32 0, .int .u32 0] 45)) from ((Below.refl _ w).alloc (Nat.le_refl _) _).alloc (by simp) _)
  have HS0 := Lib.hid (show Has w ((w.alloc (.cells #[.int .i64 k, .int .i64 (i : Int), .int .u32 v.a, .int .u32 v.b, .int .u32 v.c, .int .u32 v.d, .int .u32 N] 43)).alloc (.cells #[.int .i64 0, .int .u32 0, .int .u32 0, .int .u32 0, .int .u32 0] 45)) [(w.heap.size + 1, .cells #[.int .i64 0, .int .u32 0, .int .u32 0, .int .u32 0, .int .u32 0] 45 (0, 0)), (w.heap.size, .cells #[.int .i64 k, .int .i64 (i : Int), .int .u32 v.a, .int .u32 v.b, .int .u32 v.c, .int .u32 v.d, .int .u32 N] 43 (0, 0))] from (((Has.start w).alloc (.cells #[.int .i64 k, .int .i64 (i : Int), .int .u32 v.a, .int .u32 v.b, .int .u32 v.c, .int .u32 v.d, .int .u32 N] 43)).alloc (.cells #[.int .i64 0, .int .u32 0, .int .u32 0, .int .u32 0, .int .u32 0] 45)).eq (by simp))
  have HST := Lib.hid h
  have HP := Lib.hid (fun w => rplain_any w k hki)
  obtain ⟨n, hne⟩ : ∃ n, L.length = n := ⟨_, rfl⟩
  have HN := Lib.hid hne
  have HCO := Lib.hid (fun w a c h => rcopied_any w a c L h ok hn n hne (by omega))
  have HR := Lib.hid (fun w => rright_all x.o x.oi w (okx.o 1 (by omega)))
  have hr0 := kindR (by omega : kindP x.o ≠ 0)
  rw [hr0.1] at HR
  unfold objC at HR
  have e0 : x.o 0 = 3 := by rw [← hr0.2, hK]
  have E0 := Lib.hid e0
  rw [e0] at HR
  clear hr0 e0
  have HK := Lib.hid hK
  have HOK := Lib.hid okx
  have HMM := Lib.hid hm
  have HC : Hid (∀ w, Calls Tryd.prog 55 #[.agg v.cells, .int .i64 (m : Int)] w fun e w' => e = .returned (.agg #[.int .u32 (clipP m 0 v.a), .int .u32 (clipP m 1 v.b), .int .u32 (clipP m 2 v.c), .int .u32 (clipP m 3 v.d)]) ∧ Keeps (fun _ => False) w w') := Lib.hid (fun w => rclip_any w v m (by omega))
  clear hm
  rw [hne] at hil
  have d3 : decide ((i : Int) < 0) = false := decide_eq_false (by omega)
  have d4 : decide ((n : Int) ≤ (i : Int)) = false := decide_eq_false (by omega)
  have d5 : decide (n ≤ i) = false := decide_eq_false (by omega)
  have d6 : decide (i < n) = true := decide_eq_true hil
  rw [hne]
  have HI := Lib.hid hi
  clear h ok hv hne hi okx hK hn
  rw [hkk] at HP
  clear hki hkk
  go_enter Tryd.func41, Tryd.ntmps41
  go_wp2_with fail
  refine (HP.out _).mono ?_
  rintro e1 w1 ⟨rfl, hw1⟩
  obtain rfl := hw1.symm
  go_wp2_with fail
  refine (HCO.out _ a c (HST.out.below HB0.out)).mono ?_
  rintro e2 w2 ⟨g1, cap1, cur, A, C, rfl, hcap, hcp, hb2⟩
  have HS2 := Lib.hid (HS0.out.none (Keeps.ofBelow hb2))
  have HB2 := Lib.hid (HB0.out.trans (hb2.mono (by simp only [World.size_alloc]; omega)))
  have hBB : ((w.alloc (.cells #[.int .i64 k, .int .i64 (i : Int), .int .u32 v.a, .int .u32 v.b, .int .u32 v.c, .int .u32 v.d, .int .u32 N] 43)).alloc (.cells #[.int .i64 0, .int .u32 0, .int .u32 0, .int .u32 0, .int .u32 0] 45)).heap.size = w.heap.size + 2 := by rw [World.size_alloc, World.size_alloc]
  rw [hBB] at hcp
  clear hBB
  have HCP2 := Lib.hid hcp
  have HCAP := Lib.hid hcap
  have hg1 : w.heap.size + 2 ≤ g1 := hcp.ge
  have hc2 : w2.heap[w.heap.size]? = some (.cells #[.int .i64 k, .int .i64 (i : Int), .int .u32 v.a, .int .u32 v.b, .int .u32 v.c, .int .u32 v.d, .int .u32 N] 43 (0, 0)) := HS2.out.at 1 rfl
  clear hb2 hcp hcap
  have k0 := cell_of hc2 0
  have k1 := cell_of hc2 1
  have k2 := cell_of hc2 2
  have k3 := cell_of hc2 3
  have k4 := cell_of hc2 4
  have k5 := cell_of hc2 5
  have k6 := cell_of hc2 6
  simp only [List.getElem?_toArray, List.getElem?_cons_zero, List.getElem?_cons_succ] at k0 k1 k2 k3 k4 k5 k6
  clear hc2
  have HRO := Lib.hid (show w2.rangeAt g1 (i * 15) [.int .i64 (3 : Int), .int .i64 (x.o 1), .int .i64 (x.o 2), .int .i64 (x.o 3), .int .i64 (x.o 4), .int .i64 (x.o 5), .int .u32 (x.oi 0), .int .u32 (x.oi 1), .int .u32 (x.oi 2), .int .u32 (x.oi 3)] from fun j u hu => HCP2.out.fifteen HI.out j u (obj_partR x (A i) x.row.length (C i) j u (by rw [E0.out]; exact hu)))
  go_wp2_with (refine wpList_load_mid rfl 49 _ rfl g1 (i * 15) rfl [.int .i64 (3 : Int), .int .i64 (x.o 1), .int .i64 (x.o 2), .int .i64 (x.o 3), .int .i64 (x.o 4), .int .i64 (x.o 5), .int .u32 (x.oi 0), .int .u32 (x.oi 1), .int .u32 (x.oi 2), .int .u32 (x.oi 3)] _ HRO.out Tryd.underlying49 rfl obj_info19 ?_)
  refine (HR.out _).mono ?_
  rintro e3 w3 ⟨rfl, k3'⟩
  have HS3 := Lib.hid (HS2.out.none k3')
  have HB3 := Lib.hid (HB2.out.trans (k3'.none.mono HB2.out.size))
  have HCP3 := Lib.hid (HCP2.out.none k3')
  have hc3 : w3.heap[w.heap.size]? = some (.cells #[.int .i64 k, .int .i64 (i : Int), .int .u32 v.a, .int .u32 v.b, .int .u32 v.c, .int .u32 v.d, .int .u32 N] 43 (0, 0)) := HS3.out.at 1 rfl
  have hr4 : w3.heap[w.heap.size + 1]? = some (.cells #[.int .i64 0, .int .u32 0, .int .u32 0, .int .u32 0, .int .u32 0] 45 (0, 0)) := HS3.out.at 0 rfl
  clear k0 k1 k2 k3 k4 k5 k6 k3' HRO HCP2 HB2 HS2
  have k0 := cell_of hc3 0
  have k1 := cell_of hc3 1
  have k2 := cell_of hc3 2
  have k3 := cell_of hc3 3
  have k4 := cell_of hc3 4
  have k5 := cell_of hc3 5
  have k6 := cell_of hc3 6
  simp only [List.getElem?_toArray, List.getElem?_cons_zero, List.getElem?_cons_succ] at k0 k1 k2 k3 k4 k5 k6
  clear hc3
  have q0 := cell_of hr4 0
  have q1 := cell_of hr4 1
  have q2 := cell_of hr4 2
  have q3 := cell_of hr4 3
  have q4 := cell_of hr4 4
  have fq0 := free_of hr4 0
  have fq1 := free_of hr4 1
  have fq2 := free_of hr4 2
  have fq3 := free_of hr4 3
  have fq4 := free_of hr4 4
  simp only [List.getElem?_toArray, List.getElem?_cons_zero, List.getElem?_cons_succ] at q0 q1 q2 q3 q4
  have HR4 := Lib.hid hr4
  clear hr4
  have c0 : w3.cell? ⟨g1, i * 15, none⟩ = some (.int .i64 (3 : Int)) := by rw [← E0.out]; exact HCP3.out.fifteen HI.out 0 _ rfl
  have c1 : w3.cell? ⟨g1, i * 15 + 1, none⟩ = some (.int .i64 (x.o 1)) := HCP3.out.fifteen HI.out 1 _ rfl
  have c2 : w3.cell? ⟨g1, i * 15 + 2, none⟩ = some (.int .i64 (x.o 2)) := HCP3.out.fifteen HI.out 2 _ rfl
  have c10 : w3.cell? ⟨g1, i * 15 + 10, none⟩ = some (.slice (A i) x.row.length (C i)) := HCP3.out.fifteen HI.out 10 _ rfl
  have c11 : w3.cell? ⟨g1, i * 15 + 11, none⟩ = some (.int .u32 x.v.a) := HCP3.out.fifteen HI.out 11 _ rfl
  have c12 : w3.cell? ⟨g1, i * 15 + 12, none⟩ = some (.int .u32 x.v.b) := HCP3.out.fifteen HI.out 12 _ rfl
  have c13 : w3.cell? ⟨g1, i * 15 + 13, none⟩ = some (.int .u32 x.v.c) := HCP3.out.fifteen HI.out 13 _ rfl
  have c14 : w3.cell? ⟨g1, i * 15 + 14, none⟩ = some (.int .u32 x.v.d) := HCP3.out.fifteen HI.out 14 _ rfl
  have f10 : w3.frozen? ⟨g1, i * 15 + 10, none⟩ = false := free_of HCP3.out.blk (i * 15 + 10)
  have f11 : w3.frozen? ⟨g1, i * 15 + 11, none⟩ = false := free_of HCP3.out.blk (i * 15 + 11)
  have f12 : w3.frozen? ⟨g1, i * 15 + 12, none⟩ = false := free_of HCP3.out.blk (i * 15 + 12)
  have f13 : w3.frozen? ⟨g1, i * 15 + 13, none⟩ = false := free_of HCP3.out.blk (i * 15 + 13)
  have f14 : w3.frozen? ⟨g1, i * 15 + 14, none⟩ = false := free_of HCP3.out.blk (i * 15 + 14)
  go_wp2_with fail
  clear q0 q1 q2 q3 q4 fq0 fq1 fq2 fq3 fq4 c0 c1 c2 c10 c11 c12 c13 c14 f10 f11 f12 f13 f14 k0 k1 k2 k3 k4 k5 k6
  have HB5 := Lib.hid (below_drew HB3.out)
  have HR5 := Lib.hid (show w3.drew.heap[w.heap.size + 1]? = some (.cells #[.int .i64 0, .int .u32 0, .int .u32 0, .int .u32 0, .int .u32 0] 45 (0, 0)) from HR4.out)
  have HCP5 := Lib.hid (HCP3.out.none (Keeps.refl _ w3).drew)
  have HX5 := Lib.hid (show w3.drew.heap[w.heap.size]? = some (.cells #[.int .i64 k, .int .i64 (i : Int), .int .u32 v.a, .int .u32 v.b, .int .u32 v.c, .int .u32 v.d, .int .u32 N] 43 (0, 0)) from HS3.out.at 1 rfl)
  have HC25 := Lib.hid (show w3.drew.cell? ⟨g1, i * 15 + 2, none⟩ = some (.int .i64 (m : Int)) from (HCP5.out.fifteen HI.out 2 _ rfl).trans (by rw [HMM.out]))
  refine wp_region_noPanic ?_
  refine wp_region_held_drew (S := (fun W => W.cell? ⟨g1, i * 15 + 2, none⟩ = some (.int .i64 (m : Int)) ∧ W.rangeAt w.heap.size 2 [.int .u32 v.a, .int .u32 v.b, .int .u32 v.c, .int .u32 v.d])) (by kernel_rfl) ?_ (fun hHeld => ?_)
  · exact ⟨HC25.out, box4 HX5.out⟩
  generalize w3.drew = w5 at *
  refine wpAnyH_take (i := 0) (v := ?_) rfl (by kernel_rfl) (by kernel_rfl) (by kernel_rfl) (fun _ _ _ h => h) (Or.inl ⟨by rfl, ?_⟩) (by assumption) ?_
  rotate_left
  · (intro w hSw; (try dsimp only at hSw); go_simp; try with_reducible rfl)
  simp only [Act.put, List.getElem_toArray, List.getElem_cons_zero, List.getElem_cons_succ, List.setIfInBounds_toArray, List.set_cons_zero, List.set_cons_succ]
  refine wpAnyH_take (i := 1) (v := ?_) rfl (by kernel_rfl) (by kernel_rfl) (by kernel_rfl) (fun _ _ _ h => h) (Or.inl ⟨by rfl, ?_⟩) (by assumption) ?_
  rotate_left
  · (intro w hSw; (try dsimp only at hSw); go_simp; try with_reducible rfl)
  simp only [Act.put, List.getElem_toArray, List.getElem_cons_zero, List.getElem_cons_succ, List.setIfInBounds_toArray, List.set_cons_zero, List.set_cons_succ]
  refine wpAnyH_take (i := 2) (v := .agg [.int .u32 v.a, .int .u32 v.b, .int .u32 v.c, .int .u32 v.d].toArray) rfl (by kernel_rfl) (by kernel_rfl) (by kernel_rfl) (fun _ _ _ h => h) (yieldsIf_load_mid (by rfl) 41 (.tmp 148) rfl w.heap.size 2 rfl [.int .u32 v.a, .int .u32 v.b, .int .u32 v.c, .int .u32 v.d] _ (fun w h => h.2) Tryd.underlying41 rfl val_info19) (by assumption) ?_
  simp only [Act.put, List.getElem_toArray, List.getElem_cons_zero, List.getElem_cons_succ, List.setIfInBounds_toArray, List.set_cons_zero, List.set_cons_succ]
  refine wpAnyH_take (i := 3) (v := ?_) rfl (by kernel_rfl) (by kernel_rfl) (by kernel_rfl) (fun _ _ _ h => h) (Or.inl ⟨by rfl, ?_⟩) (by assumption) ?_
  rotate_left
  · (intro w hSw; (try dsimp only at hSw); go_simp; try with_reducible rfl)
  simp only [Act.put, List.getElem_toArray, List.getElem_cons_zero, List.getElem_cons_succ, List.setIfInBounds_toArray, List.set_cons_zero, List.set_cons_succ]
  refine wpAnyH_take (i := 4) (v := ?_) rfl (by kernel_rfl) (by kernel_rfl) (by kernel_rfl) (fun _ _ _ h => h) (Or.inl ⟨by rfl, ?_⟩) (by assumption) ?_
  rotate_left
  · (intro w hSw; (try dsimp only at hSw); go_simp; try with_reducible rfl)
  simp only [Act.put, List.getElem_toArray, List.getElem_cons_zero, List.getElem_cons_succ, List.setIfInBounds_toArray, List.set_cons_zero, List.set_cons_succ]
  refine wpAnyH_take (i := 5) (v := ?_) rfl (by kernel_rfl) (by kernel_rfl) (by kernel_rfl) (fun _ _ _ h => h) (Or.inl ⟨by rfl, ?_⟩) (by assumption) ?_
  rotate_left
  · (intro w hSw; (try dsimp only at hSw); go_simp; try with_reducible rfl)
  simp only [Act.put, List.getElem_toArray, List.getElem_cons_zero, List.getElem_cons_succ, List.setIfInBounds_toArray, List.set_cons_zero, List.set_cons_succ]
  refine wpAnyH_take (i := 6) (v := ?_) rfl (by kernel_rfl) (by kernel_rfl) (by kernel_rfl) (fun _ _ _ h => h) (Or.inl ⟨by rfl, ?_⟩) (by assumption) ?_
  rotate_left
  · (intro w hSw; (try dsimp only at hSw); go_simp; try with_reducible rfl)
  simp only [Act.put, List.getElem_toArray, List.getElem_cons_zero, List.getElem_cons_succ, List.setIfInBounds_toArray, List.set_cons_zero, List.set_cons_succ]
  refine wpAnyH_take (i := 7) (v := ?_) rfl (by kernel_rfl) (by kernel_rfl) (by kernel_rfl) (fun _ _ _ h => h) (Or.inl ⟨by rfl, ?_⟩) (by assumption) ?_
  rotate_left
  · (intro w hSw; (try dsimp only at hSw); go_simp; try with_reducible rfl)
  simp only [Act.put, List.getElem_toArray, List.getElem_cons_zero, List.getElem_cons_succ, List.setIfInBounds_toArray, List.set_cons_zero, List.set_cons_succ]
  refine wpAnyH_ready (rs := [8]) (by kernel_rfl) (by simp) ?_
  refine AllReadyH.cons rfl (fun K hK => ?_) AllReadyH.nil
  go_simp
  go_at_call 55
  refine (HC.out _).mono ?_
  rintro e4 w4 ⟨rfl, k4'⟩
  have HCP4 := Lib.hid (HCP5.out.none k4')
  have HB4 := Lib.hid (HB5.out.trans (k4'.none.mono HB5.out.size))
  have HR4b := Lib.hid (k4'.at HR5.out (fun h => h))
  have HX4 := Lib.hid (k4'.at HX5.out (fun h => h))
  have HC24 := Lib.hid (show w4.cell? ⟨g1, i * 15 + 2, none⟩ = some (.int .i64 (m : Int)) from (HCP4.out.fifteen HI.out 2 _ rfl).trans (by rw [HMM.out]))
  clear k4'
  dsimp only
  refine hK.out _ _ ?_ (fun hHeld => ?_)
  · ((try dsimp only); exact ⟨HC24.out, box4 HX4.out⟩)
  clear hK K
  try simp only [Act.put, List.getElem_toArray, List.getElem_cons_zero, List.getElem_cons_succ, List.setIfInBounds_toArray, List.set_cons_zero, List.set_cons_succ]
  refine wpAnyH_take (i := 9) (v := ?_) rfl (by kernel_rfl) (by kernel_rfl) (by kernel_rfl) (fun _ _ _ h => h) (Or.inl ⟨by rfl, ?_⟩) (by assumption) ?_
  rotate_left
  · (intro w hSw; (try dsimp only at hSw); go_simp; try with_reducible rfl)
  simp only [Act.put, List.getElem_toArray, List.getElem_cons_zero, List.getElem_cons_succ, List.setIfInBounds_toArray, List.set_cons_zero, List.set_cons_succ]
  refine wpAnyH_take (i := 10) (v := ?_) rfl (by kernel_rfl) (by kernel_rfl) (by kernel_rfl) (fun _ _ _ h => h) (Or.inl ⟨by rfl, ?_⟩) (by assumption) ?_
  rotate_left
  · (intro w hSw; (try dsimp only at hSw); go_simp; try with_reducible rfl)
  simp only [Act.put, List.getElem_toArray, List.getElem_cons_zero, List.getElem_cons_succ, List.setIfInBounds_toArray, List.set_cons_zero, List.set_cons_succ]
  have y11 : w4.cell? ⟨g1, i * 15 + 11, none⟩ = _ := HCP4.out.fifteen HI.out 11 _ rfl
  have y12 : w4.cell? ⟨g1, i * 15 + 12, none⟩ = _ := HCP4.out.fifteen HI.out 12 _ rfl
  have y13 : w4.cell? ⟨g1, i * 15 + 13, none⟩ = _ := HCP4.out.fifteen HI.out 13 _ rfl
  have y14 : w4.cell? ⟨g1, i * 15 + 14, none⟩ = _ := HCP4.out.fifteen HI.out 14 _ rfl
  have z11 : w4.frozen? ⟨g1, i * 15 + 11, none⟩ = false := free_of HCP4.out.blk (i * 15 + 11)
  have z12 : w4.frozen? ⟨g1, i * 15 + 12, none⟩ = false := free_of HCP4.out.blk (i * 15 + 12)
  have z13 : w4.frozen? ⟨g1, i * 15 + 13, none⟩ = false := free_of HCP4.out.blk (i * 15 + 13)
  have z14 : w4.frozen? ⟨g1, i * 15 + 14, none⟩ = false := free_of HCP4.out.blk (i * 15 + 14)
  refine wpAnyH_ready (rs := [11]) (by kernel_rfl) (by simp) ?_
  refine AllReadyH.cons rfl (fun K hK => ?_) AllReadyH.nil
  go_simp
  refine hK.out _ _ ?_ (fun hHeld => ?_)
  · ((try dsimp only); exact ⟨off_set (off_set (off_set (off_set HC24.out (by omega)) (by omega)) (by omega)) (by omega), farR (farR (farR (farR (box4 HX4.out) (by omega)) (by omega)) (by omega)) (by omega)⟩)
  clear hK K
  try simp only [Act.put, List.getElem_toArray, List.getElem_cons_zero, List.getElem_cons_succ, List.setIfInBounds_toArray, List.set_cons_zero, List.set_cons_succ]
  refine wpAnyH_done (by kernel_rfl) ?_ _
  refine NoPanic.normal ?_
  clear HB5 HR5
  have HB5 := Lib.hid (show Below w.heap.size w ((((w4.setCell ⟨g1, i * 15 + 11, none⟩ (.int .u32 (clipP m 0 v.a))).setCell ⟨g1, i * 15 + 11 + 1, none⟩ (.int .u32 (clipP m 1 v.b))).setCell ⟨g1, i * 15 + 11 + 2, none⟩ (.int .u32 (clipP m 2 v.c))).setCell ⟨g1, i * 15 + 11 + 3, none⟩ (.int .u32 (clipP m 3 v.d))) from ((((HB4.out.setCell (p := ⟨g1, i * 15 + 11, none⟩) (by show w.heap.size ≤ g1; omega) _).setCell (p := ⟨g1, i * 15 + 11 + 1, none⟩) (by show w.heap.size ≤ g1; omega) _).setCell (p := ⟨g1, i * 15 + 11 + 2, none⟩) (by show w.heap.size ≤ g1; omega) _).setCell (p := ⟨g1, i * 15 + 11 + 3, none⟩) (by show w.heap.size ≤ g1; omega) _))
  have HK5 := Lib.hid (show Keeps (fun j => j = g1 ∨ j < w.heap.size + 2) w4 ((((w4.setCell ⟨g1, i * 15 + 11, none⟩ (.int .u32 (clipP m 0 v.a))).setCell ⟨g1, i * 15 + 11 + 1, none⟩ (.int .u32 (clipP m 1 v.b))).setCell ⟨g1, i * 15 + 11 + 2, none⟩ (.int .u32 (clipP m 2 v.c))).setCell ⟨g1, i * 15 + 11 + 3, none⟩ (.int .u32 (clipP m 3 v.d))) from (((((Keeps.refl _ w4).setCell (p := ⟨g1, i * 15 + 11, none⟩) (.inl (.inl rfl)) _).setCell (p := ⟨g1, i * 15 + 11 + 1, none⟩) (.inl (.inl rfl)) _).setCell (p := ⟨g1, i * 15 + 11 + 2, none⟩) (.inl (.inl rfl)) _).setCell (p := ⟨g1, i * 15 + 11 + 3, none⟩) (.inl (.inl rfl)) _))
  have HG5 := Lib.hid (show ((((w4.setCell ⟨g1, i * 15 + 11, none⟩ (.int .u32 (clipP m 0 v.a))).setCell ⟨g1, i * 15 + 11 + 1, none⟩ (.int .u32 (clipP m 1 v.b))).setCell ⟨g1, i * 15 + 11 + 2, none⟩ (.int .u32 (clipP m 2 v.c))).setCell ⟨g1, i * 15 + 11 + 3, none⟩ (.int .u32 (clipP m 3 v.d))).heap[g1]? = some (.cells ((((cur.setIfInBounds (i * 15 + 11) (.int .u32 (v.clip m).a)).setIfInBounds (i * 15 + 12) (.int .u32 (v.clip m).b)).setIfInBounds (i * 15 + 13) (.int .u32 (v.clip m).c)).setIfInBounds (i * 15 + 14) (.int .u32 (v.clip m).d)) 103 (0, 0)) from (heap_set (heap_set (heap_set (heap_set HCP4.out.blk (i * 15 + 11) _) (i * 15 + 12) _) (i * 15 + 13) _) (i * 15 + 14) _))
  have hr5 : ((((w4.setCell ⟨g1, i * 15 + 11, none⟩ (.int .u32 (clipP m 0 v.a))).setCell ⟨g1, i * 15 + 11 + 1, none⟩ (.int .u32 (clipP m 1 v.b))).setCell ⟨g1, i * 15 + 11 + 2, none⟩ (.int .u32 (clipP m 2 v.c))).setCell ⟨g1, i * 15 + 11 + 3, none⟩ (.int .u32 (clipP m 3 v.d))).heap[w.heap.size + 1]? = some (.cells #[.int .i64 0, .int .u32 0, .int .u32 0, .int .u32 0, .int .u32 0] 45 (0, 0)) := (heap_other (heap_other (heap_other (heap_other HR4b.out (by show w.heap.size + 1 ≠ g1; omega) _) (by show w.heap.size + 1 ≠ g1; omega) _) (by show w.heap.size + 1 ≠ g1; omega) _) (by show w.heap.size + 1 ≠ g1; omega) _)
  generalize ((((w4.setCell ⟨g1, i * 15 + 11, none⟩ (.int .u32 (clipP m 0 v.a))).setCell ⟨g1, i * 15 + 11 + 1, none⟩ (.int .u32 (clipP m 1 v.b))).setCell ⟨g1, i * 15 + 11 + 2, none⟩ (.int .u32 (clipP m 2 v.c))).setCell ⟨g1, i * 15 + 11 + 3, none⟩ (.int .u32 (clipP m 3 v.d))) = W5 at *
  have q0 := cell_of hr5 0
  have q1 := cell_of hr5 1
  have q2 := cell_of hr5 2
  have q3 := cell_of hr5 3
  have q4 := cell_of hr5 4
  have fq0 := free_of hr5 0
  have fq1 := free_of hr5 1
  have fq2 := free_of hr5 2
  have fq3 := free_of hr5 3
  have fq4 := free_of hr5 4
  simp only [List.getElem?_toArray, List.getElem?_cons_zero, List.getElem?_cons_succ] at q0 q1 q2 q3 q4
  have HR5 := Lib.hid hr5
  clear hr5
  clear y11 y12 y13 y14 z11 z12 z13 z14
  go_wp2_with fail
  refine bodyPost_ret (res_do _ _ (some ⟨g1, 0, none⟩) n cap1 (w.heap.size + 1) ⟨0, ⟨0, 0, 0, 0⟩⟩ rfl rfl ?_) rfl ?_
  · exact range_heap (heap_set (heap_set (heap_set (heap_set (heap_set HR5.out 0 _) 1 _) 2 _) 3 _) 4 _) rfl
  have hbz := HB5.out
  exact ⟨(((((hbz.setCell (p := ⟨w.heap.size + 1, 0, none⟩) (by show w.heap.size ≤ w.heap.size + 1; omega) _).setCell (p := ⟨w.heap.size + 1, 1, none⟩) (by show w.heap.size ≤ w.heap.size + 1; omega) _).setCell (p := ⟨w.heap.size + 1, 2, none⟩) (by show w.heap.size ≤ w.heap.size + 1; omega) _).setCell (p := ⟨w.heap.size + 1, 3, none⟩) (by show w.heap.size ≤ w.heap.size + 1; omega) _).setCell (p := ⟨w.heap.size + 1, 4, none⟩) (by show w.heap.size ≤ w.heap.size + 1; omega) _), some ⟨g1, 0, none⟩, cap1, rfl, fun _ => ⟨g1, rfl, HCP4.out.words HI.out (v.clip m) (((((HK5.out.setCell (p := ⟨w.heap.size + 1, 0, none⟩) (.inl (.inr (by show w.heap.size + 1 < w.heap.size + 2; omega))) _).setCell (p := ⟨w.heap.size + 1, 1, none⟩) (.inl (.inr (by show w.heap.size + 1 < w.heap.size + 2; omega))) _).setCell (p := ⟨w.heap.size + 1, 2, none⟩) (.inl (.inr (by show w.heap.size + 1 < w.heap.size + 2; omega))) _).setCell (p := ⟨w.heap.size + 1, 3, none⟩) (.inl (.inr (by show w.heap.size + 1 < w.heap.size + 2; omega))) _).setCell (p := ⟨w.heap.size + 1, 4, none⟩) (.inl (.inr (by show w.heap.size + 1 < w.heap.size + 2; omega))) _) (heap_other (heap_other (heap_other (heap_other (heap_other HG5.out (by show g1 ≠ w.heap.size + 1; omega) _) (by show g1 ≠ w.heap.size + 1; omega) _) (by show g1 ≠ w.heap.size + 1; omega) _) (by show g1 ≠ w.heap.size + 1; omega) _) (by show g1 ≠ w.heap.size + 1; omega) _)⟩⟩
end Go.Proofs.YtohajfkekkelhaaDoor
namespace Go.Proofs.YtohajfkekkelhaaDoor
open Go.ChangeShapes Go.WideShapes Go.ChangeAt Go.RowKit
set_option linter.unusedVariables false
set_option linter.unusedSimpArgs false
set_option maxRecDepth 100000 in
set_option maxHeartbeats 16000000 in
theorem rdo_full (w : World) (a : Option Addr) (c : Nat) (L : List ItemD) (h : StateR w a L) (ok : ∀ x, x ∈ L → x.Ok) (hn : L.length ≤ 1000) (k N : Int) (hki : i64B k) (v : W4) (hv : v.Ok) (i : Nat) (x : ItemD) (hi : L[i]? = some x) (hK : kindP x.o = 1) (hkk : plainP k = 1) (hfu : x.o 1 ≤ (x.row.length : Int)) :
    Calls Tryd.prog 41 #[.slice a L.length c, .agg #[.int .i64 k, .int .i64 (i : Int), .int .u32 v.a, .int .u32 v.b, .int .u32 v.c, .int .u32 v.d, .int .u32 N]] w (DoesR w L.length (L, res9 6)) := by
  have hil := (List.getElem?_eq_some_iff.1 hi).1
  have okx := ok x (List.mem_of_getElem? hi)
  have HB0 := Lib.hid (show Below w.heap.size w ((w.alloc (.cells #[.int .i64 k, .int .i64 (i : Int), .int .u32 v.a, .int .u32 v.b, .int .u32 v.c, .int .u32 v.d, .int .u32 N] 43)).alloc (.cells #[.int .i64 0, .int .u32 0, .int .u32 0, .int .u32 0, .int .u32 0] 45)) from ((Below.refl _ w).alloc (Nat.le_refl _) _).alloc (by simp) _)
  have HS0 := Lib.hid (show Has w ((w.alloc (.cells #[.int .i64 k, .int .i64 (i : Int), .int .u32 v.a, .int .u32 v.b, .int .u32 v.c, .int .u32 v.d, .int .u32 N] 43)).alloc (.cells #[.int .i64 0, .int .u32 0, .int .u32 0, .int .u32 0, .int .u32 0] 45)) [(w.heap.size + 1, .cells #[.int .i64 0, .int .u32 0, .int .u32 0, .int .u32 0, .int .u32 0] 45 (0, 0)), (w.heap.size, .cells #[.int .i64 k, .int .i64 (i : Int), .int .u32 v.a, .int .u32 v.b, .int .u32 v.c, .int .u32 v.d, .int .u32 N] 43 (0, 0))] from (((Has.start w).alloc (.cells #[.int .i64 k, .int .i64 (i : Int), .int .u32 v.a, .int .u32 v.b, .int .u32 v.c, .int .u32 v.d, .int .u32 N] 43)).alloc (.cells #[.int .i64 0, .int .u32 0, .int .u32 0, .int .u32 0, .int .u32 0] 45)).eq (by simp))
  have HST := Lib.hid h
  have HP := Lib.hid (fun w => rplain_any w k hki)
  obtain ⟨n, hne⟩ : ∃ n, L.length = n := ⟨_, rfl⟩
  have HN := Lib.hid hne
  have HCO := Lib.hid (fun w a c h => rcopied_any w a c L h ok hn n hne (by omega))
  have HR := Lib.hid (fun w => rright_all x.o x.oi w (okx.o 1 (by omega)))
  have hr0 := kindR (by omega : kindP x.o ≠ 0)
  rw [hr0.1] at HR
  unfold objC at HR
  have e0 : x.o 0 = 1 := by rw [← hr0.2, hK]
  have E0 := Lib.hid e0
  rw [e0] at HR
  clear hr0 e0
  have HK := Lib.hid hK
  have HOK := Lib.hid okx
  have d7 : decide (x.o 1 ≤ (x.row.length : Int)) = true := decide_eq_true hfu
  clear hfu
  rw [hne] at hil
  have d3 : decide ((i : Int) < 0) = false := decide_eq_false (by omega)
  have d4 : decide ((n : Int) ≤ (i : Int)) = false := decide_eq_false (by omega)
  have d5 : decide (n ≤ i) = false := decide_eq_false (by omega)
  have d6 : decide (i < n) = true := decide_eq_true hil
  rw [hne]
  have HI := Lib.hid hi
  clear h ok hv hne hi okx hK hn
  rw [hkk] at HP
  clear hki hkk
  go_enter Tryd.func41, Tryd.ntmps41
  go_wp2_with fail
  refine (HP.out _).mono ?_
  rintro e1 w1 ⟨rfl, hw1⟩
  obtain rfl := hw1.symm
  go_wp2_with fail
  refine (HCO.out _ a c (HST.out.below HB0.out)).mono ?_
  rintro e2 w2 ⟨g1, cap1, cur, A, C, rfl, hcap, hcp, hb2⟩
  have HS2 := Lib.hid (HS0.out.none (Keeps.ofBelow hb2))
  have HB2 := Lib.hid (HB0.out.trans (hb2.mono (by simp only [World.size_alloc]; omega)))
  have hBB : ((w.alloc (.cells #[.int .i64 k, .int .i64 (i : Int), .int .u32 v.a, .int .u32 v.b, .int .u32 v.c, .int .u32 v.d, .int .u32 N] 43)).alloc (.cells #[.int .i64 0, .int .u32 0, .int .u32 0, .int .u32 0, .int .u32 0] 45)).heap.size = w.heap.size + 2 := by rw [World.size_alloc, World.size_alloc]
  rw [hBB] at hcp
  clear hBB
  have HCP2 := Lib.hid hcp
  have HCAP := Lib.hid hcap
  have hg1 : w.heap.size + 2 ≤ g1 := hcp.ge
  have hc2 : w2.heap[w.heap.size]? = some (.cells #[.int .i64 k, .int .i64 (i : Int), .int .u32 v.a, .int .u32 v.b, .int .u32 v.c, .int .u32 v.d, .int .u32 N] 43 (0, 0)) := HS2.out.at 1 rfl
  clear hb2 hcp hcap
  have k0 := cell_of hc2 0
  have k1 := cell_of hc2 1
  have k2 := cell_of hc2 2
  have k3 := cell_of hc2 3
  have k4 := cell_of hc2 4
  have k5 := cell_of hc2 5
  have k6 := cell_of hc2 6
  simp only [List.getElem?_toArray, List.getElem?_cons_zero, List.getElem?_cons_succ] at k0 k1 k2 k3 k4 k5 k6
  clear hc2
  have HRO := Lib.hid (show w2.rangeAt g1 (i * 15) [.int .i64 (1 : Int), .int .i64 (x.o 1), .int .i64 (x.o 2), .int .i64 (x.o 3), .int .i64 (x.o 4), .int .i64 (x.o 5), .int .u32 (x.oi 0), .int .u32 (x.oi 1), .int .u32 (x.oi 2), .int .u32 (x.oi 3)] from fun j u hu => HCP2.out.fifteen HI.out j u (obj_partR x (A i) x.row.length (C i) j u (by rw [E0.out]; exact hu)))
  go_wp2_with (refine wpList_load_mid rfl 49 _ rfl g1 (i * 15) rfl [.int .i64 (1 : Int), .int .i64 (x.o 1), .int .i64 (x.o 2), .int .i64 (x.o 3), .int .i64 (x.o 4), .int .i64 (x.o 5), .int .u32 (x.oi 0), .int .u32 (x.oi 1), .int .u32 (x.oi 2), .int .u32 (x.oi 3)] _ HRO.out Tryd.underlying49 rfl obj_info19 ?_)
  refine (HR.out _).mono ?_
  rintro e3 w3 ⟨rfl, k3'⟩
  have HS3 := Lib.hid (HS2.out.none k3')
  have HB3 := Lib.hid (HB2.out.trans (k3'.none.mono HB2.out.size))
  have HCP3 := Lib.hid (HCP2.out.none k3')
  have hc3 : w3.heap[w.heap.size]? = some (.cells #[.int .i64 k, .int .i64 (i : Int), .int .u32 v.a, .int .u32 v.b, .int .u32 v.c, .int .u32 v.d, .int .u32 N] 43 (0, 0)) := HS3.out.at 1 rfl
  have hr4 : w3.heap[w.heap.size + 1]? = some (.cells #[.int .i64 0, .int .u32 0, .int .u32 0, .int .u32 0, .int .u32 0] 45 (0, 0)) := HS3.out.at 0 rfl
  clear k0 k1 k2 k3 k4 k5 k6 k3' HRO HCP2 HB2 HS2
  have k0 := cell_of hc3 0
  have k1 := cell_of hc3 1
  have k2 := cell_of hc3 2
  have k3 := cell_of hc3 3
  have k4 := cell_of hc3 4
  have k5 := cell_of hc3 5
  have k6 := cell_of hc3 6
  simp only [List.getElem?_toArray, List.getElem?_cons_zero, List.getElem?_cons_succ] at k0 k1 k2 k3 k4 k5 k6
  clear hc3
  have q0 := cell_of hr4 0
  have q1 := cell_of hr4 1
  have q2 := cell_of hr4 2
  have q3 := cell_of hr4 3
  have q4 := cell_of hr4 4
  have fq0 := free_of hr4 0
  have fq1 := free_of hr4 1
  have fq2 := free_of hr4 2
  have fq3 := free_of hr4 3
  have fq4 := free_of hr4 4
  simp only [List.getElem?_toArray, List.getElem?_cons_zero, List.getElem?_cons_succ] at q0 q1 q2 q3 q4
  have HR4 := Lib.hid hr4
  clear hr4
  have c0 : w3.cell? ⟨g1, i * 15, none⟩ = some (.int .i64 (1 : Int)) := by rw [← E0.out]; exact HCP3.out.fifteen HI.out 0 _ rfl
  have c1 : w3.cell? ⟨g1, i * 15 + 1, none⟩ = some (.int .i64 (x.o 1)) := HCP3.out.fifteen HI.out 1 _ rfl
  have c2 : w3.cell? ⟨g1, i * 15 + 2, none⟩ = some (.int .i64 (x.o 2)) := HCP3.out.fifteen HI.out 2 _ rfl
  have c10 : w3.cell? ⟨g1, i * 15 + 10, none⟩ = some (.slice (A i) x.row.length (C i)) := HCP3.out.fifteen HI.out 10 _ rfl
  have c11 : w3.cell? ⟨g1, i * 15 + 11, none⟩ = some (.int .u32 x.v.a) := HCP3.out.fifteen HI.out 11 _ rfl
  have c12 : w3.cell? ⟨g1, i * 15 + 12, none⟩ = some (.int .u32 x.v.b) := HCP3.out.fifteen HI.out 12 _ rfl
  have c13 : w3.cell? ⟨g1, i * 15 + 13, none⟩ = some (.int .u32 x.v.c) := HCP3.out.fifteen HI.out 13 _ rfl
  have c14 : w3.cell? ⟨g1, i * 15 + 14, none⟩ = some (.int .u32 x.v.d) := HCP3.out.fifteen HI.out 14 _ rfl
  have f10 : w3.frozen? ⟨g1, i * 15 + 10, none⟩ = false := free_of HCP3.out.blk (i * 15 + 10)
  have f11 : w3.frozen? ⟨g1, i * 15 + 11, none⟩ = false := free_of HCP3.out.blk (i * 15 + 11)
  have f12 : w3.frozen? ⟨g1, i * 15 + 12, none⟩ = false := free_of HCP3.out.blk (i * 15 + 12)
  have f13 : w3.frozen? ⟨g1, i * 15 + 13, none⟩ = false := free_of HCP3.out.blk (i * 15 + 13)
  have f14 : w3.frozen? ⟨g1, i * 15 + 14, none⟩ = false := free_of HCP3.out.blk (i * 15 + 14)
  clear c2 c12 c13 c14 f10 f11 f12 f13 f14 k1 k2 k3 k4 k5 k6
  go_wp2_with fail
  go_quiet (fail)
  go_wp2_with fail
  have HB4 := Lib.hid (below_drewN HB3.out nq)
  have HR5 := Lib.hid (heap_drewN HR4.out nq)
  refine bodyPost_ret (res_do _ _ a n c (w.heap.size + 1) ⟨6, ⟨0, 0, 0, 0⟩⟩ rfl rfl ?_) rfl ?_
  · exact range_heap (heap_set (heap_set (heap_set (heap_set (heap_set HR5.out 0 _) 1 _) 2 _) 3 _) 4 _) rfl
  have hbz := HB4.out
  exact ⟨(((((hbz.setCell (p := ⟨w.heap.size + 1, 0, none⟩) (by show w.heap.size ≤ w.heap.size + 1; omega) _).setCell (p := ⟨w.heap.size + 1, 1, none⟩) (by show w.heap.size ≤ w.heap.size + 1; omega) _).setCell (p := ⟨w.heap.size + 1, 2, none⟩) (by show w.heap.size ≤ w.heap.size + 1; omega) _).setCell (p := ⟨w.heap.size + 1, 3, none⟩) (by show w.heap.size ≤ w.heap.size + 1; omega) _).setCell (p := ⟨w.heap.size + 1, 4, none⟩) (by show w.heap.size ≤ w.heap.size + 1; omega) _), a, c, rfl, HST.out.below (((((hbz.setCell (p := ⟨w.heap.size + 1, 0, none⟩) (by show w.heap.size ≤ w.heap.size + 1; omega) _).setCell (p := ⟨w.heap.size + 1, 1, none⟩) (by show w.heap.size ≤ w.heap.size + 1; omega) _).setCell (p := ⟨w.heap.size + 1, 2, none⟩) (by show w.heap.size ≤ w.heap.size + 1; omega) _).setCell (p := ⟨w.heap.size + 1, 3, none⟩) (by show w.heap.size ≤ w.heap.size + 1; omega) _).setCell (p := ⟨w.heap.size + 1, 4, none⟩) (by show w.heap.size ≤ w.heap.size + 1; omega) _)⟩
set_option maxRecDepth 100000 in
set_option maxHeartbeats 16000000 in
theorem rdo_empty (w : World) (a : Option Addr) (c : Nat) (L : List ItemD) (h : StateR w a L) (ok : ∀ x, x ∈ L → x.Ok) (hn : L.length ≤ 1000) (k N : Int) (hki : i64B k) (v : W4) (hv : v.Ok) (i : Nat) (x : ItemD) (hi : L[i]? = some x) (hK : kindP x.o = 1) (hkk : plainP k = 2) (hem : x.row = []) :
    Calls Tryd.prog 41 #[.slice a L.length c, .agg #[.int .i64 k, .int .i64 (i : Int), .int .u32 v.a, .int .u32 v.b, .int .u32 v.c, .int .u32 v.d, .int .u32 N]] w (DoesR w L.length (L, res9 7)) := by
  have hil := (List.getElem?_eq_some_iff.1 hi).1
  have okx := ok x (List.mem_of_getElem? hi)
  have HB0 := Lib.hid (show Below w.heap.size w ((w.alloc (.cells #[.int .i64 k, .int .i64 (i : Int), .int .u32 v.a, .int .u32 v.b, .int .u32 v.c, .int .u32 v.d, .int .u32 N] 43)).alloc (.cells #[.int .i64 0, .int .u32 0, .int .u32 0, .int .u32 0, .int .u32 0] 45)) from ((Below.refl _ w).alloc (Nat.le_refl _) _).alloc (by simp) _)
  have HS0 := Lib.hid (show Has w ((w.alloc (.cells #[.int .i64 k, .int .i64 (i : Int), .int .u32 v.a, .int .u32 v.b, .int .u32 v.c, .int .u32 v.d, .int .u32 N] 43)).alloc (.cells #[.int .i64 0, .int .u32 0, .int .u32 0, .int .u32 0, .int .u32 0] 45)) [(w.heap.size + 1, .cells #[.int .i64 0, .int .u32 0, .int .u32 0, .int .u32 0, .int .u32 0] 45 (0, 0)), (w.heap.size, .cells #[.int .i64 k, .int .i64 (i : Int), .int .u32 v.a, .int .u32 v.b, .int .u32 v.c, .int .u32 v.d, .int .u32 N] 43 (0, 0))] from (((Has.start w).alloc (.cells #[.int .i64 k, .int .i64 (i : Int), .int .u32 v.a, .int .u32 v.b, .int .u32 v.c, .int .u32 v.d, .int .u32 N] 43)).alloc (.cells #[.int .i64 0, .int .u32 0, .int .u32 0, .int .u32 0, .int .u32 0] 45)).eq (by simp))
  have HST := Lib.hid h
  have HP := Lib.hid (fun w => rplain_any w k hki)
  obtain ⟨n, hne⟩ : ∃ n, L.length = n := ⟨_, rfl⟩
  have HN := Lib.hid hne
  have HCO := Lib.hid (fun w a c h => rcopied_any w a c L h ok hn n hne (by omega))
  have HR := Lib.hid (fun w => rright_all x.o x.oi w (okx.o 1 (by omega)))
  have hr0 := kindR (by omega : kindP x.o ≠ 0)
  rw [hr0.1] at HR
  unfold objC at HR
  have e0 : x.o 0 = 1 := by rw [← hr0.2, hK]
  have E0 := Lib.hid e0
  rw [e0] at HR
  clear hr0 e0
  have HK := Lib.hid hK
  have HOK := Lib.hid okx
  have HEM := Lib.hid hem
  clear hem
  rw [hne] at hil
  have d3 : decide ((i : Int) < 0) = false := decide_eq_false (by omega)
  have d4 : decide ((n : Int) ≤ (i : Int)) = false := decide_eq_false (by omega)
  have d5 : decide (n ≤ i) = false := decide_eq_false (by omega)
  have d6 : decide (i < n) = true := decide_eq_true hil
  rw [hne]
  have HI := Lib.hid hi
  clear h ok hv hne hi okx hK hn
  rw [hkk] at HP
  clear hki hkk
  go_enter Tryd.func41, Tryd.ntmps41
  go_wp2_with fail
  refine (HP.out _).mono ?_
  rintro e1 w1 ⟨rfl, hw1⟩
  obtain rfl := hw1.symm
  go_wp2_with fail
  refine (HCO.out _ a c (HST.out.below HB0.out)).mono ?_
  rintro e2 w2 ⟨g1, cap1, cur, A, C, rfl, hcap, hcp, hb2⟩
  have HS2 := Lib.hid (HS0.out.none (Keeps.ofBelow hb2))
  have HB2 := Lib.hid (HB0.out.trans (hb2.mono (by simp only [World.size_alloc]; omega)))
  have hBB : ((w.alloc (.cells #[.int .i64 k, .int .i64 (i : Int), .int .u32 v.a, .int .u32 v.b, .int .u32 v.c, .int .u32 v.d, .int .u32 N] 43)).alloc (.cells #[.int .i64 0, .int .u32 0, .int .u32 0, .int .u32 0, .int .u32 0] 45)).heap.size = w.heap.size + 2 := by rw [World.size_alloc, World.size_alloc]
  rw [hBB] at hcp
  clear hBB
  have HCP2 := Lib.hid hcp
  have HCAP := Lib.hid hcap
  have hg1 : w.heap.size + 2 ≤ g1 := hcp.ge
  have hc2 : w2.heap[w.heap.size]? = some (.cells #[.int .i64 k, .int .i64 (i : Int), .int .u32 v.a, .int .u32 v.b, .int .u32 v.c, .int .u32 v.d, .int .u32 N] 43 (0, 0)) := HS2.out.at 1 rfl
  clear hb2 hcp hcap
  have k0 := cell_of hc2 0
  have k1 := cell_of hc2 1
  have k2 := cell_of hc2 2
  have k3 := cell_of hc2 3
  have k4 := cell_of hc2 4
  have k5 := cell_of hc2 5
  have k6 := cell_of hc2 6
  simp only [List.getElem?_toArray, List.getElem?_cons_zero, List.getElem?_cons_succ] at k0 k1 k2 k3 k4 k5 k6
  clear hc2
  have HRO := Lib.hid (show w2.rangeAt g1 (i * 15) [.int .i64 (1 : Int), .int .i64 (x.o 1), .int .i64 (x.o 2), .int .i64 (x.o 3), .int .i64 (x.o 4), .int .i64 (x.o 5), .int .u32 (x.oi 0), .int .u32 (x.oi 1), .int .u32 (x.oi 2), .int .u32 (x.oi 3)] from fun j u hu => HCP2.out.fifteen HI.out j u (obj_partR x (A i) x.row.length (C i) j u (by rw [E0.out]; exact hu)))
  go_wp2_with (refine wpList_load_mid rfl 49 _ rfl g1 (i * 15) rfl [.int .i64 (1 : Int), .int .i64 (x.o 1), .int .i64 (x.o 2), .int .i64 (x.o 3), .int .i64 (x.o 4), .int .i64 (x.o 5), .int .u32 (x.oi 0), .int .u32 (x.oi 1), .int .u32 (x.oi 2), .int .u32 (x.oi 3)] _ HRO.out Tryd.underlying49 rfl obj_info19 ?_)
  refine (HR.out _).mono ?_
  rintro e3 w3 ⟨rfl, k3'⟩
  have HS3 := Lib.hid (HS2.out.none k3')
  have HB3 := Lib.hid (HB2.out.trans (k3'.none.mono HB2.out.size))
  have HCP3 := Lib.hid (HCP2.out.none k3')
  have hc3 : w3.heap[w.heap.size]? = some (.cells #[.int .i64 k, .int .i64 (i : Int), .int .u32 v.a, .int .u32 v.b, .int .u32 v.c, .int .u32 v.d, .int .u32 N] 43 (0, 0)) := HS3.out.at 1 rfl
  have hr4 : w3.heap[w.heap.size + 1]? = some (.cells #[.int .i64 0, .int .u32 0, .int .u32 0, .int .u32 0, .int .u32 0] 45 (0, 0)) := HS3.out.at 0 rfl
  clear k0 k1 k2 k3 k4 k5 k6 k3' HRO HCP2 HB2 HS2
  have k0 := cell_of hc3 0
  have k1 := cell_of hc3 1
  have k2 := cell_of hc3 2
  have k3 := cell_of hc3 3
  have k4 := cell_of hc3 4
  have k5 := cell_of hc3 5
  have k6 := cell_of hc3 6
  simp only [List.getElem?_toArray, List.getElem?_cons_zero, List.getElem?_cons_succ] at k0 k1 k2 k3 k4 k5 k6
  clear hc3
  have q0 := cell_of hr4 0
  have q1 := cell_of hr4 1
  have q2 := cell_of hr4 2
  have q3 := cell_of hr4 3
  have q4 := cell_of hr4 4
  have fq0 := free_of hr4 0
  have fq1 := free_of hr4 1
  have fq2 := free_of hr4 2
  have fq3 := free_of hr4 3
  have fq4 := free_of hr4 4
  simp only [List.getElem?_toArray, List.getElem?_cons_zero, List.getElem?_cons_succ] at q0 q1 q2 q3 q4
  have HR4 := Lib.hid hr4
  clear hr4
  have c0 : w3.cell? ⟨g1, i * 15, none⟩ = some (.int .i64 (1 : Int)) := by rw [← E0.out]; exact HCP3.out.fifteen HI.out 0 _ rfl
  have c1 : w3.cell? ⟨g1, i * 15 + 1, none⟩ = some (.int .i64 (x.o 1)) := HCP3.out.fifteen HI.out 1 _ rfl
  have c2 : w3.cell? ⟨g1, i * 15 + 2, none⟩ = some (.int .i64 (x.o 2)) := HCP3.out.fifteen HI.out 2 _ rfl
  have c10 : w3.cell? ⟨g1, i * 15 + 10, none⟩ = some (.slice (A i) x.row.length (C i)) := HCP3.out.fifteen HI.out 10 _ rfl
  have c11 : w3.cell? ⟨g1, i * 15 + 11, none⟩ = some (.int .u32 x.v.a) := HCP3.out.fifteen HI.out 11 _ rfl
  have c12 : w3.cell? ⟨g1, i * 15 + 12, none⟩ = some (.int .u32 x.v.b) := HCP3.out.fifteen HI.out 12 _ rfl
  have c13 : w3.cell? ⟨g1, i * 15 + 13, none⟩ = some (.int .u32 x.v.c) := HCP3.out.fifteen HI.out 13 _ rfl
  have c14 : w3.cell? ⟨g1, i * 15 + 14, none⟩ = some (.int .u32 x.v.d) := HCP3.out.fifteen HI.out 14 _ rfl
  have f10 : w3.frozen? ⟨g1, i * 15 + 10, none⟩ = false := free_of HCP3.out.blk (i * 15 + 10)
  have f11 : w3.frozen? ⟨g1, i * 15 + 11, none⟩ = false := free_of HCP3.out.blk (i * 15 + 11)
  have f12 : w3.frozen? ⟨g1, i * 15 + 12, none⟩ = false := free_of HCP3.out.blk (i * 15 + 12)
  have f13 : w3.frozen? ⟨g1, i * 15 + 13, none⟩ = false := free_of HCP3.out.blk (i * 15 + 13)
  have f14 : w3.frozen? ⟨g1, i * 15 + 14, none⟩ = false := free_of HCP3.out.blk (i * 15 + 14)
  rw [HEM.out] at c10
  simp only [List.length_nil] at c10
  clear c1 c2 c12 c13 c14 f10 f11 f12 f13 f14 k1 k2 k3 k4 k5 k6
  go_wp2_with fail
  refine bodyPost_ret (res_do _ _ a n c (w.heap.size + 1) ⟨7, ⟨0, 0, 0, 0⟩⟩ rfl rfl ?_) rfl ?_
  · exact range_heap (heap_set (heap_set (heap_set (heap_set (heap_set HR4.out 0 _) 1 _) 2 _) 3 _) 4 _) rfl
  have hbz := HB3.out
  exact ⟨(((((hbz.setCell (p := ⟨w.heap.size + 1, 0, none⟩) (by show w.heap.size ≤ w.heap.size + 1; omega) _).setCell (p := ⟨w.heap.size + 1, 1, none⟩) (by show w.heap.size ≤ w.heap.size + 1; omega) _).setCell (p := ⟨w.heap.size + 1, 2, none⟩) (by show w.heap.size ≤ w.heap.size + 1; omega) _).setCell (p := ⟨w.heap.size + 1, 3, none⟩) (by show w.heap.size ≤ w.heap.size + 1; omega) _).setCell (p := ⟨w.heap.size + 1, 4, none⟩) (by show w.heap.size ≤ w.heap.size + 1; omega) _), a, c, rfl, HST.out.below (((((hbz.setCell (p := ⟨w.heap.size + 1, 0, none⟩) (by show w.heap.size ≤ w.heap.size + 1; omega) _).setCell (p := ⟨w.heap.size + 1, 1, none⟩) (by show w.heap.size ≤ w.heap.size + 1; omega) _).setCell (p := ⟨w.heap.size + 1, 2, none⟩) (by show w.heap.size ≤ w.heap.size + 1; omega) _).setCell (p := ⟨w.heap.size + 1, 3, none⟩) (by show w.heap.size ≤ w.heap.size + 1; omega) _).setCell (p := ⟨w.heap.size + 1, 4, none⟩) (by show w.heap.size ≤ w.heap.size + 1; omega) _)⟩
end Go.Proofs.YtohajfkekkelhaaDoor
