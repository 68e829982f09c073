import Derived.Test.YtohajfkekkelhaaDoorRefGz
import Derived.Deep.MidRow
import Derived.Deep.AppendLies
namespace Go.Proofs.YtohajfkekkelhaaDoor
open Go.ChangeShapes Go.WideShapes Go.ChangeAt Go.RowKit
set_option linter.unusedVariables false
set_option linter.unusedSimpArgs false
set_option maxRecDepth 100000 in
set_option maxHeartbeats 16000000 in
theorem rdo_send (w : World) (a : Option Addr) (c : Nat) (L : List ItemD) (h : StateR w a L) (ok : ∀ x, x ∈ L → x.Ok) (hn : L.length ≤ 1000) (k N : Int) (hki : i64B k) (v : W4) (hv : v.Ok) (i : Nat) (x : ItemD) (hi : L[i]? = some x) (hK : kindP x.o = 1) (hkk : plainP k = 1) (hfu : ¬ x.o 1 ≤ (x.row.length : Int)) (m : Nat) (hm : x.o 2 = (m : Int)) (hm4 : m ≤ 4) :
    Calls Tryd.prog 41 #[.slice a L.length c, .agg #[.int .i64 k, .int .i64 (i : Int), .int .u32 v.a, .int .u32 v.b, .int .u32 v.c, .int .u32 v.d, .int .u32 N]] w (DoesR w L.length (L.set i {x with row := x.row ++ [v.clip m]}, res9 0)) := by
  have hil := (List.getElem?_eq_some_iff.1 hi).1
  have okx := ok x (List.mem_of_getElem? hi)
  have HB0 := Lib.hid (show Below w.heap.size w ((w.alloc (.cells #[.int .i64 k, .int .i64 (i : Int), .int .u32 v.a, .int .u32 v.b, .int .u32 v.c, .int .u32 v.d, .int .u32 N] 43)).alloc (.cells #[.int .i64 0, .int .u32 0, .int .u32 0, .int .u32 0, .int .u32 0] 45)) from ((Below.refl _ w).alloc (Nat.le_refl _) _).alloc (by simp) _)
  have HS0 := Lib.hid (show Has w ((w.alloc (.cells #[.int .i64 k, .int .i64 (i : Int), .int .u32 v.a, .int .u32 v.b, .int .u32 v.c, .int .u32 v.d, .int .u32 N] 43)).alloc (.cells #[.int .i64 0, .int .u32 0, .int .u32 0, .int .u32 0, .int .u32 0] 45)) [(w.heap.size + 1, .cells #[.int .i64 0, .int .u32 0, .int .u32 0, .int .u32 0, .int .u32 0] 45 (0, 0)), (w.heap.size, .cells #[.int .i64 k, .int .i64 (i : Int), .int .u32 v.a, .int .u32 v.b, .int .u32 v.c, .int .u32 v.d, .int .u32 N] 43 (0, 0))] from (((Has.start w).alloc (.cells #[.int .i64 k, .int .i64 (i : Int), .int .u32 v.a, .int .u32 v.b, .int .u32 v.c, .int .u32 v.d, .int .u32 N] 43)).alloc (.cells #[.int .i64 0, .int .u32 0, .int .u32 0, .int .u32 0, .int .u32 0] 45)).eq (by simp))
  have HST := Lib.hid h
  have HP := Lib.hid (fun w => rplain_any w k hki)
  obtain ⟨n, hne⟩ : ∃ n, L.length = n := ⟨_, rfl⟩
  have HN := Lib.hid hne
  have HCO := Lib.hid (fun w a c h => rcopied_any w a c L h ok hn n hne (by omega))
  have HR := Lib.hid (fun w => rright_all x.o x.oi w (okx.o 1 (by omega)))
  have hr0 := kindR (by omega : kindP x.o ≠ 0)
  rw [hr0.1] at HR
  unfold objC at HR
  have e0 : x.o 0 = 1 := by rw [← hr0.2, hK]
  have E0 := Lib.hid e0
  rw [e0] at HR
  clear hr0 e0
  have HK := Lib.hid hK
  have HOK := Lib.hid okx
  have d7 : decide (x.o 1 ≤ (x.row.length : Int)) = false := decide_eq_false hfu
  clear hfu
  have HMM := Lib.hid hm
  have HC : Hid (∀ w, Calls Tryd.prog 55 #[.agg v.cells, .int .i64 (m : Int)] w fun e w' => e = .returned (.agg #[.int .u32 (clipP m 0 v.a), .int .u32 (clipP m 1 v.b), .int .u32 (clipP m 2 v.c), .int .u32 (clipP m 3 v.d)]) ∧ Keeps (fun _ => False) w w') := Lib.hid (fun w => rclip_any w v m (by omega))
  obtain ⟨i0, hi0, hz0, hz1, hz2⟩ := info_parts info_value19
  have hlen64 : x.row.length ≤ 64 := okx.len
  clear hm
  rw [hne] at hil
  have d3 : decide ((i : Int) < 0) = false := decide_eq_false (by omega)
  have d4 : decide ((n : Int) ≤ (i : Int)) = false := decide_eq_false (by omega)
  have d5 : decide (n ≤ i) = false := decide_eq_false (by omega)
  have d6 : decide (i < n) = true := decide_eq_true hil
  rw [hne]
  have HI := Lib.hid hi
  clear h ok hv hne hi okx hK hn
  rw [hkk] at HP
  clear hki hkk
  go_enter Tryd.func41, Tryd.ntmps41
  go_wp2_with fail
  refine (HP.out _).mono ?_
  rintro e1 w1 ⟨rfl, hw1⟩
  obtain rfl := hw1.symm
  go_wp2_with fail
  refine (HCO.out _ a c (HST.out.below HB0.out)).mono ?_
  rintro e2 w2 ⟨g1, cap1, cur, A, C, rfl, hcap, hcp, hb2⟩
  have HS2 := Lib.hid (HS0.out.none (Keeps.ofBelow hb2))
  have HB2 := Lib.hid (HB0.out.trans (hb2.mono (by simp only [World.size_alloc]; omega)))
  have hBB : ((w.alloc (.cells #[.int .i64 k, .int .i64 (i : Int), .int .u32 v.a, .int .u32 v.b, .int .u32 v.c, .int .u32 v.d, .int .u32 N] 43)).alloc (.cells #[.int .i64 0, .int .u32 0, .int .u32 0, .int .u32 0, .int .u32 0] 45)).heap.size = w.heap.size + 2 := by rw [World.size_alloc, World.size_alloc]
  rw [hBB] at hcp
  clear hBB
  have HCP2 := Lib.hid hcp
  have HCAP := Lib.hid hcap
  have hg1 : w.heap.size + 2 ≤ g1 := hcp.ge
  have hc2 : w2.heap[w.heap.size]? = some (.cells #[.int .i64 k, .int .i64 (i : Int), .int .u32 v.a, .int .u32 v.b, .int .u32 v.c, .int .u32 v.d, .int .u32 N] 43 (0, 0)) := HS2.out.at 1 rfl
  clear hb2 hcp hcap
  have k0 := cell_of hc2 0
  have k1 := cell_of hc2 1
  have k2 := cell_of hc2 2
  have k3 := cell_of hc2 3
  have k4 := cell_of hc2 4
  have k5 := cell_of hc2 5
  have k6 := cell_of hc2 6
  simp only [List.getElem?_toArray, List.getElem?_cons_zero, List.getElem?_cons_succ] at k0 k1 k2 k3 k4 k5 k6
  clear hc2
  have HRO := Lib.hid (show w2.rangeAt g1 (i * 15) [.int .i64 (1 : Int), .int .i64 (x.o 1), .int .i64 (x.o 2), .int .i64 (x.o 3), .int .i64 (x.o 4), .int .i64 (x.o 5), .int .u32 (x.oi 0), .int .u32 (x.oi 1), .int .u32 (x.oi 2), .int .u32 (x.oi 3)] from fun j u hu => HCP2.out.fifteen HI.out j u (obj_partR x (A i) x.row.length (C i) j u (by rw [E0.out]; exact hu)))
  go_wp2_with (refine wpList_load_mid rfl 49 _ rfl g1 (i * 15) rfl [.int .i64 (1 : Int), .int .i64 (x.o 1), .int .i64 (x.o 2), .int .i64 (x.o 3), .int .i64 (x.o 4), .int .i64 (x.o 5), .int .u32 (x.oi 0), .int .u32 (x.oi 1), .int .u32 (x.oi 2), .int .u32 (x.oi 3)] _ HRO.out Tryd.underlying49 rfl obj_info19 ?_)
  refine (HR.out _).mono ?_
  rintro e3 w3 ⟨rfl, k3'⟩
  have HS3 := Lib.hid (HS2.out.none k3')
  have HB3 := Lib.hid (HB2.out.trans (k3'.none.mono HB2.out.size))
  have HCP3 := Lib.hid (HCP2.out.none k3')
  have hc3 : w3.heap[w.heap.size]? = some (.cells #[.int .i64 k, .int .i64 (i : Int), .int .u32 v.a, .int .u32 v.b, .int .u32 v.c, .int .u32 v.d, .int .u32 N] 43 (0, 0)) := HS3.out.at 1 rfl
  have hr4 : w3.heap[w.heap.size + 1]? = some (.cells #[.int .i64 0, .int .u32 0, .int .u32 0, .int .u32 0, .int .u32 0] 45 (0, 0)) := HS3.out.at 0 rfl
  clear k0 k1 k2 k3 k4 k5 k6 k3' HRO HCP2 HB2 HS2
  have k0 := cell_of hc3 0
  have k1 := cell_of hc3 1
  have k2 := cell_of hc3 2
  have k3 := cell_of hc3 3
  have k4 := cell_of hc3 4
  have k5 := cell_of hc3 5
  have k6 := cell_of hc3 6
  simp only [List.getElem?_toArray, List.getElem?_cons_zero, List.getElem?_cons_succ] at k0 k1 k2 k3 k4 k5 k6
  clear hc3
  have q0 := cell_of hr4 0
  have q1 := cell_of hr4 1
  have q2 := cell_of hr4 2
  have q3 := cell_of hr4 3
  have q4 := cell_of hr4 4
  have fq0 := free_of hr4 0
  have fq1 := free_of hr4 1
  have fq2 := free_of hr4 2
  have fq3 := free_of hr4 3
  have fq4 := free_of hr4 4
  simp only [List.getElem?_toArray, List.getElem?_cons_zero, List.getElem?_cons_succ] at q0 q1 q2 q3 q4
  have HR4 := Lib.hid hr4
  clear hr4
  have c0 : w3.cell? ⟨g1, i * 15, none⟩ = some (.int .i64 (1 : Int)) := by rw [← E0.out]; exact HCP3.out.fifteen HI.out 0 _ rfl
  have c1 : w3.cell? ⟨g1, i * 15 + 1, none⟩ = some (.int .i64 (x.o 1)) := HCP3.out.fifteen HI.out 1 _ rfl
  have c2 : w3.cell? ⟨g1, i * 15 + 2, none⟩ = some (.int .i64 (x.o 2)) := HCP3.out.fifteen HI.out 2 _ rfl
  have c10 : w3.cell? ⟨g1, i * 15 + 10, none⟩ = some (.slice (A i) x.row.length (C i)) := HCP3.out.fifteen HI.out 10 _ rfl
  have c11 : w3.cell? ⟨g1, i * 15 + 11, none⟩ = some (.int .u32 x.v.a) := HCP3.out.fifteen HI.out 11 _ rfl
  have c12 : w3.cell? ⟨g1, i * 15 + 12, none⟩ = some (.int .u32 x.v.b) := HCP3.out.fifteen HI.out 12 _ rfl
  have c13 : w3.cell? ⟨g1, i * 15 + 13, none⟩ = some (.int .u32 x.v.c) := HCP3.out.fifteen HI.out 13 _ rfl
  have c14 : w3.cell? ⟨g1, i * 15 + 14, none⟩ = some (.int .u32 x.v.d) := HCP3.out.fifteen HI.out 14 _ rfl
  have f10 : w3.frozen? ⟨g1, i * 15 + 10, none⟩ = false := free_of HCP3.out.blk (i * 15 + 10)
  have f11 : w3.frozen? ⟨g1, i * 15 + 11, none⟩ = false := free_of HCP3.out.blk (i * 15 + 11)
  have f12 : w3.frozen? ⟨g1, i * 15 + 12, none⟩ = false := free_of HCP3.out.blk (i * 15 + 12)
  have f13 : w3.frozen? ⟨g1, i * 15 + 13, none⟩ = false := free_of HCP3.out.blk (i * 15 + 13)
  have f14 : w3.frozen? ⟨g1, i * 15 + 14, none⟩ = false := free_of HCP3.out.blk (i * 15 + 14)
  clear c2
  go_wp2_with fail
  go_quiet (fail)
  go_wp2_with fail
  clear q0 q1 q2 q3 q4 fq0 fq1 fq2 fq3 fq4 c0 c1 c10 c11 c12 c13 c14 f10 f11 f12 f13 f14 k0 k1 k2 k3 k4 k5 k6 d7
  obtain ⟨w3q, hq3⟩ : ∃ W, W = w3.drewN nq := ⟨_, rfl⟩
  rw [← hq3]
  have HB3q := Lib.hid (show Below w.heap.size w w3q from by rw [hq3]; exact below_drewN HB3.out nq)
  have HR3q := Lib.hid (show w3q.heap[w.heap.size + 1]? = some (.cells #[.int .i64 0, .int .u32 0, .int .u32 0, .int .u32 0, .int .u32 0] 45 (0, 0)) from by rw [hq3]; exact HR4.out)
  have HCP3q := Lib.hid (show Copied (w.heap.size + 2) w3q g1 cur L A C from by rw [hq3]; exact HCP3.out.none ((Keeps.refl _ w3).drewN nq))
  have HX3q := Lib.hid (show w3q.heap[w.heap.size]? = some (.cells #[.int .i64 k, .int .i64 (i : Int), .int .u32 v.a, .int .u32 v.b, .int .u32 v.c, .int .u32 v.d, .int .u32 N] 43 (0, 0)) from by rw [hq3]; exact HS3.out.at 1 rfl)
  clear hq3 HB3 HR4 HCP3 HS3
  have HB5 := Lib.hid (below_drew HB3q.out)
  have HR5 := Lib.hid (show w3q.drew.heap[w.heap.size + 1]? = some (.cells #[.int .i64 0, .int .u32 0, .int .u32 0, .int .u32 0, .int .u32 0] 45 (0, 0)) from HR3q.out)
  have HCP5 := Lib.hid (HCP3q.out.none (Keeps.refl _ w3q).drew)
  have HX5 := Lib.hid (show w3q.drew.heap[w.heap.size]? = some (.cells #[.int .i64 k, .int .i64 (i : Int), .int .u32 v.a, .int .u32 v.b, .int .u32 v.c, .int .u32 v.d, .int .u32 N] 43 (0, 0)) from HX3q.out)
  have HC25 := Lib.hid (show w3q.drew.cell? ⟨g1, i * 15 + 2, none⟩ = some (.int .i64 (m : Int)) from (HCP5.out.fifteen HI.out 2 _ rfl).trans (by rw [HMM.out]))
  refine wp_region_noPanic ?_
  refine wp_region_held_drew (S := (fun W => W.cell? ⟨g1, i * 15 + 2, none⟩ = some (.int .i64 (m : Int)) ∧ W.rangeAt w.heap.size 2 [.int .u32 v.a, .int .u32 v.b, .int .u32 v.c, .int .u32 v.d])) (by kernel_rfl) ?_ (fun hHeld => ?_)
  · exact ⟨HC25.out, box4 HX5.out⟩
  generalize w3q.drew = w5 at *
  have x10 : w5.cell? ⟨g1, i * 15 + 10, none⟩ = some (.slice (A i) x.row.length (C i)) := HCP5.out.fifteen HI.out 10 _ rfl
  refine wpAnyH_take (i := 0) (v := ?_) rfl (by kernel_rfl) (by kernel_rfl) (by kernel_rfl) (fun _ _ _ h => h) (Or.inl ⟨by rfl, ?_⟩) (by assumption) ?_
  rotate_left
  · (intro w hSw; (try dsimp only at hSw); go_simp; try with_reducible rfl)
  simp only [Act.put, List.getElem_toArray, List.getElem_cons_zero, List.getElem_cons_succ, List.setIfInBounds_toArray, List.set_cons_zero, List.set_cons_succ]
  refine wpAnyH_take (i := 1) (v := ?_) rfl (by kernel_rfl) (by kernel_rfl) (by kernel_rfl) (fun _ _ _ h => h) (Or.inl ⟨by rfl, ?_⟩) (by assumption) ?_
  rotate_left
  · (intro w hSw; (try dsimp only at hSw); go_simp; try with_reducible rfl)
  simp only [Act.put, List.getElem_toArray, List.getElem_cons_zero, List.getElem_cons_succ, List.setIfInBounds_toArray, List.set_cons_zero, List.set_cons_succ]
  refine wpAnyH_take (i := 2) (v := ?_) rfl (by kernel_rfl) (by kernel_rfl) (by kernel_rfl) (fun _ _ _ h => h) (Or.inl ⟨by rfl, ?_⟩) (by assumption) ?_
  rotate_left
  · (intro w hSw; (try dsimp only at hSw); go_simp; try with_reducible rfl)
  simp only [Act.put, List.getElem_toArray, List.getElem_cons_zero, List.getElem_cons_succ, List.setIfInBounds_toArray, List.set_cons_zero, List.set_cons_succ]
  refine wpAnyH_take (i := 3) (v := ?_) rfl (by kernel_rfl) (by kernel_rfl) (by kernel_rfl) (fun _ _ _ h => h) (Or.inl ⟨by rfl, ?_⟩) (by assumption) ?_
  rotate_left
  · (intro w hSw; (try dsimp only at hSw); go_simp; try with_reducible rfl)
  simp only [Act.put, List.getElem_toArray, List.getElem_cons_zero, List.getElem_cons_succ, List.setIfInBounds_toArray, List.set_cons_zero, List.set_cons_succ]
  refine wpAnyH_take (i := 5) (v := ?_) rfl (by kernel_rfl) (by kernel_rfl) (by kernel_rfl) (fun _ _ _ h => h) (Or.inl ⟨by rfl, ?_⟩) (by assumption) ?_
  rotate_left
  · (intro w hSw; (try dsimp only at hSw); go_simp; try with_reducible rfl)
  simp only [Act.put, List.getElem_toArray, List.getElem_cons_zero, List.getElem_cons_succ, List.setIfInBounds_toArray, List.set_cons_zero, List.set_cons_succ]
  refine wpAnyH_take (i := 6) (v := .agg [.int .u32 v.a, .int .u32 v.b, .int .u32 v.c, .int .u32 v.d].toArray) rfl (by kernel_rfl) (by kernel_rfl) (by kernel_rfl) (fun _ _ _ h => h) (yieldsIf_load_mid (by rfl) 41 (.tmp 90) rfl w.heap.size 2 rfl [.int .u32 v.a, .int .u32 v.b, .int .u32 v.c, .int .u32 v.d] _ (fun w h => h.2) Tryd.underlying41 rfl val_info19) (by assumption) ?_
  simp only [Act.put, List.getElem_toArray, List.getElem_cons_zero, List.getElem_cons_succ, List.setIfInBounds_toArray, List.set_cons_zero, List.set_cons_succ]
  refine wpAnyH_take (i := 7) (v := ?_) rfl (by kernel_rfl) (by kernel_rfl) (by kernel_rfl) (fun _ _ _ h => h) (Or.inl ⟨by rfl, ?_⟩) (by assumption) ?_
  rotate_left
  · (intro w hSw; (try dsimp only at hSw); go_simp; try with_reducible rfl)
  simp only [Act.put, List.getElem_toArray, List.getElem_cons_zero, List.getElem_cons_succ, List.setIfInBounds_toArray, List.set_cons_zero, List.set_cons_succ]
  refine wpAnyH_take (i := 8) (v := ?_) rfl (by kernel_rfl) (by kernel_rfl) (by kernel_rfl) (fun _ _ _ h => h) (Or.inl ⟨by rfl, ?_⟩) (by assumption) ?_
  rotate_left
  · (intro w hSw; (try dsimp only at hSw); go_simp; try with_reducible rfl)
  simp only [Act.put, List.getElem_toArray, List.getElem_cons_zero, List.getElem_cons_succ, List.setIfInBounds_toArray, List.set_cons_zero, List.set_cons_succ]
  refine wpAnyH_take (i := 9) (v := ?_) rfl (by kernel_rfl) (by kernel_rfl) (by kernel_rfl) (fun _ _ _ h => h) (Or.inl ⟨by rfl, ?_⟩) (by assumption) ?_
  rotate_left
  · (intro w hSw; (try dsimp only at hSw); go_simp; try with_reducible rfl)
  simp only [Act.put, List.getElem_toArray, List.getElem_cons_zero, List.getElem_cons_succ, List.setIfInBounds_toArray, List.set_cons_zero, List.set_cons_succ]
  refine wpAnyH_take (i := 10) (v := ?_) rfl (by kernel_rfl) (by kernel_rfl) (by kernel_rfl) (fun _ _ _ h => h) (Or.inl ⟨by rfl, ?_⟩) (by assumption) ?_
  rotate_left
  · (intro w hSw; (try dsimp only at hSw); go_simp; try with_reducible rfl)
  simp only [Act.put, List.getElem_toArray, List.getElem_cons_zero, List.getElem_cons_succ, List.setIfInBounds_toArray, List.set_cons_zero, List.set_cons_succ]
  refine wpAnyH_take (i := 11) (v := ?_) rfl (by kernel_rfl) (by kernel_rfl) (by kernel_rfl) (fun _ _ _ h => h) (Or.inl ⟨by rfl, ?_⟩) (by assumption) ?_
  rotate_left
  · (intro w hSw; (try dsimp only at hSw); go_simp; try with_reducible rfl)
  simp only [Act.put, List.getElem_toArray, List.getElem_cons_zero, List.getElem_cons_succ, List.setIfInBounds_toArray, List.set_cons_zero, List.set_cons_succ]
  refine wpAnyH_ready (rs := [4, 12]) (by kernel_rfl) (by simp) ?_
  refine AllReadyH.cons rfl (fun K hK => ?_) (AllReadyH.cons rfl (fun K hK => ?_) (AllReadyH.nil))
  · go_simp
    refine hK.out _ _ ?_ (fun hHeld => ?_)
    · ((try dsimp only); exact ⟨HC25.out, box4 HX5.out⟩)
    clear hK K
    try simp only [Act.put, List.getElem_toArray, List.getElem_cons_zero, List.getElem_cons_succ, List.setIfInBounds_toArray, List.set_cons_zero, List.set_cons_succ]
    refine wpAnyH_ready (rs := [12]) (by kernel_rfl) (by simp) ?_
    refine AllReadyH.cons rfl (fun K hK => ?_) (AllReadyH.nil)
    go_simp
    go_at_call 55
    refine (HC.out _).mono ?_
    rintro e4 w4 ⟨rfl, k4'⟩
    have HCP4 := Lib.hid (HCP5.out.none k4')
    have HB4 := Lib.hid (HB5.out.trans (k4'.none.mono HB5.out.size))
    have HR4b := Lib.hid (k4'.at HR5.out (fun h => h))
    have HX4 := Lib.hid (k4'.at HX5.out (fun h => h))
    have HC24 := Lib.hid (show w4.cell? ⟨g1, i * 15 + 2, none⟩ = some (.int .i64 (m : Int)) from (HCP4.out.fifteen HI.out 2 _ rfl).trans (by rw [HMM.out]))
    clear k4'
    dsimp only
    have y10 : w4.cell? ⟨g1, i * 15 + 10, none⟩ = some (.slice (A i) x.row.length (C i)) := HCP4.out.fifteen HI.out 10 _ rfl
    have HGA := Lib.hid (heap_old HCP4.out.blk (.cells #[.int .u32 (clipP m 0 v.a), .int .u32 (clipP m 1 v.b), .int .u32 (clipP m 2 v.c), .int .u32 (clipP m 3 v.d)] 41))
    have HXA := Lib.hid (heap_old HX4.out (.cells #[.int .u32 (clipP m 0 v.a), .int .u32 (clipP m 1 v.b), .int .u32 (clipP m 2 v.c), .int .u32 (clipP m 3 v.d)] 41))
    have HC2A := Lib.hid (show (w4.alloc (.cells #[.int .u32 (clipP m 0 v.a), .int .u32 (clipP m 1 v.b), .int .u32 (clipP m 2 v.c), .int .u32 (clipP m 3 v.d)] 41)).cell? ⟨g1, i * 15 + 2, none⟩ = some (.int .i64 (m : Int)) from ((cell_of HGA.out (i * 15 + 2)).trans (HCP4.out.cur i x HI.out 2 _ rfl)).trans (by rw [HMM.out]))
    have yA : (w4.alloc (.cells #[.int .u32 (clipP m 0 v.a), .int .u32 (clipP m 1 v.b), .int .u32 (clipP m 2 v.c), .int .u32 (clipP m 3 v.d)] 41)).cell? ⟨g1, i * 15 + 10, none⟩ = some (.slice (A i) x.row.length (C i)) := (cell_of HGA.out (i * 15 + 10)).trans (HCP4.out.cur i x HI.out 10 _ rfl)
    have HOA := Lib.hid (own_keeps (HCP4.out.rows i x HI.out) ((Keeps.refl _ w4).alloc (.cells #[.int .u32 (clipP m 0 v.a), .int .u32 (clipP m 1 v.b), .int .u32 (clipP m 2 v.c), .int .u32 (clipP m 3 v.d)] 41)))
    have HNW := Lib.hid (World.news_of_block (heap_new w4 (.cells #[.int .u32 (clipP m 0 v.a), .int .u32 (clipP m 1 v.b), .int .u32 (clipP m 2 v.c), .int .u32 (clipP m 3 v.d)] 41)))
    refine hK.out _ _ ?_ (fun hHeld => ?_)
    · ((try dsimp only); exact ⟨HC24.out, box4 HX4.out⟩)
    clear hK K
    try simp only [Act.put, List.getElem_toArray, List.getElem_cons_zero, List.getElem_cons_succ, List.setIfInBounds_toArray, List.set_cons_zero, List.set_cons_succ]
    refine wpAnyH_ready (rs := [13]) (by kernel_rfl) (by simp) ?_
    refine AllReadyH.cons rfl (fun K hK => ?_) (AllReadyH.nil)
    go_simp
    refine hK.out _ _ ?_ (fun hHeld => ?_)
    · ((try dsimp only); exact ⟨HC2A.out, box4 HXA.out⟩)
    clear hK K
    try simp only [Act.put, List.getElem_toArray, List.getElem_cons_zero, List.getElem_cons_succ, List.setIfInBounds_toArray, List.set_cons_zero, List.set_cons_succ]
    refine wpAnyH_ready (rs := [14]) (by kernel_rfl) (by simp) ?_
    refine AllReadyH.cons rfl (fun K hK => ?_) (AllReadyH.nil)
    refine step_append_lies _ rfl (.tmp 89) (.tmp 98) 73 rfl (w.heap.size + 2) 41 i0 (.agg #[.int .u32 0, .int .u32 0, .int .u32 0, .int .u32 0]) 4 16 Tryd.underlying73 hi0 hz0 hz1 hz2 rfl (by decide) (.slice (A i) x.row.length (C i)) x.row.length (flatV x.row) rfl HOA.out ⟨w4.heap.size, 0, none⟩ 1 1 (#[.int .u32 (clipP m 0 v.a), .int .u32 (clipP m 1 v.b), .int .u32 (clipP m 2 v.c), .int .u32 (clipP m 3 v.d)] : Array Value).toList rfl rfl HNW.out (clip_oneR m v) (by omega) (by unfold maxLen; omega) (by omega) (by have := lt_of HCP4.out.blk; simp; omega) _ rfl ?_
    intro g2 cap2 w6 ho6 hgr6 hor6 hlt6
    have HG6 := Lib.hid (HCP4.out.grown HI.out _ hgr6)
    have HB6 := Lib.hid (HCP4.out.grownBelow (A0 := w.heap.size) HI.out _ hgr6 (by omega) HB4.out.size)
    have HO6 := Lib.hid ho6
    have HT6 := Lib.hid hlt6
    have HX6 := Lib.hid (HG6.out.2.2 w.heap.size _ (by omega) HX4.out)
    have HC26 := Lib.hid (show w6.cell? ⟨g1, i * 15 + 2, none⟩ = some (.int .i64 (m : Int)) from ((cell_of HG6.out.1 (i * 15 + 2)).trans (HCP4.out.cur i x HI.out 2 _ rfl)).trans (by rw [HMM.out]))
    clear ho6 hgr6 hor6 hlt6
    refine hK.out _ _ ?_ (fun hHeld => ?_)
    · ((try dsimp only); exact ⟨HC26.out, box4 HX6.out⟩)
    clear hK K
    try simp only [Act.put, List.getElem_toArray, List.getElem_cons_zero, List.getElem_cons_succ, List.setIfInBounds_toArray, List.set_cons_zero, List.set_cons_succ]
    refine wpAnyH_take (i := 15) (v := ?_) rfl (by kernel_rfl) (by kernel_rfl) (by kernel_rfl) (fun _ _ _ h => h) (Or.inl ⟨by rfl, ?_⟩) (by assumption) ?_
    rotate_left
    · (intro w hSw; (try dsimp only at hSw); go_simp; try with_reducible rfl)
    simp only [Act.put, List.getElem_toArray, List.getElem_cons_zero, List.getElem_cons_succ, List.setIfInBounds_toArray, List.set_cons_zero, List.set_cons_succ]
    refine wpAnyH_take (i := 16) (v := ?_) rfl (by kernel_rfl) (by kernel_rfl) (by kernel_rfl) (fun _ _ _ h => h) (Or.inl ⟨by rfl, ?_⟩) (by assumption) ?_
    rotate_left
    · (intro w hSw; (try dsimp only at hSw); go_simp; try with_reducible rfl)
    simp only [Act.put, List.getElem_toArray, List.getElem_cons_zero, List.getElem_cons_succ, List.setIfInBounds_toArray, List.set_cons_zero, List.set_cons_succ]
    have s10 : w6.cell? ⟨g1, i * 15 + 10, none⟩ = some (.slice (A i) x.row.length (C i)) := (cell_of HG6.out.1 (i * 15 + 10)).trans (HCP4.out.cur i x HI.out 10 _ rfl)
    have sf : w6.frozen? ⟨g1, i * 15 + 10, none⟩ = false := free_of HG6.out.1 (i * 15 + 10)
    refine wpAnyH_ready (rs := [17]) (by kernel_rfl) (by simp) ?_
    refine AllReadyH.cons rfl (fun K hK => ?_) (AllReadyH.nil)
    go_simp
    refine hK.out _ _ ?_ (fun hHeld => ?_)
    · ((try dsimp only); exact ⟨off_set HC26.out (by omega), farR (box4 HX6.out) (by omega)⟩)
    clear hK K
    try simp only [Act.put, List.getElem_toArray, List.getElem_cons_zero, List.getElem_cons_succ, List.setIfInBounds_toArray, List.set_cons_zero, List.set_cons_succ]
    refine wpAnyH_done (by kernel_rfl) ?_ _
    refine NoPanic.normal ?_
    have hr6 := HG6.out.2.2 (w.heap.size + 1) _ (by omega) HR4b.out
    have hg2 := (HO6.out.lt g2 rfl).1
    have hg2n : g2 ≠ g1 := fun e => own_apart HO6.out HG6.out.1 (by decide) (by rw [← e]; rfl)
    have HB7 := Lib.hid (show Below w.heap.size w (w6.setCell ⟨g1, i * 15 + 10, none⟩ (.slice (some ⟨g2, 0, none⟩) (x.row.length + 1) cap2)) from (HB4.out.trans HB6.out).setCell (p := ⟨g1, i * 15 + 10, none⟩) (by show w.heap.size ≤ g1; omega) _)
    have HK7 := Lib.hid (show Keeps (fun j => j = g1 ∨ j < w.heap.size + 2 ∨ A i = some ⟨j, 0, none⟩) w4 (w6.setCell ⟨g1, i * 15 + 10, none⟩ (.slice (some ⟨g2, 0, none⟩) (x.row.length + 1) cap2)) from HG6.out.2.1.setCell (p := ⟨g1, i * 15 + 10, none⟩) (.inl (.inl rfl)) _)
    have HK67 := Lib.hid (show Keeps (fun j => j = g1 ∨ j < w.heap.size + 2) w6 (w6.setCell ⟨g1, i * 15 + 10, none⟩ (.slice (some ⟨g2, 0, none⟩) (x.row.length + 1) cap2)) from (Keeps.refl _ w6).setCell (p := ⟨g1, i * 15 + 10, none⟩) (.inl (.inl rfl)) _)
    have HG7 := Lib.hid (show (w6.setCell ⟨g1, i * 15 + 10, none⟩ (.slice (some ⟨g2, 0, none⟩) (x.row.length + 1) cap2)).heap[g1]? = some (.cells (cur.setIfInBounds (i * 15 + 10) (.slice (some ⟨g2, 0, none⟩) (x.row.length + 1) cap2)) 103 (0, 0)) from heap_set HG6.out.1 (i * 15 + 10) _)
    have hr7 : (w6.setCell ⟨g1, i * 15 + 10, none⟩ (.slice (some ⟨g2, 0, none⟩) (x.row.length + 1) cap2)).heap[w.heap.size + 1]? = some (.cells #[.int .i64 0, .int .u32 0, .int .u32 0, .int .u32 0, .int .u32 0] 45 (0, 0)) := heap_other hr6 (by show w.heap.size + 1 ≠ g1; omega) _
    generalize (w6.setCell ⟨g1, i * 15 + 10, none⟩ (.slice (some ⟨g2, 0, none⟩) (x.row.length + 1) cap2)) = W7 at *
    have q0 := cell_of hr7 0
    have q1 := cell_of hr7 1
    have q2 := cell_of hr7 2
    have q3 := cell_of hr7 3
    have q4 := cell_of hr7 4
    have fq0 := free_of hr7 0
    have fq1 := free_of hr7 1
    have fq2 := free_of hr7 2
    have fq3 := free_of hr7 3
    have fq4 := free_of hr7 4
    simp only [List.getElem?_toArray, List.getElem?_cons_zero, List.getElem?_cons_succ] at q0 q1 q2 q3 q4
    have HR7 := Lib.hid hr7
    clear hr7 hr6 s10 sf y10 yA x10
    go_wp2_with fail
    refine bodyPost_ret (res_do _ _ (some ⟨g1, 0, none⟩) n cap1 (w.heap.size + 1) ⟨0, ⟨0, 0, 0, 0⟩⟩ rfl rfl ?_) rfl ?_
    · exact range_heap (heap_set (heap_set (heap_set (heap_set (heap_set HR7.out 0 _) 1 _) 2 _) 3 _) 4 _) rfl
    have hbz := HB7.out
    obtain ⟨a9, c9, e9, h91, h92, h93, h94, h95⟩ := row_own (R := x.row ++ [v.clip m]) (by rw [flatV_app]; exact HO6.out) (by simp)
    cases e9
    exact ⟨(((((hbz.setCell (p := ⟨w.heap.size + 1, 0, none⟩) (by show w.heap.size ≤ w.heap.size + 1; omega) _).setCell (p := ⟨w.heap.size + 1, 1, none⟩) (by show w.heap.size ≤ w.heap.size + 1; omega) _).setCell (p := ⟨w.heap.size + 1, 2, none⟩) (by show w.heap.size ≤ w.heap.size + 1; omega) _).setCell (p := ⟨w.heap.size + 1, 3, none⟩) (by show w.heap.size ≤ w.heap.size + 1; omega) _).setCell (p := ⟨w.heap.size + 1, 4, none⟩) (by show w.heap.size ≤ w.heap.size + 1; omega) _), some ⟨g1, 0, none⟩, cap1, rfl, fun _ => ⟨g1, rfl, HCP4.out.rowOf HI.out (x.row ++ [v.clip m]) (some ⟨g2, 0, none⟩) (x.row.length + 1) cap2 (by simp) (((((HK7.out.setCell (p := ⟨w.heap.size + 1, 0, none⟩) (.inl (.inr (.inl (by show w.heap.size + 1 < w.heap.size + 2; omega)))) _).setCell (p := ⟨w.heap.size + 1, 1, none⟩) (.inl (.inr (.inl (by show w.heap.size + 1 < w.heap.size + 2; omega)))) _).setCell (p := ⟨w.heap.size + 1, 2, none⟩) (.inl (.inr (.inl (by show w.heap.size + 1 < w.heap.size + 2; omega)))) _).setCell (p := ⟨w.heap.size + 1, 3, none⟩) (.inl (.inr (.inl (by show w.heap.size + 1 < w.heap.size + 2; omega)))) _).setCell (p := ⟨w.heap.size + 1, 4, none⟩) (.inl (.inr (.inl (by show w.heap.size + 1 < w.heap.size + 2; omega)))) _) (heap_other (heap_other (heap_other (heap_other (heap_other HG7.out (by show g1 ≠ w.heap.size + 1; omega) _) (by show g1 ≠ w.heap.size + 1; omega) _) (by show g1 ≠ w.heap.size + 1; omega) _) (by show g1 ≠ w.heap.size + 1; omega) _) (by show g1 ≠ w.heap.size + 1; omega) _) (by simpa using h91) h92 (fun e => by cases e) (h94.keepsR (((((HK67.out.setCell (p := ⟨w.heap.size + 1, 0, none⟩) (.inl (.inr (by show w.heap.size + 1 < w.heap.size + 2; omega))) _).setCell (p := ⟨w.heap.size + 1, 1, none⟩) (.inl (.inr (by show w.heap.size + 1 < w.heap.size + 2; omega))) _).setCell (p := ⟨w.heap.size + 1, 2, none⟩) (.inl (.inr (by show w.heap.size + 1 < w.heap.size + 2; omega))) _).setCell (p := ⟨w.heap.size + 1, 3, none⟩) (.inl (.inr (by show w.heap.size + 1 < w.heap.size + 2; omega))) _).setCell (p := ⟨w.heap.size + 1, 4, none⟩) (.inl (.inr (by show w.heap.size + 1 < w.heap.size + 2; omega))) _) fun b off e => by cases e; omega)⟩⟩
  · go_simp
    go_at_call 55
    refine (HC.out _).mono ?_
    rintro e4 w4 ⟨rfl, k4'⟩
    have HCP4 := Lib.hid (HCP5.out.none k4')
    have HB4 := Lib.hid (HB5.out.trans (k4'.none.mono HB5.out.size))
    have HR4b := Lib.hid (k4'.at HR5.out (fun h => h))
    have HX4 := Lib.hid (k4'.at HX5.out (fun h => h))
    have HC24 := Lib.hid (show w4.cell? ⟨g1, i * 15 + 2, none⟩ = some (.int .i64 (m : Int)) from (HCP4.out.fifteen HI.out 2 _ rfl).trans (by rw [HMM.out]))
    clear k4'
    dsimp only
    have y10 : w4.cell? ⟨g1, i * 15 + 10, none⟩ = some (.slice (A i) x.row.length (C i)) := HCP4.out.fifteen HI.out 10 _ rfl
    have HGA := Lib.hid (heap_old HCP4.out.blk (.cells #[.int .u32 (clipP m 0 v.a), .int .u32 (clipP m 1 v.b), .int .u32 (clipP m 2 v.c), .int .u32 (clipP m 3 v.d)] 41))
    have HXA := Lib.hid (heap_old HX4.out (.cells #[.int .u32 (clipP m 0 v.a), .int .u32 (clipP m 1 v.b), .int .u32 (clipP m 2 v.c), .int .u32 (clipP m 3 v.d)] 41))
    have HC2A := Lib.hid (show (w4.alloc (.cells #[.int .u32 (clipP m 0 v.a), .int .u32 (clipP m 1 v.b), .int .u32 (clipP m 2 v.c), .int .u32 (clipP m 3 v.d)] 41)).cell? ⟨g1, i * 15 + 2, none⟩ = some (.int .i64 (m : Int)) from ((cell_of HGA.out (i * 15 + 2)).trans (HCP4.out.cur i x HI.out 2 _ rfl)).trans (by rw [HMM.out]))
    have yA : (w4.alloc (.cells #[.int .u32 (clipP m 0 v.a), .int .u32 (clipP m 1 v.b), .int .u32 (clipP m 2 v.c), .int .u32 (clipP m 3 v.d)] 41)).cell? ⟨g1, i * 15 + 10, none⟩ = some (.slice (A i) x.row.length (C i)) := (cell_of HGA.out (i * 15 + 10)).trans (HCP4.out.cur i x HI.out 10 _ rfl)
    have HOA := Lib.hid (own_keeps (HCP4.out.rows i x HI.out) ((Keeps.refl _ w4).alloc (.cells #[.int .u32 (clipP m 0 v.a), .int .u32 (clipP m 1 v.b), .int .u32 (clipP m 2 v.c), .int .u32 (clipP m 3 v.d)] 41)))
    have HNW := Lib.hid (World.news_of_block (heap_new w4 (.cells #[.int .u32 (clipP m 0 v.a), .int .u32 (clipP m 1 v.b), .int .u32 (clipP m 2 v.c), .int .u32 (clipP m 3 v.d)] 41)))
    refine hK.out _ _ ?_ (fun hHeld => ?_)
    · ((try dsimp only); exact ⟨HC24.out, box4 HX4.out⟩)
    clear hK K
    try simp only [Act.put, List.getElem_toArray, List.getElem_cons_zero, List.getElem_cons_succ, List.setIfInBounds_toArray, List.set_cons_zero, List.set_cons_succ]
    refine wpAnyH_ready (rs := [4, 13]) (by kernel_rfl) (by simp) ?_
    refine AllReadyH.cons rfl (fun K hK => ?_) (AllReadyH.cons rfl (fun K hK => ?_) (AllReadyH.nil))
    · go_simp
      refine hK.out _ _ ?_ (fun hHeld => ?_)
      · ((try dsimp only); exact ⟨HC24.out, box4 HX4.out⟩)
      clear hK K
      try simp only [Act.put, List.getElem_toArray, List.getElem_cons_zero, List.getElem_cons_succ, List.setIfInBounds_toArray, List.set_cons_zero, List.set_cons_succ]
      refine wpAnyH_ready (rs := [13]) (by kernel_rfl) (by simp) ?_
      refine AllReadyH.cons rfl (fun K hK => ?_) (AllReadyH.nil)
      go_simp
      refine hK.out _ _ ?_ (fun hHeld => ?_)
      · ((try dsimp only); exact ⟨HC2A.out, box4 HXA.out⟩)
      clear hK K
      try simp only [Act.put, List.getElem_toArray, List.getElem_cons_zero, List.getElem_cons_succ, List.setIfInBounds_toArray, List.set_cons_zero, List.set_cons_succ]
      refine wpAnyH_ready (rs := [14]) (by kernel_rfl) (by simp) ?_
      refine AllReadyH.cons rfl (fun K hK => ?_) (AllReadyH.nil)
      refine step_append_lies _ rfl (.tmp 89) (.tmp 98) 73 rfl (w.heap.size + 2) 41 i0 (.agg #[.int .u32 0, .int .u32 0, .int .u32 0, .int .u32 0]) 4 16 Tryd.underlying73 hi0 hz0 hz1 hz2 rfl (by decide) (.slice (A i) x.row.length (C i)) x.row.length (flatV x.row) rfl HOA.out ⟨w4.heap.size, 0, none⟩ 1 1 (#[.int .u32 (clipP m 0 v.a), .int .u32 (clipP m 1 v.b), .int .u32 (clipP m 2 v.c), .int .u32 (clipP m 3 v.d)] : Array Value).toList rfl rfl HNW.out (clip_oneR m v) (by omega) (by unfold maxLen; omega) (by omega) (by have := lt_of HCP4.out.blk; simp; omega) _ rfl ?_
      intro g2 cap2 w6 ho6 hgr6 hor6 hlt6
      have HG6 := Lib.hid (HCP4.out.grown HI.out _ hgr6)
      have HB6 := Lib.hid (HCP4.out.grownBelow (A0 := w.heap.size) HI.out _ hgr6 (by omega) HB4.out.size)
      have HO6 := Lib.hid ho6
      have HT6 := Lib.hid hlt6
      have HX6 := Lib.hid (HG6.out.2.2 w.heap.size _ (by omega) HX4.out)
      have HC26 := Lib.hid (show w6.cell? ⟨g1, i * 15 + 2, none⟩ = some (.int .i64 (m : Int)) from ((cell_of HG6.out.1 (i * 15 + 2)).trans (HCP4.out.cur i x HI.out 2 _ rfl)).trans (by rw [HMM.out]))
      clear ho6 hgr6 hor6 hlt6
      refine hK.out _ _ ?_ (fun hHeld => ?_)
      · ((try dsimp only); exact ⟨HC26.out, box4 HX6.out⟩)
      clear hK K
      try simp only [Act.put, List.getElem_toArray, List.getElem_cons_zero, List.getElem_cons_succ, List.setIfInBounds_toArray, List.set_cons_zero, List.set_cons_succ]
      refine wpAnyH_take (i := 15) (v := ?_) rfl (by kernel_rfl) (by kernel_rfl) (by kernel_rfl) (fun _ _ _ h => h) (Or.inl ⟨by rfl, ?_⟩) (by assumption) ?_
      rotate_left
      · (intro w hSw; (try dsimp only at hSw); go_simp; try with_reducible rfl)
      simp only [Act.put, List.getElem_toArray, List.getElem_cons_zero, List.getElem_cons_succ, List.setIfInBounds_toArray, List.set_cons_zero, List.set_cons_succ]
      refine wpAnyH_take (i := 16) (v := ?_) rfl (by kernel_rfl) (by kernel_rfl) (by kernel_rfl) (fun _ _ _ h => h) (Or.inl ⟨by rfl, ?_⟩) (by assumption) ?_
      rotate_left
      · (intro w hSw; (try dsimp only at hSw); go_simp; try with_reducible rfl)
      simp only [Act.put, List.getElem_toArray, List.getElem_cons_zero, List.getElem_cons_succ, List.setIfInBounds_toArray, List.set_cons_zero, List.set_cons_succ]
      have s10 : w6.cell? ⟨g1, i * 15 + 10, none⟩ = some (.slice (A i) x.row.length (C i)) := (cell_of HG6.out.1 (i * 15 + 10)).trans (HCP4.out.cur i x HI.out 10 _ rfl)
      have sf : w6.frozen? ⟨g1, i * 15 + 10, none⟩ = false := free_of HG6.out.1 (i * 15 + 10)
      refine wpAnyH_ready (rs := [17]) (by kernel_rfl) (by simp) ?_
      refine AllReadyH.cons rfl (fun K hK => ?_) (AllReadyH.nil)
      go_simp
      refine hK.out _ _ ?_ (fun hHeld => ?_)
      · ((try dsimp only); exact ⟨off_set HC26.out (by omega), farR (box4 HX6.out) (by omega)⟩)
      clear hK K
      try simp only [Act.put, List.getElem_toArray, List.getElem_cons_zero, List.getElem_cons_succ, List.setIfInBounds_toArray, List.set_cons_zero, List.set_cons_succ]
      refine wpAnyH_done (by kernel_rfl) ?_ _
      refine NoPanic.normal ?_
      have hr6 := HG6.out.2.2 (w.heap.size + 1) _ (by omega) HR4b.out
      have hg2 := (HO6.out.lt g2 rfl).1
      have hg2n : g2 ≠ g1 := fun e => own_apart HO6.out HG6.out.1 (by decide) (by rw [← e]; rfl)
      have HB7 := Lib.hid (show Below w.heap.size w (w6.setCell ⟨g1, i * 15 + 10, none⟩ (.slice (some ⟨g2, 0, none⟩) (x.row.length + 1) cap2)) from (HB4.out.trans HB6.out).setCell (p := ⟨g1, i * 15 + 10, none⟩) (by show w.heap.size ≤ g1; omega) _)
      have HK7 := Lib.hid (show Keeps (fun j => j = g1 ∨ j < w.heap.size + 2 ∨ A i = some ⟨j, 0, none⟩) w4 (w6.setCell ⟨g1, i * 15 + 10, none⟩ (.slice (some ⟨g2, 0, none⟩) (x.row.length + 1) cap2)) from HG6.out.2.1.setCell (p := ⟨g1, i * 15 + 10, none⟩) (.inl (.inl rfl)) _)
      have HK67 := Lib.hid (show Keeps (fun j => j = g1 ∨ j < w.heap.size + 2) w6 (w6.setCell ⟨g1, i * 15 + 10, none⟩ (.slice (some ⟨g2, 0, none⟩) (x.row.length + 1) cap2)) from (Keeps.refl _ w6).setCell (p := ⟨g1, i * 15 + 10, none⟩) (.inl (.inl rfl)) _)
      have HG7 := Lib.hid (show (w6.setCell ⟨g1, i * 15 + 10, none⟩ (.slice (some ⟨g2, 0, none⟩) (x.row.length + 1) cap2)).heap[g1]? = some (.cells (cur.setIfInBounds (i * 15 + 10) (.slice (some ⟨g2, 0, none⟩) (x.row.length + 1) cap2)) 103 (0, 0)) from heap_set HG6.out.1 (i * 15 + 10) _)
      have hr7 : (w6.setCell ⟨g1, i * 15 + 10, none⟩ (.slice (some ⟨g2, 0, none⟩) (x.row.length + 1) cap2)).heap[w.heap.size + 1]? = some (.cells #[.int .i64 0, .int .u32 0, .int .u32 0, .int .u32 0, .int .u32 0] 45 (0, 0)) := heap_other hr6 (by show w.heap.size + 1 ≠ g1; omega) _
      generalize (w6.setCell ⟨g1, i * 15 + 10, none⟩ (.slice (some ⟨g2, 0, none⟩) (x.row.length + 1) cap2)) = W7 at *
      have q0 := cell_of hr7 0
      have q1 := cell_of hr7 1
      have q2 := cell_of hr7 2
      have q3 := cell_of hr7 3
      have q4 := cell_of hr7 4
      have fq0 := free_of hr7 0
      have fq1 := free_of hr7 1
      have fq2 := free_of hr7 2
      have fq3 := free_of hr7 3
      have fq4 := free_of hr7 4
      simp only [List.getElem?_toArray, List.getElem?_cons_zero, List.getElem?_cons_succ] at q0 q1 q2 q3 q4
      have HR7 := Lib.hid hr7
      clear hr7 hr6 s10 sf y10 yA x10
      go_wp2_with fail
      refine bodyPost_ret (res_do _ _ (some ⟨g1, 0, none⟩) n cap1 (w.heap.size + 1) ⟨0, ⟨0, 0, 0, 0⟩⟩ rfl rfl ?_) rfl ?_
      · exact range_heap (heap_set (heap_set (heap_set (heap_set (heap_set HR7.out 0 _) 1 _) 2 _) 3 _) 4 _) rfl
      have hbz := HB7.out
      obtain ⟨a9, c9, e9, h91, h92, h93, h94, h95⟩ := row_own (R := x.row ++ [v.clip m]) (by rw [flatV_app]; exact HO6.out) (by simp)
      cases e9
      exact ⟨(((((hbz.setCell (p := ⟨w.heap.size + 1, 0, none⟩) (by show w.heap.size ≤ w.heap.size + 1; omega) _).setCell (p := ⟨w.heap.size + 1, 1, none⟩) (by show w.heap.size ≤ w.heap.size + 1; omega) _).setCell (p := ⟨w.heap.size + 1, 2, none⟩) (by show w.heap.size ≤ w.heap.size + 1; omega) _).setCell (p := ⟨w.heap.size + 1, 3, none⟩) (by show w.heap.size ≤ w.heap.size + 1; omega) _).setCell (p := ⟨w.heap.size + 1, 4, none⟩) (by show w.heap.size ≤ w.heap.size + 1; omega) _), some ⟨g1, 0, none⟩, cap1, rfl, fun _ => ⟨g1, rfl, HCP4.out.rowOf HI.out (x.row ++ [v.clip m]) (some ⟨g2, 0, none⟩) (x.row.length + 1) cap2 (by simp) (((((HK7.out.setCell (p := ⟨w.heap.size + 1, 0, none⟩) (.inl (.inr (.inl (by show w.heap.size + 1 < w.heap.size + 2; omega)))) _).setCell (p := ⟨w.heap.size + 1, 1, none⟩) (.inl (.inr (.inl (by show w.heap.size + 1 < w.heap.size + 2; omega)))) _).setCell (p := ⟨w.heap.size + 1, 2, none⟩) (.inl (.inr (.inl (by show w.heap.size + 1 < w.heap.size + 2; omega)))) _).setCell (p := ⟨w.heap.size + 1, 3, none⟩) (.inl (.inr (.inl (by show w.heap.size + 1 < w.heap.size + 2; omega)))) _).setCell (p := ⟨w.heap.size + 1, 4, none⟩) (.inl (.inr (.inl (by show w.heap.size + 1 < w.heap.size + 2; omega)))) _) (heap_other (heap_other (heap_other (heap_other (heap_other HG7.out (by show g1 ≠ w.heap.size + 1; omega) _) (by show g1 ≠ w.heap.size + 1; omega) _) (by show g1 ≠ w.heap.size + 1; omega) _) (by show g1 ≠ w.heap.size + 1; omega) _) (by show g1 ≠ w.heap.size + 1; omega) _) (by simpa using h91) h92 (fun e => by cases e) (h94.keepsR (((((HK67.out.setCell (p := ⟨w.heap.size + 1, 0, none⟩) (.inl (.inr (by show w.heap.size + 1 < w.heap.size + 2; omega))) _).setCell (p := ⟨w.heap.size + 1, 1, none⟩) (.inl (.inr (by show w.heap.size + 1 < w.heap.size + 2; omega))) _).setCell (p := ⟨w.heap.size + 1, 2, none⟩) (.inl (.inr (by show w.heap.size + 1 < w.heap.size + 2; omega))) _).setCell (p := ⟨w.heap.size + 1, 3, none⟩) (.inl (.inr (by show w.heap.size + 1 < w.heap.size + 2; omega))) _).setCell (p := ⟨w.heap.size + 1, 4, none⟩) (.inl (.inr (by show w.heap.size + 1 < w.heap.size + 2; omega))) _) fun b off e => by cases e; omega)⟩⟩
    · go_simp
      refine hK.out _ _ ?_ (fun hHeld => ?_)
      · ((try dsimp only); exact ⟨HC2A.out, box4 HXA.out⟩)
      clear hK K
      try simp only [Act.put, List.getElem_toArray, List.getElem_cons_zero, List.getElem_cons_succ, List.setIfInBounds_toArray, List.set_cons_zero, List.set_cons_succ]
      refine wpAnyH_ready (rs := [4]) (by kernel_rfl) (by simp) ?_
      refine AllReadyH.cons rfl (fun K hK => ?_) (AllReadyH.nil)
      go_simp
      refine hK.out _ _ ?_ (fun hHeld => ?_)
      · ((try dsimp only); exact ⟨HC2A.out, box4 HXA.out⟩)
      clear hK K
      try simp only [Act.put, List.getElem_toArray, List.getElem_cons_zero, List.getElem_cons_succ, List.setIfInBounds_toArray, List.set_cons_zero, List.set_cons_succ]
      refine wpAnyH_ready (rs := [14]) (by kernel_rfl) (by simp) ?_
      refine AllReadyH.cons rfl (fun K hK => ?_) (AllReadyH.nil)
      refine step_append_lies _ rfl (.tmp 89) (.tmp 98) 73 rfl (w.heap.size + 2) 41 i0 (.agg #[.int .u32 0, .int .u32 0, .int .u32 0, .int .u32 0]) 4 16 Tryd.underlying73 hi0 hz0 hz1 hz2 rfl (by decide) (.slice (A i) x.row.length (C i)) x.row.length (flatV x.row) rfl HOA.out ⟨w4.heap.size, 0, none⟩ 1 1 (#[.int .u32 (clipP m 0 v.a), .int .u32 (clipP m 1 v.b), .int .u32 (clipP m 2 v.c), .int .u32 (clipP m 3 v.d)] : Array Value).toList rfl rfl HNW.out (clip_oneR m v) (by omega) (by unfold maxLen; omega) (by omega) (by have := lt_of HCP4.out.blk; simp; omega) _ rfl ?_
      intro g2 cap2 w6 ho6 hgr6 hor6 hlt6
      have HG6 := Lib.hid (HCP4.out.grown HI.out _ hgr6)
      have HB6 := Lib.hid (HCP4.out.grownBelow (A0 := w.heap.size) HI.out _ hgr6 (by omega) HB4.out.size)
      have HO6 := Lib.hid ho6
      have HT6 := Lib.hid hlt6
      have HX6 := Lib.hid (HG6.out.2.2 w.heap.size _ (by omega) HX4.out)
      have HC26 := Lib.hid (show w6.cell? ⟨g1, i * 15 + 2, none⟩ = some (.int .i64 (m : Int)) from ((cell_of HG6.out.1 (i * 15 + 2)).trans (HCP4.out.cur i x HI.out 2 _ rfl)).trans (by rw [HMM.out]))
      clear ho6 hgr6 hor6 hlt6
      refine hK.out _ _ ?_ (fun hHeld => ?_)
      · ((try dsimp only); exact ⟨HC26.out, box4 HX6.out⟩)
      clear hK K
      try simp only [Act.put, List.getElem_toArray, List.getElem_cons_zero, List.getElem_cons_succ, List.setIfInBounds_toArray, List.set_cons_zero, List.set_cons_succ]
      refine wpAnyH_take (i := 15) (v := ?_) rfl (by kernel_rfl) (by kernel_rfl) (by kernel_rfl) (fun _ _ _ h => h) (Or.inl ⟨by rfl, ?_⟩) (by assumption) ?_
      rotate_left
      · (intro w hSw; (try dsimp only at hSw); go_simp; try with_reducible rfl)
      simp only [Act.put, List.getElem_toArray, List.getElem_cons_zero, List.getElem_cons_succ, List.setIfInBounds_toArray, List.set_cons_zero, List.set_cons_succ]
      refine wpAnyH_take (i := 16) (v := ?_) rfl (by kernel_rfl) (by kernel_rfl) (by kernel_rfl) (fun _ _ _ h => h) (Or.inl ⟨by rfl, ?_⟩) (by assumption) ?_
      rotate_left
      · (intro w hSw; (try dsimp only at hSw); go_simp; try with_reducible rfl)
      simp only [Act.put, List.getElem_toArray, List.getElem_cons_zero, List.getElem_cons_succ, List.setIfInBounds_toArray, List.set_cons_zero, List.set_cons_succ]
      have s10 : w6.cell? ⟨g1, i * 15 + 10, none⟩ = some (.slice (A i) x.row.length (C i)) := (cell_of HG6.out.1 (i * 15 + 10)).trans (HCP4.out.cur i x HI.out 10 _ rfl)
      have sf : w6.frozen? ⟨g1, i * 15 + 10, none⟩ = false := free_of HG6.out.1 (i * 15 + 10)
      refine wpAnyH_ready (rs := [17]) (by kernel_rfl) (by simp) ?_
      refine AllReadyH.cons rfl (fun K hK => ?_) (AllReadyH.nil)
      go_simp
      refine hK.out _ _ ?_ (fun hHeld => ?_)
      · ((try dsimp only); exact ⟨off_set HC26.out (by omega), farR (box4 HX6.out) (by omega)⟩)
      clear hK K
      try simp only [Act.put, List.getElem_toArray, List.getElem_cons_zero, List.getElem_cons_succ, List.setIfInBounds_toArray, List.set_cons_zero, List.set_cons_succ]
      refine wpAnyH_done (by kernel_rfl) ?_ _
      refine NoPanic.normal ?_
      have hr6 := HG6.out.2.2 (w.heap.size + 1) _ (by omega) HR4b.out
      have hg2 := (HO6.out.lt g2 rfl).1
      have hg2n : g2 ≠ g1 := fun e => own_apart HO6.out HG6.out.1 (by decide) (by rw [← e]; rfl)
      have HB7 := Lib.hid (show Below w.heap.size w (w6.setCell ⟨g1, i * 15 + 10, none⟩ (.slice (some ⟨g2, 0, none⟩) (x.row.length + 1) cap2)) from (HB4.out.trans HB6.out).setCell (p := ⟨g1, i * 15 + 10, none⟩) (by show w.heap.size ≤ g1; omega) _)
      have HK7 := Lib.hid (show Keeps (fun j => j = g1 ∨ j < w.heap.size + 2 ∨ A i = some ⟨j, 0, none⟩) w4 (w6.setCell ⟨g1, i * 15 + 10, none⟩ (.slice (some ⟨g2, 0, none⟩) (x.row.length + 1) cap2)) from HG6.out.2.1.setCell (p := ⟨g1, i * 15 + 10, none⟩) (.inl (.inl rfl)) _)
      have HK67 := Lib.hid (show Keeps (fun j => j = g1 ∨ j < w.heap.size + 2) w6 (w6.setCell ⟨g1, i * 15 + 10, none⟩ (.slice (some ⟨g2, 0, none⟩) (x.row.length + 1) cap2)) from (Keeps.refl _ w6).setCell (p := ⟨g1, i * 15 + 10, none⟩) (.inl (.inl rfl)) _)
      have HG7 := Lib.hid (show (w6.setCell ⟨g1, i * 15 + 10, none⟩ (.slice (some ⟨g2, 0, none⟩) (x.row.length + 1) cap2)).heap[g1]? = some (.cells (cur.setIfInBounds (i * 15 + 10) (.slice (some ⟨g2, 0, none⟩) (x.row.length + 1) cap2)) 103 (0, 0)) from heap_set HG6.out.1 (i * 15 + 10) _)
      have hr7 : (w6.setCell ⟨g1, i * 15 + 10, none⟩ (.slice (some ⟨g2, 0, none⟩) (x.row.length + 1) cap2)).heap[w.heap.size + 1]? = some (.cells #[.int .i64 0, .int .u32 0, .int .u32 0, .int .u32 0, .int .u32 0] 45 (0, 0)) := heap_other hr6 (by show w.heap.size + 1 ≠ g1; omega) _
      generalize (w6.setCell ⟨g1, i * 15 + 10, none⟩ (.slice (some ⟨g2, 0, none⟩) (x.row.length + 1) cap2)) = W7 at *
      have q0 := cell_of hr7 0
      have q1 := cell_of hr7 1
      have q2 := cell_of hr7 2
      have q3 := cell_of hr7 3
      have q4 := cell_of hr7 4
      have fq0 := free_of hr7 0
      have fq1 := free_of hr7 1
      have fq2 := free_of hr7 2
      have fq3 := free_of hr7 3
      have fq4 := free_of hr7 4
      simp only [List.getElem?_toArray, List.getElem?_cons_zero, List.getElem?_cons_succ] at q0 q1 q2 q3 q4
      have HR7 := Lib.hid hr7
      clear hr7 hr6 s10 sf y10 yA x10
      go_wp2_with fail
      refine bodyPost_ret (res_do _ _ (some ⟨g1, 0, none⟩) n cap1 (w.heap.size + 1) ⟨0, ⟨0, 0, 0, 0⟩⟩ rfl rfl ?_) rfl ?_
      · exact range_heap (heap_set (heap_set (heap_set (heap_set (heap_set HR7.out 0 _) 1 _) 2 _) 3 _) 4 _) rfl
      have hbz := HB7.out
      obtain ⟨a9, c9, e9, h91, h92, h93, h94, h95⟩ := row_own (R := x.row ++ [v.clip m]) (by rw [flatV_app]; exact HO6.out) (by simp)
      cases e9
      exact ⟨(((((hbz.setCell (p := ⟨w.heap.size + 1, 0, none⟩) (by show w.heap.size ≤ w.heap.size + 1; omega) _).setCell (p := ⟨w.heap.size + 1, 1, none⟩) (by show w.heap.size ≤ w.heap.size + 1; omega) _).setCell (p := ⟨w.heap.size + 1, 2, none⟩) (by show w.heap.size ≤ w.heap.size + 1; omega) _).setCell (p := ⟨w.heap.size + 1, 3, none⟩) (by show w.heap.size ≤ w.heap.size + 1; omega) _).setCell (p := ⟨w.heap.size + 1, 4, none⟩) (by show w.heap.size ≤ w.heap.size + 1; omega) _), some ⟨g1, 0, none⟩, cap1, rfl, fun _ => ⟨g1, rfl, HCP4.out.rowOf HI.out (x.row ++ [v.clip m]) (some ⟨g2, 0, none⟩) (x.row.length + 1) cap2 (by simp) (((((HK7.out.setCell (p := ⟨w.heap.size + 1, 0, none⟩) (.inl (.inr (.inl (by show w.heap.size + 1 < w.heap.size + 2; omega)))) _).setCell (p := ⟨w.heap.size + 1, 1, none⟩) (.inl (.inr (.inl (by show w.heap.size + 1 < w.heap.size + 2; omega)))) _).setCell (p := ⟨w.heap.size + 1, 2, none⟩) (.inl (.inr (.inl (by show w.heap.size + 1 < w.heap.size + 2; omega)))) _).setCell (p := ⟨w.heap.size + 1, 3, none⟩) (.inl (.inr (.inl (by show w.heap.size + 1 < w.heap.size + 2; omega)))) _).setCell (p := ⟨w.heap.size + 1, 4, none⟩) (.inl (.inr (.inl (by show w.heap.size + 1 < w.heap.size + 2; omega)))) _) (heap_other (heap_other (heap_other (heap_other (heap_other HG7.out (by show g1 ≠ w.heap.size + 1; omega) _) (by show g1 ≠ w.heap.size + 1; omega) _) (by show g1 ≠ w.heap.size + 1; omega) _) (by show g1 ≠ w.heap.size + 1; omega) _) (by show g1 ≠ w.heap.size + 1; omega) _) (by simpa using h91) h92 (fun e => by cases e) (h94.keepsR (((((HK67.out.setCell (p := ⟨w.heap.size + 1, 0, none⟩) (.inl (.inr (by show w.heap.size + 1 < w.heap.size + 2; omega))) _).setCell (p := ⟨w.heap.size + 1, 1, none⟩) (.inl (.inr (by show w.heap.size + 1 < w.heap.size + 2; omega))) _).setCell (p := ⟨w.heap.size + 1, 2, none⟩) (.inl (.inr (by show w.heap.size + 1 < w.heap.size + 2; omega))) _).setCell (p := ⟨w.heap.size + 1, 3, none⟩) (.inl (.inr (by show w.heap.size + 1 < w.heap.size + 2; omega))) _).setCell (p := ⟨w.heap.size + 1, 4, none⟩) (.inl (.inr (by show w.heap.size + 1 < w.heap.size + 2; omega))) _) fun b off e => by cases e; omega)⟩⟩
end Go.Proofs.YtohajfkekkelhaaDoor
