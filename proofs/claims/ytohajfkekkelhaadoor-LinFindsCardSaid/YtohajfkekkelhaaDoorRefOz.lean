import Derived.Test.YtohajfkekkelhaaDoorRefGz
import Derived.Deep.MidRow
import Derived.Deep.AppendLies
namespace Go.Proofs.YtohajfkekkelhaaDoor
open Go.ChangeShapes Go.WideShapes Go.ChangeAt Go.RowKit
set_option linter.unusedVariables false
set_option linter.unusedSimpArgs false
set_option maxRecDepth 100000 in
set_option maxHeartbeats 16000000 in
theorem rdo_not2 (w : World) (a : Option Addr) (c : Nat) (L : List ItemD) (h : StateR w a L) (ok : ∀ x, x ∈ L → x.Ok) (hn : L.length ≤ 1000) (k N : Int) (hki : i64B k) (v : W4) (hv : v.Ok) (i : Nat) (x : ItemD) (hi : L[i]? = some x) (hf : knownP (plainP k) = true) (hK : kindP x.o = 2) (hkk : plainP k = 1 ∨ plainP k = 2 ∨ plainP k = 5 ∨ plainP k = 6 ∨ plainP k = 7 ∨ plainP k = 8 ∨ plainP k = 9 ∨ plainP k = 16 ∨ plainP k = 17) (x' : ItemD) (r : ResD) (hst : stepP x (plainP k) v = (x', r)) :
    Calls Tryd.prog 41 #[.slice a L.length c, .agg #[.int .i64 k, .int .i64 (i : Int), .int .u32 v.a, .int .u32 v.b, .int .u32 v.c, .int .u32 v.d, .int .u32 N]] w (DoesR w L.length (L.set i x', r)) := by
  have hil := (List.getElem?_eq_some_iff.1 hi).1
  have okx := ok x (List.mem_of_getElem? hi)
  have HB0 := Lib.hid (show Below w.heap.size w ((w.alloc (.cells #[.int .i64 k, .int .i64 (i : Int), .int .u32 v.a, .int .u32 v.b, .int .u32 v.c, .int .u32 v.d, .int .u32 N] 43)).alloc (.cells #[.int .i64 0, .int .u32 0, .int .u32 0, .int .u32 0, .int .u32 0] 45)) from ((Below.refl _ w).alloc (Nat.le_refl _) _).alloc (by simp) _)
  have HS0 := Lib.hid (show Has w ((w.alloc (.cells #[.int .i64 k, .int .i64 (i : Int), .int .u32 v.a, .int .u32 v.b, .int .u32 v.c, .int .u32 v.d, .int .u32 N] 43)).alloc (.cells #[.int .i64 0, .int .u32 0, .int .u32 0, .int .u32 0, .int .u32 0] 45)) [(w.heap.size + 1, .cells #[.int .i64 0, .int .u32 0, .int .u32 0, .int .u32 0, .int .u32 0] 45 (0, 0)), (w.heap.size, .cells #[.int .i64 k, .int .i64 (i : Int), .int .u32 v.a, .int .u32 v.b, .int .u32 v.c, .int .u32 v.d, .int .u32 N] 43 (0, 0))] from (((Has.start w).alloc (.cells #[.int .i64 k, .int .i64 (i : Int), .int .u32 v.a, .int .u32 v.b, .int .u32 v.c, .int .u32 v.d, .int .u32 N] 43)).alloc (.cells #[.int .i64 0, .int .u32 0, .int .u32 0, .int .u32 0, .int .u32 0] 45)).eq (by simp))
  have HST := Lib.hid h
  have HP := Lib.hid (fun w => rplain_any w k hki)
  obtain ⟨n, hne⟩ : ∃ n, L.length = n := ⟨_, rfl⟩
  have HN := Lib.hid hne
  have HCO := Lib.hid (fun w a c h => rcopied_any w a c L h ok hn n hne (by omega))
  have HR := Lib.hid (fun w => rright_all x.o x.oi w (okx.o 1 (by omega)))
  have hr0 := kindR (by omega : kindP x.o ≠ 0)
  rw [hr0.1] at HR
  unfold objC at HR
  have e0 : x.o 0 = 2 := by rw [← hr0.2, hK]
  have E0 := Lib.hid e0
  rw [e0] at HR
  clear hr0 e0
  have HI := Lib.hid hi
  have HST2 := Lib.hid hst
  have HK := Lib.hid hK
  have HOK := Lib.hid okx
  rw [hne] at hil
  have d3 : decide ((i : Int) < 0) = false := decide_eq_false (by omega)
  have d4 : decide ((n : Int) ≤ (i : Int)) = false := decide_eq_false (by omega)
  have d5 : decide (n ≤ i) = false := decide_eq_false (by omega)
  have d6 : decide (i < n) = true := decide_eq_true hil
  rw [hne]
  clear h ok hv hne hi hst okx hK hn
  generalize plainP k = kk at *
  clear hki hf
  have hsp : (decide (1 ≤ kk) = true ∧ decide (kk ≤ 9) = true ∧ (kk = 1 ∨ kk = 2 ∨ kk = 5 ∨ kk = 6 ∨ kk = 7 ∨ kk = 8 ∨ kk = 9)) ∨ kk = 16 ∨ kk = 17 := by
    rcases hkk with rfl | rfl | rfl | rfl | rfl | rfl | rfl | rfl | rfl <;> simp
  clear hkk
  rcases hsp with ⟨d1, d2, h9⟩ | rfl | rfl
  · have H19 := Lib.hid h9
    clear h9
    go_enter Tryd.func41, Tryd.ntmps41
    go_wp2_with fail
    refine (HP.out _).mono ?_
    rintro e1 w1 ⟨rfl, hw1⟩
    obtain rfl := hw1.symm
    go_wp2_with fail
    refine (HCO.out _ a c (HST.out.below HB0.out)).mono ?_
    rintro e2 w2 ⟨g1, cap1, cur, A, C, rfl, hcap, hcp, hb2⟩
    have HS2 := Lib.hid (HS0.out.none (Keeps.ofBelow hb2))
    have HB2 := Lib.hid (HB0.out.trans (hb2.mono (by simp only [World.size_alloc]; omega)))
    have hBB : ((w.alloc (.cells #[.int .i64 k, .int .i64 (i : Int), .int .u32 v.a, .int .u32 v.b, .int .u32 v.c, .int .u32 v.d, .int .u32 N] 43)).alloc (.cells #[.int .i64 0, .int .u32 0, .int .u32 0, .int .u32 0, .int .u32 0] 45)).heap.size = w.heap.size + 2 := by rw [World.size_alloc, World.size_alloc]
    rw [hBB] at hcp
    clear hBB
    have HCP2 := Lib.hid hcp
    have HCAP := Lib.hid hcap
    have hg1 : w.heap.size + 2 ≤ g1 := hcp.ge
    have hc2 : w2.heap[w.heap.size]? = some (.cells #[.int .i64 k, .int .i64 (i : Int), .int .u32 v.a, .int .u32 v.b, .int .u32 v.c, .int .u32 v.d, .int .u32 N] 43 (0, 0)) := HS2.out.at 1 rfl
    clear hb2 hcp hcap
    have k0 := cell_of hc2 0
    have k1 := cell_of hc2 1
    have k2 := cell_of hc2 2
    have k3 := cell_of hc2 3
    have k4 := cell_of hc2 4
    have k5 := cell_of hc2 5
    have k6 := cell_of hc2 6
    simp only [List.getElem?_toArray, List.getElem?_cons_zero, List.getElem?_cons_succ] at k0 k1 k2 k3 k4 k5 k6
    clear hc2
    have HRO := Lib.hid (show w2.rangeAt g1 (i * 15) [.int .i64 (2 : Int), .int .i64 (x.o 1), .int .i64 (x.o 2), .int .i64 (x.o 3), .int .i64 (x.o 4), .int .i64 (x.o 5), .int .u32 (x.oi 0), .int .u32 (x.oi 1), .int .u32 (x.oi 2), .int .u32 (x.oi 3)] from fun j u hu => HCP2.out.fifteen HI.out j u (obj_partR x (A i) x.row.length (C i) j u (by rw [E0.out]; exact hu)))
    go_wp2_with (refine wpList_load_mid rfl 49 _ rfl g1 (i * 15) rfl [.int .i64 (2 : Int), .int .i64 (x.o 1), .int .i64 (x.o 2), .int .i64 (x.o 3), .int .i64 (x.o 4), .int .i64 (x.o 5), .int .u32 (x.oi 0), .int .u32 (x.oi 1), .int .u32 (x.oi 2), .int .u32 (x.oi 3)] _ HRO.out Tryd.underlying49 rfl obj_info19 ?_)
    refine (HR.out _).mono ?_
    rintro e3 w3 ⟨rfl, k3'⟩
    have HS3 := Lib.hid (HS2.out.none k3')
    have HB3 := Lib.hid (HB2.out.trans (k3'.none.mono HB2.out.size))
    have HCP3 := Lib.hid (HCP2.out.none k3')
    have hc3 : w3.heap[w.heap.size]? = some (.cells #[.int .i64 k, .int .i64 (i : Int), .int .u32 v.a, .int .u32 v.b, .int .u32 v.c, .int .u32 v.d, .int .u32 N] 43 (0, 0)) := HS3.out.at 1 rfl
    have hr4 : w3.heap[w.heap.size + 1]? = some (.cells #[.int .i64 0, .int .u32 0, .int .u32 0, .int .u32 0, .int .u32 0] 45 (0, 0)) := HS3.out.at 0 rfl
    clear k0 k1 k2 k3 k4 k5 k6 k3' HRO HCP2 HB2 HS2
    have k0 := cell_of hc3 0
    have k1 := cell_of hc3 1
    have k2 := cell_of hc3 2
    have k3 := cell_of hc3 3
    have k4 := cell_of hc3 4
    have k5 := cell_of hc3 5
    have k6 := cell_of hc3 6
    simp only [List.getElem?_toArray, List.getElem?_cons_zero, List.getElem?_cons_succ] at k0 k1 k2 k3 k4 k5 k6
    clear hc3
    have q0 := cell_of hr4 0
    have q1 := cell_of hr4 1
    have q2 := cell_of hr4 2
    have q3 := cell_of hr4 3
    have q4 := cell_of hr4 4
    have fq0 := free_of hr4 0
    have fq1 := free_of hr4 1
    have fq2 := free_of hr4 2
    have fq3 := free_of hr4 3
    have fq4 := free_of hr4 4
    simp only [List.getElem?_toArray, List.getElem?_cons_zero, List.getElem?_cons_succ] at q0 q1 q2 q3 q4
    have HR4 := Lib.hid hr4
    clear hr4
    have c0 : w3.cell? ⟨g1, i * 15, none⟩ = some (.int .i64 (2 : Int)) := by rw [← E0.out]; exact HCP3.out.fifteen HI.out 0 _ rfl
    have c1 : w3.cell? ⟨g1, i * 15 + 1, none⟩ = some (.int .i64 (x.o 1)) := HCP3.out.fifteen HI.out 1 _ rfl
    have c2 : w3.cell? ⟨g1, i * 15 + 2, none⟩ = some (.int .i64 (x.o 2)) := HCP3.out.fifteen HI.out 2 _ rfl
    have c10 : w3.cell? ⟨g1, i * 15 + 10, none⟩ = some (.slice (A i) x.row.length (C i)) := HCP3.out.fifteen HI.out 10 _ rfl
    have c11 : w3.cell? ⟨g1, i * 15 + 11, none⟩ = some (.int .u32 x.v.a) := HCP3.out.fifteen HI.out 11 _ rfl
    have c12 : w3.cell? ⟨g1, i * 15 + 12, none⟩ = some (.int .u32 x.v.b) := HCP3.out.fifteen HI.out 12 _ rfl
    have c13 : w3.cell? ⟨g1, i * 15 + 13, none⟩ = some (.int .u32 x.v.c) := HCP3.out.fifteen HI.out 13 _ rfl
    have c14 : w3.cell? ⟨g1, i * 15 + 14, none⟩ = some (.int .u32 x.v.d) := HCP3.out.fifteen HI.out 14 _ rfl
    have f10 : w3.frozen? ⟨g1, i * 15 + 10, none⟩ = false := free_of HCP3.out.blk (i * 15 + 10)
    have f11 : w3.frozen? ⟨g1, i * 15 + 11, none⟩ = false := free_of HCP3.out.blk (i * 15 + 11)
    have f12 : w3.frozen? ⟨g1, i * 15 + 12, none⟩ = false := free_of HCP3.out.blk (i * 15 + 12)
    have f13 : w3.frozen? ⟨g1, i * 15 + 13, none⟩ = false := free_of HCP3.out.blk (i * 15 + 13)
    have f14 : w3.frozen? ⟨g1, i * 15 + 14, none⟩ = false := free_of HCP3.out.blk (i * 15 + 14)
    clear c1 c2 c10 c12 c13 c14 f10 f11 f12 f13 f14 k1 k3 k4 k5 k6
    clear d1 d2
    rcases H19.out with rfl | rfl | rfl | rfl | rfl | rfl | rfl
    all_goals
      go_wp2_with fail
      obtain ⟨rfl, rfl⟩ := Prod.mk.inj ((step_value_not (.inl HK.out) (by rw [E0.out, HK.out]) (by decide) (by rw [HK.out]; decide)).symm.trans HST2.out)
      refine bodyPost_ret (res_do _ _ a n c (w.heap.size + 1) ⟨12, ⟨0, 0, 0, 0⟩⟩ rfl rfl ?_) rfl ?_
      · exact range_heap (heap_set (heap_set (heap_set (heap_set (heap_set HR4.out 0 _) 1 _) 2 _) 3 _) 4 _) rfl
      have hbz := HB3.out
      exact ⟨(((((hbz.setCell (p := ⟨w.heap.size + 1, 0, none⟩) (by show w.heap.size ≤ w.heap.size + 1; omega) _).setCell (p := ⟨w.heap.size + 1, 1, none⟩) (by show w.heap.size ≤ w.heap.size + 1; omega) _).setCell (p := ⟨w.heap.size + 1, 2, none⟩) (by show w.heap.size ≤ w.heap.size + 1; omega) _).setCell (p := ⟨w.heap.size + 1, 3, none⟩) (by show w.heap.size ≤ w.heap.size + 1; omega) _).setCell (p := ⟨w.heap.size + 1, 4, none⟩) (by show w.heap.size ≤ w.heap.size + 1; omega) _), a, c, rfl, by rw [set_itself HI.out]; exact HST.out.below (((((hbz.setCell (p := ⟨w.heap.size + 1, 0, none⟩) (by show w.heap.size ≤ w.heap.size + 1; omega) _).setCell (p := ⟨w.heap.size + 1, 1, none⟩) (by show w.heap.size ≤ w.heap.size + 1; omega) _).setCell (p := ⟨w.heap.size + 1, 2, none⟩) (by show w.heap.size ≤ w.heap.size + 1; omega) _).setCell (p := ⟨w.heap.size + 1, 3, none⟩) (by show w.heap.size ≤ w.heap.size + 1; omega) _).setCell (p := ⟨w.heap.size + 1, 4, none⟩) (by show w.heap.size ≤ w.heap.size + 1; omega) _)⟩
  · go_enter Tryd.func41, Tryd.ntmps41
    go_wp2_with fail
    refine (HP.out _).mono ?_
    rintro e1 w1 ⟨rfl, hw1⟩
    obtain rfl := hw1.symm
    go_wp2_with fail
    refine (HCO.out _ a c (HST.out.below HB0.out)).mono ?_
    rintro e2 w2 ⟨g1, cap1, cur, A, C, rfl, hcap, hcp, hb2⟩
    have HS2 := Lib.hid (HS0.out.none (Keeps.ofBelow hb2))
    have HB2 := Lib.hid (HB0.out.trans (hb2.mono (by simp only [World.size_alloc]; omega)))
    have hBB : ((w.alloc (.cells #[.int .i64 k, .int .i64 (i : Int), .int .u32 v.a, .int .u32 v.b, .int .u32 v.c, .int .u32 v.d, .int .u32 N] 43)).alloc (.cells #[.int .i64 0, .int .u32 0, .int .u32 0, .int .u32 0, .int .u32 0] 45)).heap.size = w.heap.size + 2 := by rw [World.size_alloc, World.size_alloc]
    rw [hBB] at hcp
    clear hBB
    have HCP2 := Lib.hid hcp
    have HCAP := Lib.hid hcap
    have hg1 : w.heap.size + 2 ≤ g1 := hcp.ge
    have hc2 : w2.heap[w.heap.size]? = some (.cells #[.int .i64 k, .int .i64 (i : Int), .int .u32 v.a, .int .u32 v.b, .int .u32 v.c, .int .u32 v.d, .int .u32 N] 43 (0, 0)) := HS2.out.at 1 rfl
    clear hb2 hcp hcap
    have k0 := cell_of hc2 0
    have k1 := cell_of hc2 1
    have k2 := cell_of hc2 2
    have k3 := cell_of hc2 3
    have k4 := cell_of hc2 4
    have k5 := cell_of hc2 5
    have k6 := cell_of hc2 6
    simp only [List.getElem?_toArray, List.getElem?_cons_zero, List.getElem?_cons_succ] at k0 k1 k2 k3 k4 k5 k6
    clear hc2
    have HRO := Lib.hid (show w2.rangeAt g1 (i * 15) [.int .i64 (2 : Int), .int .i64 (x.o 1), .int .i64 (x.o 2), .int .i64 (x.o 3), .int .i64 (x.o 4), .int .i64 (x.o 5), .int .u32 (x.oi 0), .int .u32 (x.oi 1), .int .u32 (x.oi 2), .int .u32 (x.oi 3)] from fun j u hu => HCP2.out.fifteen HI.out j u (obj_partR x (A i) x.row.length (C i) j u (by rw [E0.out]; exact hu)))
    go_wp2_with (refine wpList_load_mid rfl 49 _ rfl g1 (i * 15) rfl [.int .i64 (2 : Int), .int .i64 (x.o 1), .int .i64 (x.o 2), .int .i64 (x.o 3), .int .i64 (x.o 4), .int .i64 (x.o 5), .int .u32 (x.oi 0), .int .u32 (x.oi 1), .int .u32 (x.oi 2), .int .u32 (x.oi 3)] _ HRO.out Tryd.underlying49 rfl obj_info19 ?_)
    refine (HR.out _).mono ?_
    rintro e3 w3 ⟨rfl, k3'⟩
    have HS3 := Lib.hid (HS2.out.none k3')
    have HB3 := Lib.hid (HB2.out.trans (k3'.none.mono HB2.out.size))
    have HCP3 := Lib.hid (HCP2.out.none k3')
    have hc3 : w3.heap[w.heap.size]? = some (.cells #[.int .i64 k, .int .i64 (i : Int), .int .u32 v.a, .int .u32 v.b, .int .u32 v.c, .int .u32 v.d, .int .u32 N] 43 (0, 0)) := HS3.out.at 1 rfl
    have hr4 : w3.heap[w.heap.size + 1]? = some (.cells #[.int .i64 0, .int .u32 0, .int .u32 0, .int .u32 0, .int .u32 0] 45 (0, 0)) := HS3.out.at 0 rfl
    clear k0 k1 k2 k3 k4 k5 k6 k3' HRO HCP2 HB2 HS2
    have k0 := cell_of hc3 0
    have k1 := cell_of hc3 1
    have k2 := cell_of hc3 2
    have k3 := cell_of hc3 3
    have k4 := cell_of hc3 4
    have k5 := cell_of hc3 5
    have k6 := cell_of hc3 6
    simp only [List.getElem?_toArray, List.getElem?_cons_zero, List.getElem?_cons_succ] at k0 k1 k2 k3 k4 k5 k6
    clear hc3
    have q0 := cell_of hr4 0
    have q1 := cell_of hr4 1
    have q2 := cell_of hr4 2
    have q3 := cell_of hr4 3
    have q4 := cell_of hr4 4
    have fq0 := free_of hr4 0
    have fq1 := free_of hr4 1
    have fq2 := free_of hr4 2
    have fq3 := free_of hr4 3
    have fq4 := free_of hr4 4
    simp only [List.getElem?_toArray, List.getElem?_cons_zero, List.getElem?_cons_succ] at q0 q1 q2 q3 q4
    have HR4 := Lib.hid hr4
    clear hr4
    have c0 : w3.cell? ⟨g1, i * 15, none⟩ = some (.int .i64 (2 : Int)) := by rw [← E0.out]; exact HCP3.out.fifteen HI.out 0 _ rfl
    have c1 : w3.cell? ⟨g1, i * 15 + 1, none⟩ = some (.int .i64 (x.o 1)) := HCP3.out.fifteen HI.out 1 _ rfl
    have c2 : w3.cell? ⟨g1, i * 15 + 2, none⟩ = some (.int .i64 (x.o 2)) := HCP3.out.fifteen HI.out 2 _ rfl
    have c10 : w3.cell? ⟨g1, i * 15 + 10, none⟩ = some (.slice (A i) x.row.length (C i)) := HCP3.out.fifteen HI.out 10 _ rfl
    have c11 : w3.cell? ⟨g1, i * 15 + 11, none⟩ = some (.int .u32 x.v.a) := HCP3.out.fifteen HI.out 11 _ rfl
    have c12 : w3.cell? ⟨g1, i * 15 + 12, none⟩ = some (.int .u32 x.v.b) := HCP3.out.fifteen HI.out 12 _ rfl
    have c13 : w3.cell? ⟨g1, i * 15 + 13, none⟩ = some (.int .u32 x.v.c) := HCP3.out.fifteen HI.out 13 _ rfl
    have c14 : w3.cell? ⟨g1, i * 15 + 14, none⟩ = some (.int .u32 x.v.d) := HCP3.out.fifteen HI.out 14 _ rfl
    have f10 : w3.frozen? ⟨g1, i * 15 + 10, none⟩ = false := free_of HCP3.out.blk (i * 15 + 10)
    have f11 : w3.frozen? ⟨g1, i * 15 + 11, none⟩ = false := free_of HCP3.out.blk (i * 15 + 11)
    have f12 : w3.frozen? ⟨g1, i * 15 + 12, none⟩ = false := free_of HCP3.out.blk (i * 15 + 12)
    have f13 : w3.frozen? ⟨g1, i * 15 + 13, none⟩ = false := free_of HCP3.out.blk (i * 15 + 13)
    have f14 : w3.frozen? ⟨g1, i * 15 + 14, none⟩ = false := free_of HCP3.out.blk (i * 15 + 14)
    clear c1 c2 c10 c12 c13 c14 f10 f11 f12 f13 f14 k1 k3 k4 k5 k6
    go_wp2_with fail
    obtain ⟨rfl, rfl⟩ := Prod.mk.inj ((step_value_not (.inl HK.out) (by rw [E0.out, HK.out]) (by decide) (by rw [HK.out]; decide)).symm.trans HST2.out)
    refine bodyPost_ret (res_do _ _ a n c (w.heap.size + 1) ⟨12, ⟨0, 0, 0, 0⟩⟩ rfl rfl ?_) rfl ?_
    · exact range_heap (heap_set (heap_set (heap_set (heap_set (heap_set HR4.out 0 _) 1 _) 2 _) 3 _) 4 _) rfl
    have hbz := HB3.out
    exact ⟨(((((hbz.setCell (p := ⟨w.heap.size + 1, 0, none⟩) (by show w.heap.size ≤ w.heap.size + 1; omega) _).setCell (p := ⟨w.heap.size + 1, 1, none⟩) (by show w.heap.size ≤ w.heap.size + 1; omega) _).setCell (p := ⟨w.heap.size + 1, 2, none⟩) (by show w.heap.size ≤ w.heap.size + 1; omega) _).setCell (p := ⟨w.heap.size + 1, 3, none⟩) (by show w.heap.size ≤ w.heap.size + 1; omega) _).setCell (p := ⟨w.heap.size + 1, 4, none⟩) (by show w.heap.size ≤ w.heap.size + 1; omega) _), a, c, rfl, by rw [set_itself HI.out]; exact HST.out.below (((((hbz.setCell (p := ⟨w.heap.size + 1, 0, none⟩) (by show w.heap.size ≤ w.heap.size + 1; omega) _).setCell (p := ⟨w.heap.size + 1, 1, none⟩) (by show w.heap.size ≤ w.heap.size + 1; omega) _).setCell (p := ⟨w.heap.size + 1, 2, none⟩) (by show w.heap.size ≤ w.heap.size + 1; omega) _).setCell (p := ⟨w.heap.size + 1, 3, none⟩) (by show w.heap.size ≤ w.heap.size + 1; omega) _).setCell (p := ⟨w.heap.size + 1, 4, none⟩) (by show w.heap.size ≤ w.heap.size + 1; omega) _)⟩
  · go_enter Tryd.func41, Tryd.ntmps41
    go_wp2_with fail
    refine (HP.out _).mono ?_
    rintro e1 w1 ⟨rfl, hw1⟩
    obtain rfl := hw1.symm
    go_wp2_with fail
    refine (HCO.out _ a c (HST.out.below HB0.out)).mono ?_
    rintro e2 w2 ⟨g1, cap1, cur, A, C, rfl, hcap, hcp, hb2⟩
    have HS2 := Lib.hid (HS0.out.none (Keeps.ofBelow hb2))
    have HB2 := Lib.hid (HB0.out.trans (hb2.mono (by simp only [World.size_alloc]; omega)))
    have hBB : ((w.alloc (.cells #[.int .i64 k, .int .i64 (i : Int), .int .u32 v.a, .int .u32 v.b, .int .u32 v.c, .int .u32 v.d, .int .u32 N] 43)).alloc (.cells #[.int .i64 0, .int .u32 0, .int .u32 0, .int .u32 0, .int .u32 0] 45)).heap.size = w.heap.size + 2 := by rw [World.size_alloc, World.size_alloc]
    rw [hBB] at hcp
    clear hBB
    have HCP2 := Lib.hid hcp
    have HCAP := Lib.hid hcap
    have hg1 : w.heap.size + 2 ≤ g1 := hcp.ge
    have hc2 : w2.heap[w.heap.size]? = some (.cells #[.int .i64 k, .int .i64 (i : Int), .int .u32 v.a, .int .u32 v.b, .int .u32 v.c, .int .u32 v.d, .int .u32 N] 43 (0, 0)) := HS2.out.at 1 rfl
    clear hb2 hcp hcap
    have k0 := cell_of hc2 0
    have k1 := cell_of hc2 1
    have k2 := cell_of hc2 2
    have k3 := cell_of hc2 3
    have k4 := cell_of hc2 4
    have k5 := cell_of hc2 5
    have k6 := cell_of hc2 6
    simp only [List.getElem?_toArray, List.getElem?_cons_zero, List.getElem?_cons_succ] at k0 k1 k2 k3 k4 k5 k6
    clear hc2
    have HRO := Lib.hid (show w2.rangeAt g1 (i * 15) [.int .i64 (2 : Int), .int .i64 (x.o 1), .int .i64 (x.o 2), .int .i64 (x.o 3), .int .i64 (x.o 4), .int .i64 (x.o 5), .int .u32 (x.oi 0), .int .u32 (x.oi 1), .int .u32 (x.oi 2), .int .u32 (x.oi 3)] from fun j u hu => HCP2.out.fifteen HI.out j u (obj_partR x (A i) x.row.length (C i) j u (by rw [E0.out]; exact hu)))
    go_wp2_with (refine wpList_load_mid rfl 49 _ rfl g1 (i * 15) rfl [.int .i64 (2 : Int), .int .i64 (x.o 1), .int .i64 (x.o 2), .int .i64 (x.o 3), .int .i64 (x.o 4), .int .i64 (x.o 5), .int .u32 (x.oi 0), .int .u32 (x.oi 1), .int .u32 (x.oi 2), .int .u32 (x.oi 3)] _ HRO.out Tryd.underlying49 rfl obj_info19 ?_)
    refine (HR.out _).mono ?_
    rintro e3 w3 ⟨rfl, k3'⟩
    have HS3 := Lib.hid (HS2.out.none k3')
    have HB3 := Lib.hid (HB2.out.trans (k3'.none.mono HB2.out.size))
    have HCP3 := Lib.hid (HCP2.out.none k3')
    have hc3 : w3.heap[w.heap.size]? = some (.cells #[.int .i64 k, .int .i64 (i : Int), .int .u32 v.a, .int .u32 v.b, .int .u32 v.c, .int .u32 v.d, .int .u32 N] 43 (0, 0)) := HS3.out.at 1 rfl
    have hr4 : w3.heap[w.heap.size + 1]? = some (.cells #[.int .i64 0, .int .u32 0, .int .u32 0, .int .u32 0, .int .u32 0] 45 (0, 0)) := HS3.out.at 0 rfl
    clear k0 k1 k2 k3 k4 k5 k6 k3' HRO HCP2 HB2 HS2
    have k0 := cell_of hc3 0
    have k1 := cell_of hc3 1
    have k2 := cell_of hc3 2
    have k3 := cell_of hc3 3
    have k4 := cell_of hc3 4
    have k5 := cell_of hc3 5
    have k6 := cell_of hc3 6
    simp only [List.getElem?_toArray, List.getElem?_cons_zero, List.getElem?_cons_succ] at k0 k1 k2 k3 k4 k5 k6
    clear hc3
    have q0 := cell_of hr4 0
    have q1 := cell_of hr4 1
    have q2 := cell_of hr4 2
    have q3 := cell_of hr4 3
    have q4 := cell_of hr4 4
    have fq0 := free_of hr4 0
    have fq1 := free_of hr4 1
    have fq2 := free_of hr4 2
    have fq3 := free_of hr4 3
    have fq4 := free_of hr4 4
    simp only [List.getElem?_toArray, List.getElem?_cons_zero, List.getElem?_cons_succ] at q0 q1 q2 q3 q4
    have HR4 := Lib.hid hr4
    clear hr4
    have c0 : w3.cell? ⟨g1, i * 15, none⟩ = some (.int .i64 (2 : Int)) := by rw [← E0.out]; exact HCP3.out.fifteen HI.out 0 _ rfl
    have c1 : w3.cell? ⟨g1, i * 15 + 1, none⟩ = some (.int .i64 (x.o 1)) := HCP3.out.fifteen HI.out 1 _ rfl
    have c2 : w3.cell? ⟨g1, i * 15 + 2, none⟩ = some (.int .i64 (x.o 2)) := HCP3.out.fifteen HI.out 2 _ rfl
    have c10 : w3.cell? ⟨g1, i * 15 + 10, none⟩ = some (.slice (A i) x.row.length (C i)) := HCP3.out.fifteen HI.out 10 _ rfl
    have c11 : w3.cell? ⟨g1, i * 15 + 11, none⟩ = some (.int .u32 x.v.a) := HCP3.out.fifteen HI.out 11 _ rfl
    have c12 : w3.cell? ⟨g1, i * 15 + 12, none⟩ = some (.int .u32 x.v.b) := HCP3.out.fifteen HI.out 12 _ rfl
    have c13 : w3.cell? ⟨g1, i * 15 + 13, none⟩ = some (.int .u32 x.v.c) := HCP3.out.fifteen HI.out 13 _ rfl
    have c14 : w3.cell? ⟨g1, i * 15 + 14, none⟩ = some (.int .u32 x.v.d) := HCP3.out.fifteen HI.out 14 _ rfl
    have f10 : w3.frozen? ⟨g1, i * 15 + 10, none⟩ = false := free_of HCP3.out.blk (i * 15 + 10)
    have f11 : w3.frozen? ⟨g1, i * 15 + 11, none⟩ = false := free_of HCP3.out.blk (i * 15 + 11)
    have f12 : w3.frozen? ⟨g1, i * 15 + 12, none⟩ = false := free_of HCP3.out.blk (i * 15 + 12)
    have f13 : w3.frozen? ⟨g1, i * 15 + 13, none⟩ = false := free_of HCP3.out.blk (i * 15 + 13)
    have f14 : w3.frozen? ⟨g1, i * 15 + 14, none⟩ = false := free_of HCP3.out.blk (i * 15 + 14)
    clear c1 c2 c10 c12 c13 c14 f10 f11 f12 f13 f14 k1 k3 k4 k5 k6
    go_wp2_with fail
    obtain ⟨rfl, rfl⟩ := Prod.mk.inj ((step_value_not (.inl HK.out) (by rw [E0.out, HK.out]) (by decide) (by rw [HK.out]; decide)).symm.trans HST2.out)
    refine bodyPost_ret (res_do _ _ a n c (w.heap.size + 1) ⟨12, ⟨0, 0, 0, 0⟩⟩ rfl rfl ?_) rfl ?_
    · exact range_heap (heap_set (heap_set (heap_set (heap_set (heap_set HR4.out 0 _) 1 _) 2 _) 3 _) 4 _) rfl
    have hbz := HB3.out
    exact ⟨(((((hbz.setCell (p := ⟨w.heap.size + 1, 0, none⟩) (by show w.heap.size ≤ w.heap.size + 1; omega) _).setCell (p := ⟨w.heap.size + 1, 1, none⟩) (by show w.heap.size ≤ w.heap.size + 1; omega) _).setCell (p := ⟨w.heap.size + 1, 2, none⟩) (by show w.heap.size ≤ w.heap.size + 1; omega) _).setCell (p := ⟨w.heap.size + 1, 3, none⟩) (by show w.heap.size ≤ w.heap.size + 1; omega) _).setCell (p := ⟨w.heap.size + 1, 4, none⟩) (by show w.heap.size ≤ w.heap.size + 1; omega) _), a, c, rfl, by rw [set_itself HI.out]; exact HST.out.below (((((hbz.setCell (p := ⟨w.heap.size + 1, 0, none⟩) (by show w.heap.size ≤ w.heap.size + 1; omega) _).setCell (p := ⟨w.heap.size + 1, 1, none⟩) (by show w.heap.size ≤ w.heap.size + 1; omega) _).setCell (p := ⟨w.heap.size + 1, 2, none⟩) (by show w.heap.size ≤ w.heap.size + 1; omega) _).setCell (p := ⟨w.heap.size + 1, 3, none⟩) (by show w.heap.size ≤ w.heap.size + 1; omega) _).setCell (p := ⟨w.heap.size + 1, 4, none⟩) (by show w.heap.size ≤ w.heap.size + 1; omega) _)⟩
end Go.Proofs.YtohajfkekkelhaaDoor
namespace Go.Proofs.YtohajfkekkelhaaDoor
open Go.ChangeShapes Go.WideShapes Go.ChangeAt Go.RowKit
set_option linter.unusedVariables false
set_option linter.unusedSimpArgs false
set_option maxRecDepth 100000 in
set_option maxHeartbeats 16000000 in
theorem rdo_not3 (w : World) (a : Option Addr) (c : Nat) (L : List ItemD) (h : StateR w a L) (ok : ∀ x, x ∈ L → x.Ok) (hn : L.length ≤ 1000) (k N : Int) (hki : i64B k) (v : W4) (hv : v.Ok) (i : Nat) (x : ItemD) (hi : L[i]? = some x) (hf : knownP (plainP k) = true) (hK : kindP x.o = 3) (hkk : plainP k = 1 ∨ plainP k = 2 ∨ plainP k = 4 ∨ plainP k = 7 ∨ plainP k = 8 ∨ plainP k = 9 ∨ plainP k = 16 ∨ plainP k = 17) (x' : ItemD) (r : ResD) (hst : stepP x (plainP k) v = (x', r)) :
    Calls Tryd.prog 41 #[.slice a L.length c, .agg #[.int .i64 k, .int .i64 (i : Int), .int .u32 v.a, .int .u32 v.b, .int .u32 v.c, .int .u32 v.d, .int .u32 N]] w (DoesR w L.length (L.set i x', r)) := by
  have hil := (List.getElem?_eq_some_iff.1 hi).1
  have okx := ok x (List.mem_of_getElem? hi)
  have HB0 := Lib.hid (show Below w.heap.size w ((w.alloc (.cells #[.int .i64 k, .int .i64 (i : Int), .int .u32 v.a, .int .u32 v.b, .int .u32 v.c, .int .u32 v.d, .int .u32 N] 43)).alloc (.cells #[.int .i64 0, .int .u32 0, .int .u32 0, .int .u32 0, .int .u32 0] 45)) from ((Below.refl _ w).alloc (Nat.le_refl _) _).alloc (by simp) _)
  have HS0 := Lib.hid (show Has w ((w.alloc (.cells #[.int .i64 k, .int .i64 (i : Int), .int .u32 v.a, .int .u32 v.b, .int .u32 v.c, .int .u32 v.d, .int .u32 N] 43)).alloc (.cells #[.int .i64 0, .int .u32 0, .int .u32 0, .int .u32 0, .int .u32 0] 45)) [(w.heap.size + 1, .cells #[.int .i64 0, .int .u32 0, .int .u32 0, .int .u32 0, .int .u32 0] 45 (0, 0)), (w.heap.size, .cells #[.int .i64 k, .int .i64 (i : Int), .int .u32 v.a, .int .u32 v.b, .int .u32 v.c, .int .u32 v.d, .int .u32 N] 43 (0, 0))] from (((Has.start w).alloc (.cells #[.int .i64 k, .int .i64 (i : Int), .int .u32 v.a, .int .u32 v.b, .int .u32 v.c, .int .u32 v.d, .int .u32 N] 43)).alloc (.cells #[.int .i64 0, .int .u32 0, .int .u32 0, .int .u32 0, .int .u32 0] 45)).eq (by simp))
  have HST := Lib.hid h
  have HP := Lib.hid (fun w => rplain_any w k hki)
  obtain ⟨n, hne⟩ : ∃ n, L.length = n := ⟨_, rfl⟩
  have HN := Lib.hid hne
  have HCO := Lib.hid (fun w a c h => rcopied_any w a c L h ok hn n hne (by omega))
  have HR := Lib.hid (fun w => rright_all x.o x.oi w (okx.o 1 (by omega)))
  have hr0 := kindR (by omega : kindP x.o ≠ 0)
  rw [hr0.1] at HR
  unfold objC at HR
  have e0 : x.o 0 = 3 := by rw [← hr0.2, hK]
  have E0 := Lib.hid e0
  rw [e0] at HR
  clear hr0 e0
  have HI := Lib.hid hi
  have HST2 := Lib.hid hst
  have HK := Lib.hid hK
  have HOK := Lib.hid okx
  rw [hne] at hil
  have d3 : decide ((i : Int) < 0) = false := decide_eq_false (by omega)
  have d4 : decide ((n : Int) ≤ (i : Int)) = false := decide_eq_false (by omega)
  have d5 : decide (n ≤ i) = false := decide_eq_false (by omega)
  have d6 : decide (i < n) = true := decide_eq_true hil
  rw [hne]
  clear h ok hv hne hi hst okx hK hn
  generalize plainP k = kk at *
  clear hki hf
  have hsp : (decide (1 ≤ kk) = true ∧ decide (kk ≤ 9) = true ∧ (kk = 1 ∨ kk = 2 ∨ kk = 4 ∨ kk = 7 ∨ kk = 8 ∨ kk = 9)) ∨ kk = 16 ∨ kk = 17 := by
    rcases hkk with rfl | rfl | rfl | rfl | rfl | rfl | rfl | rfl <;> simp
  clear hkk
  rcases hsp with ⟨d1, d2, h9⟩ | rfl | rfl
  · have H19 := Lib.hid h9
    clear h9
    go_enter Tryd.func41, Tryd.ntmps41
    go_wp2_with fail
    refine (HP.out _).mono ?_
    rintro e1 w1 ⟨rfl, hw1⟩
    obtain rfl := hw1.symm
    go_wp2_with fail
    refine (HCO.out _ a c (HST.out.below HB0.out)).mono ?_
    rintro e2 w2 ⟨g1, cap1, cur, A, C, rfl, hcap, hcp, hb2⟩
    have HS2 := Lib.hid (HS0.out.none (Keeps.ofBelow hb2))
    have HB2 := Lib.hid (HB0.out.trans (hb2.mono (by simp only [World.size_alloc]; omega)))
    have hBB : ((w.alloc (.cells #[.int .i64 k, .int .i64 (i : Int), .int .u32 v.a, .int .u32 v.b, .int .u32 v.c, .int .u32 v.d, .int .u32 N] 43)).alloc (.cells #[.int .i64 0, .int .u32 0, .int .u32 0, .int .u32 0, .int .u32 0] 45)).heap.size = w.heap.size + 2 := by rw [World.size_alloc, World.size_alloc]
    rw [hBB] at hcp
    clear hBB
    have HCP2 := Lib.hid hcp
    have HCAP := Lib.hid hcap
    have hg1 : w.heap.size + 2 ≤ g1 := hcp.ge
    have hc2 : w2.heap[w.heap.size]? = some (.cells #[.int .i64 k, .int .i64 (i : Int), .int .u32 v.a, .int .u32 v.b, .int .u32 v.c, .int .u32 v.d, .int .u32 N] 43 (0, 0)) := HS2.out.at 1 rfl
    clear hb2 hcp hcap
    have k0 := cell_of hc2 0
    have k1 := cell_of hc2 1
    have k2 := cell_of hc2 2
    have k3 := cell_of hc2 3
    have k4 := cell_of hc2 4
    have k5 := cell_of hc2 5
    have k6 := cell_of hc2 6
    simp only [List.getElem?_toArray, List.getElem?_cons_zero, List.getElem?_cons_succ] at k0 k1 k2 k3 k4 k5 k6
    clear hc2
    have HRO := Lib.hid (show w2.rangeAt g1 (i * 15) [.int .i64 (3 : Int), .int .i64 (x.o 1), .int .i64 (x.o 2), .int .i64 (x.o 3), .int .i64 (x.o 4), .int .i64 (x.o 5), .int .u32 (x.oi 0), .int .u32 (x.oi 1), .int .u32 (x.oi 2), .int .u32 (x.oi 3)] from fun j u hu => HCP2.out.fifteen HI.out j u (obj_partR x (A i) x.row.length (C i) j u (by rw [E0.out]; exact hu)))
    go_wp2_with (refine wpList_load_mid rfl 49 _ rfl g1 (i * 15) rfl [.int .i64 (3 : Int), .int .i64 (x.o 1), .int .i64 (x.o 2), .int .i64 (x.o 3), .int .i64 (x.o 4), .int .i64 (x.o 5), .int .u32 (x.oi 0), .int .u32 (x.oi 1), .int .u32 (x.oi 2), .int .u32 (x.oi 3)] _ HRO.out Tryd.underlying49 rfl obj_info19 ?_)
    refine (HR.out _).mono ?_
    rintro e3 w3 ⟨rfl, k3'⟩
    have HS3 := Lib.hid (HS2.out.none k3')
    have HB3 := Lib.hid (HB2.out.trans (k3'.none.mono HB2.out.size))
    have HCP3 := Lib.hid (HCP2.out.none k3')
    have hc3 : w3.heap[w.heap.size]? = some (.cells #[.int .i64 k, .int .i64 (i : Int), .int .u32 v.a, .int .u32 v.b, .int .u32 v.c, .int .u32 v.d, .int .u32 N] 43 (0, 0)) := HS3.out.at 1 rfl
    have hr4 : w3.heap[w.heap.size + 1]? = some (.cells #[.int .i64 0, .int .u32 0, .int .u32 0, .int .u32 0, .int .u32 0] 45 (0, 0)) := HS3.out.at 0 rfl
    clear k0 k1 k2 k3 k4 k5 k6 k3' HRO HCP2 HB2 HS2
    have k0 := cell_of hc3 0
    have k1 := cell_of hc3 1
    have k2 := cell_of hc3 2
    have k3 := cell_of hc3 3
    have k4 := cell_of hc3 4
    have k5 := cell_of hc3 5
    have k6 := cell_of hc3 6
    simp only [List.getElem?_toArray, List.getElem?_cons_zero, List.getElem?_cons_succ] at k0 k1 k2 k3 k4 k5 k6
    clear hc3
    have q0 := cell_of hr4 0
    have q1 := cell_of hr4 1
    have q2 := cell_of hr4 2
    have q3 := cell_of hr4 3
    have q4 := cell_of hr4 4
    have fq0 := free_of hr4 0
    have fq1 := free_of hr4 1
    have fq2 := free_of hr4 2
    have fq3 := free_of hr4 3
    have fq4 := free_of hr4 4
    simp only [List.getElem?_toArray, List.getElem?_cons_zero, List.getElem?_cons_succ] at q0 q1 q2 q3 q4
    have HR4 := Lib.hid hr4
    clear hr4
    have c0 : w3.cell? ⟨g1, i * 15, none⟩ = some (.int .i64 (3 : Int)) := by rw [← E0.out]; exact HCP3.out.fifteen HI.out 0 _ rfl
    have c1 : w3.cell? ⟨g1, i * 15 + 1, none⟩ = some (.int .i64 (x.o 1)) := HCP3.out.fifteen HI.out 1 _ rfl
    have c2 : w3.cell? ⟨g1, i * 15 + 2, none⟩ = some (.int .i64 (x.o 2)) := HCP3.out.fifteen HI.out 2 _ rfl
    have c10 : w3.cell? ⟨g1, i * 15 + 10, none⟩ = some (.slice (A i) x.row.length (C i)) := HCP3.out.fifteen HI.out 10 _ rfl
    have c11 : w3.cell? ⟨g1, i * 15 + 11, none⟩ = some (.int .u32 x.v.a) := HCP3.out.fifteen HI.out 11 _ rfl
    have c12 : w3.cell? ⟨g1, i * 15 + 12, none⟩ = some (.int .u32 x.v.b) := HCP3.out.fifteen HI.out 12 _ rfl
    have c13 : w3.cell? ⟨g1, i * 15 + 13, none⟩ = some (.int .u32 x.v.c) := HCP3.out.fifteen HI.out 13 _ rfl
    have c14 : w3.cell? ⟨g1, i * 15 + 14, none⟩ = some (.int .u32 x.v.d) := HCP3.out.fifteen HI.out 14 _ rfl
    have f10 : w3.frozen? ⟨g1, i * 15 + 10, none⟩ = false := free_of HCP3.out.blk (i * 15 + 10)
    have f11 : w3.frozen? ⟨g1, i * 15 + 11, none⟩ = false := free_of HCP3.out.blk (i * 15 + 11)
    have f12 : w3.frozen? ⟨g1, i * 15 + 12, none⟩ = false := free_of HCP3.out.blk (i * 15 + 12)
    have f13 : w3.frozen? ⟨g1, i * 15 + 13, none⟩ = false := free_of HCP3.out.blk (i * 15 + 13)
    have f14 : w3.frozen? ⟨g1, i * 15 + 14, none⟩ = false := free_of HCP3.out.blk (i * 15 + 14)
    clear c1 c2 c10 c12 c13 c14 f10 f11 f12 f13 f14 k1 k3 k4 k5 k6
    clear d1 d2
    rcases H19.out with rfl | rfl | rfl | rfl | rfl | rfl
    all_goals
      go_wp2_with fail
      obtain ⟨rfl, rfl⟩ := Prod.mk.inj ((step_value_not (.inr HK.out) (by rw [E0.out, HK.out]) (by decide) (by rw [HK.out]; decide)).symm.trans HST2.out)
      refine bodyPost_ret (res_do _ _ a n c (w.heap.size + 1) ⟨12, ⟨0, 0, 0, 0⟩⟩ rfl rfl ?_) rfl ?_
      · exact range_heap (heap_set (heap_set (heap_set (heap_set (heap_set HR4.out 0 _) 1 _) 2 _) 3 _) 4 _) rfl
      have hbz := HB3.out
      exact ⟨(((((hbz.setCell (p := ⟨w.heap.size + 1, 0, none⟩) (by show w.heap.size ≤ w.heap.size + 1; omega) _).setCell (p := ⟨w.heap.size + 1, 1, none⟩) (by show w.heap.size ≤ w.heap.size + 1; omega) _).setCell (p := ⟨w.heap.size + 1, 2, none⟩) (by show w.heap.size ≤ w.heap.size + 1; omega) _).setCell (p := ⟨w.heap.size + 1, 3, none⟩) (by show w.heap.size ≤ w.heap.size + 1; omega) _).setCell (p := ⟨w.heap.size + 1, 4, none⟩) (by show w.heap.size ≤ w.heap.size + 1; omega) _), a, c, rfl, by rw [set_itself HI.out]; exact HST.out.below (((((hbz.setCell (p := ⟨w.heap.size + 1, 0, none⟩) (by show w.heap.size ≤ w.heap.size + 1; omega) _).setCell (p := ⟨w.heap.size + 1, 1, none⟩) (by show w.heap.size ≤ w.heap.size + 1; omega) _).setCell (p := ⟨w.heap.size + 1, 2, none⟩) (by show w.heap.size ≤ w.heap.size + 1; omega) _).setCell (p := ⟨w.heap.size + 1, 3, none⟩) (by show w.heap.size ≤ w.heap.size + 1; omega) _).setCell (p := ⟨w.heap.size + 1, 4, none⟩) (by show w.heap.size ≤ w.heap.size + 1; omega) _)⟩
  · go_enter Tryd.func41, Tryd.ntmps41
    go_wp2_with fail
    refine (HP.out _).mono ?_
    rintro e1 w1 ⟨rfl, hw1⟩
    obtain rfl := hw1.symm
    go_wp2_with fail
    refine (HCO.out _ a c (HST.out.below HB0.out)).mono ?_
    rintro e2 w2 ⟨g1, cap1, cur, A, C, rfl, hcap, hcp, hb2⟩
    have HS2 := Lib.hid (HS0.out.none (Keeps.ofBelow hb2))
    have HB2 := Lib.hid (HB0.out.trans (hb2.mono (by simp only [World.size_alloc]; omega)))
    have hBB : ((w.alloc (.cells #[.int .i64 k, .int .i64 (i : Int), .int .u32 v.a, .int .u32 v.b, .int .u32 v.c, .int .u32 v.d, .int .u32 N] 43)).alloc (.cells #[.int .i64 0, .int .u32 0, .int .u32 0, .int .u32 0, .int .u32 0] 45)).heap.size = w.heap.size + 2 := by rw [World.size_alloc, World.size_alloc]
    rw [hBB] at hcp
    clear hBB
    have HCP2 := Lib.hid hcp
    have HCAP := Lib.hid hcap
    have hg1 : w.heap.size + 2 ≤ g1 := hcp.ge
    have hc2 : w2.heap[w.heap.size]? = some (.cells #[.int .i64 k, .int .i64 (i : Int), .int .u32 v.a, .int .u32 v.b, .int .u32 v.c, .int .u32 v.d, .int .u32 N] 43 (0, 0)) := HS2.out.at 1 rfl
    clear hb2 hcp hcap
    have k0 := cell_of hc2 0
    have k1 := cell_of hc2 1
    have k2 := cell_of hc2 2
    have k3 := cell_of hc2 3
    have k4 := cell_of hc2 4
    have k5 := cell_of hc2 5
    have k6 := cell_of hc2 6
    simp only [List.getElem?_toArray, List.getElem?_cons_zero, List.getElem?_cons_succ] at k0 k1 k2 k3 k4 k5 k6
    clear hc2
    have HRO := Lib.hid (show w2.rangeAt g1 (i * 15) [.int .i64 (3 : Int), .int .i64 (x.o 1), .int .i64 (x.o 2), .int .i64 (x.o 3), .int .i64 (x.o 4), .int .i64 (x.o 5), .int .u32 (x.oi 0), .int .u32 (x.oi 1), .int .u32 (x.oi 2), .int .u32 (x.oi 3)] from fun j u hu => HCP2.out.fifteen HI.out j u (obj_partR x (A i) x.row.length (C i) j u (by rw [E0.out]; exact hu)))
    go_wp2_with (refine wpList_load_mid rfl 49 _ rfl g1 (i * 15) rfl [.int .i64 (3 : Int), .int .i64 (x.o 1), .int .i64 (x.o 2), .int .i64 (x.o 3), .int .i64 (x.o 4), .int .i64 (x.o 5), .int .u32 (x.oi 0), .int .u32 (x.oi 1), .int .u32 (x.oi 2), .int .u32 (x.oi 3)] _ HRO.out Tryd.underlying49 rfl obj_info19 ?_)
    refine (HR.out _).mono ?_
    rintro e3 w3 ⟨rfl, k3'⟩
    have HS3 := Lib.hid (HS2.out.none k3')
    have HB3 := Lib.hid (HB2.out.trans (k3'.none.mono HB2.out.size))
    have HCP3 := Lib.hid (HCP2.out.none k3')
    have hc3 : w3.heap[w.heap.size]? = some (.cells #[.int .i64 k, .int .i64 (i : Int), .int .u32 v.a, .int .u32 v.b, .int .u32 v.c, .int .u32 v.d, .int .u32 N] 43 (0, 0)) := HS3.out.at 1 rfl
    have hr4 : w3.heap[w.heap.size + 1]? = some (.cells #[.int .i64 0, .int .u32 0, .int .u32 0, .int .u32 0, .int .u32 0] 45 (0, 0)) := HS3.out.at 0 rfl
    clear k0 k1 k2 k3 k4 k5 k6 k3' HRO HCP2 HB2 HS2
    have k0 := cell_of hc3 0
    have k1 := cell_of hc3 1
    have k2 := cell_of hc3 2
    have k3 := cell_of hc3 3
    have k4 := cell_of hc3 4
    have k5 := cell_of hc3 5
    have k6 := cell_of hc3 6
    simp only [List.getElem?_toArray, List.getElem?_cons_zero, List.getElem?_cons_succ] at k0 k1 k2 k3 k4 k5 k6
    clear hc3
    have q0 := cell_of hr4 0
    have q1 := cell_of hr4 1
    have q2 := cell_of hr4 2
    have q3 := cell_of hr4 3
    have q4 := cell_of hr4 4
    have fq0 := free_of hr4 0
    have fq1 := free_of hr4 1
    have fq2 := free_of hr4 2
    have fq3 := free_of hr4 3
    have fq4 := free_of hr4 4
    simp only [List.getElem?_toArray, List.getElem?_cons_zero, List.getElem?_cons_succ] at q0 q1 q2 q3 q4
    have HR4 := Lib.hid hr4
    clear hr4
    have c0 : w3.cell? ⟨g1, i * 15, none⟩ = some (.int .i64 (3 : Int)) := by rw [← E0.out]; exact HCP3.out.fifteen HI.out 0 _ rfl
    have c1 : w3.cell? ⟨g1, i * 15 + 1, none⟩ = some (.int .i64 (x.o 1)) := HCP3.out.fifteen HI.out 1 _ rfl
    have c2 : w3.cell? ⟨g1, i * 15 + 2, none⟩ = some (.int .i64 (x.o 2)) := HCP3.out.fifteen HI.out 2 _ rfl
    have c10 : w3.cell? ⟨g1, i * 15 + 10, none⟩ = some (.slice (A i) x.row.length (C i)) := HCP3.out.fifteen HI.out 10 _ rfl
    have c11 : w3.cell? ⟨g1, i * 15 + 11, none⟩ = some (.int .u32 x.v.a) := HCP3.out.fifteen HI.out 11 _ rfl
    have c12 : w3.cell? ⟨g1, i * 15 + 12, none⟩ = some (.int .u32 x.v.b) := HCP3.out.fifteen HI.out 12 _ rfl
    have c13 : w3.cell? ⟨g1, i * 15 + 13, none⟩ = some (.int .u32 x.v.c) := HCP3.out.fifteen HI.out 13 _ rfl
    have c14 : w3.cell? ⟨g1, i * 15 + 14, none⟩ = some (.int .u32 x.v.d) := HCP3.out.fifteen HI.out 14 _ rfl
    have f10 : w3.frozen? ⟨g1, i * 15 + 10, none⟩ = false := free_of HCP3.out.blk (i * 15 + 10)
    have f11 : w3.frozen? ⟨g1, i * 15 + 11, none⟩ = false := free_of HCP3.out.blk (i * 15 + 11)
    have f12 : w3.frozen? ⟨g1, i * 15 + 12, none⟩ = false := free_of HCP3.out.blk (i * 15 + 12)
    have f13 : w3.frozen? ⟨g1, i * 15 + 13, none⟩ = false := free_of HCP3.out.blk (i * 15 + 13)
    have f14 : w3.frozen? ⟨g1, i * 15 + 14, none⟩ = false := free_of HCP3.out.blk (i * 15 + 14)
    clear c1 c2 c10 c12 c13 c14 f10 f11 f12 f13 f14 k1 k3 k4 k5 k6
    go_wp2_with fail
    obtain ⟨rfl, rfl⟩ := Prod.mk.inj ((step_value_not (.inr HK.out) (by rw [E0.out, HK.out]) (by decide) (by rw [HK.out]; decide)).symm.trans HST2.out)
    refine bodyPost_ret (res_do _ _ a n c (w.heap.size + 1) ⟨12, ⟨0, 0, 0, 0⟩⟩ rfl rfl ?_) rfl ?_
    · exact range_heap (heap_set (heap_set (heap_set (heap_set (heap_set HR4.out 0 _) 1 _) 2 _) 3 _) 4 _) rfl
    have hbz := HB3.out
    exact ⟨(((((hbz.setCell (p := ⟨w.heap.size + 1, 0, none⟩) (by show w.heap.size ≤ w.heap.size + 1; omega) _).setCell (p := ⟨w.heap.size + 1, 1, none⟩) (by show w.heap.size ≤ w.heap.size + 1; omega) _).setCell (p := ⟨w.heap.size + 1, 2, none⟩) (by show w.heap.size ≤ w.heap.size + 1; omega) _).setCell (p := ⟨w.heap.size + 1, 3, none⟩) (by show w.heap.size ≤ w.heap.size + 1; omega) _).setCell (p := ⟨w.heap.size + 1, 4, none⟩) (by show w.heap.size ≤ w.heap.size + 1; omega) _), a, c, rfl, by rw [set_itself HI.out]; exact HST.out.below (((((hbz.setCell (p := ⟨w.heap.size + 1, 0, none⟩) (by show w.heap.size ≤ w.heap.size + 1; omega) _).setCell (p := ⟨w.heap.size + 1, 1, none⟩) (by show w.heap.size ≤ w.heap.size + 1; omega) _).setCell (p := ⟨w.heap.size + 1, 2, none⟩) (by show w.heap.size ≤ w.heap.size + 1; omega) _).setCell (p := ⟨w.heap.size + 1, 3, none⟩) (by show w.heap.size ≤ w.heap.size + 1; omega) _).setCell (p := ⟨w.heap.size + 1, 4, none⟩) (by show w.heap.size ≤ w.heap.size + 1; omega) _)⟩
  · go_enter Tryd.func41, Tryd.ntmps41
    go_wp2_with fail
    refine (HP.out _).mono ?_
    rintro e1 w1 ⟨rfl, hw1⟩
    obtain rfl := hw1.symm
    go_wp2_with fail
    refine (HCO.out _ a c (HST.out.below HB0.out)).mono ?_
    rintro e2 w2 ⟨g1, cap1, cur, A, C, rfl, hcap, hcp, hb2⟩
    have HS2 := Lib.hid (HS0.out.none (Keeps.ofBelow hb2))
    have HB2 := Lib.hid (HB0.out.trans (hb2.mono (by simp only [World.size_alloc]; omega)))
    have hBB : ((w.alloc (.cells #[.int .i64 k, .int .i64 (i : Int), .int .u32 v.a, .int .u32 v.b, .int .u32 v.c, .int .u32 v.d, .int .u32 N] 43)).alloc (.cells #[.int .i64 0, .int .u32 0, .int .u32 0, .int .u32 0, .int .u32 0] 45)).heap.size = w.heap.size + 2 := by rw [World.size_alloc, World.size_alloc]
    rw [hBB] at hcp
    clear hBB
    have HCP2 := Lib.hid hcp
    have HCAP := Lib.hid hcap
    have hg1 : w.heap.size + 2 ≤ g1 := hcp.ge
    have hc2 : w2.heap[w.heap.size]? = some (.cells #[.int .i64 k, .int .i64 (i : Int), .int .u32 v.a, .int .u32 v.b, .int .u32 v.c, .int .u32 v.d, .int .u32 N] 43 (0, 0)) := HS2.out.at 1 rfl
    clear hb2 hcp hcap
    have k0 := cell_of hc2 0
    have k1 := cell_of hc2 1
    have k2 := cell_of hc2 2
    have k3 := cell_of hc2 3
    have k4 := cell_of hc2 4
    have k5 := cell_of hc2 5
    have k6 := cell_of hc2 6
    simp only [List.getElem?_toArray, List.getElem?_cons_zero, List.getElem?_cons_succ] at k0 k1 k2 k3 k4 k5 k6
    clear hc2
    have HRO := Lib.hid (show w2.rangeAt g1 (i * 15) [.int .i64 (3 : Int), .int .i64 (x.o 1), .int .i64 (x.o 2), .int .i64 (x.o 3), .int .i64 (x.o 4), .int .i64 (x.o 5), .int .u32 (x.oi 0), .int .u32 (x.oi 1), .int .u32 (x.oi 2), .int .u32 (x.oi 3)] from fun j u hu => HCP2.out.fifteen HI.out j u (obj_partR x (A i) x.row.length (C i) j u (by rw [E0.out]; exact hu)))
    go_wp2_with (refine wpList_load_mid rfl 49 _ rfl g1 (i * 15) rfl [.int .i64 (3 : Int), .int .i64 (x.o 1), .int .i64 (x.o 2), .int .i64 (x.o 3), .int .i64 (x.o 4), .int .i64 (x.o 5), .int .u32 (x.oi 0), .int .u32 (x.oi 1), .int .u32 (x.oi 2), .int .u32 (x.oi 3)] _ HRO.out Tryd.underlying49 rfl obj_info19 ?_)
    refine (HR.out _).mono ?_
    rintro e3 w3 ⟨rfl, k3'⟩
    have HS3 := Lib.hid (HS2.out.none k3')
    have HB3 := Lib.hid (HB2.out.trans (k3'.none.mono HB2.out.size))
    have HCP3 := Lib.hid (HCP2.out.none k3')
    have hc3 : w3.heap[w.heap.size]? = some (.cells #[.int .i64 k, .int .i64 (i : Int), .int .u32 v.a, .int .u32 v.b, .int .u32 v.c, .int .u32 v.d, .int .u32 N] 43 (0, 0)) := HS3.out.at 1 rfl
    have hr4 : w3.heap[w.heap.size + 1]? = some (.cells #[.int .i64 0, .int .u32 0, .int .u32 0, .int .u32 0, .int .u32 0] 45 (0, 0)) := HS3.out.at 0 rfl
    clear k0 k1 k2 k3 k4 k5 k6 k3' HRO HCP2 HB2 HS2
    have k0 := cell_of hc3 0
    have k1 := cell_of hc3 1
    have k2 := cell_of hc3 2
    have k3 := cell_of hc3 3
    have k4 := cell_of hc3 4
    have k5 := cell_of hc3 5
    have k6 := cell_of hc3 6
    simp only [List.getElem?_toArray, List.getElem?_cons_zero, List.getElem?_cons_succ] at k0 k1 k2 k3 k4 k5 k6
    clear hc3
    have q0 := cell_of hr4 0
    have q1 := cell_of hr4 1
    have q2 := cell_of hr4 2
    have q3 := cell_of hr4 3
    have q4 := cell_of hr4 4
    have fq0 := free_of hr4 0
    have fq1 := free_of hr4 1
    have fq2 := free_of hr4 2
    have fq3 := free_of hr4 3
    have fq4 := free_of hr4 4
    simp only [List.getElem?_toArray, List.getElem?_cons_zero, List.getElem?_cons_succ] at q0 q1 q2 q3 q4
    have HR4 := Lib.hid hr4
    clear hr4
    have c0 : w3.cell? ⟨g1, i * 15, none⟩ = some (.int .i64 (3 : Int)) := by rw [← E0.out]; exact HCP3.out.fifteen HI.out 0 _ rfl
    have c1 : w3.cell? ⟨g1, i * 15 + 1, none⟩ = some (.int .i64 (x.o 1)) := HCP3.out.fifteen HI.out 1 _ rfl
    have c2 : w3.cell? ⟨g1, i * 15 + 2, none⟩ = some (.int .i64 (x.o 2)) := HCP3.out.fifteen HI.out 2 _ rfl
    have c10 : w3.cell? ⟨g1, i * 15 + 10, none⟩ = some (.slice (A i) x.row.length (C i)) := HCP3.out.fifteen HI.out 10 _ rfl
    have c11 : w3.cell? ⟨g1, i * 15 + 11, none⟩ = some (.int .u32 x.v.a) := HCP3.out.fifteen HI.out 11 _ rfl
    have c12 : w3.cell? ⟨g1, i * 15 + 12, none⟩ = some (.int .u32 x.v.b) := HCP3.out.fifteen HI.out 12 _ rfl
    have c13 : w3.cell? ⟨g1, i * 15 + 13, none⟩ = some (.int .u32 x.v.c) := HCP3.out.fifteen HI.out 13 _ rfl
    have c14 : w3.cell? ⟨g1, i * 15 + 14, none⟩ = some (.int .u32 x.v.d) := HCP3.out.fifteen HI.out 14 _ rfl
    have f10 : w3.frozen? ⟨g1, i * 15 + 10, none⟩ = false := free_of HCP3.out.blk (i * 15 + 10)
    have f11 : w3.frozen? ⟨g1, i * 15 + 11, none⟩ = false := free_of HCP3.out.blk (i * 15 + 11)
    have f12 : w3.frozen? ⟨g1, i * 15 + 12, none⟩ = false := free_of HCP3.out.blk (i * 15 + 12)
    have f13 : w3.frozen? ⟨g1, i * 15 + 13, none⟩ = false := free_of HCP3.out.blk (i * 15 + 13)
    have f14 : w3.frozen? ⟨g1, i * 15 + 14, none⟩ = false := free_of HCP3.out.blk (i * 15 + 14)
    clear c1 c2 c10 c12 c13 c14 f10 f11 f12 f13 f14 k1 k3 k4 k5 k6
    go_wp2_with fail
    obtain ⟨rfl, rfl⟩ := Prod.mk.inj ((step_value_not (.inr HK.out) (by rw [E0.out, HK.out]) (by decide) (by rw [HK.out]; decide)).symm.trans HST2.out)
    refine bodyPost_ret (res_do _ _ a n c (w.heap.size + 1) ⟨12, ⟨0, 0, 0, 0⟩⟩ rfl rfl ?_) rfl ?_
    · exact range_heap (heap_set (heap_set (heap_set (heap_set (heap_set HR4.out 0 _) 1 _) 2 _) 3 _) 4 _) rfl
    have hbz := HB3.out
    exact ⟨(((((hbz.setCell (p := ⟨w.heap.size + 1, 0, none⟩) (by show w.heap.size ≤ w.heap.size + 1; omega) _).setCell (p := ⟨w.heap.size + 1, 1, none⟩) (by show w.heap.size ≤ w.heap.size + 1; omega) _).setCell (p := ⟨w.heap.size + 1, 2, none⟩) (by show w.heap.size ≤ w.heap.size + 1; omega) _).setCell (p := ⟨w.heap.size + 1, 3, none⟩) (by show w.heap.size ≤ w.heap.size + 1; omega) _).setCell (p := ⟨w.heap.size + 1, 4, none⟩) (by show w.heap.size ≤ w.heap.size + 1; omega) _), a, c, rfl, by rw [set_itself HI.out]; exact HST.out.below (((((hbz.setCell (p := ⟨w.heap.size + 1, 0, none⟩) (by show w.heap.size ≤ w.heap.size + 1; omega) _).setCell (p := ⟨w.heap.size + 1, 1, none⟩) (by show w.heap.size ≤ w.heap.size + 1; omega) _).setCell (p := ⟨w.heap.size + 1, 2, none⟩) (by show w.heap.size ≤ w.heap.size + 1; omega) _).setCell (p := ⟨w.heap.size + 1, 3, none⟩) (by show w.heap.size ≤ w.heap.size + 1; omega) _).setCell (p := ⟨w.heap.size + 1, 4, none⟩) (by show w.heap.size ≤ w.heap.size + 1; omega) _)⟩
end Go.Proofs.YtohajfkekkelhaaDoor
