import Derived.Test.YtohajfkekkelhaaDoorRefGz
import Derived.Deep.MidRow
import Derived.Deep.AppendLies
namespace Go.Proofs.YtohajfkekkelhaaDoor
open Go.ChangeShapes Go.WideShapes Go.ChangeAt Go.RowKit
set_option linter.unusedVariables false
set_option linter.unusedSimpArgs false
set_option maxRecDepth 100000 in
set_option maxHeartbeats 16000000 in
theorem rdo_look (w : World) (a : Option Addr) (c : Nat) (L : List ItemD) (h : StateR w a L) (ok : ∀ x, x ∈ L → x.Ok) (hn : L.length ≤ 1000) (k N : Int) (hki : i64B k) (v : W4) (hv : v.Ok) (i : Nat) (x : ItemD) (hi : L[i]? = some x) (hK : kindP x.o = 4) (hkk : plainP k = 9) (p : Nat) (hp : x.v.a = (p : Int)) :
    Calls Tryd.prog 41 #[.slice a L.length c, .agg #[.int .i64 k, .int .i64 (i : Int), .int .u32 v.a, .int .u32 v.b, .int .u32 v.c, .int .u32 v.d, .int .u32 N]] w (DoesR w L.length (L, resW p)) := by
  have hil := (List.getElem?_eq_some_iff.1 hi).1
  have okx := ok x (List.mem_of_getElem? hi)
  have HB0 := Lib.hid (show Below w.heap.size w ((w.alloc (.cells #[.int .i64 k, .int .i64 (i : Int), .int .u32 v.a, .int .u32 v.b, .int .u32 v.c, .int .u32 v.d, .int .u32 N] 43)).alloc (.cells #[.int .i64 0, .int .u32 0, .int .u32 0, .int .u32 0, .int .u32 0] 45)) from ((Below.refl _ w).alloc (Nat.le_refl _) _).alloc (by simp) _)
  have HS0 := Lib.hid (show Has w ((w.alloc (.cells #[.int .i64 k, .int .i64 (i : Int), .int .u32 v.a, .int .u32 v.b, .int .u32 v.c, .int .u32 v.d, .int .u32 N] 43)).alloc (.cells #[.int .i64 0, .int .u32 0, .int .u32 0, .int .u32 0, .int .u32 0] 45)) [(w.heap.size + 1, .cells #[.int .i64 0, .int .u32 0, .int .u32 0, .int .u32 0, .int .u32 0] 45 (0, 0)), (w.heap.size, .cells #[.int .i64 k, .int .i64 (i : Int), .int .u32 v.a, .int .u32 v.b, .int .u32 v.c, .int .u32 v.d, .int .u32 N] 43 (0, 0))] from (((Has.start w).alloc (.cells #[.int .i64 k, .int .i64 (i : Int), .int .u32 v.a, .int .u32 v.b, .int .u32 v.c, .int .u32 v.d, .int .u32 N] 43)).alloc (.cells #[.int .i64 0, .int .u32 0, .int .u32 0, .int .u32 0, .int .u32 0] 45)).eq (by simp))
  have HST := Lib.hid h
  have HP := Lib.hid (fun w => rplain_any w k hki)
  obtain ⟨n, hne⟩ : ∃ n, L.length = n := ⟨_, rfl⟩
  have HN := Lib.hid hne
  have HCO := Lib.hid (fun w a c h => rcopied_any w a c L h ok hn n hne (by omega))
  have HR := Lib.hid (fun w => rright_all x.o x.oi w (okx.o 1 (by omega)))
  have hr0 := kindR (by omega : kindP x.o ≠ 0)
  rw [hr0.1] at HR
  unfold objC at HR
  have e0 : x.o 0 = 4 := by rw [← hr0.2, hK]
  have E0 := Lib.hid e0
  rw [e0] at HR
  clear hr0 e0
  have HK := Lib.hid hK
  have HOK := Lib.hid okx
  have HPP := Lib.hid hp
  clear hp
  rw [hne] at hil
  have d3 : decide ((i : Int) < 0) = false := decide_eq_false (by omega)
  have d4 : decide ((n : Int) ≤ (i : Int)) = false := decide_eq_false (by omega)
  have d5 : decide (n ≤ i) = false := decide_eq_false (by omega)
  have d6 : decide (i < n) = true := decide_eq_true hil
  rw [hne]
  have HI := Lib.hid hi
  clear h ok hv hne hi okx hK hn
  rw [hkk] at HP
  clear hki hkk
  go_enter Tryd.func41, Tryd.ntmps41
  go_wp2_with fail
  refine (HP.out _).mono ?_
  rintro e1 w1 ⟨rfl, hw1⟩
  obtain rfl := hw1.symm
  go_wp2_with fail
  refine (HCO.out _ a c (HST.out.below HB0.out)).mono ?_
  rintro e2 w2 ⟨g1, cap1, cur, A, C, rfl, hcap, hcp, hb2⟩
  have HS2 := Lib.hid (HS0.out.none (Keeps.ofBelow hb2))
  have HB2 := Lib.hid (HB0.out.trans (hb2.mono (by simp only [World.size_alloc]; omega)))
  have hBB : ((w.alloc (.cells #[.int .i64 k, .int .i64 (i : Int), .int .u32 v.a, .int .u32 v.b, .int .u32 v.c, .int .u32 v.d, .int .u32 N] 43)).alloc (.cells #[.int .i64 0, .int .u32 0, .int .u32 0, .int .u32 0, .int .u32 0] 45)).heap.size = w.heap.size + 2 := by rw [World.size_alloc, World.size_alloc]
  rw [hBB] at hcp
  clear hBB
  have HCP2 := Lib.hid hcp
  have HCAP := Lib.hid hcap
  have hg1 : w.heap.size + 2 ≤ g1 := hcp.ge
  have hc2 : w2.heap[w.heap.size]? = some (.cells #[.int .i64 k, .int .i64 (i : Int), .int .u32 v.a, .int .u32 v.b, .int .u32 v.c, .int .u32 v.d, .int .u32 N] 43 (0, 0)) := HS2.out.at 1 rfl
  clear hb2 hcp hcap
  have k0 := cell_of hc2 0
  have k1 := cell_of hc2 1
  have k2 := cell_of hc2 2
  have k3 := cell_of hc2 3
  have k4 := cell_of hc2 4
  have k5 := cell_of hc2 5
  have k6 := cell_of hc2 6
  simp only [List.getElem?_toArray, List.getElem?_cons_zero, List.getElem?_cons_succ] at k0 k1 k2 k3 k4 k5 k6
  clear hc2
  have HRO := Lib.hid (show w2.rangeAt g1 (i * 15) [.int .i64 (4 : Int), .int .i64 (x.o 1), .int .i64 (x.o 2), .int .i64 (x.o 3), .int .i64 (x.o 4), .int .i64 (x.o 5), .int .u32 (x.oi 0), .int .u32 (x.oi 1), .int .u32 (x.oi 2), .int .u32 (x.oi 3)] from fun j u hu => HCP2.out.fifteen HI.out j u (obj_partR x (A i) x.row.length (C i) j u (by rw [E0.out]; exact hu)))
  go_wp2_with (refine wpList_load_mid rfl 49 _ rfl g1 (i * 15) rfl [.int .i64 (4 : Int), .int .i64 (x.o 1), .int .i64 (x.o 2), .int .i64 (x.o 3), .int .i64 (x.o 4), .int .i64 (x.o 5), .int .u32 (x.oi 0), .int .u32 (x.oi 1), .int .u32 (x.oi 2), .int .u32 (x.oi 3)] _ HRO.out Tryd.underlying49 rfl obj_info19 ?_)
  refine (HR.out _).mono ?_
  rintro e3 w3 ⟨rfl, k3'⟩
  have HS3 := Lib.hid (HS2.out.none k3')
  have HB3 := Lib.hid (HB2.out.trans (k3'.none.mono HB2.out.size))
  have HCP3 := Lib.hid (HCP2.out.none k3')
  have hc3 : w3.heap[w.heap.size]? = some (.cells #[.int .i64 k, .int .i64 (i : Int), .int .u32 v.a, .int .u32 v.b, .int .u32 v.c, .int .u32 v.d, .int .u32 N] 43 (0, 0)) := HS3.out.at 1 rfl
  have hr4 : w3.heap[w.heap.size + 1]? = some (.cells #[.int .i64 0, .int .u32 0, .int .u32 0, .int .u32 0, .int .u32 0] 45 (0, 0)) := HS3.out.at 0 rfl
  clear k0 k1 k2 k3 k4 k5 k6 k3' HRO HCP2 HB2 HS2
  have k0 := cell_of hc3 0
  have k1 := cell_of hc3 1
  have k2 := cell_of hc3 2
  have k3 := cell_of hc3 3
  have k4 := cell_of hc3 4
  have k5 := cell_of hc3 5
  have k6 := cell_of hc3 6
  simp only [List.getElem?_toArray, List.getElem?_cons_zero, List.getElem?_cons_succ] at k0 k1 k2 k3 k4 k5 k6
  clear hc3
  have q0 := cell_of hr4 0
  have q1 := cell_of hr4 1
  have q2 := cell_of hr4 2
  have q3 := cell_of hr4 3
  have q4 := cell_of hr4 4
  have fq0 := free_of hr4 0
  have fq1 := free_of hr4 1
  have fq2 := free_of hr4 2
  have fq3 := free_of hr4 3
  have fq4 := free_of hr4 4
  simp only [List.getElem?_toArray, List.getElem?_cons_zero, List.getElem?_cons_succ] at q0 q1 q2 q3 q4
  have HR4 := Lib.hid hr4
  clear hr4
  have c0 : w3.cell? ⟨g1, i * 15, none⟩ = some (.int .i64 (4 : Int)) := by rw [← E0.out]; exact HCP3.out.fifteen HI.out 0 _ rfl
  have c1 : w3.cell? ⟨g1, i * 15 + 1, none⟩ = some (.int .i64 (x.o 1)) := HCP3.out.fifteen HI.out 1 _ rfl
  have c2 : w3.cell? ⟨g1, i * 15 + 2, none⟩ = some (.int .i64 (x.o 2)) := HCP3.out.fifteen HI.out 2 _ rfl
  have c10 : w3.cell? ⟨g1, i * 15 + 10, none⟩ = some (.slice (A i) x.row.length (C i)) := HCP3.out.fifteen HI.out 10 _ rfl
  have c11 : w3.cell? ⟨g1, i * 15 + 11, none⟩ = some (.int .u32 x.v.a) := HCP3.out.fifteen HI.out 11 _ rfl
  have c12 : w3.cell? ⟨g1, i * 15 + 12, none⟩ = some (.int .u32 x.v.b) := HCP3.out.fifteen HI.out 12 _ rfl
  have c13 : w3.cell? ⟨g1, i * 15 + 13, none⟩ = some (.int .u32 x.v.c) := HCP3.out.fifteen HI.out 13 _ rfl
  have c14 : w3.cell? ⟨g1, i * 15 + 14, none⟩ = some (.int .u32 x.v.d) := HCP3.out.fifteen HI.out 14 _ rfl
  have f10 : w3.frozen? ⟨g1, i * 15 + 10, none⟩ = false := free_of HCP3.out.blk (i * 15 + 10)
  have f11 : w3.frozen? ⟨g1, i * 15 + 11, none⟩ = false := free_of HCP3.out.blk (i * 15 + 11)
  have f12 : w3.frozen? ⟨g1, i * 15 + 12, none⟩ = false := free_of HCP3.out.blk (i * 15 + 12)
  have f13 : w3.frozen? ⟨g1, i * 15 + 13, none⟩ = false := free_of HCP3.out.blk (i * 15 + 13)
  have f14 : w3.frozen? ⟨g1, i * 15 + 14, none⟩ = false := free_of HCP3.out.blk (i * 15 + 14)
  rw [HPP.out] at c11
  go_wp2_with fail
  refine bodyPost_ret (res_do _ _ a n c (w.heap.size + 1) ⟨0, ⟨p, 0, 0, 0⟩⟩ rfl rfl ?_) rfl ?_
  · exact range_heap (heap_set (heap_set (heap_set (heap_set (heap_set HR4.out 0 _) 1 _) 2 _) 3 _) 4 _) rfl
  have hbz := HB3.out
  exact ⟨(((((hbz.setCell (p := ⟨w.heap.size + 1, 0, none⟩) (by show w.heap.size ≤ w.heap.size + 1; omega) _).setCell (p := ⟨w.heap.size + 1, 1, none⟩) (by show w.heap.size ≤ w.heap.size + 1; omega) _).setCell (p := ⟨w.heap.size + 1, 2, none⟩) (by show w.heap.size ≤ w.heap.size + 1; omega) _).setCell (p := ⟨w.heap.size + 1, 3, none⟩) (by show w.heap.size ≤ w.heap.size + 1; omega) _).setCell (p := ⟨w.heap.size + 1, 4, none⟩) (by show w.heap.size ≤ w.heap.size + 1; omega) _), a, c, rfl, HST.out.below (((((hbz.setCell (p := ⟨w.heap.size + 1, 0, none⟩) (by show w.heap.size ≤ w.heap.size + 1; omega) _).setCell (p := ⟨w.heap.size + 1, 1, none⟩) (by show w.heap.size ≤ w.heap.size + 1; omega) _).setCell (p := ⟨w.heap.size + 1, 2, none⟩) (by show w.heap.size ≤ w.heap.size + 1; omega) _).setCell (p := ⟨w.heap.size + 1, 3, none⟩) (by show w.heap.size ≤ w.heap.size + 1; omega) _).setCell (p := ⟨w.heap.size + 1, 4, none⟩) (by show w.heap.size ≤ w.heap.size + 1; omega) _)⟩
set_option maxRecDepth 100000 in
set_option maxHeartbeats 16000000 in
theorem rdo_any4 (w : World) (a : Option Addr) (c : Nat) (L : List ItemD) (h : StateR w a L) (ok : ∀ x, x ∈ L → x.Ok) (hn : L.length ≤ 1000) (k N : Int) (hki : i64B k) (v : W4) (hv : v.Ok) (i : Nat) (x : ItemD) (hi : L[i]? = some x) (hK : kindP x.o = 4) (hkk : plainP k = 16) (p m : Nat) (hp : x.v.a = (p : Int)) (hm : v.a = (m : Int)) (hp1 : p < 4294967296) (hm1 : m < 4294967296) (r : ResD) (hr : r = if holdsP 4 p m = true then resW p else res9 7) :
    Calls Tryd.prog 41 #[.slice a L.length c, .agg #[.int .i64 k, .int .i64 (i : Int), .int .u32 v.a, .int .u32 v.b, .int .u32 v.c, .int .u32 v.d, .int .u32 N]] w (DoesR w L.length (L, r)) := by
  have hil := (List.getElem?_eq_some_iff.1 hi).1
  have okx := ok x (List.mem_of_getElem? hi)
  have HB0 := Lib.hid (show Below w.heap.size w ((w.alloc (.cells #[.int .i64 k, .int .i64 (i : Int), .int .u32 v.a, .int .u32 v.b, .int .u32 v.c, .int .u32 v.d, .int .u32 N] 43)).alloc (.cells #[.int .i64 0, .int .u32 0, .int .u32 0, .int .u32 0, .int .u32 0] 45)) from ((Below.refl _ w).alloc (Nat.le_refl _) _).alloc (by simp) _)
  have HS0 := Lib.hid (show Has w ((w.alloc (.cells #[.int .i64 k, .int .i64 (i : Int), .int .u32 v.a, .int .u32 v.b, .int .u32 v.c, .int .u32 v.d, .int .u32 N] 43)).alloc (.cells #[.int .i64 0, .int .u32 0, .int .u32 0, .int .u32 0, .int .u32 0] 45)) [(w.heap.size + 1, .cells #[.int .i64 0, .int .u32 0, .int .u32 0, .int .u32 0, .int .u32 0] 45 (0, 0)), (w.heap.size, .cells #[.int .i64 k, .int .i64 (i : Int), .int .u32 v.a, .int .u32 v.b, .int .u32 v.c, .int .u32 v.d, .int .u32 N] 43 (0, 0))] from (((Has.start w).alloc (.cells #[.int .i64 k, .int .i64 (i : Int), .int .u32 v.a, .int .u32 v.b, .int .u32 v.c, .int .u32 v.d, .int .u32 N] 43)).alloc (.cells #[.int .i64 0, .int .u32 0, .int .u32 0, .int .u32 0, .int .u32 0] 45)).eq (by simp))
  have HST := Lib.hid h
  have HP := Lib.hid (fun w => rplain_any w k hki)
  obtain ⟨n, hne⟩ : ∃ n, L.length = n := ⟨_, rfl⟩
  have HN := Lib.hid hne
  have HCO := Lib.hid (fun w a c h => rcopied_any w a c L h ok hn n hne (by omega))
  have HR := Lib.hid (fun w => rright_all x.o x.oi w (okx.o 1 (by omega)))
  have hr0 := kindR (by omega : kindP x.o ≠ 0)
  rw [hr0.1] at HR
  unfold objC at HR
  have e0 : x.o 0 = 4 := by rw [← hr0.2, hK]
  have E0 := Lib.hid e0
  rw [e0] at HR
  clear hr0 e0
  have HK := Lib.hid hK
  have HOK := Lib.hid okx
  have HPP := Lib.hid hp
  have HMM := Lib.hid hm
  have HH := Lib.hid (fun w => rholds_any w 4 (by omega) p m hp1 hm1)
  generalize holdsP 4 p m = q at *
  have HRES := Lib.hid hr
  clear hp hm hr
  rw [hne] at hil
  have d3 : decide ((i : Int) < 0) = false := decide_eq_false (by omega)
  have d4 : decide ((n : Int) ≤ (i : Int)) = false := decide_eq_false (by omega)
  have d5 : decide (n ≤ i) = false := decide_eq_false (by omega)
  have d6 : decide (i < n) = true := decide_eq_true hil
  rw [hne]
  have HI := Lib.hid hi
  clear h ok hv hne hi okx hK hn
  rw [hkk] at HP
  clear hki hkk
  go_enter Tryd.func41, Tryd.ntmps41
  go_wp2_with fail
  refine (HP.out _).mono ?_
  rintro e1 w1 ⟨rfl, hw1⟩
  obtain rfl := hw1.symm
  go_wp2_with fail
  refine (HCO.out _ a c (HST.out.below HB0.out)).mono ?_
  rintro e2 w2 ⟨g1, cap1, cur, A, C, rfl, hcap, hcp, hb2⟩
  have HS2 := Lib.hid (HS0.out.none (Keeps.ofBelow hb2))
  have HB2 := Lib.hid (HB0.out.trans (hb2.mono (by simp only [World.size_alloc]; omega)))
  have hBB : ((w.alloc (.cells #[.int .i64 k, .int .i64 (i : Int), .int .u32 v.a, .int .u32 v.b, .int .u32 v.c, .int .u32 v.d, .int .u32 N] 43)).alloc (.cells #[.int .i64 0, .int .u32 0, .int .u32 0, .int .u32 0, .int .u32 0] 45)).heap.size = w.heap.size + 2 := by rw [World.size_alloc, World.size_alloc]
  rw [hBB] at hcp
  clear hBB
  have HCP2 := Lib.hid hcp
  have HCAP := Lib.hid hcap
  have hg1 : w.heap.size + 2 ≤ g1 := hcp.ge
  have hc2 : w2.heap[w.heap.size]? = some (.cells #[.int .i64 k, .int .i64 (i : Int), .int .u32 v.a, .int .u32 v.b, .int .u32 v.c, .int .u32 v.d, .int .u32 N] 43 (0, 0)) := HS2.out.at 1 rfl
  clear hb2 hcp hcap
  have k0 := cell_of hc2 0
  have k1 := cell_of hc2 1
  have k2 := cell_of hc2 2
  have k3 := cell_of hc2 3
  have k4 := cell_of hc2 4
  have k5 := cell_of hc2 5
  have k6 := cell_of hc2 6
  simp only [List.getElem?_toArray, List.getElem?_cons_zero, List.getElem?_cons_succ] at k0 k1 k2 k3 k4 k5 k6
  clear hc2
  have HRO := Lib.hid (show w2.rangeAt g1 (i * 15) [.int .i64 (4 : Int), .int .i64 (x.o 1), .int .i64 (x.o 2), .int .i64 (x.o 3), .int .i64 (x.o 4), .int .i64 (x.o 5), .int .u32 (x.oi 0), .int .u32 (x.oi 1), .int .u32 (x.oi 2), .int .u32 (x.oi 3)] from fun j u hu => HCP2.out.fifteen HI.out j u (obj_partR x (A i) x.row.length (C i) j u (by rw [E0.out]; exact hu)))
  go_wp2_with (refine wpList_load_mid rfl 49 _ rfl g1 (i * 15) rfl [.int .i64 (4 : Int), .int .i64 (x.o 1), .int .i64 (x.o 2), .int .i64 (x.o 3), .int .i64 (x.o 4), .int .i64 (x.o 5), .int .u32 (x.oi 0), .int .u32 (x.oi 1), .int .u32 (x.oi 2), .int .u32 (x.oi 3)] _ HRO.out Tryd.underlying49 rfl obj_info19 ?_)
  refine (HR.out _).mono ?_
  rintro e3 w3 ⟨rfl, k3'⟩
  have HS3 := Lib.hid (HS2.out.none k3')
  have HB3 := Lib.hid (HB2.out.trans (k3'.none.mono HB2.out.size))
  have HCP3 := Lib.hid (HCP2.out.none k3')
  have hc3 : w3.heap[w.heap.size]? = some (.cells #[.int .i64 k, .int .i64 (i : Int), .int .u32 v.a, .int .u32 v.b, .int .u32 v.c, .int .u32 v.d, .int .u32 N] 43 (0, 0)) := HS3.out.at 1 rfl
  have hr4 : w3.heap[w.heap.size + 1]? = some (.cells #[.int .i64 0, .int .u32 0, .int .u32 0, .int .u32 0, .int .u32 0] 45 (0, 0)) := HS3.out.at 0 rfl
  clear k0 k1 k2 k3 k4 k5 k6 k3' HRO HCP2 HB2 HS2
  have k0 := cell_of hc3 0
  have k1 := cell_of hc3 1
  have k2 := cell_of hc3 2
  have k3 := cell_of hc3 3
  have k4 := cell_of hc3 4
  have k5 := cell_of hc3 5
  have k6 := cell_of hc3 6
  simp only [List.getElem?_toArray, List.getElem?_cons_zero, List.getElem?_cons_succ] at k0 k1 k2 k3 k4 k5 k6
  clear hc3
  have q0 := cell_of hr4 0
  have q1 := cell_of hr4 1
  have q2 := cell_of hr4 2
  have q3 := cell_of hr4 3
  have q4 := cell_of hr4 4
  have fq0 := free_of hr4 0
  have fq1 := free_of hr4 1
  have fq2 := free_of hr4 2
  have fq3 := free_of hr4 3
  have fq4 := free_of hr4 4
  simp only [List.getElem?_toArray, List.getElem?_cons_zero, List.getElem?_cons_succ] at q0 q1 q2 q3 q4
  have HR4 := Lib.hid hr4
  clear hr4
  have c0 : w3.cell? ⟨g1, i * 15, none⟩ = some (.int .i64 (4 : Int)) := by rw [← E0.out]; exact HCP3.out.fifteen HI.out 0 _ rfl
  have c1 : w3.cell? ⟨g1, i * 15 + 1, none⟩ = some (.int .i64 (x.o 1)) := HCP3.out.fifteen HI.out 1 _ rfl
  have c2 : w3.cell? ⟨g1, i * 15 + 2, none⟩ = some (.int .i64 (x.o 2)) := HCP3.out.fifteen HI.out 2 _ rfl
  have c10 : w3.cell? ⟨g1, i * 15 + 10, none⟩ = some (.slice (A i) x.row.length (C i)) := HCP3.out.fifteen HI.out 10 _ rfl
  have c11 : w3.cell? ⟨g1, i * 15 + 11, none⟩ = some (.int .u32 x.v.a) := HCP3.out.fifteen HI.out 11 _ rfl
  have c12 : w3.cell? ⟨g1, i * 15 + 12, none⟩ = some (.int .u32 x.v.b) := HCP3.out.fifteen HI.out 12 _ rfl
  have c13 : w3.cell? ⟨g1, i * 15 + 13, none⟩ = some (.int .u32 x.v.c) := HCP3.out.fifteen HI.out 13 _ rfl
  have c14 : w3.cell? ⟨g1, i * 15 + 14, none⟩ = some (.int .u32 x.v.d) := HCP3.out.fifteen HI.out 14 _ rfl
  have f10 : w3.frozen? ⟨g1, i * 15 + 10, none⟩ = false := free_of HCP3.out.blk (i * 15 + 10)
  have f11 : w3.frozen? ⟨g1, i * 15 + 11, none⟩ = false := free_of HCP3.out.blk (i * 15 + 11)
  have f12 : w3.frozen? ⟨g1, i * 15 + 12, none⟩ = false := free_of HCP3.out.blk (i * 15 + 12)
  have f13 : w3.frozen? ⟨g1, i * 15 + 13, none⟩ = false := free_of HCP3.out.blk (i * 15 + 13)
  have f14 : w3.frozen? ⟨g1, i * 15 + 14, none⟩ = false := free_of HCP3.out.blk (i * 15 + 14)
  rw [HMM.out] at k2
  rw [HPP.out] at c11
  go_wp2_with fail
  refine (HH.out _).mono ?_
  rintro e4 w4 ⟨rfl, k4'⟩
  have HB4 := Lib.hid (HB3.out.trans (k4'.none.mono HB3.out.size))
  have hr5 := k4'.at HR4.out (fun h => h)
  have HR5 := Lib.hid hr5
  clear q0 q1 q2 q3 q4 fq0 fq1 fq2 fq3 fq4 c0 c1 c2 c10 c11 c12 c13 c14 f10 f11 f12 f13 f14 k0 k1 k2 k3 k4 k5 k6 k4'
  have q0 := cell_of hr5 0
  have q1 := cell_of hr5 1
  have q2 := cell_of hr5 2
  have q3 := cell_of hr5 3
  have q4 := cell_of hr5 4
  have fq0 := free_of hr5 0
  have fq1 := free_of hr5 1
  have fq2 := free_of hr5 2
  have fq3 := free_of hr5 3
  have fq4 := free_of hr5 4
  simp only [List.getElem?_toArray, List.getElem?_cons_zero, List.getElem?_cons_succ] at q0 q1 q2 q3 q4
  clear hr5
  cases q
  · go_wp2_with fail
    obtain rfl : r = res9 7 := HRES.out.trans (by simp)
    refine bodyPost_ret (res_do _ _ a n c (w.heap.size + 1) ⟨7, ⟨0, 0, 0, 0⟩⟩ rfl rfl ?_) rfl ?_
    · exact range_heap (heap_set (heap_set (heap_set (heap_set (heap_set HR5.out 0 _) 1 _) 2 _) 3 _) 4 _) rfl
    have hbz := HB4.out
    exact ⟨(((((hbz.setCell (p := ⟨w.heap.size + 1, 0, none⟩) (by show w.heap.size ≤ w.heap.size + 1; omega) _).setCell (p := ⟨w.heap.size + 1, 1, none⟩) (by show w.heap.size ≤ w.heap.size + 1; omega) _).setCell (p := ⟨w.heap.size + 1, 2, none⟩) (by show w.heap.size ≤ w.heap.size + 1; omega) _).setCell (p := ⟨w.heap.size + 1, 3, none⟩) (by show w.heap.size ≤ w.heap.size + 1; omega) _).setCell (p := ⟨w.heap.size + 1, 4, none⟩) (by show w.heap.size ≤ w.heap.size + 1; omega) _), a, c, rfl, HST.out.below (((((hbz.setCell (p := ⟨w.heap.size + 1, 0, none⟩) (by show w.heap.size ≤ w.heap.size + 1; omega) _).setCell (p := ⟨w.heap.size + 1, 1, none⟩) (by show w.heap.size ≤ w.heap.size + 1; omega) _).setCell (p := ⟨w.heap.size + 1, 2, none⟩) (by show w.heap.size ≤ w.heap.size + 1; omega) _).setCell (p := ⟨w.heap.size + 1, 3, none⟩) (by show w.heap.size ≤ w.heap.size + 1; omega) _).setCell (p := ⟨w.heap.size + 1, 4, none⟩) (by show w.heap.size ≤ w.heap.size + 1; omega) _)⟩
  · go_wp2_with fail
    obtain rfl : r = resW p := HRES.out.trans (by simp)
    refine bodyPost_ret (res_do _ _ a n c (w.heap.size + 1) ⟨0, ⟨p, 0, 0, 0⟩⟩ rfl rfl ?_) rfl ?_
    · exact range_heap (heap_set (heap_set (heap_set (heap_set (heap_set HR5.out 0 _) 1 _) 2 _) 3 _) 4 _) rfl
    have hbz := HB4.out
    exact ⟨(((((hbz.setCell (p := ⟨w.heap.size + 1, 0, none⟩) (by show w.heap.size ≤ w.heap.size + 1; omega) _).setCell (p := ⟨w.heap.size + 1, 1, none⟩) (by show w.heap.size ≤ w.heap.size + 1; omega) _).setCell (p := ⟨w.heap.size + 1, 2, none⟩) (by show w.heap.size ≤ w.heap.size + 1; omega) _).setCell (p := ⟨w.heap.size + 1, 3, none⟩) (by show w.heap.size ≤ w.heap.size + 1; omega) _).setCell (p := ⟨w.heap.size + 1, 4, none⟩) (by show w.heap.size ≤ w.heap.size + 1; omega) _), a, c, rfl, HST.out.below (((((hbz.setCell (p := ⟨w.heap.size + 1, 0, none⟩) (by show w.heap.size ≤ w.heap.size + 1; omega) _).setCell (p := ⟨w.heap.size + 1, 1, none⟩) (by show w.heap.size ≤ w.heap.size + 1; omega) _).setCell (p := ⟨w.heap.size + 1, 2, none⟩) (by show w.heap.size ≤ w.heap.size + 1; omega) _).setCell (p := ⟨w.heap.size + 1, 3, none⟩) (by show w.heap.size ≤ w.heap.size + 1; omega) _).setCell (p := ⟨w.heap.size + 1, 4, none⟩) (by show w.heap.size ≤ w.heap.size + 1; omega) _)⟩
set_option maxRecDepth 100000 in
set_option maxHeartbeats 16000000 in
theorem rdo_all5 (w : World) (a : Option Addr) (c : Nat) (L : List ItemD) (h : StateR w a L) (ok : ∀ x, x ∈ L → x.Ok) (hn : L.length ≤ 1000) (k N : Int) (hki : i64B k) (v : W4) (hv : v.Ok) (i : Nat) (x : ItemD) (hi : L[i]? = some x) (hK : kindP x.o = 4) (hkk : plainP k = 17) (p m : Nat) (hp : x.v.a = (p : Int)) (hm : v.a = (m : Int)) (hp1 : p < 4294967296) (hm1 : m < 4294967296) (r : ResD) (hr : r = if holdsP 5 p m = true then resW p else res9 7) :
    Calls Tryd.prog 41 #[.slice a L.length c, .agg #[.int .i64 k, .int .i64 (i : Int), .int .u32 v.a, .int .u32 v.b, .int .u32 v.c, .int .u32 v.d, .int .u32 N]] w (DoesR w L.length (L, r)) := by
  have hil := (List.getElem?_eq_some_iff.1 hi).1
  have okx := ok x (List.mem_of_getElem? hi)
  have HB0 := Lib.hid (show Below w.heap.size w ((w.alloc (.cells #[.int .i64 k, .int .i64 (i : Int), .int .u32 v.a, .int .u32 v.b, .int .u32 v.c, .int .u32 v.d, .int .u32 N] 43)).alloc (.cells #[.int .i64 0, .int .u32 0, .int .u32 0, .int .u32 0, .int .u32 0] 45)) from ((Below.refl _ w).alloc (Nat.le_refl _) _).alloc (by simp) _)
  have HS0 := Lib.hid (show Has w ((w.alloc (.cells #[.int .i64 k, .int .i64 (i : Int), .int .u32 v.a, .int .u32 v.b, .int .u32 v.c, .int .u32 v.d, .int .u32 N] 43)).alloc (.cells #[.int .i64 0, .int .u32 0, .int .u32 0, .int .u32 0, .int .u32 0] 45)) [(w.heap.size + 1, .cells #[.int .i64 0, .int .u32 0, .int .u32 0, .int .u32 0, .int .u32 0] 45 (0, 0)), (w.heap.size, .cells #[.int .i64 k, .int .i64 (i : Int), .int .u32 v.a, .int .u32 v.b, .int .u32 v.c, .int .u32 v.d, .int .u32 N] 43 (0, 0))] from (((Has.start w).alloc (.cells #[.int .i64 k, .int .i64 (i : Int), .int .u32 v.a, .int .u32 v.b, .int .u32 v.c, .int .u32 v.d, .int .u32 N] 43)).alloc (.cells #[.int .i64 0, .int .u32 0, .int .u32 0, .int .u32 0, .int .u32 0] 45)).eq (by simp))
  have HST := Lib.hid h
  have HP := Lib.hid (fun w => rplain_any w k hki)
  obtain ⟨n, hne⟩ : ∃ n, L.length = n := ⟨_, rfl⟩
  have HN := Lib.hid hne
  have HCO := Lib.hid (fun w a c h => rcopied_any w a c L h ok hn n hne (by omega))
  have HR := Lib.hid (fun w => rright_all x.o x.oi w (okx.o 1 (by omega)))
  have hr0 := kindR (by omega : kindP x.o ≠ 0)
  rw [hr0.1] at HR
  unfold objC at HR
  have e0 : x.o 0 = 4 := by rw [← hr0.2, hK]
  have E0 := Lib.hid e0
  rw [e0] at HR
  clear hr0 e0
  have HK := Lib.hid hK
  have HOK := Lib.hid okx
  have HPP := Lib.hid hp
  have HMM := Lib.hid hm
  have HH := Lib.hid (fun w => rholds_any w 5 (by omega) p m hp1 hm1)
  generalize holdsP 5 p m = q at *
  have HRES := Lib.hid hr
  clear hp hm hr
  rw [hne] at hil
  have d3 : decide ((i : Int) < 0) = false := decide_eq_false (by omega)
  have d4 : decide ((n : Int) ≤ (i : Int)) = false := decide_eq_false (by omega)
  have d5 : decide (n ≤ i) = false := decide_eq_false (by omega)
  have d6 : decide (i < n) = true := decide_eq_true hil
  rw [hne]
  have HI := Lib.hid hi
  clear h ok hv hne hi okx hK hn
  rw [hkk] at HP
  clear hki hkk
  go_enter Tryd.func41, Tryd.ntmps41
  go_wp2_with fail
  refine (HP.out _).mono ?_
  rintro e1 w1 ⟨rfl, hw1⟩
  obtain rfl := hw1.symm
  go_wp2_with fail
  refine (HCO.out _ a c (HST.out.below HB0.out)).mono ?_
  rintro e2 w2 ⟨g1, cap1, cur, A, C, rfl, hcap, hcp, hb2⟩
  have HS2 := Lib.hid (HS0.out.none (Keeps.ofBelow hb2))
  have HB2 := Lib.hid (HB0.out.trans (hb2.mono (by simp only [World.size_alloc]; omega)))
  have hBB : ((w.alloc (.cells #[.int .i64 k, .int .i64 (i : Int), .int .u32 v.a, .int .u32 v.b, .int .u32 v.c, .int .u32 v.d, .int .u32 N] 43)).alloc (.cells #[.int .i64 0, .int .u32 0, .int .u32 0, .int .u32 0, .int .u32 0] 45)).heap.size = w.heap.size + 2 := by rw [World.size_alloc, World.size_alloc]
  rw [hBB] at hcp
  clear hBB
  have HCP2 := Lib.hid hcp
  have HCAP := Lib.hid hcap
  have hg1 : w.heap.size + 2 ≤ g1 := hcp.ge
  have hc2 : w2.heap[w.heap.size]? = some (.cells #[.int .i64 k, .int .i64 (i : Int), .int .u32 v.a, .int .u32 v.b, .int .u32 v.c, .int .u32 v.d, .int .u32 N] 43 (0, 0)) := HS2.out.at 1 rfl
  clear hb2 hcp hcap
  have k0 := cell_of hc2 0
  have k1 := cell_of hc2 1
  have k2 := cell_of hc2 2
  have k3 := cell_of hc2 3
  have k4 := cell_of hc2 4
  have k5 := cell_of hc2 5
  have k6 := cell_of hc2 6
  simp only [List.getElem?_toArray, List.getElem?_cons_zero, List.getElem?_cons_succ] at k0 k1 k2 k3 k4 k5 k6
  clear hc2
  have HRO := Lib.hid (show w2.rangeAt g1 (i * 15) [.int .i64 (4 : Int), .int .i64 (x.o 1), .int .i64 (x.o 2), .int .i64 (x.o 3), .int .i64 (x.o 4), .int .i64 (x.o 5), .int .u32 (x.oi 0), .int .u32 (x.oi 1), .int .u32 (x.oi 2), .int .u32 (x.oi 3)] from fun j u hu => HCP2.out.fifteen HI.out j u (obj_partR x (A i) x.row.length (C i) j u (by rw [E0.out]; exact hu)))
  go_wp2_with (refine wpList_load_mid rfl 49 _ rfl g1 (i * 15) rfl [.int .i64 (4 : Int), .int .i64 (x.o 1), .int .i64 (x.o 2), .int .i64 (x.o 3), .int .i64 (x.o 4), .int .i64 (x.o 5), .int .u32 (x.oi 0), .int .u32 (x.oi 1), .int .u32 (x.oi 2), .int .u32 (x.oi 3)] _ HRO.out Tryd.underlying49 rfl obj_info19 ?_)
  refine (HR.out _).mono ?_
  rintro e3 w3 ⟨rfl, k3'⟩
  have HS3 := Lib.hid (HS2.out.none k3')
  have HB3 := Lib.hid (HB2.out.trans (k3'.none.mono HB2.out.size))
  have HCP3 := Lib.hid (HCP2.out.none k3')
  have hc3 : w3.heap[w.heap.size]? = some (.cells #[.int .i64 k, .int .i64 (i : Int), .int .u32 v.a, .int .u32 v.b, .int .u32 v.c, .int .u32 v.d, .int .u32 N] 43 (0, 0)) := HS3.out.at 1 rfl
  have hr4 : w3.heap[w.heap.size + 1]? = some (.cells #[.int .i64 0, .int .u32 0, .int .u32 0, .int .u32 0, .int .u32 0] 45 (0, 0)) := HS3.out.at 0 rfl
  clear k0 k1 k2 k3 k4 k5 k6 k3' HRO HCP2 HB2 HS2
  have k0 := cell_of hc3 0
  have k1 := cell_of hc3 1
  have k2 := cell_of hc3 2
  have k3 := cell_of hc3 3
  have k4 := cell_of hc3 4
  have k5 := cell_of hc3 5
  have k6 := cell_of hc3 6
  simp only [List.getElem?_toArray, List.getElem?_cons_zero, List.getElem?_cons_succ] at k0 k1 k2 k3 k4 k5 k6
  clear hc3
  have q0 := cell_of hr4 0
  have q1 := cell_of hr4 1
  have q2 := cell_of hr4 2
  have q3 := cell_of hr4 3
  have q4 := cell_of hr4 4
  have fq0 := free_of hr4 0
  have fq1 := free_of hr4 1
  have fq2 := free_of hr4 2
  have fq3 := free_of hr4 3
  have fq4 := free_of hr4 4
  simp only [List.getElem?_toArray, List.getElem?_cons_zero, List.getElem?_cons_succ] at q0 q1 q2 q3 q4
  have HR4 := Lib.hid hr4
  clear hr4
  have c0 : w3.cell? ⟨g1, i * 15, none⟩ = some (.int .i64 (4 : Int)) := by rw [← E0.out]; exact HCP3.out.fifteen HI.out 0 _ rfl
  have c1 : w3.cell? ⟨g1, i * 15 + 1, none⟩ = some (.int .i64 (x.o 1)) := HCP3.out.fifteen HI.out 1 _ rfl
  have c2 : w3.cell? ⟨g1, i * 15 + 2, none⟩ = some (.int .i64 (x.o 2)) := HCP3.out.fifteen HI.out 2 _ rfl
  have c10 : w3.cell? ⟨g1, i * 15 + 10, none⟩ = some (.slice (A i) x.row.length (C i)) := HCP3.out.fifteen HI.out 10 _ rfl
  have c11 : w3.cell? ⟨g1, i * 15 + 11, none⟩ = some (.int .u32 x.v.a) := HCP3.out.fifteen HI.out 11 _ rfl
  have c12 : w3.cell? ⟨g1, i * 15 + 12, none⟩ = some (.int .u32 x.v.b) := HCP3.out.fifteen HI.out 12 _ rfl
  have c13 : w3.cell? ⟨g1, i * 15 + 13, none⟩ = some (.int .u32 x.v.c) := HCP3.out.fifteen HI.out 13 _ rfl
  have c14 : w3.cell? ⟨g1, i * 15 + 14, none⟩ = some (.int .u32 x.v.d) := HCP3.out.fifteen HI.out 14 _ rfl
  have f10 : w3.frozen? ⟨g1, i * 15 + 10, none⟩ = false := free_of HCP3.out.blk (i * 15 + 10)
  have f11 : w3.frozen? ⟨g1, i * 15 + 11, none⟩ = false := free_of HCP3.out.blk (i * 15 + 11)
  have f12 : w3.frozen? ⟨g1, i * 15 + 12, none⟩ = false := free_of HCP3.out.blk (i * 15 + 12)
  have f13 : w3.frozen? ⟨g1, i * 15 + 13, none⟩ = false := free_of HCP3.out.blk (i * 15 + 13)
  have f14 : w3.frozen? ⟨g1, i * 15 + 14, none⟩ = false := free_of HCP3.out.blk (i * 15 + 14)
  rw [HMM.out] at k2
  rw [HPP.out] at c11
  go_wp2_with fail
  refine (HH.out _).mono ?_
  rintro e4 w4 ⟨rfl, k4'⟩
  have HB4 := Lib.hid (HB3.out.trans (k4'.none.mono HB3.out.size))
  have hr5 := k4'.at HR4.out (fun h => h)
  have HR5 := Lib.hid hr5
  clear q0 q1 q2 q3 q4 fq0 fq1 fq2 fq3 fq4 c0 c1 c2 c10 c11 c12 c13 c14 f10 f11 f12 f13 f14 k0 k1 k2 k3 k4 k5 k6 k4'
  have q0 := cell_of hr5 0
  have q1 := cell_of hr5 1
  have q2 := cell_of hr5 2
  have q3 := cell_of hr5 3
  have q4 := cell_of hr5 4
  have fq0 := free_of hr5 0
  have fq1 := free_of hr5 1
  have fq2 := free_of hr5 2
  have fq3 := free_of hr5 3
  have fq4 := free_of hr5 4
  simp only [List.getElem?_toArray, List.getElem?_cons_zero, List.getElem?_cons_succ] at q0 q1 q2 q3 q4
  clear hr5
  cases q
  · go_wp2_with fail
    obtain rfl : r = res9 7 := HRES.out.trans (by simp)
    refine bodyPost_ret (res_do _ _ a n c (w.heap.size + 1) ⟨7, ⟨0, 0, 0, 0⟩⟩ rfl rfl ?_) rfl ?_
    · exact range_heap (heap_set (heap_set (heap_set (heap_set (heap_set HR5.out 0 _) 1 _) 2 _) 3 _) 4 _) rfl
    have hbz := HB4.out
    exact ⟨(((((hbz.setCell (p := ⟨w.heap.size + 1, 0, none⟩) (by show w.heap.size ≤ w.heap.size + 1; omega) _).setCell (p := ⟨w.heap.size + 1, 1, none⟩) (by show w.heap.size ≤ w.heap.size + 1; omega) _).setCell (p := ⟨w.heap.size + 1, 2, none⟩) (by show w.heap.size ≤ w.heap.size + 1; omega) _).setCell (p := ⟨w.heap.size + 1, 3, none⟩) (by show w.heap.size ≤ w.heap.size + 1; omega) _).setCell (p := ⟨w.heap.size + 1, 4, none⟩) (by show w.heap.size ≤ w.heap.size + 1; omega) _), a, c, rfl, HST.out.below (((((hbz.setCell (p := ⟨w.heap.size + 1, 0, none⟩) (by show w.heap.size ≤ w.heap.size + 1; omega) _).setCell (p := ⟨w.heap.size + 1, 1, none⟩) (by show w.heap.size ≤ w.heap.size + 1; omega) _).setCell (p := ⟨w.heap.size + 1, 2, none⟩) (by show w.heap.size ≤ w.heap.size + 1; omega) _).setCell (p := ⟨w.heap.size + 1, 3, none⟩) (by show w.heap.size ≤ w.heap.size + 1; omega) _).setCell (p := ⟨w.heap.size + 1, 4, none⟩) (by show w.heap.size ≤ w.heap.size + 1; omega) _)⟩
  · go_wp2_with fail
    obtain rfl : r = resW p := HRES.out.trans (by simp)
    refine bodyPost_ret (res_do _ _ a n c (w.heap.size + 1) ⟨0, ⟨p, 0, 0, 0⟩⟩ rfl rfl ?_) rfl ?_
    · exact range_heap (heap_set (heap_set (heap_set (heap_set (heap_set HR5.out 0 _) 1 _) 2 _) 3 _) 4 _) rfl
    have hbz := HB4.out
    exact ⟨(((((hbz.setCell (p := ⟨w.heap.size + 1, 0, none⟩) (by show w.heap.size ≤ w.heap.size + 1; omega) _).setCell (p := ⟨w.heap.size + 1, 1, none⟩) (by show w.heap.size ≤ w.heap.size + 1; omega) _).setCell (p := ⟨w.heap.size + 1, 2, none⟩) (by show w.heap.size ≤ w.heap.size + 1; omega) _).setCell (p := ⟨w.heap.size + 1, 3, none⟩) (by show w.heap.size ≤ w.heap.size + 1; omega) _).setCell (p := ⟨w.heap.size + 1, 4, none⟩) (by show w.heap.size ≤ w.heap.size + 1; omega) _), a, c, rfl, HST.out.below (((((hbz.setCell (p := ⟨w.heap.size + 1, 0, none⟩) (by show w.heap.size ≤ w.heap.size + 1; omega) _).setCell (p := ⟨w.heap.size + 1, 1, none⟩) (by show w.heap.size ≤ w.heap.size + 1; omega) _).setCell (p := ⟨w.heap.size + 1, 2, none⟩) (by show w.heap.size ≤ w.heap.size + 1; omega) _).setCell (p := ⟨w.heap.size + 1, 3, none⟩) (by show w.heap.size ≤ w.heap.size + 1; omega) _).setCell (p := ⟨w.heap.size + 1, 4, none⟩) (by show w.heap.size ≤ w.heap.size + 1; omega) _)⟩
end Go.Proofs.YtohajfkekkelhaaDoor
namespace Go.Proofs.YtohajfkekkelhaaDoor
open Go.ChangeShapes Go.WideShapes Go.ChangeAt Go.RowKit
set_option linter.unusedVariables false
set_option linter.unusedSimpArgs false
set_option maxRecDepth 100000 in
set_option maxHeartbeats 16000000 in
theorem rdo_recv (w : World) (a : Option Addr) (c : Nat) (L : List ItemD) (h : StateR w a L) (ok : ∀ x, x ∈ L → x.Ok) (hn : L.length ≤ 1000) (k N : Int) (hki : i64B k) (v : W4) (hv : v.Ok) (i : Nat) (x : ItemD) (hi : L[i]? = some x) (hK : kindP x.o = 1) (hkk : plainP k = 2) (y : W4) (tl : List W4) (hrow : x.row = y :: tl) :
    Calls Tryd.prog 41 #[.slice a L.length c, .agg #[.int .i64 k, .int .i64 (i : Int), .int .u32 v.a, .int .u32 v.b, .int .u32 v.c, .int .u32 v.d, .int .u32 N]] w (DoesR w L.length (L.set i {x with row := tl}, ⟨0, y⟩)) := by
  have hil := (List.getElem?_eq_some_iff.1 hi).1
  have okx := ok x (List.mem_of_getElem? hi)
  have HB0 := Lib.hid (show Below w.heap.size w ((w.alloc (.cells #[.int .i64 k, .int .i64 (i : Int), .int .u32 v.a, .int .u32 v.b, .int .u32 v.c, .int .u32 v.d, .int .u32 N] 43)).alloc (.cells #[.int .i64 0, .int .u32 0, .int .u32 0, .int .u32 0, .int .u32 0] 45)) from ((Below.refl _ w).alloc (Nat.le_refl _) _).alloc (by simp) _)
  have HS0 := Lib.hid (show Has w ((w.alloc (.cells #[.int .i64 k, .int .i64 (i : Int), .int .u32 v.a, .int .u32 v.b, .int .u32 v.c, .int .u32 v.d, .int .u32 N] 43)).alloc (.cells #[.int .i64 0, .int .u32 0, .int .u32 0, .int .u32 0, .int .u32 0] 45)) [(w.heap.size + 1, .cells #[.int .i64 0, .int .u32 0, .int .u32 0, .int .u32 0, .int .u32 0] 45 (0, 0)), (w.heap.size, .cells #[.int .i64 k, .int .i64 (i : Int), .int .u32 v.a, .int .u32 v.b, .int .u32 v.c, .int .u32 v.d, .int .u32 N] 43 (0, 0))] from (((Has.start w).alloc (.cells #[.int .i64 k, .int .i64 (i : Int), .int .u32 v.a, .int .u32 v.b, .int .u32 v.c, .int .u32 v.d, .int .u32 N] 43)).alloc (.cells #[.int .i64 0, .int .u32 0, .int .u32 0, .int .u32 0, .int .u32 0] 45)).eq (by simp))
  have HST := Lib.hid h
  have HP := Lib.hid (fun w => rplain_any w k hki)
  obtain ⟨n, hne⟩ : ∃ n, L.length = n := ⟨_, rfl⟩
  have HN := Lib.hid hne
  have HCO := Lib.hid (fun w a c h => rcopied_any w a c L h ok hn n hne (by omega))
  have HR := Lib.hid (fun w => rright_all x.o x.oi w (okx.o 1 (by omega)))
  have hr0 := kindR (by omega : kindP x.o ≠ 0)
  rw [hr0.1] at HR
  unfold objC at HR
  have e0 : x.o 0 = 1 := by rw [← hr0.2, hK]
  have E0 := Lib.hid e0
  rw [e0] at HR
  clear hr0 e0
  have HK := Lib.hid hK
  have HOK := Lib.hid okx
  have HROW := Lib.hid hrow
  have hlen64 : x.row.length ≤ 64 := okx.len
  have hlen : x.row.length = tl.length + 1 := by rw [hrow]; rfl
  have HLEN := Lib.hid hlen
  rw [hlen] at hlen64
  clear hrow hlen
  rw [hne] at hil
  have d3 : decide ((i : Int) < 0) = false := decide_eq_false (by omega)
  have d4 : decide ((n : Int) ≤ (i : Int)) = false := decide_eq_false (by omega)
  have d5 : decide (n ≤ i) = false := decide_eq_false (by omega)
  have d6 : decide (i < n) = true := decide_eq_true hil
  rw [hne]
  have HI := Lib.hid hi
  clear h ok hv hne hi okx hK hn
  rw [hkk] at HP
  clear hki hkk
  go_enter Tryd.func41, Tryd.ntmps41
  go_wp2_with fail
  refine (HP.out _).mono ?_
  rintro e1 w1 ⟨rfl, hw1⟩
  obtain rfl := hw1.symm
  go_wp2_with fail
  refine (HCO.out _ a c (HST.out.below HB0.out)).mono ?_
  rintro e2 w2 ⟨g1, cap1, cur, A, C, rfl, hcap, hcp, hb2⟩
  have HS2 := Lib.hid (HS0.out.none (Keeps.ofBelow hb2))
  have HB2 := Lib.hid (HB0.out.trans (hb2.mono (by simp only [World.size_alloc]; omega)))
  have hBB : ((w.alloc (.cells #[.int .i64 k, .int .i64 (i : Int), .int .u32 v.a, .int .u32 v.b, .int .u32 v.c, .int .u32 v.d, .int .u32 N] 43)).alloc (.cells #[.int .i64 0, .int .u32 0, .int .u32 0, .int .u32 0, .int .u32 0] 45)).heap.size = w.heap.size + 2 := by rw [World.size_alloc, World.size_alloc]
  rw [hBB] at hcp
  clear hBB
  have HCP2 := Lib.hid hcp
  have HCAP := Lib.hid hcap
  have hg1 : w.heap.size + 2 ≤ g1 := hcp.ge
  have hc2 : w2.heap[w.heap.size]? = some (.cells #[.int .i64 k, .int .i64 (i : Int), .int .u32 v.a, .int .u32 v.b, .int .u32 v.c, .int .u32 v.d, .int .u32 N] 43 (0, 0)) := HS2.out.at 1 rfl
  clear hb2 hcp hcap
  have k0 := cell_of hc2 0
  have k1 := cell_of hc2 1
  have k2 := cell_of hc2 2
  have k3 := cell_of hc2 3
  have k4 := cell_of hc2 4
  have k5 := cell_of hc2 5
  have k6 := cell_of hc2 6
  simp only [List.getElem?_toArray, List.getElem?_cons_zero, List.getElem?_cons_succ] at k0 k1 k2 k3 k4 k5 k6
  clear hc2
  have HRO := Lib.hid (show w2.rangeAt g1 (i * 15) [.int .i64 (1 : Int), .int .i64 (x.o 1), .int .i64 (x.o 2), .int .i64 (x.o 3), .int .i64 (x.o 4), .int .i64 (x.o 5), .int .u32 (x.oi 0), .int .u32 (x.oi 1), .int .u32 (x.oi 2), .int .u32 (x.oi 3)] from fun j u hu => HCP2.out.fifteen HI.out j u (obj_partR x (A i) x.row.length (C i) j u (by rw [E0.out]; exact hu)))
  go_wp2_with (refine wpList_load_mid rfl 49 _ rfl g1 (i * 15) rfl [.int .i64 (1 : Int), .int .i64 (x.o 1), .int .i64 (x.o 2), .int .i64 (x.o 3), .int .i64 (x.o 4), .int .i64 (x.o 5), .int .u32 (x.oi 0), .int .u32 (x.oi 1), .int .u32 (x.oi 2), .int .u32 (x.oi 3)] _ HRO.out Tryd.underlying49 rfl obj_info19 ?_)
  refine (HR.out _).mono ?_
  rintro e3 w3 ⟨rfl, k3'⟩
  have HS3 := Lib.hid (HS2.out.none k3')
  have HB3 := Lib.hid (HB2.out.trans (k3'.none.mono HB2.out.size))
  have HCP3 := Lib.hid (HCP2.out.none k3')
  have hc3 : w3.heap[w.heap.size]? = some (.cells #[.int .i64 k, .int .i64 (i : Int), .int .u32 v.a, .int .u32 v.b, .int .u32 v.c, .int .u32 v.d, .int .u32 N] 43 (0, 0)) := HS3.out.at 1 rfl
  have hr4 : w3.heap[w.heap.size + 1]? = some (.cells #[.int .i64 0, .int .u32 0, .int .u32 0, .int .u32 0, .int .u32 0] 45 (0, 0)) := HS3.out.at 0 rfl
  clear k0 k1 k2 k3 k4 k5 k6 k3' HRO HCP2 HB2 HS2
  have k0 := cell_of hc3 0
  have k1 := cell_of hc3 1
  have k2 := cell_of hc3 2
  have k3 := cell_of hc3 3
  have k4 := cell_of hc3 4
  have k5 := cell_of hc3 5
  have k6 := cell_of hc3 6
  simp only [List.getElem?_toArray, List.getElem?_cons_zero, List.getElem?_cons_succ] at k0 k1 k2 k3 k4 k5 k6
  clear hc3
  have q0 := cell_of hr4 0
  have q1 := cell_of hr4 1
  have q2 := cell_of hr4 2
  have q3 := cell_of hr4 3
  have q4 := cell_of hr4 4
  have fq0 := free_of hr4 0
  have fq1 := free_of hr4 1
  have fq2 := free_of hr4 2
  have fq3 := free_of hr4 3
  have fq4 := free_of hr4 4
  simp only [List.getElem?_toArray, List.getElem?_cons_zero, List.getElem?_cons_succ] at q0 q1 q2 q3 q4
  have HR4 := Lib.hid hr4
  clear hr4
  have c0 : w3.cell? ⟨g1, i * 15, none⟩ = some (.int .i64 (1 : Int)) := by rw [← E0.out]; exact HCP3.out.fifteen HI.out 0 _ rfl
  have c1 : w3.cell? ⟨g1, i * 15 + 1, none⟩ = some (.int .i64 (x.o 1)) := HCP3.out.fifteen HI.out 1 _ rfl
  have c2 : w3.cell? ⟨g1, i * 15 + 2, none⟩ = some (.int .i64 (x.o 2)) := HCP3.out.fifteen HI.out 2 _ rfl
  have c10 : w3.cell? ⟨g1, i * 15 + 10, none⟩ = some (.slice (A i) x.row.length (C i)) := HCP3.out.fifteen HI.out 10 _ rfl
  have c11 : w3.cell? ⟨g1, i * 15 + 11, none⟩ = some (.int .u32 x.v.a) := HCP3.out.fifteen HI.out 11 _ rfl
  have c12 : w3.cell? ⟨g1, i * 15 + 12, none⟩ = some (.int .u32 x.v.b) := HCP3.out.fifteen HI.out 12 _ rfl
  have c13 : w3.cell? ⟨g1, i * 15 + 13, none⟩ = some (.int .u32 x.v.c) := HCP3.out.fifteen HI.out 13 _ rfl
  have c14 : w3.cell? ⟨g1, i * 15 + 14, none⟩ = some (.int .u32 x.v.d) := HCP3.out.fifteen HI.out 14 _ rfl
  have f10 : w3.frozen? ⟨g1, i * 15 + 10, none⟩ = false := free_of HCP3.out.blk (i * 15 + 10)
  have f11 : w3.frozen? ⟨g1, i * 15 + 11, none⟩ = false := free_of HCP3.out.blk (i * 15 + 11)
  have f12 : w3.frozen? ⟨g1, i * 15 + 12, none⟩ = false := free_of HCP3.out.blk (i * 15 + 12)
  have f13 : w3.frozen? ⟨g1, i * 15 + 13, none⟩ = false := free_of HCP3.out.blk (i * 15 + 13)
  have f14 : w3.frozen? ⟨g1, i * 15 + 14, none⟩ = false := free_of HCP3.out.blk (i * 15 + 14)
  obtain ⟨b, cap, e1, hb1, hb2⟩ := (HCP3.out.rows i x HI.out).form (by rw [HLEN.out]; omega)
  obtain ⟨eA, _, eC⟩ := Value.slice.inj e1
  rw [eA, eC, HLEN.out] at c10
  obtain ⟨a9, c9, e9, h91, h92, h93, h94, h95⟩ := row_own (HCP3.out.rows i x HI.out) rfl
  obtain ⟨eA9, _, eC9⟩ := Value.slice.inj e9
  rw [← eA9] at h94
  rw [← eC9, eC, HLEN.out] at h91
  rw [← eC9, eC] at h92
  rw [eA] at h94
  obtain ⟨b', off, eb, _, hrin⟩ := h94 (by rw [HLEN.out]; omega)
  cases eb
  have hr0 := hrin 0 y (by rw [HROW.out]; rfl)
  have v0 : w3.cell? ⟨b, 0, none⟩ = some (.int .u32 y.a) := hr0 0 _ rfl
  have v1 : w3.cell? ⟨b, 1, none⟩ = some (.int .u32 y.b) := hr0 1 _ rfl
  have v2 : w3.cell? ⟨b, 2, none⟩ = some (.int .u32 y.c) := hr0 2 _ rfl
  have v3 : w3.cell? ⟨b, 3, none⟩ = some (.int .u32 y.d) := hr0 3 _ rfl
  have HTL := Lib.hid (show ∀ k z, tl[k]? = some z → w3.rangeAt b (4 + k * 4) z.l from fun k z hz j u hu => by
    have := hrin (k + 1) z (by rw [HROW.out]; exact hz) j u hu
    rwa [show 0 + (k + 1) * 4 + j = 4 + k * 4 + j by omega] at this)
  have hbg : b ≠ g1 := fun e => own_apart (HCP3.out.rows i x HI.out) HCP3.out.blk (by decide) (by rw [e1, ← e]; rfl)
  have HEA := Lib.hid eA
  have H91 := Lib.hid h91
  have H92 := Lib.hid h92
  obtain ⟨q, hq⟩ : ∃ q, tl.length = q := ⟨_, rfl⟩
  have HQ := Lib.hid hq
  rw [hq] at c10 hlen64 h91
  have hsl := lt_of HCP3.out.blk
  have hn1 : ¬ g1 = w3.heap.size := by omega
  have hn2 : ¬ w3.heap.size = g1 := by omega
  clear e1 eA eC e9 eA9 eC9 h93 h94 h95 hrin hr0 hq
  have xA : ∀ o, (w3.alloc o).cell? ⟨g1, i * 15 + 10, none⟩ = some (.slice (some ⟨b, 0, none⟩) (q + 1) cap) := fun o => by rw [World.cell?_of_block (w := w3) (((Keeps.refl (fun _ => False) w3).alloc o).block g1 hsl fun h => h)]; exact c10
  have xF : ∀ o, (w3.alloc o).frozen? ⟨g1, i * 15 + 10, none⟩ = false := fun o => by rw [World.frozen?_of_block (w := w3) (((Keeps.refl (fun _ => False) w3).alloc o).block g1 hsl fun h => h)]; exact f10
  by_cases hc : cap = 1
  · subst hc
    have hq0 : q = 0 := by omega
    subst hq0
    clear c1 c2 c12 c13 c14 f11 f12 f13 f14 k1 k2 k3 k4 k5 k6
    go_wp2_with fail
    clear q0 q1 q2 q3 q4 fq0 fq1 fq2 fq3 fq4 c0 c11 c10 f10 v0 v1 v2 v3 xA xF k0
    have HB5 := Lib.hid (show Below w.heap.size w ((w3.setCell ⟨g1, i * 15 + 10, none⟩ (.slice (some ⟨b, 0, none⟩) 0 0)).alloc (.cells #[.int .u32 y.a, .int .u32 y.b, .int .u32 y.c, .int .u32 y.d] 41)).drew from below_drew ((HB3.out.setCell (p := ⟨g1, i * 15 + 10, none⟩) (by show w.heap.size ≤ g1; omega) _).alloc (by rw [World.size_setCell]; exact HB3.out.size) _))
    have HK5 := Lib.hid (show Keeps (fun j => j = g1 ∨ j < w.heap.size + 2) w3 ((w3.setCell ⟨g1, i * 15 + 10, none⟩ (.slice (some ⟨b, 0, none⟩) 0 0)).alloc (.cells #[.int .u32 y.a, .int .u32 y.b, .int .u32 y.c, .int .u32 y.d] 41)).drew from (((Keeps.refl _ w3).setCell (p := ⟨g1, i * 15 + 10, none⟩) (.inl (.inl rfl)) _).alloc _).drew)
    have HG5 := Lib.hid (show ((w3.setCell ⟨g1, i * 15 + 10, none⟩ (.slice (some ⟨b, 0, none⟩) 0 0)).alloc (.cells #[.int .u32 y.a, .int .u32 y.b, .int .u32 y.c, .int .u32 y.d] 41)).drew.heap[g1]? = some (.cells (cur.setIfInBounds (i * 15 + 10) (.slice (some ⟨b, 0, none⟩) 0 0)) 103 (0, 0)) from heap_old (heap_set HCP3.out.blk (i * 15 + 10) _) _)
    have HR5 := Lib.hid (show ((w3.setCell ⟨g1, i * 15 + 10, none⟩ (.slice (some ⟨b, 0, none⟩) 0 0)).alloc (.cells #[.int .u32 y.a, .int .u32 y.b, .int .u32 y.c, .int .u32 y.d] 41)).drew.heap[w.heap.size + 1]? = some (.cells #[.int .i64 0, .int .u32 0, .int .u32 0, .int .u32 0, .int .u32 0] 45 (0, 0)) from heap_old (heap_other HR4.out (by show w.heap.size + 1 ≠ g1; omega) _) _)
    have HN5 := Lib.hid (show ((w3.setCell ⟨g1, i * 15 + 10, none⟩ (.slice (some ⟨b, 0, none⟩) 0 0)).alloc (.cells #[.int .u32 y.a, .int .u32 y.b, .int .u32 y.c, .int .u32 y.d] 41)).drew.heap[w3.heap.size]? = some (.cells #[.int .u32 y.a, .int .u32 y.b, .int .u32 y.c, .int .u32 y.d] 41 (0, 0)) from by have := heap_new (w3.setCell ⟨g1, i * 15 + 10, none⟩ (.slice (some ⟨b, 0, none⟩) 0 0)) (.cells #[.int .u32 y.a, .int .u32 y.b, .int .u32 y.c, .int .u32 y.d] 41); rwa [World.size_setCell] at this)
    have hn3 : w.heap.size + 2 ≤ w3.heap.size := by omega
    have HYV := Lib.hid (show ((w3.setCell ⟨g1, i * 15 + 10, none⟩ (.slice (some ⟨b, 0, none⟩) 0 0)).alloc (.cells #[.int .u32 y.a, .int .u32 y.b, .int .u32 y.c, .int .u32 y.d] 41)).drew.rangeAt w3.heap.size 0 [.int .u32 y.a, .int .u32 y.b, .int .u32 y.c, .int .u32 y.d] from range4R (o := 0) (cell_of HN5.out 0) (cell_of HN5.out 1) (cell_of HN5.out 2) (cell_of HN5.out 3))
    refine wp_region_noPanic ?_
    refine wp_region_held_drew (S := (fun W => W.rangeAt w3.heap.size 0 [.int .u32 y.a, .int .u32 y.b, .int .u32 y.c, .int .u32 y.d])) (by kernel_rfl) ?_ (fun hHeld => ?_)
    · exact HYV.out
    generalize ((w3.setCell ⟨g1, i * 15 + 10, none⟩ (.slice (some ⟨b, 0, none⟩) 0 0)).alloc (.cells #[.int .u32 y.a, .int .u32 y.b, .int .u32 y.c, .int .u32 y.d] 41)).drew = w5 at *
    refine wpAnyH_take (i := 0) (v := ?_) rfl (by kernel_rfl) (by kernel_rfl) (by kernel_rfl) (fun _ _ _ h => h) (Or.inl ⟨by rfl, ?_⟩) (by assumption) ?_
    rotate_left
    · (intro w hSw; (try dsimp only at hSw); go_simp; try with_reducible rfl)
    simp only [Act.put, List.getElem_toArray, List.getElem_cons_zero, List.getElem_cons_succ, List.setIfInBounds_toArray, List.set_cons_zero, List.set_cons_succ]
    refine wpAnyH_take (i := 1) (v := .agg [.int .u32 y.a, .int .u32 y.b, .int .u32 y.c, .int .u32 y.d].toArray) rfl (by kernel_rfl) (by kernel_rfl) (by kernel_rfl) (fun _ _ _ h => h) (yieldsIf_load_mid (by rfl) 41 (.tmp 11) rfl w3.heap.size 0 rfl [.int .u32 y.a, .int .u32 y.b, .int .u32 y.c, .int .u32 y.d] _ (fun w h => h) Tryd.underlying41 rfl val_info19) (by assumption) ?_
    simp only [Act.put, List.getElem_toArray, List.getElem_cons_zero, List.getElem_cons_succ, List.setIfInBounds_toArray, List.set_cons_zero, List.set_cons_succ]
    refine wpAnyH_take (i := 2) (v := ?_) rfl (by kernel_rfl) (by kernel_rfl) (by kernel_rfl) (fun _ _ _ h => h) (Or.inl ⟨by rfl, ?_⟩) (by assumption) ?_
    rotate_left
    · (intro w hSw; (try dsimp only at hSw); go_simp; try with_reducible rfl)
    simp only [Act.put, List.getElem_toArray, List.getElem_cons_zero, List.getElem_cons_succ, List.setIfInBounds_toArray, List.set_cons_zero, List.set_cons_succ]
    refine wpAnyH_take (i := 3) (v := ?_) rfl (by kernel_rfl) (by kernel_rfl) (by kernel_rfl) (fun _ _ _ h => h) (Or.inl ⟨by rfl, ?_⟩) (by assumption) ?_
    rotate_left
    · (intro w hSw; (try dsimp only at hSw); go_simp; try with_reducible rfl)
    simp only [Act.put, List.getElem_toArray, List.getElem_cons_zero, List.getElem_cons_succ, List.setIfInBounds_toArray, List.set_cons_zero, List.set_cons_succ]
    have q0 := cell_of HR5.out 0
    have q1 := cell_of HR5.out 1
    have q2 := cell_of HR5.out 2
    have q3 := cell_of HR5.out 3
    have q4 := cell_of HR5.out 4
    have fq0 := free_of HR5.out 0
    have fq1 := free_of HR5.out 1
    have fq2 := free_of HR5.out 2
    have fq3 := free_of HR5.out 3
    have fq4 := free_of HR5.out 4
    simp only [List.getElem?_toArray, List.getElem?_cons_zero, List.getElem?_cons_succ] at q0 q1 q2 q3 q4
    refine wpAnyH_ready (rs := [4]) (by kernel_rfl) (by simp) ?_
    refine AllReadyH.cons rfl (fun K hK => ?_) AllReadyH.nil
    go_simp
    refine hK.out _ _ ?_ (fun hHeld => ?_)
    · ((try dsimp only); exact far5R HYV.out (by omega))
    clear hK K
    try simp only [Act.put, List.getElem_toArray, List.getElem_cons_zero, List.getElem_cons_succ, List.setIfInBounds_toArray, List.set_cons_zero, List.set_cons_succ]
    refine wpAnyH_done (by kernel_rfl) ?_ _
    refine NoPanic.normal ?_
    go_wp2_with fail
    refine bodyPost_ret (res_do _ _ (some ⟨g1, 0, none⟩) n cap1 (w.heap.size + 1) ⟨0, y⟩ rfl rfl ?_) rfl ?_
    · exact range_heap (heap_set (heap_set (heap_set (heap_set (heap_set HR5.out 0 _) 1 _) 2 _) 3 _) 4 _) rfl
    have hbz := HB5.out
    have key : ∀ Wf, Keeps (fun j => j = g1 ∨ j < w.heap.size + 2) w3 Wf → Wf.heap[g1]? = some (.cells (cur.setIfInBounds (i * 15 + 10) (.slice (some ⟨b, 0, none⟩) 0 0)) 103 (0, 0)) → StateAt Wf g1 (L.set i {x with row := tl}) := fun Wf HKF hgf => HCP3.out.rowOf HI.out tl (some ⟨b, 0, none⟩) 0 0 HQ.out (HKF.mono fun j _ e => by rcases e with e | e <;> simp [e]) hgf (by have := H91.out; have := HQ.out; omega) (by have := H92.out; omega) (fun e => by cases e) (fun hp => by have := HQ.out; omega)
    exact ⟨(((((hbz.setCell (p := ⟨w.heap.size + 1, 0, none⟩) (by show w.heap.size ≤ w.heap.size + 1; omega) _).setCell (p := ⟨w.heap.size + 1, 1, none⟩) (by show w.heap.size ≤ w.heap.size + 1; omega) _).setCell (p := ⟨w.heap.size + 1, 2, none⟩) (by show w.heap.size ≤ w.heap.size + 1; omega) _).setCell (p := ⟨w.heap.size + 1, 3, none⟩) (by show w.heap.size ≤ w.heap.size + 1; omega) _).setCell (p := ⟨w.heap.size + 1, 4, none⟩) (by show w.heap.size ≤ w.heap.size + 1; omega) _), some ⟨g1, 0, none⟩, cap1, rfl, fun _ => ⟨g1, rfl, key _ (((((HK5.out.setCell (p := ⟨w.heap.size + 1, 0, none⟩) (.inl (.inr (by show w.heap.size + 1 < w.heap.size + 2; omega))) _).setCell (p := ⟨w.heap.size + 1, 1, none⟩) (.inl (.inr (by show w.heap.size + 1 < w.heap.size + 2; omega))) _).setCell (p := ⟨w.heap.size + 1, 2, none⟩) (.inl (.inr (by show w.heap.size + 1 < w.heap.size + 2; omega))) _).setCell (p := ⟨w.heap.size + 1, 3, none⟩) (.inl (.inr (by show w.heap.size + 1 < w.heap.size + 2; omega))) _).setCell (p := ⟨w.heap.size + 1, 4, none⟩) (.inl (.inr (by show w.heap.size + 1 < w.heap.size + 2; omega))) _) (heap_other (heap_other (heap_other (heap_other (heap_other HG5.out (by show g1 ≠ w.heap.size + 1; omega) _) (by show g1 ≠ w.heap.size + 1; omega) _) (by show g1 ≠ w.heap.size + 1; omega) _) (by show g1 ≠ w.heap.size + 1; omega) _) (by show g1 ≠ w.heap.size + 1; omega) _)⟩⟩
  · clear c1 c2 c12 c13 c14 f11 f12 f13 f14 k1 k2 k3 k4 k5 k6
    go_wp2_with fail
    clear q0 q1 q2 q3 q4 fq0 fq1 fq2 fq3 fq4 c0 c11 c10 f10 v0 v1 v2 v3 xA xF k0
    have HB5 := Lib.hid (show Below w.heap.size w ((w3.setCell ⟨g1, i * 15 + 10, none⟩ (.slice (some ⟨b, 4, none⟩) q (cap - 1))).alloc (.cells #[.int .u32 y.a, .int .u32 y.b, .int .u32 y.c, .int .u32 y.d] 41)).drew from below_drew ((HB3.out.setCell (p := ⟨g1, i * 15 + 10, none⟩) (by show w.heap.size ≤ g1; omega) _).alloc (by rw [World.size_setCell]; exact HB3.out.size) _))
    have HK5 := Lib.hid (show Keeps (fun j => j = g1 ∨ j < w.heap.size + 2) w3 ((w3.setCell ⟨g1, i * 15 + 10, none⟩ (.slice (some ⟨b, 4, none⟩) q (cap - 1))).alloc (.cells #[.int .u32 y.a, .int .u32 y.b, .int .u32 y.c, .int .u32 y.d] 41)).drew from (((Keeps.refl _ w3).setCell (p := ⟨g1, i * 15 + 10, none⟩) (.inl (.inl rfl)) _).alloc _).drew)
    have HG5 := Lib.hid (show ((w3.setCell ⟨g1, i * 15 + 10, none⟩ (.slice (some ⟨b, 4, none⟩) q (cap - 1))).alloc (.cells #[.int .u32 y.a, .int .u32 y.b, .int .u32 y.c, .int .u32 y.d] 41)).drew.heap[g1]? = some (.cells (cur.setIfInBounds (i * 15 + 10) (.slice (some ⟨b, 4, none⟩) q (cap - 1))) 103 (0, 0)) from heap_old (heap_set HCP3.out.blk (i * 15 + 10) _) _)
    have HR5 := Lib.hid (show ((w3.setCell ⟨g1, i * 15 + 10, none⟩ (.slice (some ⟨b, 4, none⟩) q (cap - 1))).alloc (.cells #[.int .u32 y.a, .int .u32 y.b, .int .u32 y.c, .int .u32 y.d] 41)).drew.heap[w.heap.size + 1]? = some (.cells #[.int .i64 0, .int .u32 0, .int .u32 0, .int .u32 0, .int .u32 0] 45 (0, 0)) from heap_old (heap_other HR4.out (by show w.heap.size + 1 ≠ g1; omega) _) _)
    have HN5 := Lib.hid (show ((w3.setCell ⟨g1, i * 15 + 10, none⟩ (.slice (some ⟨b, 4, none⟩) q (cap - 1))).alloc (.cells #[.int .u32 y.a, .int .u32 y.b, .int .u32 y.c, .int .u32 y.d] 41)).drew.heap[w3.heap.size]? = some (.cells #[.int .u32 y.a, .int .u32 y.b, .int .u32 y.c, .int .u32 y.d] 41 (0, 0)) from by have := heap_new (w3.setCell ⟨g1, i * 15 + 10, none⟩ (.slice (some ⟨b, 4, none⟩) q (cap - 1))) (.cells #[.int .u32 y.a, .int .u32 y.b, .int .u32 y.c, .int .u32 y.d] 41); rwa [World.size_setCell] at this)
    have hn3 : w.heap.size + 2 ≤ w3.heap.size := by omega
    have HYV := Lib.hid (show ((w3.setCell ⟨g1, i * 15 + 10, none⟩ (.slice (some ⟨b, 4, none⟩) q (cap - 1))).alloc (.cells #[.int .u32 y.a, .int .u32 y.b, .int .u32 y.c, .int .u32 y.d] 41)).drew.rangeAt w3.heap.size 0 [.int .u32 y.a, .int .u32 y.b, .int .u32 y.c, .int .u32 y.d] from range4R (o := 0) (cell_of HN5.out 0) (cell_of HN5.out 1) (cell_of HN5.out 2) (cell_of HN5.out 3))
    refine wp_region_noPanic ?_
    refine wp_region_held_drew (S := (fun W => W.rangeAt w3.heap.size 0 [.int .u32 y.a, .int .u32 y.b, .int .u32 y.c, .int .u32 y.d])) (by kernel_rfl) ?_ (fun hHeld => ?_)
    · exact HYV.out
    generalize ((w3.setCell ⟨g1, i * 15 + 10, none⟩ (.slice (some ⟨b, 4, none⟩) q (cap - 1))).alloc (.cells #[.int .u32 y.a, .int .u32 y.b, .int .u32 y.c, .int .u32 y.d] 41)).drew = w5 at *
    refine wpAnyH_take (i := 0) (v := ?_) rfl (by kernel_rfl) (by kernel_rfl) (by kernel_rfl) (fun _ _ _ h => h) (Or.inl ⟨by rfl, ?_⟩) (by assumption) ?_
    rotate_left
    · (intro w hSw; (try dsimp only at hSw); go_simp; try with_reducible rfl)
    simp only [Act.put, List.getElem_toArray, List.getElem_cons_zero, List.getElem_cons_succ, List.setIfInBounds_toArray, List.set_cons_zero, List.set_cons_succ]
    refine wpAnyH_take (i := 1) (v := .agg [.int .u32 y.a, .int .u32 y.b, .int .u32 y.c, .int .u32 y.d].toArray) rfl (by kernel_rfl) (by kernel_rfl) (by kernel_rfl) (fun _ _ _ h => h) (yieldsIf_load_mid (by rfl) 41 (.tmp 11) rfl w3.heap.size 0 rfl [.int .u32 y.a, .int .u32 y.b, .int .u32 y.c, .int .u32 y.d] _ (fun w h => h) Tryd.underlying41 rfl val_info19) (by assumption) ?_
    simp only [Act.put, List.getElem_toArray, List.getElem_cons_zero, List.getElem_cons_succ, List.setIfInBounds_toArray, List.set_cons_zero, List.set_cons_succ]
    refine wpAnyH_take (i := 2) (v := ?_) rfl (by kernel_rfl) (by kernel_rfl) (by kernel_rfl) (fun _ _ _ h => h) (Or.inl ⟨by rfl, ?_⟩) (by assumption) ?_
    rotate_left
    · (intro w hSw; (try dsimp only at hSw); go_simp; try with_reducible rfl)
    simp only [Act.put, List.getElem_toArray, List.getElem_cons_zero, List.getElem_cons_succ, List.setIfInBounds_toArray, List.set_cons_zero, List.set_cons_succ]
    refine wpAnyH_take (i := 3) (v := ?_) rfl (by kernel_rfl) (by kernel_rfl) (by kernel_rfl) (fun _ _ _ h => h) (Or.inl ⟨by rfl, ?_⟩) (by assumption) ?_
    rotate_left
    · (intro w hSw; (try dsimp only at hSw); go_simp; try with_reducible rfl)
    simp only [Act.put, List.getElem_toArray, List.getElem_cons_zero, List.getElem_cons_succ, List.setIfInBounds_toArray, List.set_cons_zero, List.set_cons_succ]
    have q0 := cell_of HR5.out 0
    have q1 := cell_of HR5.out 1
    have q2 := cell_of HR5.out 2
    have q3 := cell_of HR5.out 3
    have q4 := cell_of HR5.out 4
    have fq0 := free_of HR5.out 0
    have fq1 := free_of HR5.out 1
    have fq2 := free_of HR5.out 2
    have fq3 := free_of HR5.out 3
    have fq4 := free_of HR5.out 4
    simp only [List.getElem?_toArray, List.getElem?_cons_zero, List.getElem?_cons_succ] at q0 q1 q2 q3 q4
    refine wpAnyH_ready (rs := [4]) (by kernel_rfl) (by simp) ?_
    refine AllReadyH.cons rfl (fun K hK => ?_) AllReadyH.nil
    go_simp
    refine hK.out _ _ ?_ (fun hHeld => ?_)
    · ((try dsimp only); exact far5R HYV.out (by omega))
    clear hK K
    try simp only [Act.put, List.getElem_toArray, List.getElem_cons_zero, List.getElem_cons_succ, List.setIfInBounds_toArray, List.set_cons_zero, List.set_cons_succ]
    refine wpAnyH_done (by kernel_rfl) ?_ _
    refine NoPanic.normal ?_
    go_wp2_with fail
    refine bodyPost_ret (res_do _ _ (some ⟨g1, 0, none⟩) n cap1 (w.heap.size + 1) ⟨0, y⟩ rfl rfl ?_) rfl ?_
    · exact range_heap (heap_set (heap_set (heap_set (heap_set (heap_set HR5.out 0 _) 1 _) 2 _) 3 _) 4 _) rfl
    have hbz := HB5.out
    have key : ∀ Wf, Keeps (fun j => j = g1 ∨ j < w.heap.size + 2) w3 Wf → Wf.heap[g1]? = some (.cells (cur.setIfInBounds (i * 15 + 10) (.slice (some ⟨b, 4, none⟩) q (cap - 1))) 103 (0, 0)) → StateAt Wf g1 (L.set i {x with row := tl}) := fun Wf HKF hgf => HCP3.out.rowOf HI.out tl (some ⟨b, 4, none⟩) q (cap - 1) HQ.out (HKF.mono fun j _ e => by rcases e with e | e <;> simp [e]) hgf (by have := H91.out; have := HQ.out; omega) (by have := H92.out; omega) (fun e => by cases e) (fun hp => ⟨b, 4, rfl, Nat.lt_of_lt_of_le hb2 HKF.size, fun k z hz j u hu => by
      rw [World.cell?_of_block (a := ⟨b, 4 + k * 4 + j, none⟩) (HKF.block b hb2 (fun e => by rcases e with e | e <;> omega))]
      exact HTL.out k z hz j u hu⟩)
    exact ⟨(((((hbz.setCell (p := ⟨w.heap.size + 1, 0, none⟩) (by show w.heap.size ≤ w.heap.size + 1; omega) _).setCell (p := ⟨w.heap.size + 1, 1, none⟩) (by show w.heap.size ≤ w.heap.size + 1; omega) _).setCell (p := ⟨w.heap.size + 1, 2, none⟩) (by show w.heap.size ≤ w.heap.size + 1; omega) _).setCell (p := ⟨w.heap.size + 1, 3, none⟩) (by show w.heap.size ≤ w.heap.size + 1; omega) _).setCell (p := ⟨w.heap.size + 1, 4, none⟩) (by show w.heap.size ≤ w.heap.size + 1; omega) _), some ⟨g1, 0, none⟩, cap1, rfl, fun _ => ⟨g1, rfl, key _ (((((HK5.out.setCell (p := ⟨w.heap.size + 1, 0, none⟩) (.inl (.inr (by show w.heap.size + 1 < w.heap.size + 2; omega))) _).setCell (p := ⟨w.heap.size + 1, 1, none⟩) (.inl (.inr (by show w.heap.size + 1 < w.heap.size + 2; omega))) _).setCell (p := ⟨w.heap.size + 1, 2, none⟩) (.inl (.inr (by show w.heap.size + 1 < w.heap.size + 2; omega))) _).setCell (p := ⟨w.heap.size + 1, 3, none⟩) (.inl (.inr (by show w.heap.size + 1 < w.heap.size + 2; omega))) _).setCell (p := ⟨w.heap.size + 1, 4, none⟩) (.inl (.inr (by show w.heap.size + 1 < w.heap.size + 2; omega))) _) (heap_other (heap_other (heap_other (heap_other (heap_other HG5.out (by show g1 ≠ w.heap.size + 1; omega) _) (by show g1 ≠ w.heap.size + 1; omega) _) (by show g1 ≠ w.heap.size + 1; omega) _) (by show g1 ≠ w.heap.size + 1; omega) _) (by show g1 ≠ w.heap.size + 1; omega) _)⟩⟩
end Go.Proofs.YtohajfkekkelhaaDoor
