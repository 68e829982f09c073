import Derived.Test.YtkhmfjfclpehfaaGreatSpecJz
import Derived.Deep.MidRow
namespace Go.Proofs.YtkhmfjfclpehfaaGreat
open Go.ChangeShapes Go.WideShapes Go.ChangeAt Go.RowKit
set_option linter.unusedVariables false
set_option linter.unusedSimpArgs false
theorem obj_info : (Tryz.prog.info? 87).map (·.size) = some 10 := by kernel_rfl
theorem Became.keeps {w w' : World} {g o : Nat} {T : TypeId} {cur : Array Value} {a : Option Addr} {R : List W4} {x : ItemD} (h : Became w w' g o T cur a R x) : Keeps (fun j => j = g) w w' := by
  obtain ⟨_, _, _, _, _, _, _, hk, _⟩ := h
  exact hk
theorem kind_right {o : Nat → Int} (h : kindP o ≠ 0) : rightS o = true ∧ kindP o = o 0 := by
  unfold kindP at h ⊢
  by_cases e : rightS o = true
  · rw [if_pos e]; exact ⟨e, rfl⟩
  · rw [if_neg e] at h; exact absurd rfl h
theorem kind_width {o : Nat → Int} (h : kindP o = 1 ∨ kindP o = 2 ∨ kindP o = 3) : ∃ m : Nat, o 2 = (m : Int) ∧ m ≤ 4 := by
  obtain ⟨h1, h2⟩ := kind_right (o := o) (by omega)
  rw [h2] at h
  unfold rightS at h1
  simp only [Bool.and_eq_true] at h1
  have h3 := h1.2.2.1
  rw [if_neg (by omega)] at h3
  simp at h3
  exact ⟨(o 2).toNat, by omega, by omega⟩
theorem obj_part (x : ItemD) (a : Option Addr) (n c : Nat) : ∀ (j : Nat) (u : Value), ([.int .i64 (x.o 0), .int .i64 (x.o 1), .int .i64 (x.o 2), .int .i64 (x.o 3), .int .i64 (x.o 4), .int .i64 (x.o 5), .int .u32 (x.oi 0), .int .u32 (x.oi 1), .int .u32 (x.oi 2), .int .u32 (x.oi 3)] : List Value)[j]? = some u → (x.l a n c)[j]? = some u := fun j u h => by
  have hj : j < 10 := (List.getElem?_eq_some_iff.1 h).1
  rcases (by omega : j = 0 ∨ j = 1 ∨ j = 2 ∨ j = 3 ∨ j = 4 ∨ j = 5 ∨ j = 6 ∨ j = 7 ∨ j = 8 ∨ j = 9) with rfl | rfl | rfl | rfl | rfl | rfl | rfl | rfl | rfl | rfl <;> exact h
theorem ItemW.none {w w' : World} {g o : Nat} {cur : Array Value} {x : ItemD} {a : Option Addr} {c : Nat} (h : ItemW w g o cur x a c) (hk : Keeps (fun _ => False) w w') : ItemW w' g o cur x a c :=
  h.keeps ⟨hk.os, hk.tape, hk.output, hk.size, fun k hk1 _ => hk.block k hk1 fun h => h⟩ fun _ _ _ => rfl
theorem all_none {w w' : World} {g B : Nat} {cur : Array Value} {L : List ItemD} (h : ∀ k y, L[k]? = some y → ∃ a c, ItemW w g (k * 15) cur y a c ∧ (0 < y.row.length → ∀ b off, a = some ⟨b, off, Option.none⟩ → b < B)) (hk : Keeps (fun _ => False) w w') :
    ∀ k y, L[k]? = some y → ∃ a c, ItemW w' g (k * 15) cur y a c ∧ (0 < y.row.length → ∀ b off, a = some ⟨b, off, Option.none⟩ → b < B) := fun k y hy => by
  obtain ⟨a, c, h1, h2⟩ := h k y hy
  exact ⟨a, c, h1.none hk, h2⟩
set_option maxRecDepth 20000 in
set_option maxHeartbeats 8000000 in
theorem do_ring (w : World) (g c : Nat) (L : List ItemD) (h : StateAt w g L) (ok : ∀ x, x ∈ L → x.Ok) (hn : L.length ≤ 1000) (k N : Int) (v : W4) (hv : v.Ok) (i : Nat) (x : ItemD) (hi : L[i]? = some x) (hkn : knownP (plainP k) = true) (hK : kindP x.o = 1) (x' : ItemD) (r : ResD) (hst : stepP x (plainP k) v = (x', r)) :
    Calls Tryz.prog 68 #[.slice (some ⟨g, 0, none⟩) L.length c, .agg #[.int .i64 k, .int .i64 (i : Int), .int .u32 v.a, .int .u32 v.b, .int .u32 v.c, .int .u32 v.d, .int .u32 N]] w (DoesIn w L.length (L.set i x', r)) := by
  have hil := (List.getElem?_eq_some_iff.1 hi).1
  have okx := ok x (List.mem_of_getElem? hi)
  have HB0 := Lib.hid (show Below w.heap.size w ((w.alloc (.cells #[.int .i64 k, .int .i64 (i : Int), .int .u32 v.a, .int .u32 v.b, .int .u32 v.c, .int .u32 v.d, .int .u32 N] 38)).alloc (.cells #[.int .i64 0, .int .u32 0, .int .u32 0, .int .u32 0, .int .u32 0] 41)) from ((Below.refl _ w).alloc (Nat.le_refl _) _).alloc (by simp) _)
  have HS0 := Lib.hid (show Has w ((w.alloc (.cells #[.int .i64 k, .int .i64 (i : Int), .int .u32 v.a, .int .u32 v.b, .int .u32 v.c, .int .u32 v.d, .int .u32 N] 38)).alloc (.cells #[.int .i64 0, .int .u32 0, .int .u32 0, .int .u32 0, .int .u32 0] 41)) [(w.heap.size + 1, .cells #[.int .i64 0, .int .u32 0, .int .u32 0, .int .u32 0, .int .u32 0] 41 (0, 0)), (w.heap.size, .cells #[.int .i64 k, .int .i64 (i : Int), .int .u32 v.a, .int .u32 v.b, .int .u32 v.c, .int .u32 v.d, .int .u32 N] 38 (0, 0))] from (((Has.start w).alloc (.cells #[.int .i64 k, .int .i64 (i : Int), .int .u32 v.a, .int .u32 v.b, .int .u32 v.c, .int .u32 v.d, .int .u32 N] 38)).alloc (.cells #[.int .i64 0, .int .u32 0, .int .u32 0, .int .u32 0, .int .u32 0] 41)).eq (by simp))
  have HCL := Lib.hid (clone_any ((w.alloc (.cells #[.int .i64 k, .int .i64 (i : Int), .int .u32 v.a, .int .u32 v.b, .int .u32 v.c, .int .u32 v.d, .int .u32 N] 38)).alloc (.cells #[.int .i64 0, .int .u32 0, .int .u32 0, .int .u32 0, .int .u32 0] 41)) g c L (h.below HB0.out) hn)
  have HP := Lib.hid (fun w => plain_any w k)
  have HK := Lib.hid (fun w => known_any w (plainP k))
  have HOK := Lib.hid ok
  have HST := Lib.hid h
  have hgl := h.lt
  obtain ⟨n, hne⟩ : ∃ n, L.length = n := ⟨_, rfl⟩
  have HN := Lib.hid hne
  rw [hne] at HCL hn ⊢
  rw [hkn] at HK
  rw [hne] at hil
  have HI := Lib.hid hi
  have d0 : decide ((i : Int) < 0) = false := decide_eq_false (by omega)
  have d1 : decide ((n : Int) ≤ (i : Int)) = false := decide_eq_false (by omega)
  have d2 : decide (n ≤ i) = false := decide_eq_false (by omega)
  have d3 : decide (i < n) = true := decide_eq_true hil
  obtain ⟨m, hm, hm4⟩ := kind_width (.inl hK)
  unfold stepP at hst
  rw [if_pos hK, hm, Int.toNat_natCast] at hst
  have HSt := Lib.hid hst
  have HM := Lib.hid hm
  clear hm
  have HKO := Lib.hid (fun w => kindOf_any w x.o x.oi (okx.o 1 (by omega)))
  rw [hK] at HKO
  clear hst
  clear h ok hne hi hkn
  go_enter Tryz.func68, Tryz.ntmps68
  go_wp2_with fail
  refine HCL.out.mono ?_
  rintro e1 w1 ⟨b1, g1, cap1, cur, rfl, hg1, hcur, hsz, hall⟩
  have hg2 : w.heap.size + 2 ≤ g1 := by simpa using hg1
  have hg3 := lt_of hcur
  have HB1 := Lib.hid (HB0.out.trans (b1.mono HB0.out.size))
  have HS1 := Lib.hid (HS0.out.none (Keeps.ofBelow b1))
  have HALL := Lib.hid (And.intro (show ∀ k y, L[k]? = some y → ∃ a c, ItemW w1 g1 (k * 15) cur y a c ∧ (0 < y.row.length → ∀ b off, a = some ⟨b, off, none⟩ → b < w.heap.size) from fun k y hy => by obtain ⟨a, c, h1, h2⟩ := hall k y hy; exact ⟨a, c, h1, fun hp b off e => state_bound HST.out HB0.out hy h2 hp e⟩) hcur)
  have hr1 : w1.heap[w.heap.size + 1]? = some (.cells #[.int .i64 0, .int .u32 0, .int .u32 0, .int .u32 0, .int .u32 0] 41 (0, 0)) := HS1.out.at 0 rfl
  have hc1 : w1.heap[w.heap.size]? = some (.cells #[.int .i64 k, .int .i64 (i : Int), .int .u32 v.a, .int .u32 v.b, .int .u32 v.c, .int .u32 v.d, .int .u32 N] 38 (0, 0)) := HS1.out.at 1 rfl
  have hne5 : w.heap.size + 1 ≠ g1 := by omega
  have k0 := cell_of hc1 0
  have k1 := cell_of hc1 1
  have k2 := cell_of hc1 2
  have k3 := cell_of hc1 3
  have k4 := cell_of hc1 4
  have k5 := cell_of hc1 5
  have k6 := cell_of hc1 6
  have q0 := cell_of hr1 0
  have q1 := cell_of hr1 1
  have q2 := cell_of hr1 2
  have q3 := cell_of hr1 3
  have q4 := cell_of hr1 4
  have fq0 := free_of hr1 0
  have fq1 := free_of hr1 1
  have fq2 := free_of hr1 2
  have fq3 := free_of hr1 3
  have fq4 := free_of hr1 4
  simp only [List.getElem?_toArray, List.getElem?_cons_zero, List.getElem?_cons_succ] at q0 q1 q2 q3 q4 k0 k1 k2 k3 k4 k5 k6
  clear b1 hg1 hall hr1 hc1 HCL HB0 HS0 hcur
  go_wp2_with fail
  refine (HP.out _).mono ?_
  rintro e2 w2 ⟨rfl, hw2⟩
  obtain rfl := hw2.symm
  go_wp2_with fail
  refine (HK.out _).mono ?_
  rintro e3 w3 ⟨rfl, hw3⟩
  obtain rfl := hw3.symm
  obtain ⟨ax, cx, hix, hixb⟩ := HALL.out.1 i x HI.out
  have HRO := Lib.hid (show w1.rangeAt g1 (i * 15) [.int .i64 (x.o 0), .int .i64 (x.o 1), .int .i64 (x.o 2), .int .i64 (x.o 3), .int .i64 (x.o 4), .int .i64 (x.o 5), .int .u32 (x.oi 0), .int .u32 (x.oi 1), .int .u32 (x.oi 2), .int .u32 (x.oi 3)] from fun j u hu => hix.fifteen HALL.out.2 j u (obj_part x ax x.row.length cx j u hu))
  have HIX := Lib.hid (And.intro hix hixb)
  clear hix hixb
  go_wp2_with (refine wpList_load_mid rfl 87 _ rfl g1 (i * 15) rfl [.int .i64 (x.o 0), .int .i64 (x.o 1), .int .i64 (x.o 2), .int .i64 (x.o 3), .int .i64 (x.o 4), .int .i64 (x.o 5), .int .u32 (x.oi 0), .int .u32 (x.oi 1), .int .u32 (x.oi 2), .int .u32 (x.oi 3)] _ HRO.out Tryz.underlying87 rfl obj_info ?_)
  refine (HKO.out _).mono ?_
  rintro e4 w4 ⟨rfl, k4⟩
  have HS4 := Lib.hid (HS1.out.none k4)
  have HB4 := Lib.hid (HB1.out.trans ((k4.none).mono HB1.out.size))
  have HG4 := Lib.hid (show w4.heap[g1]? = some (.cells cur 106 (0, 0)) from k4.at HALL.out.2 fun h => h)
  have HA4 := Lib.hid (all_none HALL.out.1 k4)
  have HI4 := Lib.hid (HIX.out.1.none k4)
  have hc4 : w4.heap[w.heap.size]? = some (.cells #[.int .i64 k, .int .i64 (i : Int), .int .u32 v.a, .int .u32 v.b, .int .u32 v.c, .int .u32 v.d, .int .u32 N] 38 (0, 0)) := HS4.out.at 1 rfl
  have l4 := lt_of HG4.out
  clear q0 q1 q2 q3 q4 fq0 fq1 fq2 fq3 fq4 k0 k1 k2 k3 k4 k5 k6
  have k0 := cell_of hc4 0
  have k1 := cell_of hc4 1
  have k2 := cell_of hc4 2
  have k3 := cell_of hc4 3
  have k4 := cell_of hc4 4
  have k5 := cell_of hc4 5
  have k6 := cell_of hc4 6
  simp only [List.getElem?_toArray, List.getElem?_cons_zero, List.getElem?_cons_succ] at k0 k1 k2 k3 k4 k5 k6
  clear hc4
  go_wp2_with fail
  refine (doRing_any w4 g1 (i * 15) cur x ax cx v (plainP k) m HG4.out HI4.out HM.out (by omega) okx.len).mono ?_
  rintro e5 w5 ⟨rfl, hbc⟩
  rw [HSt.out] at hbc ⊢
  have hr5 : w5.heap[w.heap.size + 1]? = some (.cells #[.int .i64 0, .int .u32 0, .int .u32 0, .int .u32 0, .int .u32 0] 41 (0, 0)) := hbc.keeps.at (HS4.out.at 0 rfl) hne5
  have HB5 := Lib.hid (HB4.out.trans (hbc.keeps.below (B := w.heap.size) (by have := HB4.out.size; omega) fun j hj e => by omega))
  have q0 := cell_of hr5 0
  have q1 := cell_of hr5 1
  have q2 := cell_of hr5 2
  have q3 := cell_of hr5 3
  have q4 := cell_of hr5 4
  have fq0 := free_of hr5 0
  have fq1 := free_of hr5 1
  have fq2 := free_of hr5 2
  have fq3 := free_of hr5 3
  have fq4 := free_of hr5 4
  simp only [List.getElem?_toArray, List.getElem?_cons_zero, List.getElem?_cons_succ] at q0 q1 q2 q3 q4
  have HBC := Lib.hid hbc
  clear hr5 hbc k0 k1 k2 k3 k4 k5 k6
  go_wp2_with fail
  refine bodyPost_ret (v := .tuple #[.slice (some ⟨g1, 0, none⟩) n cap1, .agg r.cells]) (by simp [results, Tryz.results68, go_sem, q0, q1, q2, q3, q4]) rfl ?_
  exact ⟨(((((HB5.out.setCell (p := ⟨w.heap.size + 1, 0, none⟩) (by show w.heap.size ≤ w.heap.size + 1; omega) _).setCell (p := ⟨w.heap.size + 1, 1, none⟩) (by show w.heap.size ≤ w.heap.size + 1; omega) _).setCell (p := ⟨w.heap.size + 1, 2, none⟩) (by show w.heap.size ≤ w.heap.size + 1; omega) _).setCell (p := ⟨w.heap.size + 1, 3, none⟩) (by show w.heap.size ≤ w.heap.size + 1; omega) _).setCell (p := ⟨w.heap.size + 1, 4, none⟩) (by show w.heap.size ≤ w.heap.size + 1; omega) _), g1, cap1, rfl, state_set (A := w.heap.size + 1) HA4.out HI.out HI4.out HIX.out.2 HBC.out ((((((Keeps.refl (fun j => j = w.heap.size + 1) w5).setCell (p := ⟨w.heap.size + 1, 0, none⟩) (.inl rfl) _).setCell (p := ⟨w.heap.size + 1, 1, none⟩) (.inl rfl) _).setCell (p := ⟨w.heap.size + 1, 2, none⟩) (.inl rfl) _).setCell (p := ⟨w.heap.size + 1, 3, none⟩) (.inl rfl) _).setCell (p := ⟨w.heap.size + 1, 4, none⟩) (.inl rfl) _) (by omega) (by have := HB4.out.size; omega) hne5 (by omega) l4⟩
set_option maxRecDepth 20000 in
set_option maxHeartbeats 8000000 in
theorem do_value2 (w : World) (g c : Nat) (L : List ItemD) (h : StateAt w g L) (ok : ∀ x, x ∈ L → x.Ok) (hn : L.length ≤ 1000) (k N : Int) (v : W4) (hv : v.Ok) (i : Nat) (x : ItemD) (hi : L[i]? = some x) (hkn : knownP (plainP k) = true) (hK : kindP x.o = 2) (x' : ItemD) (r : ResD) (hst : stepP x (plainP k) v = (x', r)) :
    Calls Tryz.prog 68 #[.slice (some ⟨g, 0, none⟩) L.length c, .agg #[.int .i64 k, .int .i64 (i : Int), .int .u32 v.a, .int .u32 v.b, .int .u32 v.c, .int .u32 v.d, .int .u32 N]] w (DoesIn w L.length (L.set i x', r)) := by
  have hil := (List.getElem?_eq_some_iff.1 hi).1
  have okx := ok x (List.mem_of_getElem? hi)
  have HB0 := Lib.hid (show Below w.heap.size w ((w.alloc (.cells #[.int .i64 k, .int .i64 (i : Int), .int .u32 v.a, .int .u32 v.b, .int .u32 v.c, .int .u32 v.d, .int .u32 N] 38)).alloc (.cells #[.int .i64 0, .int .u32 0, .int .u32 0, .int .u32 0, .int .u32 0] 41)) from ((Below.refl _ w).alloc (Nat.le_refl _) _).alloc (by simp) _)
  have HS0 := Lib.hid (show Has w ((w.alloc (.cells #[.int .i64 k, .int .i64 (i : Int), .int .u32 v.a, .int .u32 v.b, .int .u32 v.c, .int .u32 v.d, .int .u32 N] 38)).alloc (.cells #[.int .i64 0, .int .u32 0, .int .u32 0, .int .u32 0, .int .u32 0] 41)) [(w.heap.size + 1, .cells #[.int .i64 0, .int .u32 0, .int .u32 0, .int .u32 0, .int .u32 0] 41 (0, 0)), (w.heap.size, .cells #[.int .i64 k, .int .i64 (i : Int), .int .u32 v.a, .int .u32 v.b, .int .u32 v.c, .int .u32 v.d, .int .u32 N] 38 (0, 0))] from (((Has.start w).alloc (.cells #[.int .i64 k, .int .i64 (i : Int), .int .u32 v.a, .int .u32 v.b, .int .u32 v.c, .int .u32 v.d, .int .u32 N] 38)).alloc (.cells #[.int .i64 0, .int .u32 0, .int .u32 0, .int .u32 0, .int .u32 0] 41)).eq (by simp))
  have HCL := Lib.hid (clone_any ((w.alloc (.cells #[.int .i64 k, .int .i64 (i : Int), .int .u32 v.a, .int .u32 v.b, .int .u32 v.c, .int .u32 v.d, .int .u32 N] 38)).alloc (.cells #[.int .i64 0, .int .u32 0, .int .u32 0, .int .u32 0, .int .u32 0] 41)) g c L (h.below HB0.out) hn)
  have HP := Lib.hid (fun w => plain_any w k)
  have HK := Lib.hid (fun w => known_any w (plainP k))
  have HOK := Lib.hid ok
  have HST := Lib.hid h
  have hgl := h.lt
  obtain ⟨n, hne⟩ : ∃ n, L.length = n := ⟨_, rfl⟩
  have HN := Lib.hid hne
  rw [hne] at HCL hn ⊢
  rw [hkn] at HK
  rw [hne] at hil
  have HI := Lib.hid hi
  have d0 : decide ((i : Int) < 0) = false := decide_eq_false (by omega)
  have d1 : decide ((n : Int) ≤ (i : Int)) = false := decide_eq_false (by omega)
  have d2 : decide (n ≤ i) = false := decide_eq_false (by omega)
  have d3 : decide (i < n) = true := decide_eq_true hil
  obtain ⟨m, hm, hm4⟩ := kind_width (.inr (.inl hK))
  unfold stepP at hst
  rw [if_neg (by omega), if_pos (.inl hK), hm, Int.toNat_natCast] at hst
  have HSt := Lib.hid hst
  have HM := Lib.hid hm
  clear hm
  have HKO := Lib.hid (fun w => kindOf_any w x.o x.oi (okx.o 1 (by omega)))
  rw [hK] at HKO
  clear hst
  clear h ok hne hi hkn
  go_enter Tryz.func68, Tryz.ntmps68
  go_wp2_with fail
  refine HCL.out.mono ?_
  rintro e1 w1 ⟨b1, g1, cap1, cur, rfl, hg1, hcur, hsz, hall⟩
  have hg2 : w.heap.size + 2 ≤ g1 := by simpa using hg1
  have hg3 := lt_of hcur
  have HB1 := Lib.hid (HB0.out.trans (b1.mono HB0.out.size))
  have HS1 := Lib.hid (HS0.out.none (Keeps.ofBelow b1))
  have HALL := Lib.hid (And.intro (show ∀ k y, L[k]? = some y → ∃ a c, ItemW w1 g1 (k * 15) cur y a c ∧ (0 < y.row.length → ∀ b off, a = some ⟨b, off, none⟩ → b < w.heap.size) from fun k y hy => by obtain ⟨a, c, h1, h2⟩ := hall k y hy; exact ⟨a, c, h1, fun hp b off e => state_bound HST.out HB0.out hy h2 hp e⟩) hcur)
  have hr1 : w1.heap[w.heap.size + 1]? = some (.cells #[.int .i64 0, .int .u32 0, .int .u32 0, .int .u32 0, .int .u32 0] 41 (0, 0)) := HS1.out.at 0 rfl
  have hc1 : w1.heap[w.heap.size]? = some (.cells #[.int .i64 k, .int .i64 (i : Int), .int .u32 v.a, .int .u32 v.b, .int .u32 v.c, .int .u32 v.d, .int .u32 N] 38 (0, 0)) := HS1.out.at 1 rfl
  have hne5 : w.heap.size + 1 ≠ g1 := by omega
  have k0 := cell_of hc1 0
  have k1 := cell_of hc1 1
  have k2 := cell_of hc1 2
  have k3 := cell_of hc1 3
  have k4 := cell_of hc1 4
  have k5 := cell_of hc1 5
  have k6 := cell_of hc1 6
  have q0 := cell_of hr1 0
  have q1 := cell_of hr1 1
  have q2 := cell_of hr1 2
  have q3 := cell_of hr1 3
  have q4 := cell_of hr1 4
  have fq0 := free_of hr1 0
  have fq1 := free_of hr1 1
  have fq2 := free_of hr1 2
  have fq3 := free_of hr1 3
  have fq4 := free_of hr1 4
  simp only [List.getElem?_toArray, List.getElem?_cons_zero, List.getElem?_cons_succ] at q0 q1 q2 q3 q4 k0 k1 k2 k3 k4 k5 k6
  clear b1 hg1 hall hr1 hc1 HCL HB0 HS0 hcur
  go_wp2_with fail
  refine (HP.out _).mono ?_
  rintro e2 w2 ⟨rfl, hw2⟩
  obtain rfl := hw2.symm
  go_wp2_with fail
  refine (HK.out _).mono ?_
  rintro e3 w3 ⟨rfl, hw3⟩
  obtain rfl := hw3.symm
  obtain ⟨ax, cx, hix, hixb⟩ := HALL.out.1 i x HI.out
  have HRO := Lib.hid (show w1.rangeAt g1 (i * 15) [.int .i64 (x.o 0), .int .i64 (x.o 1), .int .i64 (x.o 2), .int .i64 (x.o 3), .int .i64 (x.o 4), .int .i64 (x.o 5), .int .u32 (x.oi 0), .int .u32 (x.oi 1), .int .u32 (x.oi 2), .int .u32 (x.oi 3)] from fun j u hu => hix.fifteen HALL.out.2 j u (obj_part x ax x.row.length cx j u hu))
  have HIX := Lib.hid (And.intro hix hixb)
  clear hix hixb
  go_wp2_with (refine wpList_load_mid rfl 87 _ rfl g1 (i * 15) rfl [.int .i64 (x.o 0), .int .i64 (x.o 1), .int .i64 (x.o 2), .int .i64 (x.o 3), .int .i64 (x.o 4), .int .i64 (x.o 5), .int .u32 (x.oi 0), .int .u32 (x.oi 1), .int .u32 (x.oi 2), .int .u32 (x.oi 3)] _ HRO.out Tryz.underlying87 rfl obj_info ?_)
  refine (HKO.out _).mono ?_
  rintro e4 w4 ⟨rfl, k4⟩
  have HS4 := Lib.hid (HS1.out.none k4)
  have HB4 := Lib.hid (HB1.out.trans ((k4.none).mono HB1.out.size))
  have HG4 := Lib.hid (show w4.heap[g1]? = some (.cells cur 106 (0, 0)) from k4.at HALL.out.2 fun h => h)
  have HA4 := Lib.hid (all_none HALL.out.1 k4)
  have HI4 := Lib.hid (HIX.out.1.none k4)
  have hc4 : w4.heap[w.heap.size]? = some (.cells #[.int .i64 k, .int .i64 (i : Int), .int .u32 v.a, .int .u32 v.b, .int .u32 v.c, .int .u32 v.d, .int .u32 N] 38 (0, 0)) := HS4.out.at 1 rfl
  have l4 := lt_of HG4.out
  clear q0 q1 q2 q3 q4 fq0 fq1 fq2 fq3 fq4 k0 k1 k2 k3 k4 k5 k6
  have k0 := cell_of hc4 0
  have k1 := cell_of hc4 1
  have k2 := cell_of hc4 2
  have k3 := cell_of hc4 3
  have k4 := cell_of hc4 4
  have k5 := cell_of hc4 5
  have k6 := cell_of hc4 6
  simp only [List.getElem?_toArray, List.getElem?_cons_zero, List.getElem?_cons_succ] at k0 k1 k2 k3 k4 k5 k6
  clear hc4
  go_wp2_with fail
  refine (doValue_any w4 g1 (i * 15) cur x ax cx v (plainP k) m HG4.out HI4.out HM.out (by omega)).mono ?_
  rintro e5 w5 ⟨rfl, hbc⟩
  rw [HSt.out] at hbc ⊢
  have hr5 : w5.heap[w.heap.size + 1]? = some (.cells #[.int .i64 0, .int .u32 0, .int .u32 0, .int .u32 0, .int .u32 0] 41 (0, 0)) := hbc.keeps.at (HS4.out.at 0 rfl) hne5
  have HB5 := Lib.hid (HB4.out.trans (hbc.keeps.below (B := w.heap.size) (by have := HB4.out.size; omega) fun j hj e => by omega))
  have q0 := cell_of hr5 0
  have q1 := cell_of hr5 1
  have q2 := cell_of hr5 2
  have q3 := cell_of hr5 3
  have q4 := cell_of hr5 4
  have fq0 := free_of hr5 0
  have fq1 := free_of hr5 1
  have fq2 := free_of hr5 2
  have fq3 := free_of hr5 3
  have fq4 := free_of hr5 4
  simp only [List.getElem?_toArray, List.getElem?_cons_zero, List.getElem?_cons_succ] at q0 q1 q2 q3 q4
  have HBC := Lib.hid hbc
  clear hr5 hbc k0 k1 k2 k3 k4 k5 k6
  go_wp2_with fail
  refine bodyPost_ret (v := .tuple #[.slice (some ⟨g1, 0, none⟩) n cap1, .agg r.cells]) (by simp [results, Tryz.results68, go_sem, q0, q1, q2, q3, q4]) rfl ?_
  exact ⟨(((((HB5.out.setCell (p := ⟨w.heap.size + 1, 0, none⟩) (by show w.heap.size ≤ w.heap.size + 1; omega) _).setCell (p := ⟨w.heap.size + 1, 1, none⟩) (by show w.heap.size ≤ w.heap.size + 1; omega) _).setCell (p := ⟨w.heap.size + 1, 2, none⟩) (by show w.heap.size ≤ w.heap.size + 1; omega) _).setCell (p := ⟨w.heap.size + 1, 3, none⟩) (by show w.heap.size ≤ w.heap.size + 1; omega) _).setCell (p := ⟨w.heap.size + 1, 4, none⟩) (by show w.heap.size ≤ w.heap.size + 1; omega) _), g1, cap1, rfl, state_set (A := w.heap.size + 1) HA4.out HI.out HI4.out HIX.out.2 HBC.out ((((((Keeps.refl (fun j => j = w.heap.size + 1) w5).setCell (p := ⟨w.heap.size + 1, 0, none⟩) (.inl rfl) _).setCell (p := ⟨w.heap.size + 1, 1, none⟩) (.inl rfl) _).setCell (p := ⟨w.heap.size + 1, 2, none⟩) (.inl rfl) _).setCell (p := ⟨w.heap.size + 1, 3, none⟩) (.inl rfl) _).setCell (p := ⟨w.heap.size + 1, 4, none⟩) (.inl rfl) _) (by omega) (by have := HB4.out.size; omega) hne5 (by omega) l4⟩
set_option maxRecDepth 20000 in
set_option maxHeartbeats 8000000 in
theorem do_value3 (w : World) (g c : Nat) (L : List ItemD) (h : StateAt w g L) (ok : ∀ x, x ∈ L → x.Ok) (hn : L.length ≤ 1000) (k N : Int) (v : W4) (hv : v.Ok) (i : Nat) (x : ItemD) (hi : L[i]? = some x) (hkn : knownP (plainP k) = true) (hK : kindP x.o = 3) (x' : ItemD) (r : ResD) (hst : stepP x (plainP k) v = (x', r)) :
    Calls Tryz.prog 68 #[.slice (some ⟨g, 0, none⟩) L.length c, .agg #[.int .i64 k, .int .i64 (i : Int), .int .u32 v.a, .int .u32 v.b, .int .u32 v.c, .int .u32 v.d, .int .u32 N]] w (DoesIn w L.length (L.set i x', r)) := by
  have hil := (List.getElem?_eq_some_iff.1 hi).1
  have okx := ok x (List.mem_of_getElem? hi)
  have HB0 := Lib.hid (show Below w.heap.size w ((w.alloc (.cells #[.int .i64 k, .int .i64 (i : Int), .int .u32 v.a, .int .u32 v.b, .int .u32 v.c, .int .u32 v.d, .int .u32 N] 38)).alloc (.cells #[.int .i64 0, .int .u32 0, .int .u32 0, .int .u32 0, .int .u32 0] 41)) from ((Below.refl _ w).alloc (Nat.le_refl _) _).alloc (by simp) _)
  have HS0 := Lib.hid (show Has w ((w.alloc (.cells #[.int .i64 k, .int .i64 (i : Int), .int .u32 v.a, .int .u32 v.b, .int .u32 v.c, .int .u32 v.d, .int .u32 N] 38)).alloc (.cells #[.int .i64 0, .int .u32 0, .int .u32 0, .int .u32 0, .int .u32 0] 41)) [(w.heap.size + 1, .cells #[.int .i64 0, .int .u32 0, .int .u32 0, .int .u32 0, .int .u32 0] 41 (0, 0)), (w.heap.size, .cells #[.int .i64 k, .int .i64 (i : Int), .int .u32 v.a, .int .u32 v.b, .int .u32 v.c, .int .u32 v.d, .int .u32 N] 38 (0, 0))] from (((Has.start w).alloc (.cells #[.int .i64 k, .int .i64 (i : Int), .int .u32 v.a, .int .u32 v.b, .int .u32 v.c, .int .u32 v.d, .int .u32 N] 38)).alloc (.cells #[.int .i64 0, .int .u32 0, .int .u32 0, .int .u32 0, .int .u32 0] 41)).eq (by simp))
  have HCL := Lib.hid (clone_any ((w.alloc (.cells #[.int .i64 k, .int .i64 (i : Int), .int .u32 v.a, .int .u32 v.b, .int .u32 v.c, .int .u32 v.d, .int .u32 N] 38)).alloc (.cells #[.int .i64 0, .int .u32 0, .int .u32 0, .int .u32 0, .int .u32 0] 41)) g c L (h.below HB0.out) hn)
  have HP := Lib.hid (fun w => plain_any w k)
  have HK := Lib.hid (fun w => known_any w (plainP k))
  have HOK := Lib.hid ok
  have HST := Lib.hid h
  have hgl := h.lt
  obtain ⟨n, hne⟩ : ∃ n, L.length = n := ⟨_, rfl⟩
  have HN := Lib.hid hne
  rw [hne] at HCL hn ⊢
  rw [hkn] at HK
  rw [hne] at hil
  have HI := Lib.hid hi
  have d0 : decide ((i : Int) < 0) = false := decide_eq_false (by omega)
  have d1 : decide ((n : Int) ≤ (i : Int)) = false := decide_eq_false (by omega)
  have d2 : decide (n ≤ i) = false := decide_eq_false (by omega)
  have d3 : decide (i < n) = true := decide_eq_true hil
  obtain ⟨m, hm, hm4⟩ := kind_width (.inr (.inr hK))
  unfold stepP at hst
  rw [if_neg (by omega), if_pos (.inr hK), hm, Int.toNat_natCast] at hst
  have HSt := Lib.hid hst
  have HM := Lib.hid hm
  clear hm
  have HKO := Lib.hid (fun w => kindOf_any w x.o x.oi (okx.o 1 (by omega)))
  rw [hK] at HKO
  clear hst
  clear h ok hne hi hkn
  go_enter Tryz.func68, Tryz.ntmps68
  go_wp2_with fail
  refine HCL.out.mono ?_
  rintro e1 w1 ⟨b1, g1, cap1, cur, rfl, hg1, hcur, hsz, hall⟩
  have hg2 : w.heap.size + 2 ≤ g1 := by simpa using hg1
  have hg3 := lt_of hcur
  have HB1 := Lib.hid (HB0.out.trans (b1.mono HB0.out.size))
  have HS1 := Lib.hid (HS0.out.none (Keeps.ofBelow b1))
  have HALL := Lib.hid (And.intro (show ∀ k y, L[k]? = some y → ∃ a c, ItemW w1 g1 (k * 15) cur y a c ∧ (0 < y.row.length → ∀ b off, a = some ⟨b, off, none⟩ → b < w.heap.size) from fun k y hy => by obtain ⟨a, c, h1, h2⟩ := hall k y hy; exact ⟨a, c, h1, fun hp b off e => state_bound HST.out HB0.out hy h2 hp e⟩) hcur)
  have hr1 : w1.heap[w.heap.size + 1]? = some (.cells #[.int .i64 0, .int .u32 0, .int .u32 0, .int .u32 0, .int .u32 0] 41 (0, 0)) := HS1.out.at 0 rfl
  have hc1 : w1.heap[w.heap.size]? = some (.cells #[.int .i64 k, .int .i64 (i : Int), .int .u32 v.a, .int .u32 v.b, .int .u32 v.c, .int .u32 v.d, .int .u32 N] 38 (0, 0)) := HS1.out.at 1 rfl
  have hne5 : w.heap.size + 1 ≠ g1 := by omega
  have k0 := cell_of hc1 0
  have k1 := cell_of hc1 1
  have k2 := cell_of hc1 2
  have k3 := cell_of hc1 3
  have k4 := cell_of hc1 4
  have k5 := cell_of hc1 5
  have k6 := cell_of hc1 6
  have q0 := cell_of hr1 0
  have q1 := cell_of hr1 1
  have q2 := cell_of hr1 2
  have q3 := cell_of hr1 3
  have q4 := cell_of hr1 4
  have fq0 := free_of hr1 0
  have fq1 := free_of hr1 1
  have fq2 := free_of hr1 2
  have fq3 := free_of hr1 3
  have fq4 := free_of hr1 4
  simp only [List.getElem?_toArray, List.getElem?_cons_zero, List.getElem?_cons_succ] at q0 q1 q2 q3 q4 k0 k1 k2 k3 k4 k5 k6
  clear b1 hg1 hall hr1 hc1 HCL HB0 HS0 hcur
  go_wp2_with fail
  refine (HP.out _).mono ?_
  rintro e2 w2 ⟨rfl, hw2⟩
  obtain rfl := hw2.symm
  go_wp2_with fail
  refine (HK.out _).mono ?_
  rintro e3 w3 ⟨rfl, hw3⟩
  obtain rfl := hw3.symm
  obtain ⟨ax, cx, hix, hixb⟩ := HALL.out.1 i x HI.out
  have HRO := Lib.hid (show w1.rangeAt g1 (i * 15) [.int .i64 (x.o 0), .int .i64 (x.o 1), .int .i64 (x.o 2), .int .i64 (x.o 3), .int .i64 (x.o 4), .int .i64 (x.o 5), .int .u32 (x.oi 0), .int .u32 (x.oi 1), .int .u32 (x.oi 2), .int .u32 (x.oi 3)] from fun j u hu => hix.fifteen HALL.out.2 j u (obj_part x ax x.row.length cx j u hu))
  have HIX := Lib.hid (And.intro hix hixb)
  clear hix hixb
  go_wp2_with (refine wpList_load_mid rfl 87 _ rfl g1 (i * 15) rfl [.int .i64 (x.o 0), .int .i64 (x.o 1), .int .i64 (x.o 2), .int .i64 (x.o 3), .int .i64 (x.o 4), .int .i64 (x.o 5), .int .u32 (x.oi 0), .int .u32 (x.oi 1), .int .u32 (x.oi 2), .int .u32 (x.oi 3)] _ HRO.out Tryz.underlying87 rfl obj_info ?_)
  refine (HKO.out _).mono ?_
  rintro e4 w4 ⟨rfl, k4⟩
  have HS4 := Lib.hid (HS1.out.none k4)
  have HB4 := Lib.hid (HB1.out.trans ((k4.none).mono HB1.out.size))
  have HG4 := Lib.hid (show w4.heap[g1]? = some (.cells cur 106 (0, 0)) from k4.at HALL.out.2 fun h => h)
  have HA4 := Lib.hid (all_none HALL.out.1 k4)
  have HI4 := Lib.hid (HIX.out.1.none k4)
  have hc4 : w4.heap[w.heap.size]? = some (.cells #[.int .i64 k, .int .i64 (i : Int), .int .u32 v.a, .int .u32 v.b, .int .u32 v.c, .int .u32 v.d, .int .u32 N] 38 (0, 0)) := HS4.out.at 1 rfl
  have l4 := lt_of HG4.out
  clear q0 q1 q2 q3 q4 fq0 fq1 fq2 fq3 fq4 k0 k1 k2 k3 k4 k5 k6
  have k0 := cell_of hc4 0
  have k1 := cell_of hc4 1
  have k2 := cell_of hc4 2
  have k3 := cell_of hc4 3
  have k4 := cell_of hc4 4
  have k5 := cell_of hc4 5
  have k6 := cell_of hc4 6
  simp only [List.getElem?_toArray, List.getElem?_cons_zero, List.getElem?_cons_succ] at k0 k1 k2 k3 k4 k5 k6
  clear hc4
  go_wp2_with fail
  refine (doValue_any w4 g1 (i * 15) cur x ax cx v (plainP k) m HG4.out HI4.out HM.out (by omega)).mono ?_
  rintro e5 w5 ⟨rfl, hbc⟩
  rw [HSt.out] at hbc ⊢
  have hr5 : w5.heap[w.heap.size + 1]? = some (.cells #[.int .i64 0, .int .u32 0, .int .u32 0, .int .u32 0, .int .u32 0] 41 (0, 0)) := hbc.keeps.at (HS4.out.at 0 rfl) hne5
  have HB5 := Lib.hid (HB4.out.trans (hbc.keeps.below (B := w.heap.size) (by have := HB4.out.size; omega) fun j hj e => by omega))
  have q0 := cell_of hr5 0
  have q1 := cell_of hr5 1
  have q2 := cell_of hr5 2
  have q3 := cell_of hr5 3
  have q4 := cell_of hr5 4
  have fq0 := free_of hr5 0
  have fq1 := free_of hr5 1
  have fq2 := free_of hr5 2
  have fq3 := free_of hr5 3
  have fq4 := free_of hr5 4
  simp only [List.getElem?_toArray, List.getElem?_cons_zero, List.getElem?_cons_succ] at q0 q1 q2 q3 q4
  have HBC := Lib.hid hbc
  clear hr5 hbc k0 k1 k2 k3 k4 k5 k6
  go_wp2_with fail
  refine bodyPost_ret (v := .tuple #[.slice (some ⟨g1, 0, none⟩) n cap1, .agg r.cells]) (by simp [results, Tryz.results68, go_sem, q0, q1, q2, q3, q4]) rfl ?_
  exact ⟨(((((HB5.out.setCell (p := ⟨w.heap.size + 1, 0, none⟩) (by show w.heap.size ≤ w.heap.size + 1; omega) _).setCell (p := ⟨w.heap.size + 1, 1, none⟩) (by show w.heap.size ≤ w.heap.size + 1; omega) _).setCell (p := ⟨w.heap.size + 1, 2, none⟩) (by show w.heap.size ≤ w.heap.size + 1; omega) _).setCell (p := ⟨w.heap.size + 1, 3, none⟩) (by show w.heap.size ≤ w.heap.size + 1; omega) _).setCell (p := ⟨w.heap.size + 1, 4, none⟩) (by show w.heap.size ≤ w.heap.size + 1; omega) _), g1, cap1, rfl, state_set (A := w.heap.size + 1) HA4.out HI.out HI4.out HIX.out.2 HBC.out ((((((Keeps.refl (fun j => j = w.heap.size + 1) w5).setCell (p := ⟨w.heap.size + 1, 0, none⟩) (.inl rfl) _).setCell (p := ⟨w.heap.size + 1, 1, none⟩) (.inl rfl) _).setCell (p := ⟨w.heap.size + 1, 2, none⟩) (.inl rfl) _).setCell (p := ⟨w.heap.size + 1, 3, none⟩) (.inl rfl) _).setCell (p := ⟨w.heap.size + 1, 4, none⟩) (.inl rfl) _) (by omega) (by have := HB4.out.size; omega) hne5 (by omega) l4⟩
set_option maxRecDepth 20000 in
set_option maxHeartbeats 8000000 in
theorem do_flags (w : World) (g c : Nat) (L : List ItemD) (h : StateAt w g L) (ok : ∀ x, x ∈ L → x.Ok) (hn : L.length ≤ 1000) (k N : Int) (v : W4) (hv : v.Ok) (i : Nat) (x : ItemD) (hi : L[i]? = some x) (hkn : knownP (plainP k) = true) (hK : kindP x.o = 4) (x' : ItemD) (r : ResD) (hst : stepP x (plainP k) v = (x', r)) :
    Calls Tryz.prog 68 #[.slice (some ⟨g, 0, none⟩) L.length c, .agg #[.int .i64 k, .int .i64 (i : Int), .int .u32 v.a, .int .u32 v.b, .int .u32 v.c, .int .u32 v.d, .int .u32 N]] w (DoesIn w L.length (L.set i x', r)) := by
  have hil := (List.getElem?_eq_some_iff.1 hi).1
  have okx := ok x (List.mem_of_getElem? hi)
  have HB0 := Lib.hid (show Below w.heap.size w ((w.alloc (.cells #[.int .i64 k, .int .i64 (i : Int), .int .u32 v.a, .int .u32 v.b, .int .u32 v.c, .int .u32 v.d, .int .u32 N] 38)).alloc (.cells #[.int .i64 0, .int .u32 0, .int .u32 0, .int .u32 0, .int .u32 0] 41)) from ((Below.refl _ w).alloc (Nat.le_refl _) _).alloc (by simp) _)
  have HS0 := Lib.hid (show Has w ((w.alloc (.cells #[.int .i64 k, .int .i64 (i : Int), .int .u32 v.a, .int .u32 v.b, .int .u32 v.c, .int .u32 v.d, .int .u32 N] 38)).alloc (.cells #[.int .i64 0, .int .u32 0, .int .u32 0, .int .u32 0, .int .u32 0] 41)) [(w.heap.size + 1, .cells #[.int .i64 0, .int .u32 0, .int .u32 0, .int .u32 0, .int .u32 0] 41 (0, 0)), (w.heap.size, .cells #[.int .i64 k, .int .i64 (i : Int), .int .u32 v.a, .int .u32 v.b, .int .u32 v.c, .int .u32 v.d, .int .u32 N] 38 (0, 0))] from (((Has.start w).alloc (.cells #[.int .i64 k, .int .i64 (i : Int), .int .u32 v.a, .int .u32 v.b, .int .u32 v.c, .int .u32 v.d, .int .u32 N] 38)).alloc (.cells #[.int .i64 0, .int .u32 0, .int .u32 0, .int .u32 0, .int .u32 0] 41)).eq (by simp))
  have HCL := Lib.hid (clone_any ((w.alloc (.cells #[.int .i64 k, .int .i64 (i : Int), .int .u32 v.a, .int .u32 v.b, .int .u32 v.c, .int .u32 v.d, .int .u32 N] 38)).alloc (.cells #[.int .i64 0, .int .u32 0, .int .u32 0, .int .u32 0, .int .u32 0] 41)) g c L (h.below HB0.out) hn)
  have HP := Lib.hid (fun w => plain_any w k)
  have HK := Lib.hid (fun w => known_any w (plainP k))
  have HOK := Lib.hid ok
  have HST := Lib.hid h
  have hgl := h.lt
  obtain ⟨n, hne⟩ : ∃ n, L.length = n := ⟨_, rfl⟩
  have HN := Lib.hid hne
  rw [hne] at HCL hn ⊢
  rw [hkn] at HK
  rw [hne] at hil
  have HI := Lib.hid hi
  have d0 : decide ((i : Int) < 0) = false := decide_eq_false (by omega)
  have d1 : decide ((n : Int) ≤ (i : Int)) = false := decide_eq_false (by omega)
  have d2 : decide (n ≤ i) = false := decide_eq_false (by omega)
  have d3 : decide (i < n) = true := decide_eq_true hil
  have hpb := okx.v.a
  have hmb := hv.a
  unfold u32B at hpb hmb
  unfold stepP at hst
  rw [if_neg (by omega), if_neg (by omega), if_pos hK] at hst
  have HSt := Lib.hid hst
  have HKO := Lib.hid (fun w => kindOf_any w x.o x.oi (okx.o 1 (by omega)))
  rw [hK] at HKO
  clear hst
  clear h ok hne hi hkn
  go_enter Tryz.func68, Tryz.ntmps68
  go_wp2_with fail
  refine HCL.out.mono ?_
  rintro e1 w1 ⟨b1, g1, cap1, cur, rfl, hg1, hcur, hsz, hall⟩
  have hg2 : w.heap.size + 2 ≤ g1 := by simpa using hg1
  have hg3 := lt_of hcur
  have HB1 := Lib.hid (HB0.out.trans (b1.mono HB0.out.size))
  have HS1 := Lib.hid (HS0.out.none (Keeps.ofBelow b1))
  have HALL := Lib.hid (And.intro (show ∀ k y, L[k]? = some y → ∃ a c, ItemW w1 g1 (k * 15) cur y a c ∧ (0 < y.row.length → ∀ b off, a = some ⟨b, off, none⟩ → b < w.heap.size) from fun k y hy => by obtain ⟨a, c, h1, h2⟩ := hall k y hy; exact ⟨a, c, h1, fun hp b off e => state_bound HST.out HB0.out hy h2 hp e⟩) hcur)
  have hr1 : w1.heap[w.heap.size + 1]? = some (.cells #[.int .i64 0, .int .u32 0, .int .u32 0, .int .u32 0, .int .u32 0] 41 (0, 0)) := HS1.out.at 0 rfl
  have hc1 : w1.heap[w.heap.size]? = some (.cells #[.int .i64 k, .int .i64 (i : Int), .int .u32 v.a, .int .u32 v.b, .int .u32 v.c, .int .u32 v.d, .int .u32 N] 38 (0, 0)) := HS1.out.at 1 rfl
  have hne5 : w.heap.size + 1 ≠ g1 := by omega
  have k0 := cell_of hc1 0
  have k1 := cell_of hc1 1
  have k2 := cell_of hc1 2
  have k3 := cell_of hc1 3
  have k4 := cell_of hc1 4
  have k5 := cell_of hc1 5
  have k6 := cell_of hc1 6
  have q0 := cell_of hr1 0
  have q1 := cell_of hr1 1
  have q2 := cell_of hr1 2
  have q3 := cell_of hr1 3
  have q4 := cell_of hr1 4
  have fq0 := free_of hr1 0
  have fq1 := free_of hr1 1
  have fq2 := free_of hr1 2
  have fq3 := free_of hr1 3
  have fq4 := free_of hr1 4
  simp only [List.getElem?_toArray, List.getElem?_cons_zero, List.getElem?_cons_succ] at q0 q1 q2 q3 q4 k0 k1 k2 k3 k4 k5 k6
  clear b1 hg1 hall hr1 hc1 HCL HB0 HS0 hcur
  go_wp2_with fail
  refine (HP.out _).mono ?_
  rintro e2 w2 ⟨rfl, hw2⟩
  obtain rfl := hw2.symm
  go_wp2_with fail
  refine (HK.out _).mono ?_
  rintro e3 w3 ⟨rfl, hw3⟩
  obtain rfl := hw3.symm
  obtain ⟨ax, cx, hix, hixb⟩ := HALL.out.1 i x HI.out
  have HRO := Lib.hid (show w1.rangeAt g1 (i * 15) [.int .i64 (x.o 0), .int .i64 (x.o 1), .int .i64 (x.o 2), .int .i64 (x.o 3), .int .i64 (x.o 4), .int .i64 (x.o 5), .int .u32 (x.oi 0), .int .u32 (x.oi 1), .int .u32 (x.oi 2), .int .u32 (x.oi 3)] from fun j u hu => hix.fifteen HALL.out.2 j u (obj_part x ax x.row.length cx j u hu))
  have HIX := Lib.hid (And.intro hix hixb)
  clear hix hixb
  go_wp2_with (refine wpList_load_mid rfl 87 _ rfl g1 (i * 15) rfl [.int .i64 (x.o 0), .int .i64 (x.o 1), .int .i64 (x.o 2), .int .i64 (x.o 3), .int .i64 (x.o 4), .int .i64 (x.o 5), .int .u32 (x.oi 0), .int .u32 (x.oi 1), .int .u32 (x.oi 2), .int .u32 (x.oi 3)] _ HRO.out Tryz.underlying87 rfl obj_info ?_)
  refine (HKO.out _).mono ?_
  rintro e4 w4 ⟨rfl, k4⟩
  have HS4 := Lib.hid (HS1.out.none k4)
  have HB4 := Lib.hid (HB1.out.trans ((k4.none).mono HB1.out.size))
  have HG4 := Lib.hid (show w4.heap[g1]? = some (.cells cur 106 (0, 0)) from k4.at HALL.out.2 fun h => h)
  have HA4 := Lib.hid (all_none HALL.out.1 k4)
  have HI4 := Lib.hid (HIX.out.1.none k4)
  have hc4 : w4.heap[w.heap.size]? = some (.cells #[.int .i64 k, .int .i64 (i : Int), .int .u32 v.a, .int .u32 v.b, .int .u32 v.c, .int .u32 v.d, .int .u32 N] 38 (0, 0)) := HS4.out.at 1 rfl
  have l4 := lt_of HG4.out
  clear q0 q1 q2 q3 q4 fq0 fq1 fq2 fq3 fq4 k0 k1 k2 k3 k4 k5 k6
  have k0 := cell_of hc4 0
  have k1 := cell_of hc4 1
  have k2 := cell_of hc4 2
  have k3 := cell_of hc4 3
  have k4 := cell_of hc4 4
  have k5 := cell_of hc4 5
  have k6 := cell_of hc4 6
  simp only [List.getElem?_toArray, List.getElem?_cons_zero, List.getElem?_cons_succ] at k0 k1 k2 k3 k4 k5 k6
  clear hc4
  go_wp2_with fail
  have e0 : v.a = ((v.a.toNat : Nat) : Int) := by omega
  rw [e0]
  clear e0
  refine (doFlags_any w4 g1 (i * 15) cur x ax cx x.v.a.toNat v.a.toNat (plainP k) HG4.out HI4.out (by omega) (by omega) (by omega)).mono ?_
  rintro e5 w5 ⟨rfl, hbc⟩
  rw [HSt.out] at hbc ⊢
  have hr5 : w5.heap[w.heap.size + 1]? = some (.cells #[.int .i64 0, .int .u32 0, .int .u32 0, .int .u32 0, .int .u32 0] 41 (0, 0)) := hbc.keeps.at (HS4.out.at 0 rfl) hne5
  have HB5 := Lib.hid (HB4.out.trans (hbc.keeps.below (B := w.heap.size) (by have := HB4.out.size; omega) fun j hj e => by omega))
  have q0 := cell_of hr5 0
  have q1 := cell_of hr5 1
  have q2 := cell_of hr5 2
  have q3 := cell_of hr5 3
  have q4 := cell_of hr5 4
  have fq0 := free_of hr5 0
  have fq1 := free_of hr5 1
  have fq2 := free_of hr5 2
  have fq3 := free_of hr5 3
  have fq4 := free_of hr5 4
  simp only [List.getElem?_toArray, List.getElem?_cons_zero, List.getElem?_cons_succ] at q0 q1 q2 q3 q4
  have HBC := Lib.hid hbc
  clear hr5 hbc k0 k1 k2 k3 k4 k5 k6
  go_wp2_with fail
  refine bodyPost_ret (v := .tuple #[.slice (some ⟨g1, 0, none⟩) n cap1, .agg r.cells]) (by simp [results, Tryz.results68, go_sem, q0, q1, q2, q3, q4]) rfl ?_
  exact ⟨(((((HB5.out.setCell (p := ⟨w.heap.size + 1, 0, none⟩) (by show w.heap.size ≤ w.heap.size + 1; omega) _).setCell (p := ⟨w.heap.size + 1, 1, none⟩) (by show w.heap.size ≤ w.heap.size + 1; omega) _).setCell (p := ⟨w.heap.size + 1, 2, none⟩) (by show w.heap.size ≤ w.heap.size + 1; omega) _).setCell (p := ⟨w.heap.size + 1, 3, none⟩) (by show w.heap.size ≤ w.heap.size + 1; omega) _).setCell (p := ⟨w.heap.size + 1, 4, none⟩) (by show w.heap.size ≤ w.heap.size + 1; omega) _), g1, cap1, rfl, state_set (A := w.heap.size + 1) HA4.out HI.out HI4.out HIX.out.2 HBC.out ((((((Keeps.refl (fun j => j = w.heap.size + 1) w5).setCell (p := ⟨w.heap.size + 1, 0, none⟩) (.inl rfl) _).setCell (p := ⟨w.heap.size + 1, 1, none⟩) (.inl rfl) _).setCell (p := ⟨w.heap.size + 1, 2, none⟩) (.inl rfl) _).setCell (p := ⟨w.heap.size + 1, 3, none⟩) (.inl rfl) _).setCell (p := ⟨w.heap.size + 1, 4, none⟩) (.inl rfl) _) (by omega) (by have := HB4.out.size; omega) hne5 (by omega) l4⟩
end Go.Proofs.YtkhmfjfclpehfaaGreat
namespace Go.Proofs.YtkhmfjfclpehfaaGreat
open Go.ChangeShapes Go.WideShapes Go.ChangeAt Go.RowKit
set_option linter.unusedVariables false
set_option linter.unusedSimpArgs false
set_option maxRecDepth 20000 in
set_option maxHeartbeats 8000000 in
theorem do_none (w : World) (g c : Nat) (L : List ItemD) (h : StateAt w g L) (ok : ∀ x, x ∈ L → x.Ok) (hn : L.length ≤ 1000) (k N : Int) (v : W4) (hv : v.Ok) (i : Nat) (x : ItemD) (hi : L[i]? = some x) (hkn : knownP (plainP k) = true) (hK : kindP x.o = 0) (hst : True) :
    Calls Tryz.prog 68 #[.slice (some ⟨g, 0, none⟩) L.length c, .agg #[.int .i64 k, .int .i64 (i : Int), .int .u32 v.a, .int .u32 v.b, .int .u32 v.c, .int .u32 v.d, .int .u32 N]] w (DoesIn w L.length (L, res0 12)) := by
  have hil := (List.getElem?_eq_some_iff.1 hi).1
  have okx := ok x (List.mem_of_getElem? hi)
  have HB0 := Lib.hid (show Below w.heap.size w ((w.alloc (.cells #[.int .i64 k, .int .i64 (i : Int), .int .u32 v.a, .int .u32 v.b, .int .u32 v.c, .int .u32 v.d, .int .u32 N] 38)).alloc (.cells #[.int .i64 0, .int .u32 0, .int .u32 0, .int .u32 0, .int .u32 0] 41)) from ((Below.refl _ w).alloc (Nat.le_refl _) _).alloc (by simp) _)
  have HS0 := Lib.hid (show Has w ((w.alloc (.cells #[.int .i64 k, .int .i64 (i : Int), .int .u32 v.a, .int .u32 v.b, .int .u32 v.c, .int .u32 v.d, .int .u32 N] 38)).alloc (.cells #[.int .i64 0, .int .u32 0, .int .u32 0, .int .u32 0, .int .u32 0] 41)) [(w.heap.size + 1, .cells #[.int .i64 0, .int .u32 0, .int .u32 0, .int .u32 0, .int .u32 0] 41 (0, 0)), (w.heap.size, .cells #[.int .i64 k, .int .i64 (i : Int), .int .u32 v.a, .int .u32 v.b, .int .u32 v.c, .int .u32 v.d, .int .u32 N] 38 (0, 0))] from (((Has.start w).alloc (.cells #[.int .i64 k, .int .i64 (i : Int), .int .u32 v.a, .int .u32 v.b, .int .u32 v.c, .int .u32 v.d, .int .u32 N] 38)).alloc (.cells #[.int .i64 0, .int .u32 0, .int .u32 0, .int .u32 0, .int .u32 0] 41)).eq (by simp))
  have HCL := Lib.hid (clone_any ((w.alloc (.cells #[.int .i64 k, .int .i64 (i : Int), .int .u32 v.a, .int .u32 v.b, .int .u32 v.c, .int .u32 v.d, .int .u32 N] 38)).alloc (.cells #[.int .i64 0, .int .u32 0, .int .u32 0, .int .u32 0, .int .u32 0] 41)) g c L (h.below HB0.out) hn)
  have HP := Lib.hid (fun w => plain_any w k)
  have HK := Lib.hid (fun w => known_any w (plainP k))
  have HOK := Lib.hid ok
  have HST := Lib.hid h
  have hgl := h.lt
  obtain ⟨n, hne⟩ : ∃ n, L.length = n := ⟨_, rfl⟩
  have HN := Lib.hid hne
  rw [hne] at HCL hn ⊢
  rw [hkn] at HK
  rw [hne] at hil
  have HI := Lib.hid hi
  have d0 : decide ((i : Int) < 0) = false := decide_eq_false (by omega)
  have d1 : decide ((n : Int) ≤ (i : Int)) = false := decide_eq_false (by omega)
  have d2 : decide (n ≤ i) = false := decide_eq_false (by omega)
  have d3 : decide (i < n) = true := decide_eq_true hil
  have HSt := Lib.hid hst
  have HKO := Lib.hid (fun w => kindOf_any w x.o x.oi (okx.o 1 (by omega)))
  rw [hK] at HKO
  clear hst
  clear h ok hne hi hkn
  go_enter Tryz.func68, Tryz.ntmps68
  go_wp2_with fail
  refine HCL.out.mono ?_
  rintro e1 w1 ⟨b1, g1, cap1, cur, rfl, hg1, hcur, hsz, hall⟩
  have hg2 : w.heap.size + 2 ≤ g1 := by simpa using hg1
  have hg3 := lt_of hcur
  have HB1 := Lib.hid (HB0.out.trans (b1.mono HB0.out.size))
  have HS1 := Lib.hid (HS0.out.none (Keeps.ofBelow b1))
  have HALL := Lib.hid (And.intro (show ∀ k y, L[k]? = some y → ∃ a c, ItemW w1 g1 (k * 15) cur y a c ∧ (0 < y.row.length → ∀ b off, a = some ⟨b, off, none⟩ → b < w.heap.size) from fun k y hy => by obtain ⟨a, c, h1, h2⟩ := hall k y hy; exact ⟨a, c, h1, fun hp b off e => state_bound HST.out HB0.out hy h2 hp e⟩) hcur)
  have hr1 : w1.heap[w.heap.size + 1]? = some (.cells #[.int .i64 0, .int .u32 0, .int .u32 0, .int .u32 0, .int .u32 0] 41 (0, 0)) := HS1.out.at 0 rfl
  have hc1 : w1.heap[w.heap.size]? = some (.cells #[.int .i64 k, .int .i64 (i : Int), .int .u32 v.a, .int .u32 v.b, .int .u32 v.c, .int .u32 v.d, .int .u32 N] 38 (0, 0)) := HS1.out.at 1 rfl
  have hne5 : w.heap.size + 1 ≠ g1 := by omega
  have k0 := cell_of hc1 0
  have k1 := cell_of hc1 1
  have k2 := cell_of hc1 2
  have k3 := cell_of hc1 3
  have k4 := cell_of hc1 4
  have k5 := cell_of hc1 5
  have k6 := cell_of hc1 6
  have q0 := cell_of hr1 0
  have q1 := cell_of hr1 1
  have q2 := cell_of hr1 2
  have q3 := cell_of hr1 3
  have q4 := cell_of hr1 4
  have fq0 := free_of hr1 0
  have fq1 := free_of hr1 1
  have fq2 := free_of hr1 2
  have fq3 := free_of hr1 3
  have fq4 := free_of hr1 4
  simp only [List.getElem?_toArray, List.getElem?_cons_zero, List.getElem?_cons_succ] at q0 q1 q2 q3 q4 k0 k1 k2 k3 k4 k5 k6
  clear b1 hg1 hall hr1 hc1 HCL HB0 HS0 hcur
  go_wp2_with fail
  refine (HP.out _).mono ?_
  rintro e2 w2 ⟨rfl, hw2⟩
  obtain rfl := hw2.symm
  go_wp2_with fail
  refine (HK.out _).mono ?_
  rintro e3 w3 ⟨rfl, hw3⟩
  obtain rfl := hw3.symm
  obtain ⟨ax, cx, hix, hixb⟩ := HALL.out.1 i x HI.out
  have HRO := Lib.hid (show w1.rangeAt g1 (i * 15) [.int .i64 (x.o 0), .int .i64 (x.o 1), .int .i64 (x.o 2), .int .i64 (x.o 3), .int .i64 (x.o 4), .int .i64 (x.o 5), .int .u32 (x.oi 0), .int .u32 (x.oi 1), .int .u32 (x.oi 2), .int .u32 (x.oi 3)] from fun j u hu => hix.fifteen HALL.out.2 j u (obj_part x ax x.row.length cx j u hu))
  have HIX := Lib.hid (And.intro hix hixb)
  clear hix hixb
  go_wp2_with (refine wpList_load_mid rfl 87 _ rfl g1 (i * 15) rfl [.int .i64 (x.o 0), .int .i64 (x.o 1), .int .i64 (x.o 2), .int .i64 (x.o 3), .int .i64 (x.o 4), .int .i64 (x.o 5), .int .u32 (x.oi 0), .int .u32 (x.oi 1), .int .u32 (x.oi 2), .int .u32 (x.oi 3)] _ HRO.out Tryz.underlying87 rfl obj_info ?_)
  refine (HKO.out _).mono ?_
  rintro e4 w4 ⟨rfl, k4⟩
  have HS4 := Lib.hid (HS1.out.none k4)
  have HB4 := Lib.hid (HB1.out.trans ((k4.none).mono HB1.out.size))
  have HG4 := Lib.hid (show w4.heap[g1]? = some (.cells cur 106 (0, 0)) from k4.at HALL.out.2 fun h => h)
  have HA4 := Lib.hid (all_none HALL.out.1 k4)
  have HI4 := Lib.hid (HIX.out.1.none k4)
  have hc4 : w4.heap[w.heap.size]? = some (.cells #[.int .i64 k, .int .i64 (i : Int), .int .u32 v.a, .int .u32 v.b, .int .u32 v.c, .int .u32 v.d, .int .u32 N] 38 (0, 0)) := HS4.out.at 1 rfl
  have l4 := lt_of HG4.out
  clear q0 q1 q2 q3 q4 fq0 fq1 fq2 fq3 fq4 k0 k1 k2 k3 k4 k5 k6
  have k0 := cell_of hc4 0
  have k1 := cell_of hc4 1
  have k2 := cell_of hc4 2
  have k3 := cell_of hc4 3
  have k4 := cell_of hc4 4
  have k5 := cell_of hc4 5
  have k6 := cell_of hc4 6
  simp only [List.getElem?_toArray, List.getElem?_cons_zero, List.getElem?_cons_succ] at k0 k1 k2 k3 k4 k5 k6
  clear hc4
  have hr5 : w4.heap[w.heap.size + 1]? = some (.cells #[.int .i64 0, .int .u32 0, .int .u32 0, .int .u32 0, .int .u32 0] 41 (0, 0)) := HS4.out.at 0 rfl
  have q0 := cell_of hr5 0
  have q1 := cell_of hr5 1
  have q2 := cell_of hr5 2
  have q3 := cell_of hr5 3
  have q4 := cell_of hr5 4
  have fq0 := free_of hr5 0
  have fq1 := free_of hr5 1
  have fq2 := free_of hr5 2
  have fq3 := free_of hr5 3
  have fq4 := free_of hr5 4
  simp only [List.getElem?_toArray, List.getElem?_cons_zero, List.getElem?_cons_succ] at q0 q1 q2 q3 q4
  clear hr5
  go_wp2_with fail
  refine bodyPost_ret (v := .tuple #[.slice (some ⟨g1, 0, none⟩) n cap1, .agg (res0 12).cells]) (by simp [results, Tryz.results68, go_sem, q0, q1, q2, q3, q4, res0, W4.zero]) rfl ?_
  exact ⟨(((((HB4.out.setCell (p := ⟨w.heap.size + 1, 0, none⟩) (by show w.heap.size ≤ w.heap.size + 1; omega) _).setCell (p := ⟨w.heap.size + 1, 1, none⟩) (by show w.heap.size ≤ w.heap.size + 1; omega) _).setCell (p := ⟨w.heap.size + 1, 2, none⟩) (by show w.heap.size ≤ w.heap.size + 1; omega) _).setCell (p := ⟨w.heap.size + 1, 3, none⟩) (by show w.heap.size ≤ w.heap.size + 1; omega) _).setCell (p := ⟨w.heap.size + 1, 4, none⟩) (by show w.heap.size ≤ w.heap.size + 1; omega) _), g1, cap1, rfl, state_kept HA4.out HG4.out ((((((Keeps.refl (fun j => j = w.heap.size + 1) w4).setCell (p := ⟨w.heap.size + 1, 0, none⟩) (.inl rfl) _).setCell (p := ⟨w.heap.size + 1, 1, none⟩) (.inl rfl) _).setCell (p := ⟨w.heap.size + 1, 2, none⟩) (.inl rfl) _).setCell (p := ⟨w.heap.size + 1, 3, none⟩) (.inl rfl) _).setCell (p := ⟨w.heap.size + 1, 4, none⟩) (.inl rfl) _) (by omega) hne5⟩
theorem kind_cases (o : Nat → Int) : kindP o = 0 ∨ kindP o = 1 ∨ kindP o = 2 ∨ kindP o = 3 ∨ kindP o = 4 := by
  by_cases h : kindP o = 0
  · exact .inl h
  · obtain ⟨h1, h2⟩ := kind_right h
    unfold rightS at h1
    simp only [Bool.and_eq_true, decide_eq_true_eq] at h1
    omega
theorem set_same {α : Type} : ∀ (L : List α) (i : Nat) (x : α), L[i]? = some x → L.set i x = L
  | [], _, _, _ => rfl
  | y :: t, 0, x, h => by cases h; rfl
  | y :: t, i + 1, x, h => by
    show y :: t.set i x = y :: t
    rw [set_same t i x h]
theorem do_any (w : World) (g c : Nat) (L : List ItemD) (h : StateAt w g L) (ok : ∀ x, x ∈ L → x.Ok) (hn : L.length ≤ 1000) (k obj N : Int) (v : W4) (hv : v.Ok) :
    Calls Tryz.prog 68 #[.slice (some ⟨g, 0, none⟩) L.length c, .agg #[.int .i64 k, .int .i64 obj, .int .u32 v.a, .int .u32 v.b, .int .u32 v.c, .int .u32 v.d, .int .u32 N]] w (DoesIn w L.length (doP L k obj v)) := by
  unfold doP
  by_cases hk : knownP (plainP k) = false
  · rw [if_pos hk]
    exact do_not w g c L h ok hn k obj N v hv 1 (.inl ⟨hk, rfl⟩)
  · rw [if_neg hk]
    have hk1 : knownP (plainP k) = true := by simpa using hk
    by_cases ho : obj < 0 ∨ (L.length : Int) ≤ obj
    · rw [if_pos ho]
      exact do_not w g c L h ok hn k obj N v hv 4 (.inr ⟨hk1, ho, rfl⟩)
    · rw [if_neg ho]
      obtain ⟨i, rfl⟩ : ∃ i : Nat, obj = (i : Int) := ⟨obj.toNat, by omega⟩
      have hi : i < L.length := by omega
      obtain ⟨x, hx⟩ : ∃ x, L[i]? = some x := ⟨_, List.getElem?_eq_getElem hi⟩
      simp only [Int.toNat_natCast, hx]
      rcases kind_cases x.o with hK | hK | hK | hK | hK
      · rw [show stepP x (plainP k) v = (x, res0 12) by unfold stepP; rw [if_neg (by omega), if_neg (by omega), if_neg (by omega)]]
        show Calls _ _ _ _ (DoesIn w L.length (L.set i x, res0 12))
        rw [set_same L i x hx]
        exact do_none w g c L h ok hn k N v hv i x hx hk1 hK trivial
      · exact do_ring w g c L h ok hn k N v hv i x hx hk1 hK _ _ rfl
      · exact do_value2 w g c L h ok hn k N v hv i x hx hk1 hK _ _ rfl
      · exact do_value3 w g c L h ok hn k N v hv i x hx hk1 hK _ _ rfl
      · exact do_flags w g c L h ok hn k N v hv i x hx hk1 hK _ _ rfl
end Go.Proofs.YtkhmfjfclpehfaaGreat
