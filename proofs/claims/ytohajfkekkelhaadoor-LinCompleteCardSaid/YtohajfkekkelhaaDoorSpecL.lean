import Derived.Test.YtohajfkekkelhaaDoorSpecK
namespace Go.Proofs.YtohajfkekkelhaaDoor
open Go.ChangeShapes Go.WideShapes Go.ChangeAt Go.RowKit
set_option linter.unusedVariables false
set_option linter.unusedSimpArgs false
/-- What a call is answered, and what there is then, in memory. -/
def DoesIn (w : World) (n : Nat) (p : List ItemD × ResD) (e : Ending) (w' : World) : Prop :=
  Below w.heap.size w w' ∧ ∃ g' c', e = .returned (.tuple #[.slice (some ⟨g', 0, none⟩) n c', .agg p.2.cells]) ∧ StateAt w' g' p.1
set_option maxRecDepth 20000 in
set_option maxHeartbeats 8000000 in
theorem do_not (w : World) (g c : Nat) (L : List ItemD) (h : StateAt w g L) (ok : ∀ x, x ∈ L → x.Ok) (hn : L.length ≤ 1000) (k obj N : Int) (v : W4) (hv : v.Ok) (f : Int) (hf : (knownP (plainP k) = false ∧ f = 1) ∨ (knownP (plainP k) = true ∧ (obj < 0 ∨ (L.length : Int) ≤ obj) ∧ f = 4)) :
    Calls Tryd.prog 34 #[.slice (some ⟨g, 0, none⟩) L.length c, .agg #[.int .i64 k, .int .i64 obj, .int .u32 v.a, .int .u32 v.b, .int .u32 v.c, .int .u32 v.d, .int .u32 N]] w (DoesIn w L.length (L, res0 f)) := by
  have HB0 := Lib.hid (show Below w.heap.size w ((w.alloc (.cells #[.int .i64 k, .int .i64 obj, .int .u32 v.a, .int .u32 v.b, .int .u32 v.c, .int .u32 v.d, .int .u32 N] 43)).alloc (.cells #[.int .i64 0, .int .u32 0, .int .u32 0, .int .u32 0, .int .u32 0] 45)) from ((Below.refl _ w).alloc (Nat.le_refl _) _).alloc (by simp) _)
  have HS0 := Lib.hid (show Has w ((w.alloc (.cells #[.int .i64 k, .int .i64 obj, .int .u32 v.a, .int .u32 v.b, .int .u32 v.c, .int .u32 v.d, .int .u32 N] 43)).alloc (.cells #[.int .i64 0, .int .u32 0, .int .u32 0, .int .u32 0, .int .u32 0] 45)) [(w.heap.size + 1, .cells #[.int .i64 0, .int .u32 0, .int .u32 0, .int .u32 0, .int .u32 0] 45 (0, 0)), (w.heap.size, .cells #[.int .i64 k, .int .i64 obj, .int .u32 v.a, .int .u32 v.b, .int .u32 v.c, .int .u32 v.d, .int .u32 N] 43 (0, 0))] from (((Has.start w).alloc (.cells #[.int .i64 k, .int .i64 obj, .int .u32 v.a, .int .u32 v.b, .int .u32 v.c, .int .u32 v.d, .int .u32 N] 43)).alloc (.cells #[.int .i64 0, .int .u32 0, .int .u32 0, .int .u32 0, .int .u32 0] 45)).eq (by simp))
  have HCL := Lib.hid (clone_any ((w.alloc (.cells #[.int .i64 k, .int .i64 obj, .int .u32 v.a, .int .u32 v.b, .int .u32 v.c, .int .u32 v.d, .int .u32 N] 43)).alloc (.cells #[.int .i64 0, .int .u32 0, .int .u32 0, .int .u32 0, .int .u32 0] 45)) g c L (h.below HB0.out) hn)
  have HP := Lib.hid (fun w => plain_any w k)
  have HK := Lib.hid (fun w => known_any w (plainP k))
  have HOK := Lib.hid ok
  have HST := Lib.hid h
  have hgl := h.lt
  obtain ⟨n, hne⟩ : ∃ n, L.length = n := ⟨_, rfl⟩
  have HN := Lib.hid hne
  rw [hne] at HCL hn ⊢
  clear h ok hv
  rw [hne] at hf
  clear hne
  rcases hf with ⟨hk1, rfl⟩ | ⟨hk1, ho, rfl⟩
  · rw [hk1] at HK
    go_enter Tryd.func34, Tryd.ntmps34
    go_wp2_with fail
    refine HCL.out.mono ?_
    rintro e1 w1 ⟨b1, g1, cap1, cur, rfl, hg1, hcur, hsz, hall⟩
    have hg2 : w.heap.size + 2 ≤ g1 := by simpa using hg1
    have hg3 := lt_of hcur
    have HB1 := Lib.hid (HB0.out.trans (b1.mono HB0.out.size))
    have HS1 := Lib.hid (HS0.out.none (Keeps.ofBelow b1))
    have HALL := Lib.hid (And.intro (show ∀ k y, L[k]? = some y → ∃ a c, ItemW w1 g1 (k * 15) cur y a c ∧ (0 < y.row.length → ∀ b off, a = some ⟨b, off, none⟩ → b < w.heap.size) from fun k y hy => by obtain ⟨a, c, h1, h2⟩ := hall k y hy; exact ⟨a, c, h1, fun hp b off e => state_bound HST.out HB0.out hy h2 hp e⟩) hcur)
    have hr1 : w1.heap[w.heap.size + 1]? = some (.cells #[.int .i64 0, .int .u32 0, .int .u32 0, .int .u32 0, .int .u32 0] 45 (0, 0)) := HS1.out.at 0 rfl
    have hc1 : w1.heap[w.heap.size]? = some (.cells #[.int .i64 k, .int .i64 obj, .int .u32 v.a, .int .u32 v.b, .int .u32 v.c, .int .u32 v.d, .int .u32 N] 43 (0, 0)) := HS1.out.at 1 rfl
    have hne5 : w.heap.size + 1 ≠ g1 := by omega
    have k0 := cell_of hc1 0
    have k1 := cell_of hc1 1
    have k2 := cell_of hc1 2
    have k3 := cell_of hc1 3
    have k4 := cell_of hc1 4
    have k5 := cell_of hc1 5
    have k6 := cell_of hc1 6
    have q0 := cell_of hr1 0
    have q1 := cell_of hr1 1
    have q2 := cell_of hr1 2
    have q3 := cell_of hr1 3
    have q4 := cell_of hr1 4
    have fq0 := free_of hr1 0
    have fq1 := free_of hr1 1
    have fq2 := free_of hr1 2
    have fq3 := free_of hr1 3
    have fq4 := free_of hr1 4
    simp only [List.getElem?_toArray, List.getElem?_cons_zero, List.getElem?_cons_succ] at q0 q1 q2 q3 q4 k0 k1 k2 k3 k4 k5 k6
    clear b1 hg1 hall hr1 hc1 HCL HB0 HS0 hcur
    go_wp2_with fail
    refine (HP.out _).mono ?_
    rintro e2 w2 ⟨rfl, hw2⟩
    obtain rfl := hw2.symm
    go_wp2_with fail
    refine (HK.out _).mono ?_
    rintro e3 w3 ⟨rfl, hw3⟩
    obtain rfl := hw3.symm
    go_wp2_with fail
    refine bodyPost_ret (v := .tuple #[.slice (some ⟨g1, 0, none⟩) n cap1, .agg (res0 1).cells]) (by simp [results, Tryd.results34, go_sem, q0, q1, q2, q3, q4, res0, W4.zero]) rfl ?_
    exact ⟨(((((HB1.out.setCell (p := ⟨w.heap.size + 1, 0, none⟩) (by show w.heap.size ≤ w.heap.size + 1; omega) _).setCell (p := ⟨w.heap.size + 1, 1, none⟩) (by show w.heap.size ≤ w.heap.size + 1; omega) _).setCell (p := ⟨w.heap.size + 1, 2, none⟩) (by show w.heap.size ≤ w.heap.size + 1; omega) _).setCell (p := ⟨w.heap.size + 1, 3, none⟩) (by show w.heap.size ≤ w.heap.size + 1; omega) _).setCell (p := ⟨w.heap.size + 1, 4, none⟩) (by show w.heap.size ≤ w.heap.size + 1; omega) _), g1, cap1, rfl, state_kept HALL.out.1 HALL.out.2 ((((((Keeps.refl (fun j => j = w.heap.size + 1) w1).setCell (p := ⟨w.heap.size + 1, 0, none⟩) (.inl rfl) _).setCell (p := ⟨w.heap.size + 1, 1, none⟩) (.inl rfl) _).setCell (p := ⟨w.heap.size + 1, 2, none⟩) (.inl rfl) _).setCell (p := ⟨w.heap.size + 1, 3, none⟩) (.inl rfl) _).setCell (p := ⟨w.heap.size + 1, 4, none⟩) (.inl rfl) _) (by omega) hne5⟩
  · rw [hk1] at HK
    go_enter Tryd.func34, Tryd.ntmps34
    go_wp2_with fail
    refine HCL.out.mono ?_
    rintro e1 w1 ⟨b1, g1, cap1, cur, rfl, hg1, hcur, hsz, hall⟩
    have hg2 : w.heap.size + 2 ≤ g1 := by simpa using hg1
    have hg3 := lt_of hcur
    have HB1 := Lib.hid (HB0.out.trans (b1.mono HB0.out.size))
    have HS1 := Lib.hid (HS0.out.none (Keeps.ofBelow b1))
    have HALL := Lib.hid (And.intro (show ∀ k y, L[k]? = some y → ∃ a c, ItemW w1 g1 (k * 15) cur y a c ∧ (0 < y.row.length → ∀ b off, a = some ⟨b, off, none⟩ → b < w.heap.size) from fun k y hy => by obtain ⟨a, c, h1, h2⟩ := hall k y hy; exact ⟨a, c, h1, fun hp b off e => state_bound HST.out HB0.out hy h2 hp e⟩) hcur)
    have hr1 : w1.heap[w.heap.size + 1]? = some (.cells #[.int .i64 0, .int .u32 0, .int .u32 0, .int .u32 0, .int .u32 0] 45 (0, 0)) := HS1.out.at 0 rfl
    have hc1 : w1.heap[w.heap.size]? = some (.cells #[.int .i64 k, .int .i64 obj, .int .u32 v.a, .int .u32 v.b, .int .u32 v.c, .int .u32 v.d, .int .u32 N] 43 (0, 0)) := HS1.out.at 1 rfl
    have hne5 : w.heap.size + 1 ≠ g1 := by omega
    have k0 := cell_of hc1 0
    have k1 := cell_of hc1 1
    have k2 := cell_of hc1 2
    have k3 := cell_of hc1 3
    have k4 := cell_of hc1 4
    have k5 := cell_of hc1 5
    have k6 := cell_of hc1 6
    have q0 := cell_of hr1 0
    have q1 := cell_of hr1 1
    have q2 := cell_of hr1 2
    have q3 := cell_of hr1 3
    have q4 := cell_of hr1 4
    have fq0 := free_of hr1 0
    have fq1 := free_of hr1 1
    have fq2 := free_of hr1 2
    have fq3 := free_of hr1 3
    have fq4 := free_of hr1 4
    simp only [List.getElem?_toArray, List.getElem?_cons_zero, List.getElem?_cons_succ] at q0 q1 q2 q3 q4 k0 k1 k2 k3 k4 k5 k6
    clear b1 hg1 hall hr1 hc1 HCL HB0 HS0 hcur
    go_wp2_with fail
    refine (HP.out _).mono ?_
    rintro e2 w2 ⟨rfl, hw2⟩
    obtain rfl := hw2.symm
    go_wp2_with fail
    refine (HK.out _).mono ?_
    rintro e3 w3 ⟨rfl, hw3⟩
    obtain rfl := hw3.symm
    by_cases h0 : obj < 0
    · have d0 : decide (obj < 0) = true := decide_eq_true h0
      go_wp2_with fail
      refine bodyPost_ret (v := .tuple #[.slice (some ⟨g1, 0, none⟩) n cap1, .agg (res0 4).cells]) (by simp [results, Tryd.results34, go_sem, q0, q1, q2, q3, q4, res0, W4.zero]) rfl ?_
      exact ⟨(((((HB1.out.setCell (p := ⟨w.heap.size + 1, 0, none⟩) (by show w.heap.size ≤ w.heap.size + 1; omega) _).setCell (p := ⟨w.heap.size + 1, 1, none⟩) (by show w.heap.size ≤ w.heap.size + 1; omega) _).setCell (p := ⟨w.heap.size + 1, 2, none⟩) (by show w.heap.size ≤ w.heap.size + 1; omega) _).setCell (p := ⟨w.heap.size + 1, 3, none⟩) (by show w.heap.size ≤ w.heap.size + 1; omega) _).setCell (p := ⟨w.heap.size + 1, 4, none⟩) (by show w.heap.size ≤ w.heap.size + 1; omega) _), g1, cap1, rfl, state_kept HALL.out.1 HALL.out.2 ((((((Keeps.refl (fun j => j = w.heap.size + 1) w1).setCell (p := ⟨w.heap.size + 1, 0, none⟩) (.inl rfl) _).setCell (p := ⟨w.heap.size + 1, 1, none⟩) (.inl rfl) _).setCell (p := ⟨w.heap.size + 1, 2, none⟩) (.inl rfl) _).setCell (p := ⟨w.heap.size + 1, 3, none⟩) (.inl rfl) _).setCell (p := ⟨w.heap.size + 1, 4, none⟩) (.inl rfl) _) (by omega) hne5⟩
    · have d0 : decide (obj < 0) = false := decide_eq_false h0
      have d1 : decide ((n : Int) ≤ obj) = true := decide_eq_true (by omega)
      go_wp2_with fail
      refine bodyPost_ret (v := .tuple #[.slice (some ⟨g1, 0, none⟩) n cap1, .agg (res0 4).cells]) (by simp [results, Tryd.results34, go_sem, q0, q1, q2, q3, q4, res0, W4.zero]) rfl ?_
      exact ⟨(((((HB1.out.setCell (p := ⟨w.heap.size + 1, 0, none⟩) (by show w.heap.size ≤ w.heap.size + 1; omega) _).setCell (p := ⟨w.heap.size + 1, 1, none⟩) (by show w.heap.size ≤ w.heap.size + 1; omega) _).setCell (p := ⟨w.heap.size + 1, 2, none⟩) (by show w.heap.size ≤ w.heap.size + 1; omega) _).setCell (p := ⟨w.heap.size + 1, 3, none⟩) (by show w.heap.size ≤ w.heap.size + 1; omega) _).setCell (p := ⟨w.heap.size + 1, 4, none⟩) (by show w.heap.size ≤ w.heap.size + 1; omega) _), g1, cap1, rfl, state_kept HALL.out.1 HALL.out.2 ((((((Keeps.refl (fun j => j = w.heap.size + 1) w1).setCell (p := ⟨w.heap.size + 1, 0, none⟩) (.inl rfl) _).setCell (p := ⟨w.heap.size + 1, 1, none⟩) (.inl rfl) _).setCell (p := ⟨w.heap.size + 1, 2, none⟩) (.inl rfl) _).setCell (p := ⟨w.heap.size + 1, 3, none⟩) (.inl rfl) _).setCell (p := ⟨w.heap.size + 1, 4, none⟩) (.inl rfl) _) (by omega) hne5⟩
end Go.Proofs.YtohajfkekkelhaaDoor
