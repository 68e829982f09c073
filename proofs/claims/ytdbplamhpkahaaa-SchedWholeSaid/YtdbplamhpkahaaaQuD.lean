import Derived.Test.YtdbplamhpkahaaaQuR
namespace Go.Proofs.Ytdbplamhpkahaaa
open Go.ChangeShapes Go.WideShapes Go.ChangeAt Go.RowKit
set_option linter.unusedVariables false
def av (t k o : Int) (m : Nat) : Value := .agg #[.int .i64 t, .int .i64 k, .int .i64 o, .int .u32 (m : Int)]
set_option maxRecDepth 20000 in
theorem Add_nil (t k o : Int) (m : Nat) (w : World) :
    Calls Try.prog 31 #[.pointer none, av t k o m] w fun e W' => e = .returned (.bool false) ∧ Below w.heap.size w W' := by
  unfold av
  go_enter Try.func31, Try.ntmps31
  go_wp2
  go_ret
  exact ⟨rfl, (Below.refl _ _).alloc (Nat.le_refl _) _⟩
set_option maxRecDepth 20000 in
theorem Add_bad (Q : Nat) (t k o : Int) (m : Nat) (w : World) (ht : t < 0 ∨ 16 ≤ t) :
    Calls Try.prog 31 #[.pointer (some ⟨Q, 0, none⟩), av t k o m] w fun e W' => e = .returned (.bool false) ∧ Below w.heap.size w W' := by
  unfold av
  by_cases h0 : t < 0
  · have d0 : decide (t < 0) = true := decide_eq_true h0
    clear ht
    go_enter Try.func31, Try.ntmps31
    go_wp2
    go_ret
    exact ⟨rfl, (Below.refl _ _).alloc (Nat.le_refl _) _⟩
  · have d0 : decide (t < 0) = false := decide_eq_false h0
    have d1 : decide (16 ≤ t) = true := decide_eq_true (by omega)
    have d2 : decide (t ≥ 16) = true := decide_eq_true (by omega)
    clear ht
    go_enter Try.func31, Try.ntmps31
    go_wp2
    go_ret
    exact ⟨rfl, (Below.refl _ _).alloc (Nat.le_refl _) _⟩
set_option maxRecDepth 20000 in
theorem Add_twice (Q : Nat) (L : List QN) (h : Bool) (t k o : Int) (m : Nat) (w : World) (hQ : IsQ w Q L h) (ht : 0 ≤ t ∧ t < 16) (y : QN) (hf : fnd L t = some y) :
    Calls Try.prog 31 #[.pointer (some ⟨Q, 0, none⟩), av t k o m] w fun e W' => e = .returned (.bool false) ∧ Below w.heap.size w W' := by
  unfold av
  obtain ⟨w1, hw1⟩ : ∃ w1, w.alloc (.cells #[.int .i64 t, .int .i64 k, .int .i64 o, .int .u32 (m : Int)] 56) = w1 := ⟨_, rfl⟩
  have hz : w1.heap.size = w.heap.size + 1 := by rw [← hw1]; simp
  have hb1 : Below w.heap.size w w1 := by rw [← hw1]; exact (Below.refl _ _).alloc (Nat.le_refl _) _
  have HW := Lib.hid (And.intro hz hb1)
  have hn1 : w1.heap[w.heap.size]? = some (.cells #[.int .i64 t, .int .i64 k, .int .i64 o, .int .u32 (m : Int)] 56 (0, 0)) := by rw [← hw1]; exact heap_new _ _
  have c0 : w1.cell? ⟨w.heap.size, 0, none⟩ = some (.int .i64 t) := cell_of hn1 0
  have l1 := lt_of hn1
  have d0 : decide (t < 0) = false := decide_eq_false (by omega)
  have d1 : decide (16 ≤ t) = false := decide_eq_false (by omega)
  have d2 : decide (t ≥ 16) = false := decide_eq_false (by omega)
  have hF := find_any (some ⟨Q, 0, none⟩) L t w1 (QP.below (.inr ⟨Q, h, rfl, hQ⟩) (Nat.le_refl _) hb1)
  rw [hf] at hF
  have HF := Lib.hid hF
  clear hQ hz hb1 hn1 hF hf ht
  go_enter Try.func31, Try.ntmps31
  go_wp2_with fail
  refine HF.out.mono ?_
  rintro e w2 ⟨rfl, k2⟩
  have HB := Lib.hid (HW.out.2.trans (k2.mono (by rw [HW.out.1]; omega)))
  clear k2
  simp only [ptrO, Option.map]
  go_wp2
  go_ret
  exact ⟨rfl, HB.out⟩
set_option maxRecDepth 20000 in
set_option maxHeartbeats 2000000 in
theorem Add_yes (Q : Nat) (L : List QN) (h : Bool) (t k o : Int) (m : Nat) (w : World) (hQ : IsQ w Q L h) (ht : 0 ≤ t ∧ t < 16) (hf : fnd L t = none) :
    Calls Try.prog 31 #[.pointer (some ⟨Q, 0, none⟩), av t k o m] w fun e W' => e = .returned (.bool true) ∧ ∃ g, w.heap.size ≤ g ∧ IsQ W' Q (L ++ [⟨g, t, k, o, m⟩]) true ∧ Keeps (RS Q L) w W' := by
  unfold av
  obtain ⟨w1, hw1⟩ : ∃ w1, w.alloc (.cells #[.int .i64 t, .int .i64 k, .int .i64 o, .int .u32 (m : Int)] 56) = w1 := ⟨_, rfl⟩
  have hz : w1.heap.size = w.heap.size + 1 := by rw [← hw1]; simp
  have hb1 : Below w.heap.size w w1 := by rw [← hw1]; exact (Below.refl _ _).alloc (Nat.le_refl _) _
  have HW := Lib.hid (And.intro hz hb1)
  have hn1 : w1.heap[w.heap.size]? = some (.cells #[.int .i64 t, .int .i64 k, .int .i64 o, .int .u32 (m : Int)] 56 (0, 0)) := by rw [← hw1]; exact heap_new _ _
  have HN := Lib.hid hn1
  have c0 : w1.cell? ⟨w.heap.size, 0, none⟩ = some (.int .i64 t) := cell_of hn1 0
  have l1 := lt_of hn1
  have d0 : decide (t < 0) = false := decide_eq_false (by omega)
  have d1 : decide (16 ≤ t) = false := decide_eq_false (by omega)
  have d2 : decide (t ≥ 16) = false := decide_eq_false (by omega)
  have hF := find_any (some ⟨Q, 0, none⟩) L t w1 (QP.below (.inr ⟨Q, h, rfl, hQ⟩) (Nat.le_refl _) hb1)
  rw [hf] at hF
  have HF := Lib.hid hF
  have HQ := Lib.hid hQ
  clear hQ hz hb1 hn1 hF hf ht
  go_enter Try.func31, Try.ntmps31
  go_wp2_with fail
  refine HF.out.mono ?_
  rintro e w2 ⟨rfl, k2⟩
  have hb2 := HW.out.2.trans (k2.mono (by rw [HW.out.1]; omega))
  have hn2 := at_below k2 HN.out (by rw [HW.out.1]; omega)
  have hI := HQ.out.below (Nat.le_refl _) hb2
  have q4 : w2.cell? ⟨Q, 4, none⟩ = some (.pointer (nx Q L h 1)) := cell_of hI.head 4
  have q5 : w2.cell? ⟨Q, 5, none⟩ = some (.pointer (nx Q L h L.length)) := cell_of hI.head 5
  have qf4 : w2.frozen? ⟨Q, 4, none⟩ = false := free_of hI.head 4
  have qf5 : w2.frozen? ⟨Q, 5, none⟩ = false := free_of hI.head 5
  have lQ := lt_of hI.head
  have x0 : w2.cell? ⟨w.heap.size, 0, none⟩ = some (.int .i64 t) := cell_of hn2 0
  have x1 : w2.cell? ⟨w.heap.size, 1, none⟩ = some (.int .i64 k) := cell_of hn2 1
  have x2 : w2.cell? ⟨w.heap.size, 2, none⟩ = some (.int .i64 o) := cell_of hn2 2
  have x3 : w2.cell? ⟨w.heap.size, 3, none⟩ = some (.int .u32 (m : Int)) := cell_of hn2 3
  have l2 := lt_of hn2
  have HH := Lib.hid (And.intro hb2 (And.intro hn2 hI))
  clear k2 hb2 hn2 hI c0 l1
  simp only [ptrO, Option.map]
  cases h with
  | false =>
    have hL0 : L = [] := HQ.out.ever rfl
    have HL0 := Lib.hid hL0
    clear hL0
    simp only [nx] at q4 q5
    go_wp2_with fail
    go_region
    all_goals
      obtain ⟨hb2, hn2, hI⟩ := HH.out
      obtain ⟨w3, hw3⟩ : ∃ w3, ((w2.setCell ⟨Q, 4, none⟩ (.pointer (some ⟨Q, 0, none⟩))).setCell ⟨Q, 5, none⟩ (.pointer (some ⟨Q, 0, none⟩))).drew = w3 := ⟨_, rfl⟩
      have hqs := q_first (by rw [HL0.out] at hI; exact hI)
      have hI3 : IsQ w3 Q L true := by rw [← hw3, HL0.out]; exact ⟨hqs.head, hqs.node, hqs.inj, hqs.ever⟩
      have hne : w.heap.size ≠ Q := by have := lt_of HQ.out.head; omega
      have hn3 : w3.heap[w.heap.size]? = some (.cells #[.int .i64 t, .int .i64 k, .int .i64 o, .int .u32 (m : Int)] 56 (0, 0)) := by rw [← hw3]; exact heap_other (heap_other hn2 hne _) hne _
      have hk3 : Keeps (RS Q L) w w3 := by
        rw [← hw3]
        exact ((((Keeps.refl (RS Q L) w).trans ⟨hb2.os, hb2.tape, hb2.output, hb2.size, fun k hk _ => hb2.block k hk⟩).setCell (p := ⟨Q, 4, none⟩) (.inl (.inl rfl)) _).setCell (p := ⟨Q, 5, none⟩) (.inl (.inl rfl)) _).drew
      rw [hw3]
      clear hw3 hqs hne hb2 hn2 hI q4 q5 qf4 qf5 x0 x1 x2 x3 HH l2
      have hxb3 : bk Q L L.length = bk Q L L.length := rfl
      obtain ⟨a0, a1, a2, a3, a4, a5, T, hP⟩ := bk_block hI3 L.length
      have hRP := bk_RS Q L L.length
      have HPU := Lib.hid (fun nd => q_push_at (W := (w3.alloc (.cells #[.int .i64 t, .int .i64 k, .int .i64 o, .int .u32 (m : Int), .pointer (some ⟨Q, 0, none⟩), .pointer (some ⟨bk Q L L.length, 0, none⟩)] 59)).drew) hI3 nd)
      have r5 : w3.cell? ⟨Q, 5, none⟩ = some (.pointer (some ⟨bk Q L L.length, 0, none⟩)) := cell_of hI3.head 5
      have lP := lt_of hP
      have hlw : w.heap.size ≤ w3.heap.size := hk3.size
      generalize bk Q L L.length = PP at *
      have lQ3 := lt_of hI3.head
      have z0 : w3.cell? ⟨w.heap.size, 0, none⟩ = some (.int .i64 t) := cell_of hn3 0
      have z1 : w3.cell? ⟨w.heap.size, 1, none⟩ = some (.int .i64 k) := cell_of hn3 1
      have z2 : w3.cell? ⟨w.heap.size, 2, none⟩ = some (.int .i64 o) := cell_of hn3 2
      have z3 : w3.cell? ⟨w.heap.size, 3, none⟩ = some (.int .u32 (m : Int)) := cell_of hn3 3
      have l3 := lt_of hn3
      have HC := Lib.hid (And.intro hI3 (And.intro hk3 (And.intro hP (And.intro hRP hlw))))
      clear hI3 hk3 hn3 hP hRP hlw hxb3
      go_wp2_with fail
      go_region
      all_goals
        obtain ⟨hI3, hk3, hP, hRP, hlw⟩ := HC.out
        obtain ⟨w4, hw4⟩ : ∃ w4, (w3.alloc (.cells #[.int .i64 t, .int .i64 k, .int .i64 o, .int .u32 (m : Int), .pointer (some ⟨Q, 0, none⟩), .pointer (some ⟨PP, 0, none⟩)] 59)).drew = w4 := ⟨_, rfl⟩
        have hP4 : w4.heap[PP]? = some (.cells #[a0, a1, a2, a3, a4, a5] T (0, 0)) := by rw [← hw4]; exact heap_old hP _
        have hQ4 := at_below (show Below w3.heap.size w3 w4 by rw [← hw4]; exact ((Below.refl _ _).alloc (Nat.le_refl _) _).drew) hI3.head (lt_of hI3.head)
        have hN4 : w4.heap[w3.heap.size]? = some (.cells #[.int .i64 t, .int .i64 k, .int .i64 o, .int .u32 (m : Int), .pointer (some ⟨Q, 0, none⟩), .pointer (some ⟨PP, 0, none⟩)] 59 (0, 0)) := by rw [← hw4]; exact heap_new _ _
        have hk4 : Keeps (RS Q L) w w4 := by rw [← hw4]; exact (hk3.alloc _).drew
        have hpush := HPU.out ⟨w3.heap.size, t, k, o, m⟩ (fun b x hx => heap_old hx _) rfl (heap_new _ _)
        rw [hw4] at hpush
        rw [hw4]
        have v4 : w4.cell? ⟨PP, 4, none⟩ = some a4 := cell_of hP4 4
        have vf4 : w4.frozen? ⟨PP, 4, none⟩ = false := free_of hP4 4
        have lP4 := lt_of hP4
        have v5 : w4.cell? ⟨Q, 5, none⟩ = some (.pointer (some ⟨PP, 0, none⟩)) := by rw [cell_of hQ4 5]; have := cell_of hI3.head 5; rw [r5] at this; exact this.symm
        have vf5 : w4.frozen? ⟨Q, 5, none⟩ = false := free_of hQ4 5
        have lQ4 := lt_of hQ4
        have HE := Lib.hid (And.intro hpush (And.intro hk4 (And.intro hRP hlw)))
        clear hw4 hP4 hQ4 hN4 hk4 hpush hI3 hk3 hP hRP hlw HPU r5
        go_wp2
        obtain ⟨hpush, hk4, hRP, hlw⟩ := HE.out
        go_ret
        exact ⟨rfl, _, hlw, hpush, (hk4.setCell (p := ⟨PP, 4, none⟩) (.inl hRP) _).setCell (p := ⟨Q, 5, none⟩) (.inl (.inl rfl)) _⟩
  | true =>
    simp only [nx, if_true] at q4 q5
    have hI3 := HH.out.2.2
    have hn3 := HH.out.2.1
    have hb2 := HH.out.1
    have hk3 : Keeps (RS Q L) w w2 := (Keeps.refl (RS Q L) w).trans ⟨hb2.os, hb2.tape, hb2.output, hb2.size, fun k hk _ => hb2.block k hk⟩
    go_wp2_with fail
    clear q4 q5 x0 x1 x2 x3 HH l2 hb2
    have hxb3 : bk Q L L.length = bk Q L L.length := rfl
    obtain ⟨a0, a1, a2, a3, a4, a5, T, hP⟩ := bk_block hI3 L.length
    have hRP := bk_RS Q L L.length
    have HPU := Lib.hid (fun nd => q_push_at (W := (w2.alloc (.cells #[.int .i64 t, .int .i64 k, .int .i64 o, .int .u32 (m : Int), .pointer (some ⟨Q, 0, none⟩), .pointer (some ⟨bk Q L L.length, 0, none⟩)] 59)).drew) hI3 nd)
    have r5 : w2.cell? ⟨Q, 5, none⟩ = some (.pointer (some ⟨bk Q L L.length, 0, none⟩)) := cell_of hI3.head 5
    have lP := lt_of hP
    have hlw : w.heap.size ≤ w2.heap.size := hk3.size
    generalize bk Q L L.length = PP at *
    have lQ3 := lt_of hI3.head
    have z0 : w2.cell? ⟨w.heap.size, 0, none⟩ = some (.int .i64 t) := cell_of hn3 0
    have z1 : w2.cell? ⟨w.heap.size, 1, none⟩ = some (.int .i64 k) := cell_of hn3 1
    have z2 : w2.cell? ⟨w.heap.size, 2, none⟩ = some (.int .i64 o) := cell_of hn3 2
    have z3 : w2.cell? ⟨w.heap.size, 3, none⟩ = some (.int .u32 (m : Int)) := cell_of hn3 3
    have l3 := lt_of hn3
    have HC := Lib.hid (And.intro hI3 (And.intro hk3 (And.intro hP (And.intro hRP hlw))))
    clear hI3 hk3 hn3 hP hRP hlw hxb3
    go_region
    all_goals
      obtain ⟨hI3, hk3, hP, hRP, hlw⟩ := HC.out
      obtain ⟨w4, hw4⟩ : ∃ w4, (w2.alloc (.cells #[.int .i64 t, .int .i64 k, .int .i64 o, .int .u32 (m : Int), .pointer (some ⟨Q, 0, none⟩), .pointer (some ⟨PP, 0, none⟩)] 59)).drew = w4 := ⟨_, rfl⟩
      have hP4 : w4.heap[PP]? = some (.cells #[a0, a1, a2, a3, a4, a5] T (0, 0)) := by rw [← hw4]; exact heap_old hP _
      have hQ4 := at_below (show Below w2.heap.size w2 w4 by rw [← hw4]; exact ((Below.refl _ _).alloc (Nat.le_refl _) _).drew) hI3.head (lt_of hI3.head)
      have hN4 : w4.heap[w2.heap.size]? = some (.cells #[.int .i64 t, .int .i64 k, .int .i64 o, .int .u32 (m : Int), .pointer (some ⟨Q, 0, none⟩), .pointer (some ⟨PP, 0, none⟩)] 59 (0, 0)) := by rw [← hw4]; exact heap_new _ _
      have hk4 : Keeps (RS Q L) w w4 := by rw [← hw4]; exact (hk3.alloc _).drew
      have hpush := HPU.out ⟨w2.heap.size, t, k, o, m⟩ (fun b x hx => heap_old hx _) rfl (heap_new _ _)
      rw [hw4] at hpush
      rw [hw4]
      have v4 : w4.cell? ⟨PP, 4, none⟩ = some a4 := cell_of hP4 4
      have vf4 : w4.frozen? ⟨PP, 4, none⟩ = false := free_of hP4 4
      have lP4 := lt_of hP4
      have v5 : w4.cell? ⟨Q, 5, none⟩ = some (.pointer (some ⟨PP, 0, none⟩)) := by rw [cell_of hQ4 5]; have := cell_of hI3.head 5; rw [r5] at this; exact this.symm
      have vf5 : w4.frozen? ⟨Q, 5, none⟩ = false := free_of hQ4 5
      have lQ4 := lt_of hQ4
      have HE := Lib.hid (And.intro hpush (And.intro hk4 (And.intro hRP hlw)))
      clear hw4 hP4 hQ4 hN4 hk4 hpush hI3 hk3 hP hRP hlw HPU r5
      go_wp2
      obtain ⟨hpush, hk4, hRP, hlw⟩ := HE.out
      go_ret
      exact ⟨rfl, _, hlw, hpush, (hk4.setCell (p := ⟨PP, 4, none⟩) (.inl hRP) _).setCell (p := ⟨Q, 5, none⟩) (.inl (.inl rfl)) _⟩
end Go.Proofs.Ytdbplamhpkahaaa
