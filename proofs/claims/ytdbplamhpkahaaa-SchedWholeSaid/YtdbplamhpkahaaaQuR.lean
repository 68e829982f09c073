import Derived.Test.YtdbplamhpkahaaaQuA
namespace Go.Proofs.Ytdbplamhpkahaaa
open Go.ChangeShapes Go.WideShapes Go.ChangeAt Go.RowKit
set_option linter.unusedVariables false
theorem fnd_split {L : List QN} {t : Int} {x : QN} (h : fnd L t = some x) : ∃ A B, L = A ++ x :: B ∧ x.t = t ∧ ∀ y, y ∈ A → y.t ≠ t := by
  obtain ⟨h1, A, B, h2, h3⟩ := List.find?_eq_some_iff_append.1 h
  exact ⟨A, B, h2, by simpa using h1, fun y hy => by simpa using h3 y hy⟩
theorem fnd_of_split {A B : List QN} {t : Int} {x : QN} (h1 : x.t = t) (h2 : ∀ y, y ∈ A → y.t ≠ t) : fnd (A ++ x :: B) t = some x := by
  rw [fnd, List.find?_append]
  have : A.find? (fun x => x.t == t) = none := by
    rw [List.find?_eq_none]
    intro y hy
    simpa using h2 y hy
  rw [this]
  simp [h1]
set_option maxRecDepth 20000 in
theorem Remove_no (p : Option Addr) (L : List QN) (task : Int) (w : World) (hQ : QP w p L) (hf : fnd L task = none) :
    Calls Try.prog 33 #[.pointer p, .int .i64 task] w fun e W' => e = .returned (.tuple #[zv, .bool false]) ∧ Below w.heap.size w W' := by
  obtain ⟨w1, hw1⟩ : ∃ w1, w.alloc (.cells #[.int .i64 0, .int .i64 0, .int .i64 0, .int .u32 0] 56) = w1 := ⟨_, rfl⟩
  have hz : w1.heap.size = w.heap.size + 1 := by rw [← hw1]; simp
  have hb1 : Below w.heap.size w w1 := by rw [← hw1]; exact (Below.refl _ _).alloc (Nat.le_refl _) _
  have HW := Lib.hid (And.intro hz hb1)
  have hn1 : w1.heap[w.heap.size]? = some (.cells #[.int .i64 0, .int .i64 0, .int .i64 0, .int .u32 0] 56 (0, 0)) := by rw [← hw1]; exact heap_new _ _
  have HN := Lib.hid hn1
  have hF := find_any p L task w1 (hQ.below (Nat.le_refl _) hb1)
  rw [hf] at hF
  have HF := Lib.hid hF
  clear hQ hz hb1 hn1 hF hf
  go_enter Try.func33, Try.ntmps33
  go_wp2_with fail
  refine HF.out.mono ?_
  rintro e w2 ⟨rfl, k2⟩
  have hb2 := HW.out.2.trans (k2.mono (by rw [HW.out.1]; omega))
  have hn2 := at_below k2 HN.out (by rw [HW.out.1]; omega)
  have c0 : w2.cell? ⟨w.heap.size, 0, none⟩ = some (.int .i64 0) := cell_of hn2 0
  have c1 : w2.cell? ⟨w.heap.size, 1, none⟩ = some (.int .i64 0) := cell_of hn2 1
  have c2 : w2.cell? ⟨w.heap.size, 2, none⟩ = some (.int .i64 0) := cell_of hn2 2
  have c3 : w2.cell? ⟨w.heap.size, 3, none⟩ = some (.int .u32 0) := cell_of hn2 3
  have f0 : w2.frozen? ⟨w.heap.size, 0, none⟩ = false := free_of hn2 0
  have f1 : w2.frozen? ⟨w.heap.size, 1, none⟩ = false := free_of hn2 1
  have f2 : w2.frozen? ⟨w.heap.size, 2, none⟩ = false := free_of hn2 2
  have f3 : w2.frozen? ⟨w.heap.size, 3, none⟩ = false := free_of hn2 3
  have l2 := lt_of hn2
  have HH := Lib.hid (And.intro hb2 hn2)
  clear k2 hb2 hn2
  simp only [ptrO, Option.map]
  go_wp2
  have h4 := set4 HH.out.2 (.int .i64 0) (.int .i64 0) (.int .i64 0) (.int .u32 0)
  have y0 := cell_of h4 0
  have y1 := cell_of h4 1
  have y2 := cell_of h4 2
  have y3 := cell_of h4 3
  refine bodyPost_ret (v := .tuple #[zv, .bool false]) ?_ rfl ⟨rfl, below4 HH.out.1 (Nat.le_refl _) _ _ _ _⟩
  simp [results, Try.results33, go_sem, y0, y1, y2, y3, zv]
/-- What a store into the ring leaves. -/
def RS (Q : Nat) (L : List QN) (k : Nat) : Prop := k = Q ∨ ∃ y, y ∈ L ∧ k = y.g
theorem bk_RS (Q : Nat) (L : List QN) (i : Nat) : RS Q L (bk Q L i) := by
  rcases bk_cases Q L i with h | ⟨j, x, _, hj, h⟩
  · exact .inl h
  · exact .inr ⟨x, List.mem_of_getElem? hj, h⟩
/-- A block of the ring, whatever it is: six cells. -/
theorem bk_block {w : World} {Q : Nat} {L : List QN} {h : Bool} (hq : IsQ w Q L h) (i : Nat) : ∃ a0 a1 a2 a3 a4 a5 T, w.heap[bk Q L i]? = some (.cells #[a0, a1, a2, a3, a4, a5] T (0, 0)) := by
  rcases bk_cases Q L i with h | ⟨j, x, _, hj, h⟩
  · exact ⟨_, _, _, _, _, _, _, by rw [h]; exact hq.head⟩
  · exact ⟨_, _, _, _, _, _, _, by rw [h]; exact hq.node j x hj⟩
set_option maxRecDepth 20000 in
set_option maxHeartbeats 2000000 in
theorem Remove_yes (Q : Nat) (A B : List QN) (x : QN) (h : Bool) (task : Int) (w : World) (hQ : IsQ w Q (A ++ x :: B) h) (hx : x.t = task) (hA : ∀ y, y ∈ A → y.t ≠ task) :
    Calls Try.prog 33 #[.pointer (some ⟨Q, 0, none⟩), .int .i64 task] w fun e W' => e = .returned (.tuple #[qv x, .bool true]) ∧ IsQ W' Q (A ++ B) true ∧ Keeps (RS Q (A ++ x :: B)) w W' := by
  obtain ⟨w1, hw1⟩ : ∃ w1, w.alloc (.cells #[.int .i64 0, .int .i64 0, .int .i64 0, .int .u32 0] 56) = w1 := ⟨_, rfl⟩
  have hz : w1.heap.size = w.heap.size + 1 := by rw [← hw1]; simp
  have hb1 : Below w.heap.size w w1 := by rw [← hw1]; exact (Below.refl _ _).alloc (Nat.le_refl _) _
  have HW := Lib.hid (And.intro hz hb1)
  have hn1 : w1.heap[w.heap.size]? = some (.cells #[.int .i64 0, .int .i64 0, .int .i64 0, .int .u32 0] 56 (0, 0)) := by rw [← hw1]; exact heap_new _ _
  have HN := Lib.hid hn1
  have hF := find_any (some ⟨Q, 0, none⟩) (A ++ x :: B) task w1 (QP.below (.inr ⟨Q, h, rfl, hQ⟩) (Nat.le_refl _) hb1)
  rw [fnd_of_split hx hA] at hF
  have HF := Lib.hid hF
  have HQ := Lib.hid hQ
  clear hQ hz hb1 hn1 hF hx hA
  go_enter Try.func33, Try.ntmps33
  go_wp2_with fail
  refine HF.out.mono ?_
  rintro e w2 ⟨rfl, k2⟩
  have hb2 := HW.out.2.trans (k2.mono (by rw [HW.out.1]; omega))
  have hn2 := at_below k2 HN.out (by rw [HW.out.1]; omega)
  have hI := HQ.out.below (Nat.le_refl _) hb2
  have hxi : (A ++ x :: B)[A.length]? = some x := by simp
  have hnd := hI.node A.length x hxi
  have e4 : w2.cell? ⟨x.g, 4, none⟩ = some (.pointer (some ⟨bk Q (A ++ x :: B) (A.length + 2), 0, none⟩)) := cell_of hnd 4
  have e5 : w2.cell? ⟨x.g, 5, none⟩ = some (.pointer (some ⟨bk Q (A ++ x :: B) A.length, 0, none⟩)) := cell_of hnd 5
  obtain ⟨a0, a1, a2, a3, a4, a5, T, hP⟩ := bk_block hI A.length
  obtain ⟨b0, b1, b2, b3, b4, b5, U, hN⟩ := bk_block hI (A.length + 2)
  have hxP : x.g ≠ bk Q (A ++ x :: B) A.length := node_blocks hI hxi (by omega)
  have hxN : x.g ≠ bk Q (A ++ x :: B) (A.length + 2) := node_blocks hI hxi (by omega)
  have hdrop := q_drop hI hxi
  rw [List.eraseIdx_append_of_length_le (Nat.le_refl _), Nat.sub_self, List.eraseIdx_cons_zero] at hdrop
  have hRP := bk_RS Q (A ++ x :: B) A.length
  have hRN := bk_RS Q (A ++ x :: B) (A.length + 2)
  generalize bk Q (A ++ x :: B) A.length = PP at *
  generalize bk Q (A ++ x :: B) (A.length + 2) = NN at *
  have p4 : w2.cell? ⟨PP, 4, none⟩ = some a4 := cell_of hP 4
  have pf : w2.frozen? ⟨PP, 4, none⟩ = false := free_of hP 4
  have n5 : w2.cell? ⟨NN, 5, none⟩ = some b5 := cell_of hN 5
  have nf : w2.frozen? ⟨NN, 5, none⟩ = false := free_of hN 5
  have lP := lt_of hP
  have lN := lt_of hN
  have lx := lt_of hnd
  have l2 := lt_of hn2
  have HH := Lib.hid (And.intro hb2 (And.intro hn2 (And.intro hnd (And.intro hdrop (And.intro hRP (And.intro hRN (And.intro hxP (And.intro hxN (And.intro hP hN)))))))))
  clear k2 hb2 hn2 hI hnd hdrop hRP hRN hP hN hxP hxN hxi
  simp only [ptrO, Option.map]
  go_wp2_with fail
  go_region
  obtain ⟨hb2, hn2, hnd, hdrop, hRP, hRN, hxP, hxN, hP, hN⟩ := HH.out
  have hne4 : w.heap.size ≠ PP := by intro e; rcases hRP with h1 | ⟨y, hy, h1⟩; (have := lt_of HQ.out.head; omega); (obtain ⟨i, hi⟩ := List.getElem?_of_mem hy; have := lt_of (HQ.out.node i y hi); omega)
  have hne5 : w.heap.size ≠ NN := by intro e; rcases hRN with h1 | ⟨y, hy, h1⟩; (have := lt_of HQ.out.head; omega); (obtain ⟨i, hi⟩ := List.getElem?_of_mem hy; have := lt_of (HQ.out.node i y hi); omega)
  obtain ⟨w3, hw3⟩ : ∃ w3, ((w2.setCell ⟨PP, 4, none⟩ (.pointer (some ⟨NN, 0, none⟩))).setCell ⟨NN, 5, none⟩ (.pointer (some ⟨PP, 0, none⟩))).drew = w3 := ⟨_, rfl⟩
  have hn3 : w3.heap[w.heap.size]? = some (.cells #[.int .i64 0, .int .i64 0, .int .i64 0, .int .u32 0] 56 (0, 0)) := by rw [← hw3]; exact heap_other (heap_other hn2 hne4 _) hne5 _
  have hx3 := heap_other (heap_other hnd (a := ⟨PP, 4, none⟩) hxP (.pointer (some ⟨NN, 0, none⟩))) (a := ⟨NN, 5, none⟩) hxN (.pointer (some ⟨PP, 0, none⟩))
  have hx3d := heap_drew hx3
  rw [hw3] at hx3d
  have hq3 : IsQ w3 Q (A ++ B) true := by rw [← hw3]; exact ⟨hdrop.head, hdrop.node, hdrop.inj, hdrop.ever⟩
  have k3 : Keeps (RS Q (A ++ x :: B)) w w3 := by
    rw [← hw3]
    exact ((((Keeps.refl (RS Q (A ++ x :: B)) w).trans ⟨hb2.os, hb2.tape, hb2.output, hb2.size, fun k hk _ => hb2.block k hk⟩).setCell (p := ⟨PP, 4, none⟩) (.inl hRP) _).setCell (p := ⟨NN, 5, none⟩) (.inl hRN) _).drew
  rw [hw3]
  have x0 : w3.cell? ⟨x.g, 0, none⟩ = some (.int .i64 x.t) := cell_of hx3d 0
  have x1 : w3.cell? ⟨x.g, 1, none⟩ = some (.int .i64 x.k) := cell_of hx3d 1
  have x2 : w3.cell? ⟨x.g, 2, none⟩ = some (.int .i64 x.o) := cell_of hx3d 2
  have x3 : w3.cell? ⟨x.g, 3, none⟩ = some (.int .u32 (x.m : Int)) := cell_of hx3d 3
  have xl := lt_of hx3d
  have c0 : w3.cell? ⟨w.heap.size, 0, none⟩ = some (.int .i64 0) := cell_of hn3 0
  have c1 : w3.cell? ⟨w.heap.size, 1, none⟩ = some (.int .i64 0) := cell_of hn3 1
  have c2 : w3.cell? ⟨w.heap.size, 2, none⟩ = some (.int .i64 0) := cell_of hn3 2
  have c3 : w3.cell? ⟨w.heap.size, 3, none⟩ = some (.int .u32 0) := cell_of hn3 3
  have f0 : w3.frozen? ⟨w.heap.size, 0, none⟩ = false := free_of hn3 0
  have f1 : w3.frozen? ⟨w.heap.size, 1, none⟩ = false := free_of hn3 1
  have f2 : w3.frozen? ⟨w.heap.size, 2, none⟩ = false := free_of hn3 2
  have f3 : w3.frozen? ⟨w.heap.size, 3, none⟩ = false := free_of hn3 3
  have l3 := lt_of hn3
  have HZ := Lib.hid (And.intro hq3 (And.intro k3 hn3))
  have HQl := lt_of HQ.out.head
  have hql : Q ≠ w.heap.size := by omega
  have hqn : ∀ (i : Nat) (y : QN), (A ++ B)[i]? = some y → y.g ≠ w.heap.size := by
    intro i y hy
    have : y ∈ A ++ x :: B := by
      have := List.mem_of_getElem? hy
      simp at this ⊢
      rcases this with h | h
      · exact .inl h
      · exact .inr (.inr h)
    obtain ⟨i, hi⟩ := List.getElem?_of_mem this
    have := lt_of (HQ.out.node i y hi)
    omega
  have HQ2 := Lib.hid (And.intro hql hqn)
  clear hw3 hn3 hx3 hx3d hq3 k3 hb2 hn2 hnd hdrop hRP hRN hxP hxN hP hN hne4 hne5 p4 pf n5 nf e4 e5 HH hql hqn
  go_wp2
  obtain ⟨hq3, k3, hn3⟩ := HZ.out
  have h4 := set4 hn3 (.int .i64 x.t) (.int .i64 x.k) (.int .i64 x.o) (.int .u32 (x.m : Int))
  have y0 := cell_of h4 0
  have y1 := cell_of h4 1
  have y2 := cell_of h4 2
  have y3 := cell_of h4 3
  refine bodyPost_ret (v := .tuple #[qv x, .bool true]) ?_ rfl ⟨rfl, ?_, ?_⟩
  · simp [results, Try.results33, go_sem, y0, y1, y2, y3, qv]
  · exact hq3.keeps (S := fun k => k = w.heap.size) (((((Keeps.refl (fun k => k = w.heap.size) w3).setCell (p := ⟨w.heap.size, 0, none⟩) (.inl rfl) _).setCell (p := ⟨w.heap.size, 1, none⟩) (.inl rfl) _).setCell (p := ⟨w.heap.size, 2, none⟩) (.inl rfl) _).setCell (p := ⟨w.heap.size, 3, none⟩) (.inl rfl) _) HQ2.out.1 HQ2.out.2
  · exact (((k3.setCell (p := ⟨w.heap.size, 0, none⟩) (.inr (Nat.le_refl _)) _).setCell (p := ⟨w.heap.size, 1, none⟩) (.inr (Nat.le_refl _)) _).setCell (p := ⟨w.heap.size, 2, none⟩) (.inr (Nat.le_refl _)) _).setCell (p := ⟨w.heap.size, 3, none⟩) (.inr (Nat.le_refl _)) _
end Go.Proofs.Ytdbplamhpkahaaa
