import Derived.Test.YthnmlklgbggmbaaGreatQuNq
import Derived.Deep.QuietTactic
import Derived.BigQuiet
import Derived.BigRegion
import Derived.Test.YthnmlklgbggmbaaGreatRowq
namespace Go.Proofs.YthnmlklgbggmbaaGreat
open Go.RowKit
set_option linter.unusedVariables false
theorem bk_app_lt {Q : Nat} {L : List QN} {nd : QN} {i : Nat} (h : i ≤ L.length) : bk Q (L ++ [nd]) i = bk Q L i := by
  cases i with
  | zero => rfl
  | succ i => simp only [bk]; rw [List.getElem?_append_left (by omega)]
theorem bk_app_eq {Q : Nat} {L : List QN} {nd : QN} : bk Q (L ++ [nd]) (L.length + 1) = nd.g := by simp [bk]
theorem bk_app_end {Q : Nat} {L : List QN} {nd : QN} : bk Q (L ++ [nd]) (L.length + 2) = Q := bk_end (by simp)
theorem q_first {w : World} {Q : Nat} (hq : IsQ w Q [] false) : IsQ ((w.setCell ⟨Q, 4, none⟩ (.pointer (some ⟨Q, 0, none⟩))).setCell ⟨Q, 5, none⟩ (.pointer (some ⟨Q, 0, none⟩))) Q [] true :=
  ⟨heap_set (heap_set hq.head 4 _) 5 _, fun i x hi => by simp at hi, fun i j a b hi => by simp at hi, fun h => by cases h⟩
theorem bk_cases (Q : Nat) (L : List QN) (i : Nat) : bk Q L i = Q ∨ ∃ j x, i = j + 1 ∧ L[j]? = some x ∧ bk Q L i = x.g := by
  cases i with
  | zero => exact .inl rfl
  | succ i =>
    cases h : L[i]? with
    | none => exact .inl (by simp [bk, h])
    | some x => exact .inr ⟨i, x, rfl, h, bk_some h⟩
theorem node_blocks {w : World} {Q : Nat} {L : List QN} {h : Bool} (hq : IsQ w Q L h) {i : Nat} {x : QN} (hi : L[i]? = some x) {j : Nat} (hj : j ≠ i + 1) : x.g ≠ bk Q L j := by
  intro e
  rcases bk_cases Q L j with h1 | ⟨k, y, rfl, hk, h1⟩
  · rw [h1] at e; exact hq.ne hi e
  · rw [h1] at e
    have := hq.inj i k x y hi hk e
    omega
theorem heap_set4 {w : World} {b : Nat} {a0 a1 a2 a3 a4 a5 : Value} {T : TypeId} (h : w.heap[b]? = some (.cells #[a0, a1, a2, a3, a4, a5] T (0, 0))) (v : Value) : (w.setCell ⟨b, 4, none⟩ v).heap[b]? = some (.cells #[a0, a1, a2, a3, v, a5] T (0, 0)) := heap_set h 4 v
theorem heap_set5 {w : World} {b : Nat} {a0 a1 a2 a3 a4 a5 : Value} {T : TypeId} (h : w.heap[b]? = some (.cells #[a0, a1, a2, a3, a4, a5] T (0, 0))) (v : Value) : (w.setCell ⟨b, 5, none⟩ v).heap[b]? = some (.cells #[a0, a1, a2, a3, a4, v] T (0, 0)) := heap_set h 5 v
theorem q_push_at {w W : World} {Q : Nat} {L : List QN} (hq : IsQ w Q L true) (nd : QN) (hold : ∀ (b : Nat) (x : Obj), w.heap[b]? = some x → W.heap[b]? = some x) (hg : w.heap.size = nd.g)
    (hnew : W.heap[nd.g]? = some (.cells #[.int .i64 nd.t, .int .i64 nd.k, .int .i64 nd.o, .int .u32 (nd.m : Int), .pointer (some ⟨Q, 0, none⟩), .pointer (some ⟨bk Q L L.length, 0, none⟩)] 160 (0, 0))) :
    IsQ ((W.setCell ⟨bk Q L L.length, 4, none⟩ (.pointer (some ⟨nd.g, 0, none⟩))).setCell ⟨Q, 5, none⟩ (.pointer (some ⟨nd.g, 0, none⟩))) Q (L ++ [nd]) true := by
  have hQl := lt_of hq.head
  have hnl : ∀ (i : Nat) (x : QN), L[i]? = some x → x.g < nd.g := fun i x hi => by rw [← hg]; exact lt_of (hq.node i x hi)
  have hh := hold _ _ hq.head
  have hlast : bk Q L L.length < nd.g := by
    rcases bk_cases Q L L.length with h | ⟨j, x, _, hj, h⟩
    · omega
    · rw [h]; exact hnl j x hj
  refine ⟨?_, ?_, ?_, fun h => by cases h⟩
  · have e1 : nx Q (L ++ [nd]) true (L ++ [nd]).length = some ⟨nd.g, 0, none⟩ := by
      simp only [List.length_append, List.length_cons, List.length_nil, nx, if_true]; rw [bk_app_eq]
    rw [e1]
    rcases Nat.eq_zero_or_pos L.length with h0 | hp
    · have hL : L = [] := List.length_eq_zero_iff.1 h0
      subst hL
      have := heap_set5 (heap_set4 hh (.pointer (some ⟨nd.g, 0, none⟩))) (.pointer (some ⟨nd.g, 0, none⟩))
      exact this
    · have e2 : nx Q (L ++ [nd]) true 1 = nx Q L true 1 := by simp only [nx, if_true]; rw [bk_app_lt (i := 1) (by omega)]
      rw [e2]
      obtain ⟨x, hx⟩ : ∃ x, L[L.length - 1]? = some x := ⟨_, List.getElem?_eq_getElem (by omega)⟩
      have hb : bk Q L L.length = x.g := by have := bk_some (Q := Q) hx; rwa [Nat.sub_add_cancel hp] at this
      have hne : Q ≠ bk Q L L.length := by rw [hb]; exact (hq.ne hx).symm
      exact heap_set5 (heap_other hh hne _) _
  · intro i x hi
    rcases Nat.lt_trichotomy i L.length with h1 | h1 | h1
    · rw [List.getElem?_append_left h1] at hi
      have hn := hold _ _ (hq.node i x hi)
      rw [bk_app_lt (i := i) (by omega)]
      rcases Nat.lt_or_ge (i + 1) L.length with h2 | h2
      · rw [bk_app_lt (i := i + 2) (by omega)]
        exact heap_other (heap_other hn (node_blocks hq hi (by omega)) _) (hq.ne hi) _
      · have e : i + 1 = L.length := by omega
        have hb : bk Q L L.length = x.g := by rw [← e]; exact bk_some hi
        have e3 : bk Q (L ++ [nd]) (i + 2) = nd.g := by
          have h9 := bk_app_eq (Q := Q) (L := L) (nd := nd)
          have h8 : i + 2 = L.length + 1 := by omega
          rw [h8]; exact h9
        rw [e3, hb]
        exact heap_other (heap_set4 hn _) (hq.ne hi) _
    · subst h1
      simp at hi
      subst hi
      rw [bk_app_end, bk_app_lt (Nat.le_refl _)]
      refine heap_other (heap_other hnew ?_ _) ?_ _
      · show nd.g ≠ bk Q L L.length
        omega
      · show nd.g ≠ Q
        omega
    · rw [List.getElem?_eq_none (by simp; omega)] at hi; cases hi
  · intro i j a b hi hj e
    have key : ∀ (i : Nat) (a : QN), (L ++ [nd])[i]? = some a → (i < L.length ∧ L[i]? = some a ∧ a.g < nd.g) ∨ (i = L.length ∧ a.g = nd.g) := by
      intro i a hi
      rcases Nat.lt_trichotomy i L.length with h1 | h1 | h1
      · rw [List.getElem?_append_left h1] at hi
        exact .inl ⟨h1, hi, hnl i a hi⟩
      · subst h1
        simp at hi
        subst hi
        exact .inr ⟨rfl, rfl⟩
      · rw [List.getElem?_eq_none (by simp; omega)] at hi; cases hi
    rcases key i a hi with ⟨_, h1, h2⟩ | ⟨h1, h2⟩ <;> rcases key j b hj with ⟨_, h3, h4⟩ | ⟨h3, h4⟩
    · exact hq.inj i j a b h1 h3 e
    · omega
    · omega
    · omega
end Go.Proofs.YthnmlklgbggmbaaGreat
namespace Go.Proofs.YthnmlklgbggmbaaGreat
open Go.ChangeShapes Go.WideShapes Go.ChangeAt Go.RowKit
set_option linter.unusedVariables false
def RS (Q : Nat) (L : List QN) (k : Nat) : Prop := k = Q ∨ ∃ y, y ∈ L ∧ k = y.g
theorem bk_RS (Q : Nat) (L : List QN) (i : Nat) : RS Q L (bk Q L i) := by
  rcases bk_cases Q L i with h | ⟨j, x, _, hj, h⟩
  · exact .inl h
  · exact .inr ⟨x, List.mem_of_getElem? hj, h⟩
theorem bk_block {w : World} {Q : Nat} {L : List QN} {h : Bool} (hq : IsQ w Q L h) (i : Nat) : ∃ a0 a1 a2 a3 a4 a5 T, w.heap[bk Q L i]? = some (.cells #[a0, a1, a2, a3, a4, a5] T (0, 0)) := by
  rcases bk_cases Q L i with h | ⟨j, x, _, hj, h⟩
  · exact ⟨_, _, _, _, _, _, _, by rw [h]; exact hq.head⟩
  · exact ⟨_, _, _, _, _, _, _, by rw [h]; exact hq.node j x hj⟩
end Go.Proofs.YthnmlklgbggmbaaGreat
namespace Go.Proofs.YthnmlklgbggmbaaGreat
open Go.ChangeShapes Go.WideShapes Go.ChangeAt Go.RowKit
set_option linter.unusedVariables false
def av (t k o : Int) (m : Nat) : Value := .agg #[.int .i64 t, .int .i64 k, .int .i64 o, .int .u32 (m : Int)]
set_option maxRecDepth 20000 in
theorem Add_twice (Q : Nat) (L : List QN) (h : Bool) (t k o : Int) (m : Nat) (w : World) (hQ : IsQ w Q L h) (ht : 0 ≤ t ∧ t < 16) (y : QN) (hf : fnd L t = some y) :
    Calls Tryz.prog 79 #[.pointer (some ⟨Q, 0, none⟩), av t k o m] w fun e W' => e = .returned (.bool false) ∧ Below w.heap.size w W' := by
  unfold av
  obtain ⟨w1, hw1⟩ : ∃ w1, w.alloc (.cells #[.int .i64 t, .int .i64 k, .int .i64 o, .int .u32 (m : Int)] 88) = w1 := ⟨_, rfl⟩
  have hz : w1.heap.size = w.heap.size + 1 := by rw [← hw1]; simp
  have hb1 : Below w.heap.size w w1 := by rw [← hw1]; exact (Below.refl _ _).alloc (Nat.le_refl _) _
  have HW := Lib.hid (And.intro hz hb1)
  have hn1 : w1.heap[w.heap.size]? = some (.cells #[.int .i64 t, .int .i64 k, .int .i64 o, .int .u32 (m : Int)] 88 (0, 0)) := by rw [← hw1]; exact heap_new _ _
  have c0 : w1.cell? ⟨w.heap.size, 0, none⟩ = some (.int .i64 t) := cell_of hn1 0
  have l1 := lt_of hn1
  have d0 : decide (t < 0) = false := decide_eq_false (by omega)
  have d1 : decide (16 ≤ t) = false := decide_eq_false (by omega)
  have d2 : decide (t ≥ 16) = false := decide_eq_false (by omega)
  have hF := find_any (some ⟨Q, 0, none⟩) L t w1 (QP.below (.inr ⟨Q, h, rfl, hQ⟩) (Nat.le_refl _) hb1)
  rw [hf] at hF
  have HF := Lib.hid hF
  clear hQ hz hb1 hn1 hF hf ht
  go_enter Tryz.func79, Tryz.ntmps79
  go_wp2_with fail
  refine HF.out.mono ?_
  rintro e w2 ⟨rfl, k2⟩
  have HB := Lib.hid (HW.out.2.trans (k2.mono (by rw [HW.out.1]; omega)))
  clear k2
  simp only [ptrO, Option.map]
  go_wp2
  go_ret
  exact ⟨rfl, HB.out⟩
set_option maxRecDepth 20000 in
set_option maxHeartbeats 2000000 in
theorem Add_yes (Q : Nat) (L : List QN) (h : Bool) (t k o : Int) (m : Nat) (w : World) (hQ : IsQ w Q L h) (ht : 0 ≤ t ∧ t < 16) (hf : fnd L t = none) :
    Calls Tryz.prog 79 #[.pointer (some ⟨Q, 0, none⟩), av t k o m] w fun e W' => e = .returned (.bool true) ∧ ∃ g, w.heap.size ≤ g ∧ IsQ W' Q (L ++ [⟨g, t, k, o, m⟩]) true ∧ Keeps (RS Q L) w W' := by
  unfold av
  obtain ⟨w1, hw1⟩ : ∃ w1, w.alloc (.cells #[.int .i64 t, .int .i64 k, .int .i64 o, .int .u32 (m : Int)] 88) = w1 := ⟨_, rfl⟩
  have hz : w1.heap.size = w.heap.size + 1 := by rw [← hw1]; simp
  have hb1 : Below w.heap.size w w1 := by rw [← hw1]; exact (Below.refl _ _).alloc (Nat.le_refl _) _
  have HW := Lib.hid (And.intro hz hb1)
  have hn1 : w1.heap[w.heap.size]? = some (.cells #[.int .i64 t, .int .i64 k, .int .i64 o, .int .u32 (m : Int)] 88 (0, 0)) := by rw [← hw1]; exact heap_new _ _
  have HN := Lib.hid hn1
  have c0 : w1.cell? ⟨w.heap.size, 0, none⟩ = some (.int .i64 t) := cell_of hn1 0
  have l1 := lt_of hn1
  have d0 : decide (t < 0) = false := decide_eq_false (by omega)
  have d1 : decide (16 ≤ t) = false := decide_eq_false (by omega)
  have d2 : decide (t ≥ 16) = false := decide_eq_false (by omega)
  have hF := find_any (some ⟨Q, 0, none⟩) L t w1 (QP.below (.inr ⟨Q, h, rfl, hQ⟩) (Nat.le_refl _) hb1)
  rw [hf] at hF
  have HF := Lib.hid hF
  have HQ := Lib.hid hQ
  clear hQ hz hb1 hn1 hF hf ht
  go_enter Tryz.func79, Tryz.ntmps79
  go_wp2_with fail
  refine HF.out.mono ?_
  rintro e w2 ⟨rfl, k2⟩
  have hb2 := HW.out.2.trans (k2.mono (by rw [HW.out.1]; omega))
  have hn2 := at_below k2 HN.out (by rw [HW.out.1]; omega)
  have hI := HQ.out.below (Nat.le_refl _) hb2
  have q4 : w2.cell? ⟨Q, 4, none⟩ = some (.pointer (nx Q L h 1)) := cell_of hI.head 4
  have q5 : w2.cell? ⟨Q, 5, none⟩ = some (.pointer (nx Q L h L.length)) := cell_of hI.head 5
  have qf4 : w2.frozen? ⟨Q, 4, none⟩ = false := free_of hI.head 4
  have qf5 : w2.frozen? ⟨Q, 5, none⟩ = false := free_of hI.head 5
  have lQ := lt_of hI.head
  have x0 : w2.cell? ⟨w.heap.size, 0, none⟩ = some (.int .i64 t) := cell_of hn2 0
  have x1 : w2.cell? ⟨w.heap.size, 1, none⟩ = some (.int .i64 k) := cell_of hn2 1
  have x2 : w2.cell? ⟨w.heap.size, 2, none⟩ = some (.int .i64 o) := cell_of hn2 2
  have x3 : w2.cell? ⟨w.heap.size, 3, none⟩ = some (.int .u32 (m : Int)) := cell_of hn2 3
  have l2 := lt_of hn2
  have HH := Lib.hid (And.intro hb2 (And.intro hn2 hI))
  clear k2 hb2 hn2 hI c0 l1
  simp only [ptrO, Option.map]
  cases h with
  | false =>
    have hL0 : L = [] := HQ.out.ever rfl
    have HL0 := Lib.hid hL0
    clear hL0
    simp only [nx] at q4 q5
    go_wp2_with fail
    go_region
    all_goals
      obtain ⟨hb2, hn2, hI⟩ := HH.out
      obtain ⟨w3, hw3⟩ : ∃ w3, ((w2.setCell ⟨Q, 4, none⟩ (.pointer (some ⟨Q, 0, none⟩))).setCell ⟨Q, 5, none⟩ (.pointer (some ⟨Q, 0, none⟩))).drew = w3 := ⟨_, rfl⟩
      have hqs := q_first (by rw [HL0.out] at hI; exact hI)
      have hI3 : IsQ w3 Q L true := by rw [← hw3, HL0.out]; exact ⟨hqs.head, hqs.node, hqs.inj, hqs.ever⟩
      have hne : w.heap.size ≠ Q := by have := lt_of HQ.out.head; omega
      have hn3 : w3.heap[w.heap.size]? = some (.cells #[.int .i64 t, .int .i64 k, .int .i64 o, .int .u32 (m : Int)] 88 (0, 0)) := by rw [← hw3]; exact heap_other (heap_other hn2 hne _) hne _
      have hk3 : Keeps (RS Q L) w w3 := by
        rw [← hw3]
        exact ((((Keeps.refl (RS Q L) w).trans ⟨hb2.os, hb2.tape, hb2.output, hb2.size, fun k hk _ => hb2.block k hk⟩).setCell (p := ⟨Q, 4, none⟩) (.inl (.inl rfl)) _).setCell (p := ⟨Q, 5, none⟩) (.inl (.inl rfl)) _).drew
      rw [hw3]
      clear hw3 hqs hne hb2 hn2 hI q4 q5 qf4 qf5 x0 x1 x2 x3 HH l2
      have hxb3 : bk Q L L.length = bk Q L L.length := rfl
      obtain ⟨a0, a1, a2, a3, a4, a5, T, hP⟩ := bk_block hI3 L.length
      have hRP := bk_RS Q L L.length
      have HPU := Lib.hid (fun nd => q_push_at (W := (w3.alloc (.cells #[.int .i64 t, .int .i64 k, .int .i64 o, .int .u32 (m : Int), .pointer (some ⟨Q, 0, none⟩), .pointer (some ⟨bk Q L L.length, 0, none⟩)] 160)).drew) hI3 nd)
      have r5 : w3.cell? ⟨Q, 5, none⟩ = some (.pointer (some ⟨bk Q L L.length, 0, none⟩)) := cell_of hI3.head 5
      have lP := lt_of hP
      have hlw : w.heap.size ≤ w3.heap.size := hk3.size
      generalize bk Q L L.length = PP at *
      have lQ3 := lt_of hI3.head
      have z0 : w3.cell? ⟨w.heap.size, 0, none⟩ = some (.int .i64 t) := cell_of hn3 0
      have z1 : w3.cell? ⟨w.heap.size, 1, none⟩ = some (.int .i64 k) := cell_of hn3 1
      have z2 : w3.cell? ⟨w.heap.size, 2, none⟩ = some (.int .i64 o) := cell_of hn3 2
      have z3 : w3.cell? ⟨w.heap.size, 3, none⟩ = some (.int .u32 (m : Int)) := cell_of hn3 3
      have l3 := lt_of hn3
      have HC := Lib.hid (And.intro hI3 (And.intro hk3 (And.intro hP (And.intro hRP hlw))))
      clear hI3 hk3 hn3 hP hRP hlw hxb3
      go_wp2_with fail
      go_region
      all_goals
        obtain ⟨hI3, hk3, hP, hRP, hlw⟩ := HC.out
        obtain ⟨w4, hw4⟩ : ∃ w4, (w3.alloc (.cells #[.int .i64 t, .int .i64 k, .int .i64 o, .int .u32 (m : Int), .pointer (some ⟨Q, 0, none⟩), .pointer (some ⟨PP, 0, none⟩)] 160)).drew = w4 := ⟨_, rfl⟩
        have hP4 : w4.heap[PP]? = some (.cells #[a0, a1, a2, a3, a4, a5] T (0, 0)) := by rw [← hw4]; exact heap_old hP _
        have hQ4 := at_below (show Below w3.heap.size w3 w4 by rw [← hw4]; exact ((Below.refl _ _).alloc (Nat.le_refl _) _).drew) hI3.head (lt_of hI3.head)
        have hN4 : w4.heap[w3.heap.size]? = some (.cells #[.int .i64 t, .int .i64 k, .int .i64 o, .int .u32 (m : Int), .pointer (some ⟨Q, 0, none⟩), .pointer (some ⟨PP, 0, none⟩)] 160 (0, 0)) := by rw [← hw4]; exact heap_new _ _
        have hk4 : Keeps (RS Q L) w w4 := by rw [← hw4]; exact (hk3.alloc _).drew
        have hpush := HPU.out ⟨w3.heap.size, t, k, o, m⟩ (fun b x hx => heap_old hx _) rfl (heap_new _ _)
        rw [hw4] at hpush
        rw [hw4]
        have v4 : w4.cell? ⟨PP, 4, none⟩ = some a4 := cell_of hP4 4
        have vf4 : w4.frozen? ⟨PP, 4, none⟩ = false := free_of hP4 4
        have lP4 := lt_of hP4
        have v5 : w4.cell? ⟨Q, 5, none⟩ = some (.pointer (some ⟨PP, 0, none⟩)) := by rw [cell_of hQ4 5]; have := cell_of hI3.head 5; rw [r5] at this; exact this.symm
        have vf5 : w4.frozen? ⟨Q, 5, none⟩ = false := free_of hQ4 5
        have lQ4 := lt_of hQ4
        have HE := Lib.hid (And.intro hpush (And.intro hk4 (And.intro hRP hlw)))
        clear hw4 hP4 hQ4 hN4 hk4 hpush hI3 hk3 hP hRP hlw HPU r5
        go_wp2
        obtain ⟨hpush, hk4, hRP, hlw⟩ := HE.out
        go_ret
        exact ⟨rfl, _, hlw, hpush, (hk4.setCell (p := ⟨PP, 4, none⟩) (.inl hRP) _).setCell (p := ⟨Q, 5, none⟩) (.inl (.inl rfl)) _⟩
  | true =>
    simp only [nx, if_true] at q4 q5
    have hI3 := HH.out.2.2
    have hn3 := HH.out.2.1
    have hb2 := HH.out.1
    have hk3 : Keeps (RS Q L) w w2 := (Keeps.refl (RS Q L) w).trans ⟨hb2.os, hb2.tape, hb2.output, hb2.size, fun k hk _ => hb2.block k hk⟩
    go_wp2_with fail
    clear q4 q5 x0 x1 x2 x3 HH l2 hb2
    have hxb3 : bk Q L L.length = bk Q L L.length := rfl
    obtain ⟨a0, a1, a2, a3, a4, a5, T, hP⟩ := bk_block hI3 L.length
    have hRP := bk_RS Q L L.length
    have HPU := Lib.hid (fun nd => q_push_at (W := (w2.alloc (.cells #[.int .i64 t, .int .i64 k, .int .i64 o, .int .u32 (m : Int), .pointer (some ⟨Q, 0, none⟩), .pointer (some ⟨bk Q L L.length, 0, none⟩)] 160)).drew) hI3 nd)
    have r5 : w2.cell? ⟨Q, 5, none⟩ = some (.pointer (some ⟨bk Q L L.length, 0, none⟩)) := cell_of hI3.head 5
    have lP := lt_of hP
    have hlw : w.heap.size ≤ w2.heap.size := hk3.size
    generalize bk Q L L.length = PP at *
    have lQ3 := lt_of hI3.head
    have z0 : w2.cell? ⟨w.heap.size, 0, none⟩ = some (.int .i64 t) := cell_of hn3 0
    have z1 : w2.cell? ⟨w.heap.size, 1, none⟩ = some (.int .i64 k) := cell_of hn3 1
    have z2 : w2.cell? ⟨w.heap.size, 2, none⟩ = some (.int .i64 o) := cell_of hn3 2
    have z3 : w2.cell? ⟨w.heap.size, 3, none⟩ = some (.int .u32 (m : Int)) := cell_of hn3 3
    have l3 := lt_of hn3
    have HC := Lib.hid (And.intro hI3 (And.intro hk3 (And.intro hP (And.intro hRP hlw))))
    clear hI3 hk3 hn3 hP hRP hlw hxb3
    go_region
    all_goals
      obtain ⟨hI3, hk3, hP, hRP, hlw⟩ := HC.out
      obtain ⟨w4, hw4⟩ : ∃ w4, (w2.alloc (.cells #[.int .i64 t, .int .i64 k, .int .i64 o, .int .u32 (m : Int), .pointer (some ⟨Q, 0, none⟩), .pointer (some ⟨PP, 0, none⟩)] 160)).drew = w4 := ⟨_, rfl⟩
      have hP4 : w4.heap[PP]? = some (.cells #[a0, a1, a2, a3, a4, a5] T (0, 0)) := by rw [← hw4]; exact heap_old hP _
      have hQ4 := at_below (show Below w2.heap.size w2 w4 by rw [← hw4]; exact ((Below.refl _ _).alloc (Nat.le_refl _) _).drew) hI3.head (lt_of hI3.head)
      have hN4 : w4.heap[w2.heap.size]? = some (.cells #[.int .i64 t, .int .i64 k, .int .i64 o, .int .u32 (m : Int), .pointer (some ⟨Q, 0, none⟩), .pointer (some ⟨PP, 0, none⟩)] 160 (0, 0)) := by rw [← hw4]; exact heap_new _ _
      have hk4 : Keeps (RS Q L) w w4 := by rw [← hw4]; exact (hk3.alloc _).drew
      have hpush := HPU.out ⟨w2.heap.size, t, k, o, m⟩ (fun b x hx => heap_old hx _) rfl (heap_new _ _)
      rw [hw4] at hpush
      rw [hw4]
      have v4 : w4.cell? ⟨PP, 4, none⟩ = some a4 := cell_of hP4 4
      have vf4 : w4.frozen? ⟨PP, 4, none⟩ = false := free_of hP4 4
      have lP4 := lt_of hP4
      have v5 : w4.cell? ⟨Q, 5, none⟩ = some (.pointer (some ⟨PP, 0, none⟩)) := by rw [cell_of hQ4 5]; have := cell_of hI3.head 5; rw [r5] at this; exact this.symm
      have vf5 : w4.frozen? ⟨Q, 5, none⟩ = false := free_of hQ4 5
      have lQ4 := lt_of hQ4
      have HE := Lib.hid (And.intro hpush (And.intro hk4 (And.intro hRP hlw)))
      clear hw4 hP4 hQ4 hN4 hk4 hpush hI3 hk3 hP hRP hlw HPU r5
      go_wp2
      obtain ⟨hpush, hk4, hRP, hlw⟩ := HE.out
      go_ret
      exact ⟨rfl, _, hlw, hpush, (hk4.setCell (p := ⟨PP, 4, none⟩) (.inl hRP) _).setCell (p := ⟨Q, 5, none⟩) (.inl (.inl rfl)) _⟩
end Go.Proofs.YthnmlklgbggmbaaGreat
namespace Go.Proofs.YthnmlklgbggmbaaGreat
open Go.RowKit Go.Shelf
set_option linter.unusedVariables false
attribute [local go_sem] Oper.semAt_some
def joinW (M : List (Int × Int × Int × Nat)) (v : Int × Int × Int × Nat) : List (Int × Int × Int × Nat) := if M.any (fun u => u.1 == v.1) then M else M ++ [v]
def joinAll (M : List (Int × Int × Int × Nat)) : List (Int × Int × Int × Nat) := M.foldl joinW []
theorem joinAll_snoc (M : List (Int × Int × Int × Nat)) (v : Int × Int × Int × Nat) : joinAll (M ++ [v]) = joinW (joinAll M) v := by simp [joinAll]
theorem fnd_isSome (M : List QN) (t : Int) : (fnd M t).isSome = (M.map QN.wait).any (fun u => u.1 == t) := by
  rw [Bool.eq_iff_iff, fnd, List.find?_isSome, List.any_map]
  simp [QN.wait]
structure CopyAt (w W : World) (C : Nat) (M : List (Int × Int × Int × Nat)) : Prop where
  ring : ∃ N h, IsQ W C N h ∧ N.map QN.wait = M ∧ ∀ x, x ∈ N → w.heap.size ≤ x.g
  low : w.heap.size ≤ C
theorem RS_cells {W : World} {Q : Nat} {L : List QN} {h : Bool} (hq : IsQ W Q L h) {k : Nat} (hk : RS Q L k) : ∃ cs, W.heap[k]? = some (.cells cs 162 (0, 0)) ∨ W.heap[k]? = some (.cells cs 160 (0, 0)) := by
  rcases hk with rfl | ⟨y, hy, rfl⟩
  · exact ⟨_, .inl hq.head⟩
  · obtain ⟨i, hi⟩ := List.getElem?_of_mem hy
    exact ⟨_, .inr (hq.node i y hi)⟩
theorem CopyAt.drew {w W : World} {C : Nat} {M : List (Int × Int × Int × Nat)} (h : CopyAt w W C M) : CopyAt w W.drew C M := by
  obtain ⟨⟨N, h, hq, hN, hlow⟩, hC⟩ := h
  exact ⟨⟨N, h, ⟨hq.head, hq.node, hq.inj, hq.ever⟩, hN, hlow⟩, hC⟩
theorem copyAt_own {β : Type} (w : World) (C : Nat) (f : β → List (Int × Int × Int × Nat)) : Own (fun s W => CopyAt w W C (f s)) := fun s X Y row hs hg hrow => by
  obtain ⟨⟨N, h, hq, hN, hlow⟩, hC⟩ := hs
  refine ⟨⟨N, h, ⟨?_, fun i x hi => ?_, hq.inj, hq.ever⟩, hN, hlow⟩, hC⟩
  · exact cells_own (β := Unit) _ _ _ () X Y row hq.head hg hrow
  · exact cells_own (β := Unit) _ _ _ () X Y row (hq.node i x hi) hg hrow
theorem copy_add (w W : World) (C : Nat) (M : List (Int × Int × Int × Nat)) (t k o : Int) (m : Nat) (h : CopyAt w W C M) (hb : Below w.heap.size w W) (ht : 0 ≤ t ∧ t < 16) :
    Calls Tryz.prog 79 #[.pointer (some ⟨C, 0, none⟩), av t k o m] W fun e W' => e = .returned (.bool (!(M.any (fun u => u.1 == t)))) ∧ CopyAt w W' C (joinW M (t, k, o, m)) ∧ Below w.heap.size W W' ∧ KeepsOthers W W' ∧ ∀ (B : Nat) (T : TypeId) (v : Value), T ≠ 162 → T ≠ 160 → Boxed W B T v → Boxed W' B T v := by
  obtain ⟨⟨N, h, hq, hN, hlow⟩, hC⟩ := h
  have hany := fnd_isSome N t
  rw [hN] at hany
  cases hf : fnd N t with
  | some y =>
    rw [hf] at hany
    refine (Add_twice C N h t k o m W hq ht y hf).mono ?_
    rintro e W' ⟨rfl, hk⟩
    refine ⟨by rw [← hany]; rfl, ⟨⟨N, h, hq.below (Nat.le_refl _) hk, ?_, hlow⟩, hC⟩, hk.mono hb.size, ⟨hk.size, fun j o hj _ => at_below hk hj (lt_of hj)⟩, fun B T v _ _ hv => at_below hk hv hv.lt⟩
    rw [hN, joinW, ← hany]; rfl
  | none =>
    rw [hf] at hany
    refine (Add_yes C N h t k o m W hq ht hf).mono ?_
    rintro e W' ⟨rfl, g, hg, hq', hk⟩
    refine ⟨by rw [← hany]; rfl, ⟨⟨_, true, hq', ?_, ?_⟩, hC⟩, ?_, ⟨hk.size, fun j o hj ho => ?_⟩, fun B T v h1 h2 hv => ?_⟩
    · rw [List.map_append, hN, joinW, ← hany]; rfl
    · intro x hx
      rcases List.mem_append.1 hx with h1 | h1
      · exact hlow x h1
      · simp at h1; subst h1; exact Nat.le_trans hb.size hg
    · refine hk.below hb.size fun j hj hs => ?_
      rcases hs with rfl | ⟨y, hy, rfl⟩
      · exact hC
      · exact hlow y hy
    · refine hk.at hj fun hs => ?_
      obtain ⟨cs, h1 | h1⟩ := RS_cells hq hs
      · rw [hj] at h1; cases h1; cases ho
      · rw [hj] at h1; cases h1; cases ho
    · refine hk.at hv fun hs => ?_
      obtain ⟨cs, h3 | h3⟩ := RS_cells hq hs
      · rw [show W.heap[B]? = _ from hv] at h3; injection h3 with h3; injection h3 with _ h3 _; exact h1 h3
      · rw [show W.heap[B]? = _ from hv] at h3; injection h3 with h3; injection h3 with _ h3 _; exact h2 h3
set_option maxRecDepth 100000 in
set_option maxHeartbeats 2000000 in
theorem Copy_any (Q : Nat) (L : List QN) (h : Bool) (w : World) (hq : IsQ w Q L h) (hr : ∀ x, x ∈ L → 0 ≤ x.t ∧ x.t < 16) :
    Calls Tryz.prog 37 #[.pointer (some ⟨Q, 0, none⟩)] w fun e W' => e = .returned (.pointer (some ⟨w.heap.size, 0, none⟩)) ∧ CopyAt w W' w.heap.size (joinAll (L.map QN.wait)) ∧ Below w.heap.size w W' := by
  have hQ : QP w (some ⟨Q, 0, none⟩) L := .inr ⟨Q, h, rfl, hq⟩
  have hf1 : Fence.wide.fn 78 := trivial
  refine (callsIn_wide (n := 9)).1 ?_
  refine callsIn_of_wp_marks Tryz.func37 rfl trivial ?_ rfl
  simp only [Tryz.ntmps37, List.size_toArray, List.length_cons, List.length_nil, Nat.reduceAdd, Nat.reduceSub, Array.replicate_succ, Array.replicate_zero, List.push_toArray, List.append_toArray, List.nil_append, List.cons_append]
  gi_wp2_with (gi_at_call 78; refine (links_in _ _ _).mono ?_; rintro e w' ⟨rfl, rfl⟩)
  obtain ⟨w3, hw3⟩ : ∃ w3, (((w.alloc (.cells #[.int .i64 0, .int .i64 0, .int .i64 0, .int .u32 0, .pointer none, .pointer none] 162)).alloc (.cells #[.pointer (some ⟨w.heap.size, 0, none⟩)] 96)).alloc (.cells #[.pointer (some ⟨Q, 0, none⟩)] 96)) = w3 := ⟨_, rfl⟩
  have hs3 : w3.heap.size = w.heap.size + 3 := by rw [← hw3]; simp
  have hb3 : Below w.heap.size w w3 := by rw [← hw3]; exact (((Below.refl _ _).alloc (Nat.le_refl _) _).alloc (by simp) _).alloc (by simp; omega) _
  have hc3 : CopyAt w w3 w.heap.size [] := by
    rw [← hw3]
    exact ⟨⟨[], false, ⟨heap_old (heap_old (heap_new _ _) _) _, fun i x hi => by simp at hi, fun i j a b hi => by simp at hi, fun _ => rfl⟩, rfl, fun x hx => by cases hx⟩, Nat.le_refl _⟩
  have hp3 : Boxed w3 (w.heap.size + 1) 96 (.pointer (some ⟨w.heap.size, 0, none⟩)) := by
    rw [← hw3]
    have := (Boxed.new (w.alloc (.cells #[.int .i64 0, .int .i64 0, .int .i64 0, .int .u32 0, .pointer none, .pointer none] 162)) 96 (.pointer (some ⟨w.heap.size, 0, none⟩))).alloc (.cells #[.pointer (some ⟨Q, 0, none⟩)] 96)
    simpa using this
  have hq3 : Boxed w3 (w.heap.size + 1 + 1) 96 (.pointer (some ⟨Q, 0, none⟩)) := by
    rw [← hw3]
    have := Boxed.new ((w.alloc (.cells #[.int .i64 0, .int .i64 0, .int .i64 0, .int .u32 0, .pointer none, .pointer none] 162)).alloc (.cells #[.pointer (some ⟨w.heap.size, 0, none⟩)] 96)) 96 (.pointer (some ⟨Q, 0, none⟩))
    simpa using this
  rw [hw3]
  clear hw3
  refine wpIn_rangeFunc_ownG (n := 9) (F := Fence.wide) rfl (by decide) (gf := 128) (lb := #[.pointer (some ⟨w.heap.size + 1 + 1, 0, none⟩)]) rfl trivial (enters_of Tryz.func128 (by kernel_rfl) rfl)
    (links_stops (9 - 1) (by decide) (w.heap.size + 1 + 1) w.heap.size w _ (Nat.le_refl _) hb3.size _ L hQ hb3 hq3) KQ.t (KQ.b hb3.size) (Below.refl _ _) (fun _ => rfl)
    (fun pre W => (CopyAt w W w.heap.size (joinAll ((pre.map (fun x => x.1)).map QN.wait)) ∧ Boxed W (w.heap.size + 1) 96 (.pointer (some ⟨w.heap.size, 0, none⟩))) ∧ Below w.heap.size w W)
    (fun _ _ _ => False)
    (OwnFrom.and (OwnFrom.and (Own.from (copyAt_own _ _ _) _) (Own.from (boxed_own _ _ _) _)) (ownFrom_below (Nat.le_refl _) hb3.size))
    (fun _ _ _ _ _ hs _ _ => hs)
    ⟨⟨hc3, hp3⟩, hb3⟩
    (fun x => { tmps := #[.pointer (some ⟨Q, 0, none⟩), undef, .pointer none, .pointer (some ⟨w.heap.size + 1, 0, none⟩), .pointer (some ⟨x.1.g, 0, none⟩), .pointer (some ⟨Q, 0, none⟩), .bool false, .agg #[.int .i64 0, .int .i64 0, .int .i64 0, .int .u32 0, .pointer none, .pointer none], .pointer (some ⟨w.heap.size, 0, none⟩), .pointer (some ⟨Q, 0, none⟩), .func (.func 128) #[] #[.pointer (some ⟨w.heap.size + 1 + 1, 0, none⟩)], .pointer (some ⟨x.1.g, 0, none⟩), undef, undef, undef, undef, undef, undef, undef], defers := [] }) ?assign ?body ?done ?stop
  case assign =>
    intro l x W K hK
    gi_wp2
    exact hK
  case body =>
    rintro l pre x W ⟨⟨hc, hp⟩, hB⟩ hpl
    obtain ⟨nn, pp, hnd⟩ := (hQ.below (Nat.le_refl _) hB).node x.2
    have x0 : W.cell? ⟨x.1.g, 0, none⟩ = some (.int .i64 x.1.t) := cell_of hnd 0
    have x1 : W.cell? ⟨x.1.g, 1, none⟩ = some (.int .i64 x.1.k) := cell_of hnd 1
    have x2 : W.cell? ⟨x.1.g, 2, none⟩ = some (.int .i64 x.1.o) := cell_of hnd 2
    have x3 : W.cell? ⟨x.1.g, 3, none⟩ = some (.int .u32 (x.1.m : Int)) := cell_of hnd 3
    have lx := lt_of hnd
    have p0 := hp.cell
    have lp := hp.lt
    have hf9 : Fence.wide.fn 79 := trivial
    have hmx : Tryz.prog.follows .mixedOrders = true := by kernel_rfl
    have HA := Lib.hid (copy_add w W.drew w.heap.size _ x.1.t x.1.k x.1.o x.1.m hc.drew hB.drew (hr x.1 x.2))
    have HB := Lib.hid (And.intro hc (And.intro hp hB))
    unfold av at HA
    clear hc hp hB hnd hpl
    gi_wp2
    gi_region_with_o (gi_at_call 79; refine (CallsIn.inRound l (callsIn_wide.2 HA.out)).mono ?_; rintro e w' ⟨rfl, hy⟩; have HY := Lib.hid hy; clear hy)
    all_goals gi_wp2
    all_goals
      obtain ⟨hc, hp, hB⟩ := HB.out
      obtain ⟨h1, h2, h3, h4⟩ := HY.out
      exact ⟨((KeepsOthers.drew _).trans h3).from _, ⟨(Below.refl _ _).drew.trans h2, fun v hv => h4 _ _ v (by decide) (by decide) hv⟩, ⟨by rw [List.map_append, List.map_append]; show CopyAt _ _ _ (joinAll (_ ++ [x.1.wait])); rw [joinAll_snoc]; exact h1, h4 _ _ _ (by decide) (by decide) hp⟩, hB.drew.trans h2⟩
  case done =>
    rintro D ys W hD rfl ⟨⟨hc, hp⟩, hB⟩ hK
    have p0 := hp.cell
    rw [map_attach] at hc
    have HC := Lib.hid hc
    clear hc
    gi_wp2
    refine ⟨by simp, .inl ⟨_, _, rfl, run_takeDeferred hK, ?_⟩⟩
    exact ⟨_, results_tmp rfl _ _ _, rfl, copyAt_own (β := Unit) w w.heap.size (fun _ => joinAll (L.map QN.wait)) () _ _ _ HC.out (grownBy_putObj' W D (.deferred none)) (fun r e => by cases e; exact ⟨_, hK, rfl⟩), hB.trans (belowK_b (w := w) (Nat.le_refl _) W D _ _ (by have := hb3.size; omega) hK rfl rfl)⟩
  case stop =>
    rintro D c pre W _ _ h _
    exact h.elim
end Go.Proofs.YthnmlklgbggmbaaGreat
namespace Go.Proofs.YthnmlklgbggmbaaGreat
open Go.ChangeShapes Go.WideShapes Go.ChangeAt Go.RowKit
set_option linter.unusedVariables false
theorem keeps_of_below {w w' : World} {B : Nat} (h : Below B w w') (hB : w.heap.size ≤ B) (S : Nat → Prop) : Keeps S w w' := ⟨h.os, h.tape, h.output, h.size, fun k hk _ => h.block k (by omega)⟩
structure OwnQ (B : Nat) (w : World) (Q : Nat) (L : List QN) : Prop where
  ring : ∃ h, IsQ w Q L h
  lowQ : B ≤ Q
  low : ∀ x, x ∈ L → B ≤ x.g
theorem OwnQ.below {B : Nat} {w w' : World} {Q : Nat} {L : List QN} (h : OwnQ B w Q L) (hk : Below w.heap.size w w') : OwnQ B w' Q L := by
  obtain ⟨b, hq⟩ := h.ring
  exact ⟨⟨b, hq.below (Nat.le_refl _) hk⟩, h.lowQ, h.low⟩
theorem OwnQ.alloc {B : Nat} {w : World} {Q : Nat} {L : List QN} (h : OwnQ B w Q L) (o : Obj) : OwnQ B (w.alloc o) Q L := h.below ((Below.refl _ _).alloc (Nat.le_refl _) _)
theorem OwnQ.RS {B : Nat} {w : World} {Q : Nat} {L : List QN} (h : OwnQ B w Q L) {k : Nat} (hk : RS Q L k) : B ≤ k := by
  rcases hk with rfl | ⟨y, hy, rfl⟩
  · exact h.lowQ
  · exact h.low y hy
end Go.Proofs.YthnmlklgbggmbaaGreat
namespace Go.Proofs.YthnmlklgbggmbaaGreat
open Go.ChangeShapes Go.WideShapes Go.ChangeAt Go.RowKit
set_option linter.unusedVariables false
def tv (L : List QN) : List Value := L.map fun x => Value.int .i64 x.t
theorem OwnQ.ints {B : Nat} {w w' : World} {Q : Nat} {L : List QN} (h : OwnQ B w Q L) {P : Nat → Prop} (hk : Keeps (fun k => P k ∧ ∃ cs, w.heap[k]? = some (.cells cs 3 (0, 0))) w w') : OwnQ B w' Q L := by
  obtain ⟨b, hq⟩ := h.ring
  refine ⟨⟨b, hq.keeps hk ?_ ?_⟩, h.lowQ, h.low⟩
  · rintro ⟨_, cs, h1⟩
    rw [hq.head] at h1; injection h1 with h1; injection h1 with _ h1 _; exact absurd h1 (by decide)
  · rintro i x hx ⟨_, cs, h1⟩
    rw [hq.node i x hx] at h1; injection h1 with h1; injection h1 with _ h1 _; exact absurd h1 (by decide)
structure Good (L : List QN) : Prop where
  rng : ∀ x, x ∈ L → 0 ≤ x.t ∧ x.t < 16
  one : (L.map fun x => x.t).Nodup
theorem good_nil : Good [] := ⟨fun x hx => (by cases hx), by simp⟩
def wo (L : List QN) (g : Int) : List QN := L.filter fun x => x.t != g
end Go.Proofs.YthnmlklgbggmbaaGreat
