import Derived.Test.YtkhmfjfclpehfaaGreatSpecA
namespace Go.Proofs.YtkhmfjfclpehfaaGreat
open Go.ChangeShapes Go.WideShapes Go.ChangeAt Go.RowKit
set_option linter.unusedVariables false
set_option linter.unusedSimpArgs false
/-- A word of a value that is cut from m on, as far as k. -/
def cutV (m k j : Nat) (v : Int) : Int := if m ≤ j ∧ j < k then 0 else v
def clipA (m k : Nat) (a b c d : Int) : Array Value := #[.int .u32 (cutV m k 0 a), .int .u32 (cutV m k 1 b), .int .u32 (cutV m k 2 c), .int .u32 (cutV m k 3 d)]
theorem clipA_start (m : Nat) (a b c d : Int) : clipA m m a b c d = #[.int .u32 a, .int .u32 b, .int .u32 c, .int .u32 d] := by
  have h : ∀ j v, cutV m m j v = v := fun j v => if_neg (by omega)
  unfold clipA
  rw [h, h, h, h]
theorem cutV_same (m k j : Nat) (v : Int) (h : j ≠ k) : cutV m (k + 1) j v = cutV m k j v := by
  unfold cutV
  by_cases q : m ≤ j ∧ j < k
  · rw [if_pos q, if_pos (by omega)]
  · rw [if_neg q, if_neg (by omega)]
theorem cutV_zero (m k : Nat) (v : Int) (h : m ≤ k) : cutV m (k + 1) k v = 0 := if_pos (by omega)
theorem clipA_step (m k : Nat) (a b c d : Int) (hk : k < 4) (hm : m ≤ k) : clipA m (k + 1) a b c d = (clipA m k a b c d).setIfInBounds k (.int .u32 0) := by
  rcases (show k = 0 ∨ k = 1 ∨ k = 2 ∨ k = 3 by omega) with rfl | rfl | rfl | rfl
  · unfold clipA; rw [cutV_zero m 0 a hm, cutV_same m 0 1 b (by omega), cutV_same m 0 2 c (by omega), cutV_same m 0 3 d (by omega)]; rfl
  · unfold clipA; rw [cutV_zero m 1 b hm, cutV_same m 1 0 a (by omega), cutV_same m 1 2 c (by omega), cutV_same m 1 3 d (by omega)]; rfl
  · unfold clipA; rw [cutV_zero m 2 c hm, cutV_same m 2 0 a (by omega), cutV_same m 2 1 b (by omega), cutV_same m 2 3 d (by omega)]; rfl
  · unfold clipA; rw [cutV_zero m 3 d hm, cutV_same m 3 0 a (by omega), cutV_same m 3 1 b (by omega), cutV_same m 3 2 c (by omega)]; rfl
/-- A value cut at a width. -/
def clipP (m j : Nat) (v : Int) : Int := if m ≤ j then 0 else v
theorem clipA_end (m k : Nat) (a b c d : Int) (hk : 4 ≤ k) : clipA m k a b c d = #[.int .u32 (clipP m 0 a), .int .u32 (clipP m 1 b), .int .u32 (clipP m 2 c), .int .u32 (clipP m 3 d)] := by
  have h : ∀ j v, j < 4 → cutV m k j v = clipP m j v := fun j v hj => by
    unfold cutV clipP
    by_cases q : m ≤ j
    · rw [if_pos ⟨q, by omega⟩, if_pos q]
    · rw [if_neg (by omega), if_neg q]
  unfold clipA
  rw [h 0 a (by omega), h 1 b (by omega), h 2 c (by omega), h 3 d (by omega)]
set_option maxRecDepth 20000 in
set_option maxHeartbeats 2000000 in
theorem clip1_any (w : World) (P m : Nat) (a b c d : Int) (hm : m ≤ 1000) (hP : w.heap[P]? = some (.cells #[.int .i64 (m : Int)] 3 (0, 0))) :
    Calls Tryz.prog 63 #[.agg #[.int .u32 a, .int .u32 b, .int .u32 c, .int .u32 d], .pointer (some ⟨P, 0, none⟩)] w fun e w' => e = .returned (.agg #[.int .u32 (clipP m 0 a), .int .u32 (clipP m 1 b), .int .u32 (clipP m 2 c), .int .u32 (clipP m 3 d)]) ∧ Below w.heap.size w w' := by
  have cP : ∀ o1 o2, ((w.alloc o1).alloc o2).cell? ⟨P, 0, none⟩ = some (.int .i64 (m : Int)) := fun o1 o2 => cell_of (heap_old (heap_old hP o1) o2) 0
  have h1 := heap_old (heap_new w (.cells #[.int .u32 a, .int .u32 b, .int .u32 c, .int .u32 d] 36)) (.cells #[.int .u32 0, .int .u32 0, .int .u32 0, .int .u32 0] 36)
  have h2 := heap_new (w.alloc (.cells #[.int .u32 a, .int .u32 b, .int .u32 c, .int .u32 d] 36)) (.cells #[.int .u32 0, .int .u32 0, .int .u32 0, .int .u32 0] 36)
  rw [World.size_alloc] at h2
  have H := Lib.hid (And.intro h1 (And.intro h2 (show Below w.heap.size w _ from ((Below.refl _ w).alloc (Nat.le_refl _) (.cells #[.int .u32 a, .int .u32 b, .int .u32 c, .int .u32 d] 36)).alloc (by simp) (.cells #[.int .u32 0, .int .u32 0, .int .u32 0, .int .u32 0] 36))))
  clear h1 h2 hP
  go_enter Tryz.func63, Tryz.ntmps63
  go_wp2_with fail
  go_loopw [4] (fun i wr => ∃ k : Nat, i = .int .i64 (k : Int) ∧ m ≤ k ∧ k ≤ 1000 ∧ wr.heap[w.heap.size]? = some (.cells (clipA m k a b c d) 36 (0, 0)) ∧ wr.heap[w.heap.size + 1]? = some (.cells #[.int .u32 0, .int .u32 0, .int .u32 0, .int .u32 0] 36 (0, 0)) ∧ Below w.heap.size w wr) (fun i _ => 4 - (intOf i).toNat)
  case atStart => exact ⟨m, rfl, Nat.le_refl _, hm, by rw [clipA_start]; exact H.out.1, H.out.2.1, H.out.2.2⟩
  case round =>
    clear H
    obtain ⟨k, rfl, hmk, hk1, hb, hr, hB⟩ := hrel
    have HB := Lib.hid (And.intro hb (And.intro hr hB))
    clear hb hr hB
    by_cases hlt : k < 4
    · have dk : decide (k < 4) = true := decide_eq_true hlt
      have dk' : decide ((k : Int) < 4) = true := decide_eq_true (by omega)
      obtain ⟨u, cu⟩ : ∃ u, wr.cell? ⟨w.heap.size, k, none⟩ = some u := ⟨_, (cell_of HB.out.1 k).trans (Array.getElem?_eq_getElem (by unfold clipA; simpa using hlt))⟩
      have fu := free_of HB.out.1 k
      have HN := Lib.hid (show (wr.setCell ⟨w.heap.size, k, none⟩ (.int .u32 0)).heap[w.heap.size]? = some (.cells (clipA m (k + 1) a b c d) 36 (0, 0)) ∧ (wr.setCell ⟨w.heap.size, k, none⟩ (.int .u32 0)).heap[w.heap.size + 1]? = some (.cells #[.int .u32 0, .int .u32 0, .int .u32 0, .int .u32 0] 36 (0, 0)) ∧ Below w.heap.size w (wr.setCell ⟨w.heap.size, k, none⟩ (.int .u32 0)) from
        ⟨by rw [clipA_step m k a b c d hlt hmk]; exact heap_set HB.out.1 k _, heap_other HB.out.2.1 (by show w.heap.size + 1 ≠ w.heap.size; omega) _, HB.out.2.2.setCell (p := ⟨w.heap.size, k, none⟩) (Nat.le_refl _) _⟩)
      go_wp2_with fail
      go_roundw
      case rel => exact ⟨k + 1, by go_num, by omega, by omega, HN.out.1, HN.out.2.1, HN.out.2.2⟩
      case measure => simp [intOf]; omega
    · have dk : decide (k < 4) = false := decide_eq_false hlt
      have dk' : decide ((k : Int) < 4) = false := decide_eq_false (by omega)
      have he := HB.out.1
      rw [clipA_end m k a b c d (by omega)] at he
      obtain ⟨y0, hy0⟩ : ∃ y, y = clipP m 0 a := ⟨_, rfl⟩
      rw [← hy0] at he
      have HY0 := Lib.hid hy0
      clear hy0
      obtain ⟨y1, hy1⟩ : ∃ y, y = clipP m 1 b := ⟨_, rfl⟩
      rw [← hy1] at he
      have HY1 := Lib.hid hy1
      clear hy1
      obtain ⟨y2, hy2⟩ : ∃ y, y = clipP m 2 c := ⟨_, rfl⟩
      rw [← hy2] at he
      have HY2 := Lib.hid hy2
      clear hy2
      obtain ⟨y3, hy3⟩ : ∃ y, y = clipP m 3 d := ⟨_, rfl⟩
      rw [← hy3] at he
      have HY3 := Lib.hid hy3
      clear hy3
      have c0 : wr.cell? ⟨w.heap.size, 0, none⟩ = some (.int .u32 y0) := cell_of he 0
      have c1 : wr.cell? ⟨w.heap.size, 1, none⟩ = some (.int .u32 y1) := cell_of he 1
      have c2 : wr.cell? ⟨w.heap.size, 2, none⟩ = some (.int .u32 y2) := cell_of he 2
      have c3 : wr.cell? ⟨w.heap.size, 3, none⟩ = some (.int .u32 y3) := cell_of he 3
      have q0 : wr.cell? ⟨w.heap.size + 1, 0, none⟩ = some (.int .u32 0) := cell_of HB.out.2.1 0
      have q1 : wr.cell? ⟨w.heap.size + 1, 1, none⟩ = some (.int .u32 0) := cell_of HB.out.2.1 1
      have q2 : wr.cell? ⟨w.heap.size + 1, 2, none⟩ = some (.int .u32 0) := cell_of HB.out.2.1 2
      have q3 : wr.cell? ⟨w.heap.size + 1, 3, none⟩ = some (.int .u32 0) := cell_of HB.out.2.1 3
      have f0 := free_of HB.out.2.1 0
      have f1 := free_of HB.out.2.1 1
      have f2 := free_of HB.out.2.1 2
      have f3 := free_of HB.out.2.1 3
      clear he
      go_wp2_with fail
      refine bodyPost_ret (v := .agg #[.int .u32 y0, .int .u32 y1, .int .u32 y2, .int .u32 y3]) (by simp [results, Tryz.results63, go_sem, q0, q1, q2, q3]) rfl ?_
      exact ⟨by rw [← HY0.out, ← HY1.out, ← HY2.out, ← HY3.out], (((HB.out.2.2.setCell (p := ⟨w.heap.size + 1, 0, none⟩) (by show w.heap.size ≤ w.heap.size + 1; omega) _).setCell (p := ⟨w.heap.size + 1, 1, none⟩) (by show w.heap.size ≤ w.heap.size + 1; omega) _).setCell (p := ⟨w.heap.size + 1, 2, none⟩) (by show w.heap.size ≤ w.heap.size + 1; omega) _).setCell (p := ⟨w.heap.size + 1, 3, none⟩) (by show w.heap.size ≤ w.heap.size + 1; omega) _⟩
end Go.Proofs.YtkhmfjfclpehfaaGreat
