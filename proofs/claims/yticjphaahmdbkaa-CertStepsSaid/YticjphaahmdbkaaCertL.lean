import Derived.Test.YticjphaahmdbkaaCertE
namespace Go.Proofs.Yticjphaahmdbkaa
open Go.ChangeShapes Go.WideShapes Go.ChangeAt Go.RowKit
set_option linter.unusedVariables false
set_option linter.unusedSimpArgs false
theorem light_any (w : World) (oa la qa : Option Addr) (n0 oc n1 lc n2 qc : Nat) :
    Calls Try.prog 14 #[.slice oa n0 oc, .slice la n1 lc, .slice qa n2 qc] w fun e w' => e = .returned (.bool (decide (n0 ≤ 8) && decide (n1 ≤ 30) && decide (n2 ≤ 60))) ∧ w' = w := by
  by_cases h0 : n0 ≤ 8
  · have d0 : decide (n0 ≤ 8) = true := decide_eq_true h0
    have d0' : decide ((n0 : Int) ≤ 8) = true := decide_eq_true (by omega)
    by_cases h1 : n1 ≤ 30
    · have d1 : decide (n1 ≤ 30) = true := decide_eq_true h1
      have d1' : decide ((n1 : Int) ≤ 30) = true := decide_eq_true (by omega)
      have d2 : decide ((n2 : Int) ≤ 60) = decide (n2 ≤ 60) := by
        by_cases h2 : n2 ≤ 60
        · rw [decide_eq_true h2]; exact decide_eq_true (by omega)
        · rw [decide_eq_false h2]; exact decide_eq_false (by omega)
      have HD := Lib.hid (And.intro d0 (And.intro d1 d2))
      clear h0 h1
      go_enter Try.func14, Try.ntmps14
      go_wp2_with fail
      go_ret
      exact ⟨ret_bool (by rw [HD.out.1, HD.out.2.1]; first | rfl | (rw [HD.out.2.2]; rfl) | (simp [HD.out.2.2])), rfl⟩
    · have d1 : decide (n1 ≤ 30) = false := decide_eq_false h1
      have d1' : decide ((n1 : Int) ≤ 30) = false := decide_eq_false (by omega)
      have HD := Lib.hid (And.intro d0 d1)
      clear h0 h1
      go_enter Try.func14, Try.ntmps14
      go_wp2_with fail
      go_ret
      exact ⟨ret_bool (by rw [HD.out.1, HD.out.2]; rfl), rfl⟩
  · have d0 : decide (n0 ≤ 8) = false := decide_eq_false h0
    have d0' : decide ((n0 : Int) ≤ 8) = false := decide_eq_false (by omega)
    have HD := Lib.hid d0
    clear h0
    go_enter Try.func14, Try.ntmps14
    go_wp2_with fail
    go_ret
    exact ⟨ret_bool (by rw [HD.out]; rfl), rfl⟩
def exO : ObjX := (fun j => [1, 1, 1, 0, 0, 0].getD j 0, fun _ => 0)
def exA : OpX := fun j => [0, 0, 1, 0, 5, 0, 0, 0, 0, 0, 0, 0, 0, 0, 1, 0, 3].getD j 0
def exB : OpX := fun j => [1, 0, 2, 0, 0, 0, 0, 0, 0, 0, 5, 0, 0, 0, 1, 1, 4].getD j 0
theorem ex_objs {W : World} {b : Nat} (h : W.heap[b]? = some (.cells #[.int .i64 1, .int .i64 1, .int .i64 1, .int .i64 0, .int .i64 0, .int .i64 0, .int .u32 0, .int .u32 0, .int .u32 0, .int .u32 0] 58 (0, 0))) : ObjsArg W (some ⟨b, 0, none⟩) 1 [exO] :=
  ⟨rfl, fun p hp => by
    rw [List.mem_singleton.1 hp]
    refine ⟨fun j hj => ?_, fun j hj => ⟨Int.le_refl 0, by show (0 : Int) ≤ 4294967295; decide⟩⟩
    rcases (by omega : j = 0 ∨ j = 1 ∨ j = 2 ∨ j = 3 ∨ j = 4 ∨ j = 5) with rfl | rfl | rfl | rfl | rfl | rfl <;> exact ⟨by decide, by decide⟩, fun _ => ⟨b, 0, rfl, lt_of h, fun k p hk => by
    have hk0 : k = 0 := by have := (List.getElem?_eq_some_iff.1 hk).1; simp at this; exact this
    subst hk0
    cases hk
    intro j v hv
    have hj : j < 10 := (List.getElem?_eq_some_iff.1 hv).1
    rw [cell_of h]
    rcases (by omega : j = 0 ∨ j = 1 ∨ j = 2 ∨ j = 3 ∨ j = 4 ∨ j = 5 ∨ j = 6 ∨ j = 7 ∨ j = 8 ∨ j = 9) with rfl | rfl | rfl | rfl | rfl | rfl | rfl | rfl | rfl | rfl <;> exact hv⟩⟩
theorem ex_ok (x : OpX) (h : x = exA ∨ x = exB) : OpOk x := by
  rcases h with rfl | rfl
  all_goals
    refine ⟨fun j h1 h2 => ?_, fun j h1 h2 h3 => ?_, .inr rfl⟩
    · rcases (show j = 0 ∨ j = 1 ∨ j = 2 ∨ j = 3 ∨ j = 9 ∨ j = 15 ∨ j = 16 by omega) with rfl | rfl | rfl | rfl | rfl | rfl | rfl <;> exact ⟨by decide, by decide⟩
    · rcases (show j = 4 ∨ j = 5 ∨ j = 6 ∨ j = 7 ∨ j = 8 ∨ j = 10 ∨ j = 11 ∨ j = 12 ∨ j = 13 by omega) with rfl | rfl | rfl | rfl | rfl | rfl | rfl | rfl | rfl <;> exact ⟨by decide, by decide⟩
theorem ex_ops {W : World} {b : Nat} (h : W.heap[b]? = some (.cells #[.int .i64 0, .int .i64 0, .int .i64 1, .int .i64 0, .int .u32 5, .int .u32 0, .int .u32 0, .int .u32 0, .int .u32 0, .int .i64 0, .int .u32 0, .int .u32 0, .int .u32 0, .int .u32 0, .bool true, .int .i64 0, .int .i64 3, .int .i64 1, .int .i64 0, .int .i64 2, .int .i64 0, .int .u32 0, .int .u32 0, .int .u32 0, .int .u32 0, .int .u32 0, .int .i64 0, .int .u32 5, .int .u32 0, .int .u32 0, .int .u32 0, .bool true, .int .i64 1, .int .i64 4] 55 (0, 0))) : OpsArg W (some ⟨b, 0, none⟩) 2 [exA, exB] :=
  ⟨rfl, fun x hx => ex_ok x (by simpa using hx), fun _ => ⟨b, 0, rfl, lt_of h, fun k x hk => by
    have hk0 : k = 0 ∨ k = 1 := by have := (List.getElem?_eq_some_iff.1 hk).1; simp at this; omega
    rcases hk0 with rfl | rfl
    all_goals
      cases hk
      intro j v hv
      have hj : j < 17 := (List.getElem?_eq_some_iff.1 hv).1
      rw [cell_of h]
      rcases (by omega : j = 0 ∨ j = 1 ∨ j = 2 ∨ j = 3 ∨ j = 4 ∨ j = 5 ∨ j = 6 ∨ j = 7 ∨ j = 8 ∨ j = 9 ∨ j = 10 ∨ j = 11 ∨ j = 12 ∨ j = 13 ∨ j = 14 ∨ j = 15 ∨ j = 16) with rfl | rfl | rfl | rfl | rfl | rfl | rfl | rfl | rfl | rfl | rfl | rfl | rfl | rfl | rfl | rfl | rfl <;> exact hv⟩⟩
theorem ex_ints {W : World} {b : Nat} {x y : Int} (h : W.heap[b]? = some (.cells #[.int .i64 x, .int .i64 y] 3 (0, 0))) : IntsArg W (some ⟨b, 0, none⟩) 2 [x, y] :=
  ⟨rfl, fun _ => ⟨b, 0, rfl, lt_of h, fun k z hk => by
    have hk0 : k = 0 ∨ k = 1 := by have := (List.getElem?_eq_some_iff.1 hk).1; simp at this; omega
    rw [cell_of h]
    rcases hk0 with rfl | rfl <;> (cases hk; rfl)⟩⟩
theorem Has.three (w : World) (o0 o1 o2 : Obj) : Has w (((w.alloc o0).alloc o1).alloc o2) [(w.heap.size + 2, o2), (w.heap.size + 1, o1), (w.heap.size, o0)] := ((((Has.start w).alloc o0).alloc o1).alloc o2).eq (by simp)
theorem ex_right : checkP [exO] [exA, exB] [0, 1] = (0, 0) := by kernel_rfl
theorem ex_wrong : checkP [exO] [exA, exB] [1, 0] = (0, 2) := by kernel_rfl
set_option maxRecDepth 100000 in
set_option maxHeartbeats 8000000 in
theorem alive20_any (w : World) : Calls Try.prog 15 #[] w fun e w' => e = .returned (.bool true) ∧ Below w.heap.size w w' := by
  obtain ⟨W, hW⟩ : ∃ W, W = ((w.alloc (.cells #[.int .i64 1, .int .i64 1, .int .i64 1, .int .i64 0, .int .i64 0, .int .i64 0, .int .u32 0, .int .u32 0, .int .u32 0, .int .u32 0] 58)).alloc (.cells #[.int .i64 0, .int .i64 0, .int .i64 1, .int .i64 0, .int .u32 5, .int .u32 0, .int .u32 0, .int .u32 0, .int .u32 0, .int .i64 0, .int .u32 0, .int .u32 0, .int .u32 0, .int .u32 0, .bool true, .int .i64 0, .int .i64 3, .int .i64 1, .int .i64 0, .int .i64 2, .int .i64 0, .int .u32 0, .int .u32 0, .int .u32 0, .int .u32 0, .int .u32 0, .int .i64 0, .int .u32 5, .int .u32 0, .int .u32 0, .int .u32 0, .bool true, .int .i64 1, .int .i64 4] 55)).alloc (.cells #[.int .i64 0, .int .i64 1] 3) := ⟨_, rfl⟩
  have hH : Has w W [(w.heap.size + 2, .cells #[.int .i64 0, .int .i64 1] 3 (0, 0)), (w.heap.size + 1, .cells #[.int .i64 0, .int .i64 0, .int .i64 1, .int .i64 0, .int .u32 5, .int .u32 0, .int .u32 0, .int .u32 0, .int .u32 0, .int .i64 0, .int .u32 0, .int .u32 0, .int .u32 0, .int .u32 0, .bool true, .int .i64 0, .int .i64 3, .int .i64 1, .int .i64 0, .int .i64 2, .int .i64 0, .int .u32 0, .int .u32 0, .int .u32 0, .int .u32 0, .int .u32 0, .int .i64 0, .int .u32 5, .int .u32 0, .int .u32 0, .int .u32 0, .bool true, .int .i64 1, .int .i64 4] 55 (0, 0)), (w.heap.size, .cells #[.int .i64 1, .int .i64 1, .int .i64 1, .int .i64 0, .int .i64 0, .int .i64 0, .int .u32 0, .int .u32 0, .int .u32 0, .int .u32 0] 58 (0, 0))] := by
    rw [hW]
    exact Has.three w _ _ _
  have hc := fun cap1 cap2 cap3 => check_any W (some ⟨w.heap.size, 0, none⟩) 1 cap1 [exO] (ex_objs (hH.at 2 rfl)) (by omega) (some ⟨w.heap.size + 1, 0, none⟩) 2 cap2 [exA, exB] (ex_ops (hH.at 1 rfl)) (by omega) (some ⟨w.heap.size + 2, 0, none⟩) 2 cap3 [0, 1] (ex_ints (hH.at 0 rfl)) (by omega)
  simp only [ex_right] at hc
  rw [hW] at hc
  have HC := Lib.hid hc
  have HH := Lib.hid hH
  have HWS := Lib.hid hW
  clear hc hH hW
  go_enter Try.func15, Try.ntmps15
  go_wp2_with fail
  refine (HC.out _ _ _).mono ?_
  rintro e1 w1 ⟨rfl, b1⟩
  rw [← HWS.out] at b1
  have HH1 := Lib.hid ((HH.out.none (Keeps.ofBelow b1)).alloc (.cells #[.int .i64 1, .int .i64 0] 3))
  have hc2 := fun cap1 cap2 cap3 => check_any (w1.alloc (.cells #[.int .i64 1, .int .i64 0] 3)) (some ⟨w.heap.size, 0, none⟩) 1 cap1 [exO] (ex_objs (HH1.out.at 3 rfl)) (by omega) (some ⟨w.heap.size + 1, 0, none⟩) 2 cap2 [exA, exB] (ex_ops (HH1.out.at 2 rfl)) (by omega) (some ⟨w1.heap.size, 0, none⟩) 2 cap3 [1, 0] (ex_ints (HH1.out.at 0 rfl)) (by omega)
  simp only [ex_wrong] at hc2
  have HC2 := Lib.hid hc2
  clear hc2 b1
  go_wp2_with fail
  refine (HC2.out _ _ _).mono ?_
  rintro e2 w2 ⟨rfl, b2⟩
  have HB := Lib.hid ((HH1.out.none (Keeps.ofBelow b2)).keeps.none)
  clear b2
  go_wp2_with fail
  go_ret
  exact ⟨rfl, HB.out⟩
end Go.Proofs.Yticjphaahmdbkaa
