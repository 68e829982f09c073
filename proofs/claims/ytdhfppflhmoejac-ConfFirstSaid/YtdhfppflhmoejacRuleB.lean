import Derived.Test.YtdhfppflhmoejacRuleA
import Derived.LoopN
namespace Go.Proofs.Ytdhfppflhmoejac
open Go.ChangeShapes Go.WideShapes Go.ChangeAt Go.RowKit
set_option linter.unusedVariables false
set_option linter.unusedSimpArgs false
theorem cont1 (b cap : Nat) (e0 x : Int) (w : World) (h0 : w.cell? ⟨b, 0, none⟩ = some (.int .i64 e0)) (hl : b < w.heap.size) :
    Calls Try.prog 50 #[.slice (some ⟨b, 0, none⟩) 1 cap, .int .i64 x] w fun e w' => e = .returned (.bool ((x == e0))) ∧ Keeps (fun _ => False) w w' := by
  have HI : Calls Try.prog 54 #[.slice (some ⟨b, 0, none⟩) 1 cap, .int .i64 x] w fun e w' => (∃ i : Int, e = .returned (.int .i64 i) ∧ decide (0 ≤ i) = ((x == e0))) ∧ Keeps (fun _ => False) w w' := by
    rcases q0 : x == e0
    all_goals
      go_enter Try.func54, Try.ntmps54
      go_wp2_with fail
      refine wp_loop_rounds 2 ?_
      rw [rounds_succ]
      go_wp2
      iterate 1 (first | (rw [rounds_succ]; go_wp2) | skip)
      go_ret
      exact ⟨⟨_, rfl, by simp⟩, Keeps.refl _ _⟩
  have HI2 := Lib.hid HI
  clear HI
  go_enter Try.func50, Try.ntmps50
  go_wp2_with fail
  refine HI2.out.mono ?_
  rintro e w2 ⟨⟨i, rfl, hi⟩, k2⟩
  have HK := Lib.hid k2
  have HV := Lib.hid hi
  clear k2 hi
  go_wp2
  go_ret
  exact ⟨ret_bool HV.out, HK.out⟩
theorem cont2 (b cap : Nat) (e0 e1 x : Int) (w : World) (h0 : w.cell? ⟨b, 0, none⟩ = some (.int .i64 e0)) (h1 : w.cell? ⟨b, 1, none⟩ = some (.int .i64 e1)) (hl : b < w.heap.size) :
    Calls Try.prog 50 #[.slice (some ⟨b, 0, none⟩) 2 cap, .int .i64 x] w fun e w' => e = .returned (.bool ((x == e0) || (x == e1))) ∧ Keeps (fun _ => False) w w' := by
  have HI : Calls Try.prog 54 #[.slice (some ⟨b, 0, none⟩) 2 cap, .int .i64 x] w fun e w' => (∃ i : Int, e = .returned (.int .i64 i) ∧ decide (0 ≤ i) = ((x == e0) || (x == e1))) ∧ Keeps (fun _ => False) w w' := by
    rcases q0 : x == e0 <;> rcases q1 : x == e1
    all_goals
      go_enter Try.func54, Try.ntmps54
      go_wp2_with fail
      refine wp_loop_rounds 3 ?_
      rw [rounds_succ]
      go_wp2
      iterate 2 (first | (rw [rounds_succ]; go_wp2) | skip)
      go_ret
      exact ⟨⟨_, rfl, by simp⟩, Keeps.refl _ _⟩
  have HI2 := Lib.hid HI
  clear HI
  go_enter Try.func50, Try.ntmps50
  go_wp2_with fail
  refine HI2.out.mono ?_
  rintro e w2 ⟨⟨i, rfl, hi⟩, k2⟩
  have HK := Lib.hid k2
  have HV := Lib.hid hi
  clear k2 hi
  go_wp2
  go_ret
  exact ⟨ret_bool HV.out, HK.out⟩
theorem needs_1 (w : World) :
    Calls Try.prog 49 #[.int .i64 1] w fun e w' => ∃ b : Nat, e = .returned (.slice (some ⟨b, 0, none⟩) 1 1) ∧ w'.heap[b]? = some (.cells #[.int .i64 1] 3 (0, 0)) ∧ Keeps (fun _ => False) w w' := by
  go_enter Try.func49, Try.ntmps49
  go_wp2
  go_ret
  exact ⟨w.heap.size, rfl, heap_new w _, (Keeps.refl _ _).alloc _⟩
theorem needs_2 (w : World) :
    Calls Try.prog 49 #[.int .i64 2] w fun e w' => ∃ b : Nat, e = .returned (.slice (some ⟨b, 0, none⟩) 1 1) ∧ w'.heap[b]? = some (.cells #[.int .i64 1] 3 (0, 0)) ∧ Keeps (fun _ => False) w w' := by
  go_enter Try.func49, Try.ntmps49
  go_wp2
  go_ret
  exact ⟨w.heap.size, rfl, heap_new w _, (Keeps.refl _ _).alloc _⟩
theorem needs_3 (w : World) :
    Calls Try.prog 49 #[.int .i64 3] w fun e w' => ∃ b : Nat, e = .returned (.slice (some ⟨b, 0, none⟩) 2 2) ∧ w'.heap[b]? = some (.cells #[.int .i64 2, .int .i64 3] 3 (0, 0)) ∧ Keeps (fun _ => False) w w' := by
  go_enter Try.func49, Try.ntmps49
  go_wp2
  go_ret
  exact ⟨w.heap.size, rfl, heap_new w _, (Keeps.refl _ _).alloc _⟩
theorem needs_4 (w : World) :
    Calls Try.prog 49 #[.int .i64 4] w fun e w' => ∃ b : Nat, e = .returned (.slice (some ⟨b, 0, none⟩) 1 1) ∧ w'.heap[b]? = some (.cells #[.int .i64 2] 3 (0, 0)) ∧ Keeps (fun _ => False) w w' := by
  go_enter Try.func49, Try.ntmps49
  go_wp2
  go_ret
  exact ⟨w.heap.size, rfl, heap_new w _, (Keeps.refl _ _).alloc _⟩
theorem needs_5 (w : World) :
    Calls Try.prog 49 #[.int .i64 5] w fun e w' => ∃ b : Nat, e = .returned (.slice (some ⟨b, 0, none⟩) 1 1) ∧ w'.heap[b]? = some (.cells #[.int .i64 3] 3 (0, 0)) ∧ Keeps (fun _ => False) w w' := by
  go_enter Try.func49, Try.ntmps49
  go_wp2
  go_ret
  exact ⟨w.heap.size, rfl, heap_new w _, (Keeps.refl _ _).alloc _⟩
theorem needs_6 (w : World) :
    Calls Try.prog 49 #[.int .i64 6] w fun e w' => ∃ b : Nat, e = .returned (.slice (some ⟨b, 0, none⟩) 1 1) ∧ w'.heap[b]? = some (.cells #[.int .i64 3] 3 (0, 0)) ∧ Keeps (fun _ => False) w w' := by
  go_enter Try.func49, Try.ntmps49
  go_wp2
  go_ret
  exact ⟨w.heap.size, rfl, heap_new w _, (Keeps.refl _ _).alloc _⟩
theorem needs_7 (w : World) :
    Calls Try.prog 49 #[.int .i64 7] w fun e w' => ∃ b : Nat, e = .returned (.slice (some ⟨b, 0, none⟩) 1 1) ∧ w'.heap[b]? = some (.cells #[.int .i64 4] 3 (0, 0)) ∧ Keeps (fun _ => False) w w' := by
  go_enter Try.func49, Try.ntmps49
  go_wp2
  go_ret
  exact ⟨w.heap.size, rfl, heap_new w _, (Keeps.refl _ _).alloc _⟩
theorem needs_8 (w : World) :
    Calls Try.prog 49 #[.int .i64 8] w fun e w' => ∃ b : Nat, e = .returned (.slice (some ⟨b, 0, none⟩) 1 1) ∧ w'.heap[b]? = some (.cells #[.int .i64 4] 3 (0, 0)) ∧ Keeps (fun _ => False) w w' := by
  go_enter Try.func49, Try.ntmps49
  go_wp2
  go_ret
  exact ⟨w.heap.size, rfl, heap_new w _, (Keeps.refl _ _).alloc _⟩
theorem needs_9 (w : World) :
    Calls Try.prog 49 #[.int .i64 9] w fun e w' => ∃ b : Nat, e = .returned (.slice (some ⟨b, 0, none⟩) 1 1) ∧ w'.heap[b]? = some (.cells #[.int .i64 4] 3 (0, 0)) ∧ Keeps (fun _ => False) w w' := by
  go_enter Try.func49, Try.ntmps49
  go_wp2
  go_ret
  exact ⟨w.heap.size, rfl, heap_new w _, (Keeps.refl _ _).alloc _⟩
theorem needs_14 (w : World) :
    Calls Try.prog 49 #[.int .i64 14] w fun e w' => ∃ b : Nat, e = .returned (.slice (some ⟨b, 0, none⟩) 1 1) ∧ w'.heap[b]? = some (.cells #[.int .i64 1] 3 (0, 0)) ∧ Keeps (fun _ => False) w w' := by
  go_enter Try.func49, Try.ntmps49
  go_wp2
  go_ret
  exact ⟨w.heap.size, rfl, heap_new w _, (Keeps.refl _ _).alloc _⟩
theorem needs_15 (w : World) :
    Calls Try.prog 49 #[.int .i64 15] w fun e w' => ∃ b : Nat, e = .returned (.slice (some ⟨b, 0, none⟩) 1 1) ∧ w'.heap[b]? = some (.cells #[.int .i64 1] 3 (0, 0)) ∧ Keeps (fun _ => False) w w' := by
  go_enter Try.func49, Try.ntmps49
  go_wp2
  go_ret
  exact ⟨w.heap.size, rfl, heap_new w _, (Keeps.refl _ _).alloc _⟩
theorem needs_16 (w : World) :
    Calls Try.prog 49 #[.int .i64 16] w fun e w' => ∃ b : Nat, e = .returned (.slice (some ⟨b, 0, none⟩) 1 1) ∧ w'.heap[b]? = some (.cells #[.int .i64 4] 3 (0, 0)) ∧ Keeps (fun _ => False) w w' := by
  go_enter Try.func49, Try.ntmps49
  go_wp2
  go_ret
  exact ⟨w.heap.size, rfl, heap_new w _, (Keeps.refl _ _).alloc _⟩
theorem needs_17 (w : World) :
    Calls Try.prog 49 #[.int .i64 17] w fun e w' => ∃ b : Nat, e = .returned (.slice (some ⟨b, 0, none⟩) 1 1) ∧ w'.heap[b]? = some (.cells #[.int .i64 4] 3 (0, 0)) ∧ Keeps (fun _ => False) w w' := by
  go_enter Try.func49, Try.ntmps49
  go_wp2
  go_ret
  exact ⟨w.heap.size, rfl, heap_new w _, (Keeps.refl _ _).alloc _⟩
theorem needs_x (k : Int) (w : World) (n1 : (k == 1) = false) (n2 : (k == 2) = false) (n3 : (k == 3) = false) (n4 : (k == 4) = false) (n5 : (k == 5) = false) (n6 : (k == 6) = false) (n7 : (k == 7) = false) (n8 : (k == 8) = false) (n9 : (k == 9) = false) (n14 : (k == 14) = false) (n15 : (k == 15) = false) (n16 : (k == 16) = false) (n17 : (k == 17) = false) :
    Calls Try.prog 49 #[.int .i64 k] w fun e w' => e = .returned (.slice none 0 0) ∧ Keeps (fun _ => False) w w' := by
  go_enter Try.func49, Try.ntmps49
  go_wp2
  go_ret
  exact ⟨rfl, Keeps.refl _ _⟩
end Go.Proofs.Ytdhfppflhmoejac
