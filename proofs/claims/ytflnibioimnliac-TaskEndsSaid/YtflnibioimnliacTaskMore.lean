import Derived.Test.YtflnibioimnliacTask
namespace Go.Proofs.Ytflnibioimnliac
open Go.ChangeShapes Go.WideShapes Go.ChangeAt Go.RowKit
set_option linter.unusedVariables false

/-- Who is not ready is given nothing. -/
theorem give_no (b : Nat) (st bits : Int) (ans : Option (Bool × Int × Int)) (x : Bool) (y z : Int) (w : World) (hst : (st != 1) = true) (h : IsTask w b st bits ans) :
    Calls Try.prog 35 #[.pointer (some ⟨b, 0, none⟩), .agg #[.bool x, .int .u32 y, .int .u32 z]] w fun e w' => e = .returned (.bool false) ∧ Keeps (fun _ => False) w w' := by
  have HT := Lib.hid (h.keeps ((Keeps.refl (fun _ => False) _).alloc (.cells #[.bool x, .int .u32 y, .int .u32 z] 76)) fun _ _ h => h)
  clear h
  go_enter Try.func35, Try.ntmps35
  go_wp2_with (go_at_call 41; refine (state_any _ _ _ _ _ HT.out).mono ?_; rintro e w' ⟨rfl, rfl⟩)
  go_ret
  exact ⟨rfl, (Keeps.refl _ _).alloc _⟩
theorem wake_no (b : Nat) (st bits : Int) (ans : Option (Bool × Int × Int)) (x : Bool) (y z : Int) (w : World) (h2 : (st == 2) = false) (h3 : (st == 3) = false) (h : IsTask w b st bits ans) :
    Calls Try.prog 39 #[.pointer (some ⟨b, 0, none⟩), .agg #[.bool x, .int .u32 y, .int .u32 z]] w fun e w' => e = .returned (.bool false) ∧ Keeps (fun _ => False) w w' := by
  have HT := Lib.hid (h.keeps ((Keeps.refl (fun _ => False) _).alloc (.cells #[.bool x, .int .u32 y, .int .u32 z] 76)) fun _ _ h => h)
  clear h
  go_enter Try.func39, Try.ntmps39
  go_wp2_with (go_at_call 41; refine (state_any _ _ _ _ _ HT.out).mono ?_; rintro e w' ⟨rfl, rfl⟩)
  go_ret
  exact ⟨rfl, (Keeps.refl _ _).alloc _⟩
theorem change_zero (b : Nat) (bits : Int) (ans : Option (Bool × Int × Int)) (f : Value) (w : World) (h : IsTask w b 0 bits ans) :
    Calls Try.prog 48 #[.pointer (some ⟨b, 0, none⟩), f] w fun e w' => e = .returned (.int .u32 0) ∧ w = w' := by
  have HT := Lib.hid h
  clear h
  go_enter Try.func48, Try.ntmps48
  go_wp2_with (go_at_call 41; refine (state_any _ _ _ _ _ HT.out).mono ?_; rintro e w' ⟨rfl, rfl⟩)
  go_ret
  exact ⟨rfl, rfl⟩
theorem bits_zero (b : Nat) (bits : Int) (ans : Option (Bool × Int × Int)) (w : World) (h : IsTask w b 0 bits ans) :
    Calls Try.prog 42 #[.pointer (some ⟨b, 0, none⟩)] w fun e w' => e = .returned (.int .u32 0) ∧ w = w' := by
  have HT := Lib.hid h
  clear h
  go_enter Try.func42, Try.ntmps42
  go_wp2_with (go_at_call 48; refine (change_zero _ _ _ _ _ HT.out).mono ?_; rintro e w' ⟨rfl, rfl⟩)
  go_ret
  exact ⟨rfl, rfl⟩
theorem note_zero (b : Nat) (bits : Int) (ans : Option (Bool × Int × Int)) (more : Int) (w : World) (h : IsTask w b 0 bits ans) :
    Calls Try.prog 40 #[.pointer (some ⟨b, 0, none⟩), .int .u32 more] w fun e w' => e = .returned (.int .u32 0) ∧ Keeps (fun _ => False) w w' := by
  have hmf : ∀ (fn : Fn) (first cap : Array Value) (w : World), (Instr.makeFunc fn first cap).run Try.prog w = .ok (.func fn first cap) w := fun _ _ _ _ => rfl
  have HT := Lib.hid (h.keeps ((Keeps.refl (fun _ => False) _).alloc (.cells #[.int .u32 more] 28)) fun _ _ h => h)
  clear h
  go_enter Try.func40, Try.ntmps40
  go_wp2_with (first | (go_at_call 48; refine (change_zero _ _ _ _ _ HT.out).mono ?_; rintro e w' ⟨rfl, rfl⟩) | (go_at_call 42; refine (bits_zero _ _ _ _ HT.out).mono ?_; rintro e w' ⟨rfl, rfl⟩))
  go_ret
  exact ⟨rfl, (Keeps.refl _ _).alloc _⟩

/-! ### No task -/
theorem state_nil (w : World) : Calls Try.prog 41 #[.pointer none] w fun e w' => e = .returned (.int .i64 0) ∧ w = w' := by
  go_enter Try.func41, Try.ntmps41
  go_wp2
  go_ret
  exact ⟨rfl, rfl⟩
theorem go_nil (st : Int) (w : World) : Calls Try.prog 38 #[.pointer none, .int .i64 st] w fun e w' => e = .returned (.bool false) ∧ w = w' := by
  go_enter Try.func38, Try.ntmps38
  go_wp2_with (go_at_call 41; refine (state_nil _).mono ?_; rintro e w' ⟨rfl, rfl⟩)
  go_ret
  exact ⟨rfl, rfl⟩
theorem give_nil (x : Bool) (y z : Int) (w : World) :
    Calls Try.prog 35 #[.pointer none, .agg #[.bool x, .int .u32 y, .int .u32 z]] w fun e w' => e = .returned (.bool false) ∧ Keeps (fun _ => False) w w' := by
  go_enter Try.func35, Try.ntmps35
  go_wp2_with (go_at_call 41; refine (state_nil _).mono ?_; rintro e w' ⟨rfl, rfl⟩)
  go_ret
  exact ⟨rfl, (Keeps.refl _ _).alloc _⟩
theorem change_nil (f : Value) (w : World) : Calls Try.prog 48 #[.pointer none, f] w fun e w' => e = .returned (.int .u32 0) ∧ w = w' := by
  go_enter Try.func48, Try.ntmps48
  go_wp2_with (go_at_call 41; refine (state_nil _).mono ?_; rintro e w' ⟨rfl, rfl⟩)
  go_ret
  exact ⟨rfl, rfl⟩
theorem bits_nil (w : World) : Calls Try.prog 42 #[.pointer none] w fun e w' => e = .returned (.int .u32 0) ∧ w = w' := by
  go_enter Try.func42, Try.ntmps42
  go_wp2_with (go_at_call 48; refine (change_nil _ _).mono ?_; rintro e w' ⟨rfl, rfl⟩)
  go_ret
  exact ⟨rfl, rfl⟩
theorem clear_nil (w : World) : Calls Try.prog 43 #[.pointer none] w fun e w' => e = .returned (.int .u32 0) ∧ w = w' := by
  go_enter Try.func43, Try.ntmps43
  go_wp2_with (go_at_call 48; refine (change_nil _ _).mono ?_; rintro e w' ⟨rfl, rfl⟩)
  go_ret
  exact ⟨rfl, rfl⟩
theorem note_nil (more : Int) (w : World) : Calls Try.prog 40 #[.pointer none, .int .u32 more] w fun e w' => e = .returned (.int .u32 0) ∧ Keeps (fun _ => False) w w' := by
  have hmf : ∀ (fn : Fn) (first cap : Array Value) (w : World), (Instr.makeFunc fn first cap).run Try.prog w = .ok (.func fn first cap) w := fun _ _ _ _ => rfl
  go_enter Try.func40, Try.ntmps40
  go_wp2_with (first | (go_at_call 48; refine (change_nil _ _).mono ?_; rintro e w' ⟨rfl, rfl⟩) | (go_at_call 42; refine (bits_nil _).mono ?_; rintro e w' ⟨rfl, rfl⟩))
  go_ret
  exact ⟨rfl, (Keeps.refl _ _).alloc _⟩
theorem taken_nil (w : World) :
    Calls Try.prog 37 #[.pointer none] w fun e w' => e = .returned (.tuple #[.agg #[.bool false, .int .u32 0, .int .u32 0], .bool false]) ∧ Keeps (fun _ => False) w w' := by
  go_enter Try.func37, Try.ntmps37
  go_wp2
  exact bodyPost_ret (v := .tuple #[.agg #[.bool false, .int .u32 0, .int .u32 0], .bool false]) (by simp [results, Try.results37, go_sem]) rfl ⟨rfl, (Keeps.refl _ _).alloc _⟩
theorem copy_nil (w : World) : Calls Try.prog 36 #[.pointer none] w fun e w' => e = .returned (.pointer none) ∧ w = w' := by
  go_enter Try.func36, Try.ntmps36
  go_wp2_with (go_at_call 41; refine (state_nil _).mono ?_; rintro e w' ⟨rfl, rfl⟩)
  go_ret
  exact ⟨rfl, rfl⟩
/-- A copy of a task that has an answer: another one, whose answer is its own. -/
theorem copy_some (b : Nat) (st bits : Int) (x : Bool) (y z : Int) (w : World) (hst : (st == 0) = false) (h : IsTask w b st bits (some (x, y, z))) :
    Calls Try.prog 36 #[.pointer (some ⟨b, 0, none⟩)] w fun e w' => e = .returned (.pointer (some ⟨w.heap.size, 0, none⟩)) ∧ IsTask w' w.heap.size st bits (some (x, y, z)) ∧ Keeps (fun _ => False) w w' := by
  have HT := Lib.hid h
  obtain ⟨v, hb, q, rfl, hq⟩ := h
  have hlt := lt_of hb
  have hqlt := lt_of hq
  have c0 : w.cell? ⟨b, 0, none⟩ = some (.int .i64 st) := cell_of hb 0
  have c1 : w.cell? ⟨b, 1, none⟩ = some (.int .u32 bits) := cell_of hb 1
  have c2 : w.cell? ⟨b, 2, none⟩ = some (.pointer (some ⟨q, 0, none⟩)) := cell_of hb 2
  have q0 : w.cell? ⟨q, 0, none⟩ = some (.bool x) := cell_of hq 0
  have q1 : w.cell? ⟨q, 1, none⟩ = some (.int .u32 y) := cell_of hq 1
  have q2 : w.cell? ⟨q, 2, none⟩ = some (.int .u32 z) := cell_of hq 2
  clear hb hq
  go_enter Try.func36, Try.ntmps36
  go_wp2_with (go_at_call 41; refine (state_any _ _ _ _ _ HT.out).mono ?_; rintro e w' ⟨rfl, rfl⟩)
  go_ret
  refine ⟨rfl, ⟨_, heap_old (heap_new _ _) _, _, rfl, ?_⟩, ((Keeps.refl _ _).alloc _).alloc _⟩
  have e : ∀ o o2, ((w.alloc o).alloc o2).heap[w.heap.size + 1]? = some o2 := fun o o2 => by
    have := heap_new (w.alloc o) o2
    rwa [show (w.alloc o).heap.size = w.heap.size + 1 by simp] at this
  exact e _ _
end Go.Proofs.Ytflnibioimnliac
