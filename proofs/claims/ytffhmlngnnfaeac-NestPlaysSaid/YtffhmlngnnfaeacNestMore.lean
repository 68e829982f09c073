import Derived.Test.YtffhmlngnnfaeacNestList
import Derived.Deep.WholeRow
namespace Go.Proofs.Ytffhmlngnnfaeac
open Go.ChangeShapes Go.WideShapes Go.ChangeAt Go.RowKit
set_option linter.unusedVariables false

theorem deep_nil (w : World) : Calls Try.prog 25 #[.pointer none] w fun e w' => e = .returned (.int .i64 0) ∧ w = w' := by
  go_enter Try.func25, Try.ntmps25
  go_wp2
  go_ret
  exact ⟨rfl, rfl⟩
theorem most_nil (w : World) : Calls Try.prog 26 #[.pointer none] w fun e w' => e = .returned (.int .i64 0) ∧ w = w' := by
  go_enter Try.func26, Try.ntmps26
  go_wp2
  go_ret
  exact ⟨rfl, rfl⟩
theorem top_nil (w : World) : Calls Try.prog 23 #[.pointer none] w fun e w' => e = .returned (.int .i64 (-1)) ∧ w = w' := by
  go_enter Try.func23, Try.ntmps23
  go_wp2_with (go_at_call 25; refine (deep_nil _).mono ?_; rintro e w' ⟨rfl, rfl⟩)
  go_ret
  exact ⟨rfl, rfl⟩
theorem list_nil (w : World) : Calls Try.prog 28 #[.pointer none] w fun e w' => e = .returned (.slice none 0 0) ∧ w = w' := by
  go_enter Try.func28, Try.ntmps28
  go_wp2
  go_ret
  exact ⟨rfl, rfl⟩
theorem copy_nil (w : World) : Calls Try.prog 29 #[.pointer none] w fun e w' => e = .returned (.pointer none) ∧ w = w' := by
  go_enter Try.func29, Try.ntmps29
  go_wp2
  go_ret
  exact ⟨rfl, rfl⟩
theorem leave_nil (w : World) : Calls Try.prog 21 #[.pointer none] w fun e w' => e = .returned (.tuple #[.int .i64 0, .bool false]) ∧ w = w' := by
  go_enter Try.func21, Try.ntmps21
  go_wp2_with (go_at_call 25; refine (deep_nil _).mono ?_; rintro e w' ⟨rfl, rfl⟩)
  exact bodyPost_ret (v := .tuple #[.int .i64 0, .bool false]) (by simp [results, Try.results21, go_sem]) rfl ⟨rfl, rfl⟩
theorem enter_nil (k : Int) (w : World) : Calls Try.prog 19 #[.pointer none, .int .i64 k] w fun e w' => e = .returned (.bool false) ∧ Keeps (fun _ => False) w w' := by
  have hmf : ∀ (fn : Fn) (first cap : Array Value) (w : World), (Instr.makeFunc fn first cap).run Try.prog w = .ok (.func fn first cap) w := fun _ _ _ _ => rfl
  go_enter Try.func19, Try.ntmps19
  go_wp2
  go_ret
  exact ⟨rfl, (Keeps.refl _ _).alloc _⟩
/-- A copy: another block, the same cells. -/
theorem copy_any (b : Nat) (L : Nat → Int) (d m : Nat) (w : World) (h : IsNest w b L d m) :
    Calls Try.prog 29 #[.pointer (some ⟨b, 0, none⟩)] w fun e w' => e = .returned (.pointer (some ⟨w.heap.size, 0, none⟩)) ∧ IsNest w' w.heap.size L d m ∧ Keeps (fun _ => False) w w' := by
  obtain ⟨cs, hb, hs, hl, hd, hm⟩ := h
  have l1 := lt_of hb
  have hi : (Try.prog.info? 46).map (·.size) = some cs.size := by rw [hs]; kernel_rfl
  have h1 : cs.all (·.oneCell') = true := by
    rw [Array.all_eq_true]
    intro i hi
    have hx : cs[i]? = some cs[i] := Array.getElem?_eq_getElem hi
    by_cases h1 : i < 32
    · rw [hl i h1] at hx; rw [← Option.some.inj hx]; rfl
    · by_cases h2 : i = 32
      · subst h2; rw [hd] at hx; rw [← Option.some.inj hx]; rfl
      · obtain rfl : i = 33 := by omega
        rw [hm] at hx; rw [← Option.some.inj hx]; rfl
  have HB := Lib.hid (And.intro hb (And.intro hs (And.intro hl (And.intro hd hm))))
  have HI := Lib.hid hi
  have H1 := Lib.hid h1
  clear hb hs hl hd hm hi h1
  go_enter Try.func29, Try.ntmps29
  go_wp2_with (first
    | (with_reducible refine wpList_load_row rfl 46 (.tmp 7) rfl b rfl 46 cs (0, 0) _ HB.out.1 Try.underlying46 rfl HI.out ?_)
    | (refine wpList_store_row rfl 46 (.tmp 3) (.tmp 8) rfl w.heap.size cs rfl rfl 46 _ (heap_new _ _) HI.out (by rw [HB.out.2.1]; rfl) H1.out ?_; rw [World.setRow_alloc_new]))

  go_ret
  exact ⟨rfl, ⟨cs, heap_new _ _, HB.out.2⟩, (Keeps.refl _ _).alloc _⟩
end Go.Proofs.Ytffhmlngnnfaeac
