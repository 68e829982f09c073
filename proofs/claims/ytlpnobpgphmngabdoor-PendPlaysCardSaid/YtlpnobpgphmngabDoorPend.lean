import Derived.Test.YtlpnobpgphmngabDoorWordHigh
import Derived.Test.YtlpnobpgphmngabDoorKeep
namespace Go.Proofs.YtlpnobpgphmngabDoor
open Go.ChangeShapes Go.WideShapes Go.ChangeAt Go.RowKit
set_option linter.unusedVariables false
/-- Block b: the levels x are pending, t were taken, m merged. -/
def IsPend (w : World) (b : Nat) (x t m : Nat) : Prop :=
  w.heap[b]? = some (.cells #[.int .u32 (x : Int), .int .i64 (t : Int), .int .i64 (m : Int)] 27 (0, 0))
theorem IsPend.keeps {S : Nat → Prop} {w w' : World} {b x t m : Nat} (h : IsPend w b x t m) (hk : Keeps S w w') (hs : ¬ S b) : IsPend w' b x t m := hk.at h hs
theorem bits_of (b x t m : Nat) (w : World) (h : IsPend w b x t m) :
    Calls Tryd.prog 12 #[.pointer (some ⟨b, 0, none⟩)] w fun e w' => e = .returned (.int .u32 (x : Int)) ∧ w = w' := by
  have c0 : w.cell? ⟨b, 0, none⟩ = some (.int .u32 (x : Int)) := cell_of h 0
  clear h
  go_enter Tryd.func12, Tryd.ntmps12
  go_wp2
  go_ret
  exact ⟨rfl, rfl⟩
theorem ptop_any (b x t m : Nat) (w : World) (hx : x < 4294967296) (h : IsPend w b x t m) :
    Calls Tryd.prog 14 #[.pointer (some ⟨b, 0, none⟩)] w fun e w' => e = .returned (.int .i64 ((Lib.bitLen x : Int) - 1)) ∧ w = w' := by
  have H := Lib.hid h
  clear h
  go_enter Tryd.func14, Tryd.ntmps14
  go_wp2_with fail
  refine (bits_of b x t m _ H.out).mono ?_
  rintro e w' ⟨rfl, rfl⟩
  go_wp2_with fail
  refine (high_any x _ hx).mono ?_
  rintro e w' ⟨rfl, rfl⟩
  go_wp2
  go_ret
  exact ⟨rfl, rfl⟩
theorem plevel_any (i : Int) (w : World) :
    Calls Tryd.prog 29 #[.int .i64 i] w fun e w' => e = .returned (.bool (decide (0 ≤ i ∧ i ≤ 31))) ∧ w = w' := by
  go_enter Tryd.func29, Tryd.ntmps29
  go_wp2
  all_goals
    go_ret
    refine ⟨ret_bool ?_, rfl⟩
    rw [Bool.eq_iff_iff]
    simp only [decide_eq_true_eq, Bool.and_eq_true, Bool.false_eq_true, false_iff]
    omega
theorem raise_out (b x t m : Nat) (i : Int) (w : World) (h : IsPend w b x t m) (hi : ¬ (0 ≤ i ∧ i ≤ 31)) :
    Calls Tryd.prog 7 #[.pointer (some ⟨b, 0, none⟩), .int .i64 i] w fun e w' => e = .returned (.bool false) ∧ w = w' := by
  have hd := Lib.hid (decide_eq_false hi)
  clear hi h
  go_enter Tryd.func7, Tryd.ntmps7
  go_wp2_with fail
  refine (plevel_any _ _).mono ?_
  rintro e w' ⟨rfl, rfl⟩
  rw [hd.out]
  go_wp2
  go_ret
  exact ⟨rfl, rfl⟩
theorem raise_had (b x t m k : Nat) (w : World) (hx : x < 4294967296) (hm : m < 4611686018427387904) (h : IsPend w b x t m) (hk : k < 32) (hb : x.testBit k = true) :
    Calls Tryd.prog 7 #[.pointer (some ⟨b, 0, none⟩), .int .i64 k] w fun e w' => e = .returned (.bool false) ∧ IsPend w' b x t (m + 1) ∧ Keeps (fun k => k = b) w w' := by
  have hd := Lib.hid (show decide ((0 : Int) ≤ (k : Int) ∧ (k : Int) ≤ 31) = true by simp; omega)
  have hh := Lib.hid (show hasB x k = true by rw [hasB_nat hk]; exact hb)
  have c0 : w.cell? ⟨b, 0, none⟩ = some (.int .u32 (x : Int)) := cell_of h 0
  have c2 : w.cell? ⟨b, 2, none⟩ = some (.int .i64 (m : Int)) := cell_of h 2
  have f2 : w.frozen? ⟨b, 2, none⟩ = false := free_of h 2
  have lb := lt_of h
  have H := Lib.hid h
  clear h hb
  go_enter Tryd.func7, Tryd.ntmps7
  go_wp2_with fail
  refine (plevel_any _ _).mono ?_
  rintro e w' ⟨rfl, rfl⟩
  rw [hd.out]
  go_wp2_with fail
  refine (has_any x _ _ hx).mono ?_
  rintro e w' ⟨rfl, rfl⟩
  rw [hh.out]
  go_wp2
  go_ret
  exact ⟨rfl, heap_set H.out 2 _, Keeps.setCell (S := fun k => k = b) (Keeps.refl _ w) (p := ⟨b, 2, none⟩) (.inl rfl) _⟩
theorem raise_new (b x t m k : Nat) (w : World) (hx : x < 4294967296) (h : IsPend w b x t m) (hk : k < 32) (hb : x.testBit k = false) :
    Calls Tryd.prog 7 #[.pointer (some ⟨b, 0, none⟩), .int .i64 k] w fun e w' => e = .returned (.bool true) ∧ IsPend w' b (setB x k) t m ∧ Keeps (fun k => k = b) w w' := by
  have hd := Lib.hid (show decide ((0 : Int) ≤ (k : Int) ∧ (k : Int) ≤ 31) = true by simp; omega)
  have hh := Lib.hid (show hasB x k = false by rw [hasB_nat hk]; exact hb)
  have c0 : w.cell? ⟨b, 0, none⟩ = some (.int .u32 (x : Int)) := cell_of h 0
  have f0 : w.frozen? ⟨b, 0, none⟩ = false := free_of h 0
  have lb := lt_of h
  have H := Lib.hid h
  clear h hb
  go_enter Tryd.func7, Tryd.ntmps7
  go_wp2_with fail
  refine (plevel_any _ _).mono ?_
  rintro e w' ⟨rfl, rfl⟩
  rw [hd.out]
  go_wp2_with fail
  refine (has_any x _ _ hx).mono ?_
  rintro e w' ⟨rfl, rfl⟩
  rw [hh.out]
  go_wp2_with fail
  refine (with_any x _ _ hx).mono ?_
  rintro e w' ⟨rfl, rfl⟩
  go_wp2
  go_ret
  exact ⟨rfl, heap_set H.out 0 _, Keeps.setCell (S := fun k => k = b) (Keeps.refl _ w) (p := ⟨b, 0, none⟩) (.inl rfl) _⟩
theorem take_no (b x t m : Nat) (i : Int) (w : World) (hx : x < 4294967296) (h : IsPend w b x t m) (hb : hasB x i = false) :
    Calls Tryd.prog 9 #[.pointer (some ⟨b, 0, none⟩), .int .i64 i] w fun e w' => e = .returned (.bool false) ∧ w = w' := by
  have hh := Lib.hid hb
  have c0 : w.cell? ⟨b, 0, none⟩ = some (.int .u32 (x : Int)) := cell_of h 0
  clear h hb
  go_enter Tryd.func9, Tryd.ntmps9
  go_wp2_with fail
  refine (has_any x _ _ hx).mono ?_
  rintro e w' ⟨rfl, rfl⟩
  rw [hh.out]
  go_wp2
  go_ret
  exact ⟨rfl, rfl⟩
theorem take_yes (b x t m : Nat) (i : Int) (w : World) (hx : x < 4294967296) (ht : t < 4611686018427387904) (h : IsPend w b x t m) (hb : hasB x i = true) :
    Calls Tryd.prog 9 #[.pointer (some ⟨b, 0, none⟩), .int .i64 i] w fun e w' => e = .returned (.bool true) ∧ IsPend w' b (clrB x i) (t + 1) m ∧ Keeps (fun k => k = b) w w' := by
  have hh := Lib.hid hb
  have c0 : w.cell? ⟨b, 0, none⟩ = some (.int .u32 (x : Int)) := cell_of h 0
  have c1 : w.cell? ⟨b, 1, none⟩ = some (.int .i64 (t : Int)) := cell_of h 1
  have f0 : w.frozen? ⟨b, 0, none⟩ = false := free_of h 0
  have f1 : w.frozen? ⟨b, 1, none⟩ = false := free_of h 1
  have lb := lt_of h
  have H := Lib.hid h
  clear h hb
  go_enter Tryd.func9, Tryd.ntmps9
  go_wp2_with fail
  refine (has_any x _ _ hx).mono ?_
  rintro e w' ⟨rfl, rfl⟩
  rw [hh.out]
  go_wp2_with fail
  refine (without_any x _ _ hx).mono ?_
  rintro e w' ⟨rfl, rfl⟩
  go_wp2
  go_ret
  refine ⟨rfl, heap_set (heap_set H.out 0 _) 1 _, ?_⟩
  exact Keeps.setCell (S := fun k => k = b) (Keeps.setCell (S := fun k => k = b) (Keeps.refl _ w) (p := ⟨b, 0, none⟩) (.inl rfl) _) (p := ⟨b, 1, none⟩) (.inl rfl) _
end Go.Proofs.YtlpnobpgphmngabDoor
