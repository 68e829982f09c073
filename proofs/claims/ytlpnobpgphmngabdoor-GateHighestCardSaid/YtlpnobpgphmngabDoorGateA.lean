import Derived.Test.YtlpnobpgphmngabDoorWordHigh
import Derived.Test.YtlpnobpgphmngabDoorKeep
import Derived.BigRegion
namespace Go.Proofs.YtlpnobpgphmngabDoor
open Go.ChangeShapes Go.WideShapes Go.ChangeAt Go.RowKit
set_option linter.unusedVariables false
/-- What a gate has: pending levels x, t taken, m merged; served levels L, d deep, q at most; mo the greatest level, en entered. -/
structure GS where
  x : Nat
  t : Nat
  m : Nat
  L : Nat → Int
  d : Nat
  q : Nat
  mo : Nat
  en : Nat
def IsGate (w : World) (b : Nat) (s : GS) : Prop :=
  ∃ cs, w.heap[b]? = some (.cells cs 58 (0, 0)) ∧ cs.size = 39 ∧ cs[0]? = some (.int .u32 (s.x : Int)) ∧ cs[1]? = some (.int .i64 (s.t : Int)) ∧ cs[2]? = some (.int .i64 (s.m : Int)) ∧
    (∀ i, i < 32 → cs[3 + i]? = some (.int .i64 (s.L i))) ∧ cs[35]? = some (.int .i64 (s.d : Int)) ∧ cs[36]? = some (.int .i64 (s.q : Int)) ∧ cs[37]? = some (.int .i64 (s.mo : Int)) ∧ cs[38]? = some (.int .i64 (s.en : Int))
section
variable {w w' : World} {b : Nat} {s : GS}
theorem IsGate.keeps {S : Nat → Prop} (h : IsGate w b s) (hk : Keeps S w w') (hs : ¬ S b) : IsGate w' b s := by
  obtain ⟨cs, hb, h⟩ := h
  exact ⟨cs, hk.at hb hs, h⟩
theorem IsGate.none (h : IsGate w b s) (hk : Keeps (fun _ => False) w w') : IsGate w' b s := h.keeps hk fun h => h
theorem IsGate.lt (h : IsGate w b s) : b < w.heap.size := lt_of h.choose_spec.1
theorem IsGate.free (h : IsGate w b s) (i : Nat) : w.frozen? ⟨b, i, Option.none⟩ = false := free_of h.choose_spec.1 i
theorem IsGate.c0 (h : IsGate w b s) : w.cell? ⟨b, 0, Option.none⟩ = some (.int .u32 (s.x : Int)) := (cell_of h.choose_spec.1 0).trans h.choose_spec.2.2.1
theorem IsGate.c1 (h : IsGate w b s) : w.cell? ⟨b, 1, Option.none⟩ = some (.int .i64 (s.t : Int)) := (cell_of h.choose_spec.1 1).trans h.choose_spec.2.2.2.1
theorem IsGate.c2 (h : IsGate w b s) : w.cell? ⟨b, 2, Option.none⟩ = some (.int .i64 (s.m : Int)) := (cell_of h.choose_spec.1 2).trans h.choose_spec.2.2.2.2.1
theorem IsGate.cl (h : IsGate w b s) (i : Nat) (hi : i < 32) : w.cell? ⟨b, 3 + i, Option.none⟩ = some (.int .i64 (s.L i)) := (cell_of h.choose_spec.1 (3 + i)).trans (h.choose_spec.2.2.2.2.2.1 i hi)
theorem IsGate.c35 (h : IsGate w b s) : w.cell? ⟨b, 35, Option.none⟩ = some (.int .i64 (s.d : Int)) := (cell_of h.choose_spec.1 35).trans h.choose_spec.2.2.2.2.2.2.1
theorem IsGate.c36 (h : IsGate w b s) : w.cell? ⟨b, 36, Option.none⟩ = some (.int .i64 (s.q : Int)) := (cell_of h.choose_spec.1 36).trans h.choose_spec.2.2.2.2.2.2.2.1
theorem IsGate.c37 (h : IsGate w b s) : w.cell? ⟨b, 37, Option.none⟩ = some (.int .i64 (s.mo : Int)) := (cell_of h.choose_spec.1 37).trans h.choose_spec.2.2.2.2.2.2.2.2.1
theorem IsGate.c38 (h : IsGate w b s) : w.cell? ⟨b, 38, Option.none⟩ = some (.int .i64 (s.en : Int)) := (cell_of h.choose_spec.1 38).trans h.choose_spec.2.2.2.2.2.2.2.2.2
theorem IsGate.setX (h : IsGate w b s) (y : Nat) : IsGate (w.setCell ⟨b, 0, Option.none⟩ (.int .u32 (y : Int))) b { s with x := y } := by
  obtain ⟨cs, hb, hs, h0, h1, h2, hl, h35, h36, h37, h38⟩ := h
  refine ⟨_, heap_set hb _ _, by simp [hs], ?_, ?_, ?_, ?_, ?_, ?_, ?_, ?_⟩
  · rw [Array.getElem?_setIfInBounds, if_pos rfl, if_pos (by omega)]
  · rw [Array.getElem?_setIfInBounds_ne (by omega)]; exact h1
  · rw [Array.getElem?_setIfInBounds_ne (by omega)]; exact h2
  · intro i hi; rw [Array.getElem?_setIfInBounds_ne (by omega)]; exact hl i hi
  · rw [Array.getElem?_setIfInBounds_ne (by omega)]; exact h35
  · rw [Array.getElem?_setIfInBounds_ne (by omega)]; exact h36
  · rw [Array.getElem?_setIfInBounds_ne (by omega)]; exact h37
  · rw [Array.getElem?_setIfInBounds_ne (by omega)]; exact h38
theorem IsGate.setT (h : IsGate w b s) (y : Nat) : IsGate (w.setCell ⟨b, 1, Option.none⟩ (.int .i64 (y : Int))) b { s with t := y } := by
  obtain ⟨cs, hb, hs, h0, h1, h2, hl, h35, h36, h37, h38⟩ := h
  refine ⟨_, heap_set hb _ _, by simp [hs], ?_, ?_, ?_, ?_, ?_, ?_, ?_, ?_⟩
  · rw [Array.getElem?_setIfInBounds_ne (by omega)]; exact h0
  · rw [Array.getElem?_setIfInBounds, if_pos rfl, if_pos (by omega)]
  · rw [Array.getElem?_setIfInBounds_ne (by omega)]; exact h2
  · intro i hi; rw [Array.getElem?_setIfInBounds_ne (by omega)]; exact hl i hi
  · rw [Array.getElem?_setIfInBounds_ne (by omega)]; exact h35
  · rw [Array.getElem?_setIfInBounds_ne (by omega)]; exact h36
  · rw [Array.getElem?_setIfInBounds_ne (by omega)]; exact h37
  · rw [Array.getElem?_setIfInBounds_ne (by omega)]; exact h38
theorem IsGate.setM (h : IsGate w b s) (y : Nat) : IsGate (w.setCell ⟨b, 2, Option.none⟩ (.int .i64 (y : Int))) b { s with m := y } := by
  obtain ⟨cs, hb, hs, h0, h1, h2, hl, h35, h36, h37, h38⟩ := h
  refine ⟨_, heap_set hb _ _, by simp [hs], ?_, ?_, ?_, ?_, ?_, ?_, ?_, ?_⟩
  · rw [Array.getElem?_setIfInBounds_ne (by omega)]; exact h0
  · rw [Array.getElem?_setIfInBounds_ne (by omega)]; exact h1
  · rw [Array.getElem?_setIfInBounds, if_pos rfl, if_pos (by omega)]
  · intro i hi; rw [Array.getElem?_setIfInBounds_ne (by omega)]; exact hl i hi
  · rw [Array.getElem?_setIfInBounds_ne (by omega)]; exact h35
  · rw [Array.getElem?_setIfInBounds_ne (by omega)]; exact h36
  · rw [Array.getElem?_setIfInBounds_ne (by omega)]; exact h37
  · rw [Array.getElem?_setIfInBounds_ne (by omega)]; exact h38
theorem IsGate.setD (h : IsGate w b s) (y : Nat) : IsGate (w.setCell ⟨b, 35, Option.none⟩ (.int .i64 (y : Int))) b { s with d := y } := by
  obtain ⟨cs, hb, hs, h0, h1, h2, hl, h35, h36, h37, h38⟩ := h
  refine ⟨_, heap_set hb _ _, by simp [hs], ?_, ?_, ?_, ?_, ?_, ?_, ?_, ?_⟩
  · rw [Array.getElem?_setIfInBounds_ne (by omega)]; exact h0
  · rw [Array.getElem?_setIfInBounds_ne (by omega)]; exact h1
  · rw [Array.getElem?_setIfInBounds_ne (by omega)]; exact h2
  · intro i hi; rw [Array.getElem?_setIfInBounds_ne (by omega)]; exact hl i hi
  · rw [Array.getElem?_setIfInBounds, if_pos rfl, if_pos (by omega)]
  · rw [Array.getElem?_setIfInBounds_ne (by omega)]; exact h36
  · rw [Array.getElem?_setIfInBounds_ne (by omega)]; exact h37
  · rw [Array.getElem?_setIfInBounds_ne (by omega)]; exact h38
theorem IsGate.setQ (h : IsGate w b s) (y : Nat) : IsGate (w.setCell ⟨b, 36, Option.none⟩ (.int .i64 (y : Int))) b { s with q := y } := by
  obtain ⟨cs, hb, hs, h0, h1, h2, hl, h35, h36, h37, h38⟩ := h
  refine ⟨_, heap_set hb _ _, by simp [hs], ?_, ?_, ?_, ?_, ?_, ?_, ?_, ?_⟩
  · rw [Array.getElem?_setIfInBounds_ne (by omega)]; exact h0
  · rw [Array.getElem?_setIfInBounds_ne (by omega)]; exact h1
  · rw [Array.getElem?_setIfInBounds_ne (by omega)]; exact h2
  · intro i hi; rw [Array.getElem?_setIfInBounds_ne (by omega)]; exact hl i hi
  · rw [Array.getElem?_setIfInBounds_ne (by omega)]; exact h35
  · rw [Array.getElem?_setIfInBounds, if_pos rfl, if_pos (by omega)]
  · rw [Array.getElem?_setIfInBounds_ne (by omega)]; exact h37
  · rw [Array.getElem?_setIfInBounds_ne (by omega)]; exact h38
theorem IsGate.setE (h : IsGate w b s) (y : Nat) : IsGate (w.setCell ⟨b, 38, Option.none⟩ (.int .i64 (y : Int))) b { s with en := y } := by
  obtain ⟨cs, hb, hs, h0, h1, h2, hl, h35, h36, h37, h38⟩ := h
  refine ⟨_, heap_set hb _ _, by simp [hs], ?_, ?_, ?_, ?_, ?_, ?_, ?_, ?_⟩
  · rw [Array.getElem?_setIfInBounds_ne (by omega)]; exact h0
  · rw [Array.getElem?_setIfInBounds_ne (by omega)]; exact h1
  · rw [Array.getElem?_setIfInBounds_ne (by omega)]; exact h2
  · intro i hi; rw [Array.getElem?_setIfInBounds_ne (by omega)]; exact hl i hi
  · rw [Array.getElem?_setIfInBounds_ne (by omega)]; exact h35
  · rw [Array.getElem?_setIfInBounds_ne (by omega)]; exact h36
  · rw [Array.getElem?_setIfInBounds_ne (by omega)]; exact h37
  · rw [Array.getElem?_setIfInBounds, if_pos rfl, if_pos (by omega)]
theorem IsGate.setL (h : IsGate w b s) (n : Nat) (k : Int) (hn : n < 32) : IsGate (w.setCell ⟨b, 3 + n, Option.none⟩ (.int .i64 k)) b { s with L := fun i => if i = n then k else s.L i } := by
  obtain ⟨cs, hb, hs, h0, h1, h2, hl, h35, h36, h37, h38⟩ := h
  refine ⟨_, heap_set hb _ _, by simp [hs], ?_, ?_, ?_, ?_, ?_, ?_, ?_, ?_⟩
  · rw [Array.getElem?_setIfInBounds_ne (by omega)]; exact h0
  · rw [Array.getElem?_setIfInBounds_ne (by omega)]; exact h1
  · rw [Array.getElem?_setIfInBounds_ne (by omega)]; exact h2
  · intro i hi
    show _ = some (Value.int .i64 (if i = n then k else s.L i))
    by_cases e : i = n
    · subst e; rw [if_pos rfl, Array.getElem?_setIfInBounds, if_pos rfl, if_pos (by omega)]
    · rw [if_neg e, Array.getElem?_setIfInBounds_ne (by omega)]; exact hl i hi
  · rw [Array.getElem?_setIfInBounds_ne (by omega)]; exact h35
  · rw [Array.getElem?_setIfInBounds_ne (by omega)]; exact h36
  · rw [Array.getElem?_setIfInBounds_ne (by omega)]; exact h37
  · rw [Array.getElem?_setIfInBounds_ne (by omega)]; exact h38
theorem IsGate.drew (h : IsGate w b s) : IsGate w.drew b s := h
theorem IsGate.drewN (h : IsGate w b s) (n : Nat) : IsGate (w.drewN n) b s := h
end
theorem Keeps.setB {a w : World} {b : Nat} (h : Keeps (fun k => k = b) a w) (i : Nat) (u : Value) : Keeps (fun k => k = b) a (w.setCell ⟨b, i, Option.none⟩ u) := h.setCell (p := ⟨b, i, Option.none⟩) (.inl rfl) u

theorem gbits (b : Nat) (s : GS) (w : World) (h : IsGate w b s) :
    Calls Tryd.prog 12 #[.pointer (some ⟨b, 0, none⟩)] w fun e w' => e = .returned (.int .u32 (s.x : Int)) ∧ w = w' := by
  have c0 := h.c0
  clear h
  go_enter Tryd.func12, Tryd.ntmps12
  go_wp2
  go_ret
  exact ⟨rfl, rfl⟩
theorem plevel_any (i : Int) (w : World) :
    Calls Tryd.prog 29 #[.int .i64 i] w fun e w' => e = .returned (.bool (decide (0 ≤ i ∧ i ≤ 31))) ∧ w = w' := by
  go_enter Tryd.func29, Tryd.ntmps29
  go_wp2
  all_goals
    go_ret
    refine ⟨ret_bool ?_, rfl⟩
    rw [Bool.eq_iff_iff]
    simp only [decide_eq_true_eq, Bool.and_eq_true, Bool.false_eq_true, false_iff]
    omega
theorem gpraise_out (b : Nat) (s : GS) (i : Int) (w : World) (h : IsGate w b s) (hi : ¬ (0 ≤ i ∧ i ≤ 31)) :
    Calls Tryd.prog 7 #[.pointer (some ⟨b, 0, none⟩), .int .i64 i] w fun e w' => e = .returned (.bool false) ∧ w = w' := by
  have hd := Lib.hid (decide_eq_false hi)
  clear hi h
  go_enter Tryd.func7, Tryd.ntmps7
  go_wp2_with fail
  refine (plevel_any _ _).mono ?_
  rintro e w' ⟨rfl, rfl⟩
  rw [hd.out]
  go_wp2
  go_ret
  exact ⟨rfl, rfl⟩
theorem gpraise_had (b k : Nat) (s : GS) (w : World) (hx : s.x < 4294967296) (hm : s.m < 4611686018427387904) (h : IsGate w b s) (hk : k < 32) (hb : s.x.testBit k = true) :
    Calls Tryd.prog 7 #[.pointer (some ⟨b, 0, none⟩), .int .i64 k] w fun e w' => e = .returned (.bool false) ∧ IsGate w' b { s with m := s.m + 1 } ∧ Keeps (fun k => k = b) w w' := by
  have hd := Lib.hid (show decide ((0 : Int) ≤ (k : Int) ∧ (k : Int) ≤ 31) = true by simp; omega)
  have hh := Lib.hid (show hasB s.x k = true by rw [hasB_nat hk]; exact hb)
  have c0 := h.c0
  have c2 := h.c2
  have f2 := h.free 2
  have lb := h.lt
  have H := Lib.hid h
  clear h hb
  go_enter Tryd.func7, Tryd.ntmps7
  go_wp2_with fail
  refine (plevel_any _ _).mono ?_
  rintro e w' ⟨rfl, rfl⟩
  rw [hd.out]
  go_wp2_with fail
  refine (has_any s.x _ _ hx).mono ?_
  rintro e w' ⟨rfl, rfl⟩
  rw [hh.out]
  go_wp2
  go_ret
  exact ⟨rfl, H.out.setM (s.m + 1), (Keeps.refl (fun k => k = b) w).setB 2 _⟩
theorem gpraise_new (b k : Nat) (s : GS) (w : World) (hx : s.x < 4294967296) (h : IsGate w b s) (hk : k < 32) (hb : s.x.testBit k = false) :
    Calls Tryd.prog 7 #[.pointer (some ⟨b, 0, none⟩), .int .i64 k] w fun e w' => e = .returned (.bool true) ∧ IsGate w' b { s with x := setB s.x k } ∧ Keeps (fun k => k = b) w w' := by
  have hd := Lib.hid (show decide ((0 : Int) ≤ (k : Int) ∧ (k : Int) ≤ 31) = true by simp; omega)
  have hh := Lib.hid (show hasB s.x k = false by rw [hasB_nat hk]; exact hb)
  have c0 := h.c0
  have f0 := h.free 0
  have lb := h.lt
  have H := Lib.hid h
  clear h hb
  go_enter Tryd.func7, Tryd.ntmps7
  go_wp2_with fail
  refine (plevel_any _ _).mono ?_
  rintro e w' ⟨rfl, rfl⟩
  rw [hd.out]
  go_wp2_with fail
  refine (has_any s.x _ _ hx).mono ?_
  rintro e w' ⟨rfl, rfl⟩
  rw [hh.out]
  go_wp2_with fail
  refine (with_any s.x _ _ hx).mono ?_
  rintro e w' ⟨rfl, rfl⟩
  go_wp2
  go_ret
  exact ⟨rfl, H.out.setX _, (Keeps.refl (fun k => k = b) w).setB 0 _⟩
theorem gtake_no (b : Nat) (s : GS) (i : Int) (w : World) (hx : s.x < 4294967296) (h : IsGate w b s) (hb : hasB s.x i = false) :
    Calls Tryd.prog 9 #[.pointer (some ⟨b, 0, none⟩), .int .i64 i] w fun e w' => e = .returned (.bool false) ∧ w = w' := by
  have hh := Lib.hid hb
  have c0 := h.c0
  clear h hb
  go_enter Tryd.func9, Tryd.ntmps9
  go_wp2_with fail
  refine (has_any s.x _ _ hx).mono ?_
  rintro e w' ⟨rfl, rfl⟩
  rw [hh.out]
  go_wp2
  go_ret
  exact ⟨rfl, rfl⟩
theorem gtake_yes (b : Nat) (s : GS) (i : Int) (w : World) (hx : s.x < 4294967296) (ht : s.t < 4611686018427387904) (h : IsGate w b s) (hb : hasB s.x i = true) :
    Calls Tryd.prog 9 #[.pointer (some ⟨b, 0, none⟩), .int .i64 i] w fun e w' => e = .returned (.bool true) ∧ IsGate w' b { s with x := clrB s.x i, t := s.t + 1 } ∧ Keeps (fun k => k = b) w w' := by
  have hh := Lib.hid hb
  have c0 := h.c0
  have c1 := h.c1
  have f0 := h.free 0
  have f1 := h.free 1
  have lb := h.lt
  have H := Lib.hid h
  clear h hb
  go_enter Tryd.func9, Tryd.ntmps9
  go_wp2_with fail
  refine (has_any s.x _ _ hx).mono ?_
  rintro e w' ⟨rfl, rfl⟩
  rw [hh.out]
  go_wp2_with fail
  refine (without_any s.x _ _ hx).mono ?_
  rintro e w' ⟨rfl, rfl⟩
  go_wp2
  go_ret
  exact ⟨rfl, (H.out.setX _).setT (s.t + 1), ((Keeps.refl (fun k => k = b) w).setB 0 _).setB 1 _⟩
end Go.Proofs.YtlpnobpgphmngabDoor
