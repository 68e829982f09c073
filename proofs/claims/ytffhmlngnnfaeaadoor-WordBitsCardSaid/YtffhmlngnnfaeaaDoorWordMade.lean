import Derived.Test.YtffhmlngnnfaeaaDoorWordOf
namespace Go.Proofs.YtffhmlngnnfaeaaDoor
open Go.ChangeShapes Go.WideShapes Go.ChangeAt Go.RowKit
set_option linter.unusedVariables false

theorem wahead_any (a b : Int) (w : World) (h1 : 0 ≤ a) (h2 : a < 4294967296) (h3 : 0 ≤ b) (h4 : b < 4294967296) :
    Calls Tryd.prog 23 #[.int .u32 a, .int .u32 b] w fun e w' => e = .returned (.int .u32 ((a - b) % 4294967296)) ∧ w = w' := by
  go_enter Tryd.func23, Tryd.ntmps23
  go_wp2
  go_ret
  exact ⟨rfl, rfl⟩
theorem wbefore_any (a b : Int) (w : World) (h1 : 0 ≤ a) (h2 : a < 4294967296) (h3 : 0 ≤ b) (h4 : b < 4294967296) :
    Calls Tryd.prog 24 #[.int .u32 a, .int .u32 b] w fun e w' => e = .returned (.bool (decide (2147483648 ≤ (a - b) % 4294967296))) ∧ w = w' := by
  go_enter Tryd.func24, Tryd.ntmps24
  go_wp2_with fail
  refine (wahead_any _ _ _ h1 h2 h3 h4).mono ?_
  rintro e w' ⟨rfl, rfl⟩
  go_wp2
  all_goals
    go_ret
    refine ⟨ret_bool ?_, rfl⟩
    try simp
theorem ofs_list (l : List Nat) (F : Nat → Int) (hF : ∀ i, (h : i < l.length) → F i = l[i]) (j : Nat) (n : Nat) (hn : n ≤ l.length) : (ofs F n).testBit j = decide (j ∈ l.take n ∧ j < 32) := by
  induction n with
  | zero => simp [ofs]
  | succ n ih =>
    rw [ofs, setB_testBit, ih (by omega), hF n (by omega), List.take_succ_eq_append_getElem (by omega)]
    rw [Bool.eq_iff_iff]
    simp only [Bool.or_eq_true, decide_eq_true_eq, List.mem_append, List.mem_singleton]
    grind
theorem ofs_bits {x : Nat} (hx : x < 4294967296) (F : Nat → Int) (hF : ∀ i, (h : i < (bitsL x).length) → F i = (bitsL x)[i]) : ofs F (bitsL x).length = x := by
  apply ext32 (ofs_lt _ _) hx
  intro j hj
  rw [ofs_list (bitsL x) F hF j _ (Nat.le_refl _), List.take_length, Bool.eq_iff_iff]
  simp [mem_bitsL, hj]
theorem ctz_top (i : Nat) (h : i < 32) : Lib.ctz 32 (4294967296 - 2 ^ i) = i ∧ 4294967296 - 2 ^ i ≠ 0 ∧ 4294967296 - 2 ^ i < 4294967296 := by
  have all : ∀ k : Fin 32, Lib.ctz 32 (4294967296 - 2 ^ k.val) = k.val ∧ 4294967296 - 2 ^ k.val ≠ 0 ∧ 4294967296 - 2 ^ k.val < 4294967296 := by decide +kernel
  exact all ⟨i, h⟩
/-- Of a row that a call made. -/
theorem of_own (x : Nat) (B : Nat) (v : Value) (l : List Nat) (F : Nat → Int) (w : World) (hl : l.length ≤ 32) (hF : ∀ i, (h : i < l.length) → F i = l[i]) (hown : w.ownsRow B 3 1 v l.length (ints l)) :
    Calls Tryd.prog 21 #[v] w fun e w' => e = .returned (.int .u32 (ofs F l.length)) ∧ w = w' := by
  obtain ⟨h1, h | ⟨g, cap, cur, rfl, hg, hb, hc1, hc2, hs, ht⟩⟩ := hown
  · obtain ⟨rfl, h0⟩ := h
    rw [h0]
    exact of_zero none 0 w
  · refine of_any g 0 l.length cap F w (by unfold maxLen; omega) fun i hi => ?_
    have e : w.cell? ⟨g, 0 + i, none⟩ = cur[i]? := by simp [World.cell?, hb]
    have e2 : (cur.toList.take (l.length * 1))[i]? = (ints l)[i]? := by rw [ht]
    rw [List.getElem?_take] at e2
    rw [if_pos (by omega)] at e2
    rw [e, hF i hi]
    simpa [ints, hi] using e2

theorem alive02_any (w : World) : Calls Tryd.prog 5 #[] w fun e w' => e = .returned (.bool true) ∧ Below w.heap.size w w' := by
  have e0 : ((Lib.bitLen 0 : Nat) : Int) - 1 = -1 := by rw [bitLen_zero]; rfl
  have e1 : hasB 4 2 = true := by decide
  have HB := Lib.hid ((Below.refl w.heap.size w).alloc (Nat.le_refl _) (.cells #[.int .i64 0, .int .i64 2] 3))
  have HO := Lib.hid (of_any w.heap.size 0 2 2 (fun i => if i = 0 then 0 else 2) (w.alloc (.cells #[.int .i64 0, .int .i64 2] 3)) (by unfold maxLen; omega) (by
    intro i hi
    rw [World.cell?_alloc_at _ _ _ _ rfl]
    rcases (by omega : i = 0 ∨ i = 1) with rfl | rfl <;> rfl))
  have e2 : ofs (fun i => if i = 0 then 0 else 2) 2 = 5 := by decide
  have E2 := Lib.hid e2
  clear e2
  go_enter Tryd.func5, Tryd.ntmps5
  go_wp2_with fail
  refine (wahead_any _ _ _ (by omega) (by omega) (by omega) (by omega)).mono ?_
  rintro e w' ⟨rfl, rfl⟩
  go_wp2_with fail
  refine (high_any 0 _ (by omega)).mono ?_
  rintro e w' ⟨rfl, rfl⟩
  rw [e0]
  go_wp2_with fail
  refine (has_any 4 2 _ (by omega)).mono ?_
  rintro e w' ⟨rfl, rfl⟩
  rw [e1]
  go_wp2_with fail
  refine HO.out.mono ?_
  rintro e w' ⟨rfl, rfl⟩
  rw [E2.out]
  go_wp2
  go_ret
  exact ⟨rfl, HB.out⟩
end Go.Proofs.YtffhmlngnnfaeaaDoor
