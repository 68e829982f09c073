import Derived.Test.YtfniicgfnlklbabDeltaRefC
namespace Go.Proofs.Ytfniicgfnlklbab
open Go.ChangeShapes Go.WideShapes Go.ChangeAt Go.RowKit
set_option linter.unusedVariables false
set_option maxRecDepth 20000 in
theorem radd_first (P : Nat → Int) (X : Nat → Nat) (t : Int) (x : Nat) (w : World) (h0 : 0 ≤ t ∧ t < 16) (hx : 0 < x) (hx2 : x < 4294967296) :
    Calls Try.prog 8 #[.agg #[.slice none 0 0], .int .i64 t, .int .u32 (x : Int)] w fun e w' => ∃ a' c', e = .returned (.tuple #[.agg #[.slice a' 1 c'], .bool true]) ∧ RRow w' a' 1 (fun i => if i = 0 then t else P i) (fun i => if i = 0 then x else X i) ∧ (a' = none → c' = 0) ∧ 1 ≤ c' ∧ Keeps (fun _ => False) w w' := by
  have HP := Lib.hid (fun w1 h1 => rplace_no none 0 0 P X t w1 (by omega) h1 (fun i hi => absurd hi (Nat.not_lt_zero _)))
  have d0 : decide (t < 0) = false := decide_eq_false (by omega)
  have d1 : decide (15 < t) = false := decide_eq_false (by omega)
  have d2 : ((x : Int) == 0) = false := beq_eq_false_iff_ne.mpr (by omega)
  go_enter Try.func8, Try.ntmps8
  go_wp2_with fail
  refine (HP.out _ (fun h => absurd h (Nat.not_lt_zero _))).mono ?_
  rintro e w1 ⟨rfl, k1⟩
  have q6 : w1.heap[w.heap.size + 1]? = some (.cells #[.slice none 0 0] 30 (0, 0)) := k1.at (by have := heap_new (w.alloc (.cells #[.slice none 0 0] 30)) (.cells #[.slice none 0 0] 30); rw [show (w.alloc (.cells #[.slice none 0 0] 30)).heap.size = w.heap.size + 1 by simp] at this; exact this) fun h => h
  have q3 : w1.heap[w.heap.size]? = some (.cells #[.slice none 0 0] 30 (0, 0)) := k1.at (heap_old (heap_new w _) _) fun h => h
  have c3 : w1.cell? ⟨w.heap.size, 0, none⟩ = some (.slice none 0 0) := cell_of q3 0
  have hb1 : Below w.heap.size w w1 := (((Keeps.refl (fun _ => False) w).alloc _).alloc _ |>.trans k1).none
  have hsz : w.heap.size + 2 ≤ w1.heap.size := by have := lt_of q6; omega
  have l3 : w.heap.size < w1.heap.size := by omega
  have l6 : w.heap.size + 1 < w1.heap.size := by omega
  have H2 := Lib.hid (And.intro (heap_old q6 (.cells #[] 58)) (And.intro (hb1.alloc hb1.size (.cells #[] 58)) (w_empty w1 w.heap.size 58 hb1.size)))
  obtain ⟨i0, hi, hz0, hz1, hz2⟩ := info_parts Try.infoW
  clear k1 q3 q6 hb1
  go_wp2_with (at_builtin; first
    | (refine wpList_append_own_none rfl (.tmp 25) (.tmp 27) 28 rfl w.heap.size 58 i0 2 Try.underlying28 hi _ _ _ rfl H2.out.2.2 rfl ?_)
    | (refine wpList_append_own _ rfl (.tmp 28) (.tmp 33) 28 rfl w.heap.size 58 i0 (.agg #[.int .i64 0, .int .u64 0]) 2 16 Try.underlying28 hi hz0 hz1 hz2 rfl (by decide) _ _ _ rfl (H2.out.2.2.alloc _) ⟨(w1.alloc (.cells #[] 58)).heap.size, 0, none⟩ 1 1 [.int .i64 t, .int .u64 (x : Int)] (by simp [Act.eval]) rfl (w_two _ _ _ _) (by simp [Value.oneCell']) (by unfold maxLen; omega) (by omega) (by simp; omega) ?_; intro v3 w3 hown3 hgrow _; have g6 := grown_cells hgrow (heap_old H2.out.1 _) (fun e => own_apart H2.out.2.2 H2.out.1 (by decide) e); have hb3 := (H2.out.2.1.alloc H2.out.2.1.size (.cells #[.int .i64 t, .int .u64 (x : Int)] 58)).grown hgrow (by simp; omega) (fun k hk => (H2.out.2.2.lt k hk).1); have hap := own_apart hown3 g6 (by decide); rw [show ([] : List Value) ++ [.int .i64 t, .int .u64 (x : Int)] = flatW P X 0 ++ [.int .i64 t, .int .u64 (x : Int)] from rfl, flatW_snoc] at hown3; obtain ⟨a', c', rfl, hrow, hg1, hg2⟩ := rrow_owns hown3; have l63 := lt_of g6; have r6 := cell_of g6 0; have f6 := free_of g6 0; have H3 := Lib.hid (And.intro hap (And.intro hb3 (And.intro hrow (And.intro hg1 hg2)))); clear hown3 hgrow hb3 g6 hap hrow hg1 hg2)
    | fail)
  have hne : ∀ b' off', a' = some ⟨b', off', none⟩ → b' ≠ w.heap.size + 1 := fun b' off' e he => H3.out.1 (by subst e; rw [← he]; rfl)
  refine bodyPost_ret (v := .tuple #[.agg #[.slice a' 1 c'], .bool true]) (by simp [results, Try.results8, go_sem, *]) rfl ⟨a', c', rfl, ?_, H3.out.2.2.2.1, H3.out.2.2.2.2, (Keeps.ofBelow H3.out.2.1).setCell (.inr (by simp)) _⟩
  exact H3.out.2.2.1.keeps (S := fun k => k = w.heap.size + 1) ((Keeps.refl (fun k => k = w.heap.size + 1) w3).setCell (p := ⟨w.heap.size + 1, 0, none⟩) (.inl rfl) _) fun b' off' e he => hne b' off' e he
set_option maxRecDepth 20000 in
theorem radd_lo (a : Option Addr) (n c : Nat) (P : Nat → Int) (X : Nat → Nat) (t : Int) (x : Nat) (w : World) (h : t < 0) :
    Calls Try.prog 8 #[.agg #[.slice a n c], .int .i64 t, .int .u32 (x : Int)] w fun e w' => e = .returned (.tuple #[.agg #[.slice a n c], .bool false]) ∧ Keeps (fun _ => False) w w' := by
  have d0 : decide (t < 0) = true := decide_eq_true h
  go_enter Try.func8, Try.ntmps8
  go_wp2
  refine bodyPost_ret (v := .tuple #[.agg #[.slice a n c], .bool false]) (by simp [results, Try.results8, go_sem, *]) rfl ⟨rfl, ?_⟩
  exact ((Keeps.refl _ _).alloc _).alloc _
set_option maxRecDepth 20000 in
theorem radd_hi (a : Option Addr) (n c : Nat) (P : Nat → Int) (X : Nat → Nat) (t : Int) (x : Nat) (w : World) (h : 15 < t) :
    Calls Try.prog 8 #[.agg #[.slice a n c], .int .i64 t, .int .u32 (x : Int)] w fun e w' => e = .returned (.tuple #[.agg #[.slice a n c], .bool false]) ∧ Keeps (fun _ => False) w w' := by
  have d0 : decide (t < 0) = false := decide_eq_false (by omega)
  have d1 : decide (15 < t) = true := decide_eq_true h
  go_enter Try.func8, Try.ntmps8
  go_wp2
  refine bodyPost_ret (v := .tuple #[.agg #[.slice a n c], .bool false]) (by simp [results, Try.results8, go_sem, *]) rfl ⟨rfl, ?_⟩
  exact ((Keeps.refl _ _).alloc _).alloc _
set_option maxRecDepth 20000 in
theorem radd_zero (a : Option Addr) (n c : Nat) (P : Nat → Int) (X : Nat → Nat) (t : Int) (x : Nat) (w : World) (h : 0 ≤ t ∧ t < 16) (hx : x = 0) :
    Calls Try.prog 8 #[.agg #[.slice a n c], .int .i64 t, .int .u32 (x : Int)] w fun e w' => e = .returned (.tuple #[.agg #[.slice a n c], .bool false]) ∧ Keeps (fun _ => False) w w' := by
  have d0 : decide (t < 0) = false := decide_eq_false (by omega)
  have d1 : decide (15 < t) = false := decide_eq_false (by omega)
  subst hx
  go_enter Try.func8, Try.ntmps8
  go_wp2
  refine bodyPost_ret (v := .tuple #[.agg #[.slice a n c], .bool false]) (by simp [results, Try.results8, go_sem, *]) rfl ⟨rfl, ?_⟩
  exact ((Keeps.refl _ _).alloc _).alloc _
set_option maxRecDepth 20000 in
theorem radd_in (a : Option Addr) (n c : Nat) (P : Nat → Int) (X : Nat → Nat) (t : Int) (x : Nat) (w : World) (hn : n ≤ 1000) (q : Nat) (hq : q < n) (hr : RRow w a n P X) (ht : ∀ i, i < q → P i ≠ t) (he : P q = t) (h : 0 ≤ t ∧ t < 16) (hx : 0 < x) :
    Calls Try.prog 8 #[.agg #[.slice a n c], .int .i64 t, .int .u32 (x : Int)] w fun e w' => e = .returned (.tuple #[.agg #[.slice a n c], .bool false]) ∧ Keeps (fun _ => False) w w' := by
  have HP := Lib.hid (fun w1 h1 => rplace_yes a n c P X t w1 hn q hq h1 ht he)
  have HR := Lib.hid hr
  have d0 : decide (t < 0) = false := decide_eq_false (by omega)
  have d1 : decide (15 < t) = false := decide_eq_false (by omega)
  have d2 : ((x : Int) == 0) = false := beq_eq_false_iff_ne.mpr (by omega)
  clear hr ht he
  go_enter Try.func8, Try.ntmps8
  go_wp2_with fail
  refine (HP.out _ (HR.out.none (((Keeps.refl _ _).alloc _).alloc _))).mono ?_
  rintro e w1 ⟨rfl, k1⟩
  have q6 : w1.heap[w.heap.size + 1]? = some (.cells #[.slice none 0 0] 30 (0, 0)) := k1.at (by have := heap_new (w.alloc (.cells #[.slice a n c] 30)) (.cells #[.slice none 0 0] 30); rw [show (w.alloc (.cells #[.slice a n c] 30)).heap.size = w.heap.size + 1 by simp] at this; exact this) fun h => h
  have q3 : w1.heap[w.heap.size]? = some (.cells #[.slice a n c] 30 (0, 0)) := k1.at (heap_old (heap_new w _) _) fun h => h
  have c3 : w1.cell? ⟨w.heap.size, 0, none⟩ = some (.slice a n c) := cell_of q3 0
  have c6 : w1.cell? ⟨w.heap.size + 1, 0, none⟩ = some (.slice none 0 0) := cell_of q6 0
  have f6 := free_of q6 0
  have l6 := lt_of q6
  have l3 := lt_of q3
  have HK := Lib.hid k1
  clear k1 q3 q6
  go_wp2
  exact bodyPost_ret (v := .tuple #[.agg #[.slice a n c], .bool false]) (by simp [results, Try.results8, go_sem, *]) rfl ⟨rfl, ((((Keeps.refl _ _).alloc _).alloc _).trans HK.out).setCell (.inr (by simp)) _⟩
end Go.Proofs.Ytfniicgfnlklbab
