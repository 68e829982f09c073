import Derived.Test.YtfniicgfnlklbabDeltaRefB
import Derived.Handy
namespace Go.Proofs.Ytfniicgfnlklbab
open Go.ChangeShapes Go.WideShapes Go.ChangeAt Go.RowKit
set_option linter.unusedVariables false
theorem Try.infoW : (Try.prog.info? 58).map (fun i => (i.zero, i.size, i.bytes)) = some (some (.agg #[.int .i64 0, .int .u64 0]), 2, 16) := by kernel_rfl
theorem w_empty (w : World) (B : Nat) (E : TypeId) (hB : B ≤ w.heap.size) : (w.alloc (.cells #[] E)).ownsRow B E 2 (.slice (some ⟨w.heap.size, 0, none⟩) 0 0) 0 [] :=
  ⟨rfl, .inr ⟨w.heap.size, 0, #[], rfl, hB, heap_new _ _, Nat.le_refl _, by unfold maxLen; omega, rfl, rfl⟩⟩
theorem w_two (w : World) (x y : Value) (E : TypeId) : ∀ (j : Nat) (u : Value), [x, y][j]? = some u → (w.alloc (.cells #[x, y] E)).cell? ((⟨w.heap.size, 0, none⟩ : Addr).add j) = some u := by
  intro j u h
  rcases j with _ | _ | j
  · rw [show ((⟨w.heap.size, 0, none⟩ : Addr).add 0) = ⟨w.heap.size, 0, none⟩ by simp [Addr.add]]
    simp at h
    subst h
    exact cell_of (heap_new w _) 0
  · rw [show ((⟨w.heap.size, 0, none⟩ : Addr).add (0 + 1)) = ⟨w.heap.size, 1, none⟩ by simp [Addr.add]]
    simp at h
    subst h
    exact cell_of (heap_new w _) 1
  · simp at h
theorem flatW_snoc (P : Nat → Int) (X : Nat → Nat) (n : Nat) (t : Int) (x : Nat) : flatW P X n ++ [.int .i64 t, .int .u64 (x : Int)] = flatW (fun i => if i = n then t else P i) (fun i => if i = n then x else X i) (n + 1) := by
  rw [flatW, if_pos rfl, if_pos rfl]
  exact congrArg (· ++ _) (flatW_congr n fun i hi => ⟨(if_neg (by omega)).symm, (if_neg (by omega)).symm⟩)
set_option maxRecDepth 20000 in
theorem radd_yes (b off n c : Nat) (P : Nat → Int) (X : Nat → Nat) (t : Int) (x : Nat) (w : World) (hn : n ≤ 100) (h : RRow w (some ⟨b, off, none⟩) n P X) (hb : b < w.heap.size) (ht : ∀ i, i < n → P i ≠ t) (h0 : 0 ≤ t ∧ t < 16) (hx : 0 < x) (hx2 : x < 4294967296) :
    Calls Try.prog 8 #[.agg #[.slice (some ⟨b, off, none⟩) n c], .int .i64 t, .int .u32 (x : Int)] w fun e w' => ∃ a' c', e = .returned (.tuple #[.agg #[.slice a' (n + 1) c'], .bool true]) ∧ RRow w' a' (n + 1) (fun i => if i = n then t else P i) (fun i => if i = n then x else X i) ∧ (a' = none → c' = 0) ∧ n + 1 ≤ c' ∧ Keeps (fun _ => False) w w' := by
  have HP := Lib.hid (fun w1 h1 => rplace_no (some ⟨b, off, none⟩) n c P X t w1 (by omega) h1 ht)
  have HR := Lib.hid h
  have d0 : decide (t < 0) = false := decide_eq_false (by omega)
  have d1 : decide (15 < t) = false := decide_eq_false (by omega)
  have d2 : ((x : Int) == 0) = false := beq_eq_false_iff_ne.mpr (by omega)
  clear h ht
  go_enter Try.func8, Try.ntmps8
  go_wp2_with fail
  refine (HP.out _ (HR.out.none (((Keeps.refl _ _).alloc _).alloc _))).mono ?_
  rintro e w1 ⟨rfl, k1⟩
  have q6 : w1.heap[w.heap.size + 1]? = some (.cells #[.slice none 0 0] 30 (0, 0)) := k1.at (by have := heap_new (w.alloc (.cells #[.slice (some ⟨b, off, none⟩) n c] 30)) (.cells #[.slice none 0 0] 30); rw [show (w.alloc (.cells #[.slice (some ⟨b, off, none⟩) n c] 30)).heap.size = w.heap.size + 1 by simp] at this; exact this) fun h => h
  have q3 : w1.heap[w.heap.size]? = some (.cells #[.slice (some ⟨b, off, none⟩) n c] 30 (0, 0)) := k1.at (heap_old (heap_new w _) _) fun h => h
  have c3 : w1.cell? ⟨w.heap.size, 0, none⟩ = some (.slice (some ⟨b, off, none⟩) n c) := cell_of q3 0
  have hb1 : Below w.heap.size w w1 := (((Keeps.refl (fun _ => False) w).alloc _).alloc _ |>.trans k1).none
  have hsz : w.heap.size + 2 ≤ w1.heap.size := by have := lt_of q6; omega
  have l3 : w.heap.size < w1.heap.size := by omega
  have l6 : w.heap.size + 1 < w1.heap.size := by omega
  have hr1 := HR.out.none ((((Keeps.refl _ _).alloc (.cells #[.slice (some ⟨b, off, none⟩) n c] 30)).alloc (.cells #[.slice none 0 0] 30)).trans k1)
  have HN := Lib.hid (rrow_news (hr1.none ((Keeps.refl _ _).alloc (.cells #[] 58))))
  have H1 := Lib.hid (And.intro q6 (And.intro hb1 (w_empty w1 w.heap.size 58 hb1.size)))
  obtain ⟨i0, hi, hz0, hz1, hz2⟩ := info_parts Try.infoW
  clear k1 q3 q6 hr1 hb1
  go_wp2_with (at_builtin; first
    | (refine wpList_append_own _ rfl (.tmp 25) (.tmp 27) 28 rfl w.heap.size 58 i0 (.agg #[.int .i64 0, .int .u64 0]) 2 16 Try.underlying28 hi hz0 hz1 hz2 rfl (by decide) _ _ _ rfl H1.out.2.2 ⟨b, off, none⟩ n c (flatW P X n) rfl (flatW_len P X n) HN.out (flatW_one P X n) (by unfold maxLen; omega) (by omega) (by simp; omega) ?_; intro v2 w2 hown2 hgrow _; have g6 := grown_cells hgrow (heap_old H1.out.1 _) (fun e => own_apart (w_empty w1 w.heap.size 58 H1.out.2.1.size) (heap_old H1.out.1 _) (by decide) e); have hb2 := (H1.out.2.1.alloc H1.out.2.1.size (.cells #[] 58)).grown hgrow (by simp; omega) (fun k hk => (H1.out.2.2.lt k hk).1); rw [Nat.zero_add, List.nil_append] at hown2; have l62 := lt_of g6; have H2 := Lib.hid (And.intro g6 (And.intro hb2 hown2)); clear hown2 hgrow hb2 g6)
    | (refine wpList_append_own _ rfl (.tmp 28) (.tmp 33) 28 rfl w.heap.size 58 i0 (.agg #[.int .i64 0, .int .u64 0]) 2 16 Try.underlying28 hi hz0 hz1 hz2 rfl (by decide) _ _ _ rfl (H2.out.2.2.alloc _) ⟨w2.heap.size, 0, none⟩ 1 1 [.int .i64 t, .int .u64 (x : Int)] rfl rfl (w_two _ _ _ _) (by simp [Value.oneCell']) (by unfold maxLen; omega) (by omega) (by simp; omega) ?_; intro v3 w3 hown3 hgrow _; have g6 := grown_cells hgrow (heap_old H2.out.1 _) (fun e => own_apart H2.out.2.2 H2.out.1 (by decide) e); have hb3 := (H2.out.2.1.alloc H2.out.2.1.size (.cells #[.int .i64 t, .int .u64 (x : Int)] 58)).grown hgrow (by simp; omega) (fun k hk => (H2.out.2.2.lt k hk).1); have hap := own_apart hown3 g6 (by decide); rw [flatW_snoc] at hown3; obtain ⟨a', c', rfl, hrow, hg1, hg2⟩ := rrow_owns hown3; have l63 := lt_of g6; have r6 := cell_of g6 0; have f6 := free_of g6 0; have H3 := Lib.hid (And.intro hap (And.intro hb3 (And.intro hrow (And.intro hg1 hg2)))); clear hown3 hgrow hb3 g6 hap hrow hg1 hg2)
    | fail)
  have hne : ∀ b' off', a' = some ⟨b', off', none⟩ → b' ≠ w.heap.size + 1 := fun b' off' e he => H3.out.1 (by subst e; rw [← he]; rfl)
  refine bodyPost_ret (v := .tuple #[.agg #[.slice a' (n + 1) c'], .bool true]) (by simp [results, Try.results8, go_sem, *]) rfl ⟨a', c', rfl, ?_, H3.out.2.2.2.1, H3.out.2.2.2.2, (Keeps.ofBelow H3.out.2.1).setCell (.inr (by simp)) _⟩
  exact H3.out.2.2.1.keeps (S := fun k => k = w.heap.size + 1) ((Keeps.refl (fun k => k = w.heap.size + 1) w3).setCell (p := ⟨w.heap.size + 1, 0, none⟩) (.inl rfl) _) fun b' off' e he => hne b' off' e he
end Go.Proofs.Ytfniicgfnlklbab
