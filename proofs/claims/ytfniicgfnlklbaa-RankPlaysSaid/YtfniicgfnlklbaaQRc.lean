import Derived.Test.YtfniicgfnlklbaaQRb
namespace Go.Proofs.Ytfniicgfnlklbaa
open Go.ChangeShapes Go.WideShapes Go.ChangeAt Go.RowKit
set_option linter.unusedVariables false
set_option linter.unusedSimpArgs false
theorem Try.infoQ : (Try.prog.info? 57).map (fun i => (i.zero, i.size, i.bytes)) = some (some (.agg #[.int .i64 0, .int .i64 0]), 2, 16) := by kernel_rfl
theorem q_empty (w : World) (B : Nat) (E : TypeId) (hB : B ≤ w.heap.size) : (w.alloc (.cells #[] E)).ownsRow B E 2 (.slice (some ⟨w.heap.size, 0, none⟩) 0 0) 0 [] :=
  ⟨rfl, .inr ⟨w.heap.size, 0, #[], rfl, hB, heap_new _ _, Nat.le_refl _, by unfold maxLen; omega, rfl, rfl⟩⟩
theorem q_two (w : World) (x y : Value) (E : TypeId) : ∀ ad : Addr, some (⟨w.heap.size, 0, none⟩ : Addr) = some ad → ∀ (j : Nat) (u : Value), [x, y][j]? = some u → (w.alloc (.cells #[x, y] E)).cell? (ad.add j) = some u := by
  intro ad e j u h
  injection e with e
  subst e
  rcases j with _ | _ | j
  · rw [show ((⟨w.heap.size, 0, none⟩ : Addr).add 0) = ⟨w.heap.size, 0, none⟩ by simp [Addr.add]]
    simp at h
    subst h
    exact cell_of (heap_new w _) 0
  · rw [show ((⟨w.heap.size, 0, none⟩ : Addr).add (0 + 1)) = ⟨w.heap.size, 1, none⟩ by simp [Addr.add]]
    simp at h
    subst h
    exact cell_of (heap_new w _) 1
  · simp at h
theorem QR.nil2 {w : World} {A : Option Addr} {c n : Nat} {R : List (Nat × Nat)} (h : QR w A c R) (hn : R.length = n) : A = Option.none → n = 0 ∧ c = 0 := fun e => ⟨by rw [← hn, (h.nil e).1]; rfl, (h.nil e).2⟩
section
variable (A : Option Addr) (c : Nat) (R : List (Nat × Nat)) (w : World)
theorem qadd_out (t p : Int) (h : ¬ ((0 ≤ t ∧ t < 16) ∧ (0 ≤ p ∧ p < 32))) :
    Calls Try.prog 8 #[.agg #[.slice A R.length c], .int .i64 t, .int .i64 p] w fun e w' => e = .returned (.tuple #[.agg #[.slice A R.length c], .bool false]) ∧ Keeps (fun _ => False) w w' := by
  generalize R.length = n
  rcases h1 : decide (t < 0)
  · rcases h2 : decide (15 < t)
    · rcases h3 : decide (p < 0)
      · have h4 : decide (31 < p) = true := decide_eq_true (by
          have h1 := of_decide_eq_false h1
          have h2 := of_decide_eq_false h2
          have h3 := of_decide_eq_false h3
          omega)
        clear h
        go_enter Try.func8, Try.ntmps8
        go_wp2
        refine bodyPost_ret (v := .tuple #[.agg #[.slice A n c], .bool false]) (by simp [results, Try.results8, go_sem, *]) rfl ⟨rfl, ?_⟩
        exact ((Keeps.refl _ _).alloc _).alloc _
      · clear h
        go_enter Try.func8, Try.ntmps8
        go_wp2
        refine bodyPost_ret (v := .tuple #[.agg #[.slice A n c], .bool false]) (by simp [results, Try.results8, go_sem, *]) rfl ⟨rfl, ?_⟩
        exact ((Keeps.refl _ _).alloc _).alloc _
    · clear h
      go_enter Try.func8, Try.ntmps8
      go_wp2
      refine bodyPost_ret (v := .tuple #[.agg #[.slice A n c], .bool false]) (by simp [results, Try.results8, go_sem, *]) rfl ⟨rfl, ?_⟩
      exact ((Keeps.refl _ _).alloc _).alloc _
  · clear h
    go_enter Try.func8, Try.ntmps8
    go_wp2
    refine bodyPost_ret (v := .tuple #[.agg #[.slice A n c], .bool false]) (by simp [results, Try.results8, go_sem, *]) rfl ⟨rfl, ?_⟩
    exact ((Keeps.refl _ _).alloc _).alloc _
theorem q_box2 {w w1 : World} {x y : Value} {T1 T2 : TypeId} (k1 : Keeps (fun _ => False) ((w.alloc (.cells #[x] T1)).alloc (.cells #[y] T2)) w1) :
    w1.heap[w.heap.size]? = some (.cells #[x] T1 (0, 0)) ∧ w1.heap[w.heap.size + 1]? = some (.cells #[y] T2 (0, 0)) ∧ Below w.heap.size w w1 ∧ w.heap.size + 2 ≤ w1.heap.size := by
  have h2 : w1.heap[w.heap.size + 1]? = some (.cells #[y] T2 (0, 0)) := k1.at (by have := heap_new (w.alloc (.cells #[x] T1)) (.cells #[y] T2); rw [show (w.alloc (.cells #[x] T1)).heap.size = w.heap.size + 1 by simp] at this; exact this) fun h => h
  exact ⟨k1.at (heap_old (heap_new w _) _) fun h => h, h2, (((Keeps.refl (fun _ => False) w).alloc _).alloc _ |>.trans k1).none, by have := lt_of h2; omega⟩
set_option maxRecDepth 20000 in
theorem qadd_in (t p : Int) (hn : R.length ≤ 1000) (h : QR w A c R) (q : Nat) (y : Nat × Nat) (hq : R[q]? = some y) (hy : (y.1 : Int) = t) (ht : ∀ i a, i < q → R[i]? = some a → (a.1 : Int) ≠ t) (hb : (0 ≤ t ∧ t < 16) ∧ (0 ≤ p ∧ p < 32)) :
    Calls Try.prog 8 #[.agg #[.slice A R.length c], .int .i64 t, .int .i64 p] w fun e w' => e = .returned (.tuple #[.agg #[.slice A R.length c], .bool false]) ∧ Keeps (fun _ => False) w w' := by
  have HP := Lib.hid (fun w1 h1 => qplace_yes A c R t w1 hn h1 q y hq hy ht)
  have HR := Lib.hid h
  have d0 : decide (t < 0) = false := decide_eq_false (by omega)
  have d1 : decide (15 < t) = false := decide_eq_false (by omega)
  have d2 : decide (p < 0) = false := decide_eq_false (by omega)
  have d3 : decide (31 < p) = false := decide_eq_false (by omega)
  generalize R.length = n at HP ⊢
  clear h ht hb hn hq hy
  go_enter Try.func8, Try.ntmps8
  go_wp2_with fail
  refine (HP.out _ (HR.out.none (((Keeps.refl _ _).alloc _).alloc _))).mono ?_
  rintro e w1 ⟨rfl, k1⟩
  obtain ⟨q3, q6, _, _⟩ := q_box2 k1
  have c3 := cell_of q3 0
  have c6 := cell_of q6 0
  have f6 := free_of q6 0
  have l6 := lt_of q6
  have l3 := lt_of q3
  have HK := Lib.hid k1
  clear k1 q3 q6
  go_wp2
  exact bodyPost_ret (v := .tuple #[.agg #[.slice A n c], .bool false]) (by simp [results, Try.results8, go_sem, *]) rfl ⟨rfl, ((((Keeps.refl _ _).alloc _).alloc _).trans HK.out).setCell (.inr (by simp)) _⟩
theorem q_apart {w : World} {base : Nat} {e t : TypeId} {size n g : Nat} {v : Value} {xs : List Value} {cs : Array Value} (h : w.ownsRow base e size v n xs) (hg : w.heap[g]? = some (.cells cs t (0, 0))) (hne : e ≠ t) : v.ownBlock ≠ some g := by
  rcases h.2 with ⟨rfl, _⟩ | ⟨g', cap, cur, rfl, _, hh, _⟩
  · simp [Value.ownBlock]
  · intro he
    have e1 : g' = g := Option.some.inj he
    subst e1
    rw [hh] at hg
    injection hg with hg
    injection hg with _ h2
    exact hne h2
theorem q_grown {w w1 w2 : World} {x : Value} {T : TypeId} {o : Obj} {row : Option Nat} (h6 : w1.heap[w.heap.size + 1]? = some (.cells #[x] T (0, 0))) (hb : Below w.heap.size w w1) (hg : (w1.alloc o).grownBy w2 row) (hr : ∀ k, row = some k → w.heap.size ≤ k ∧ k ≠ w.heap.size + 1) :
    w2.heap[w.heap.size + 1]? = some (.cells #[x] T (0, 0)) ∧ Below w.heap.size w w2 := by
  have hs : (w1.alloc o).heap.size = w1.heap.size + 1 := by simp
  have l6 := lt_of h6
  refine ⟨?_, (hb.alloc hb.size o).grown hg (by have := hb.size; omega) fun k hk => (hr k hk).1⟩
  rw [hg.block _ (by omega) fun e => (hr _ e.symm).2 rfl]
  exact heap_old h6 _
set_option maxRecDepth 20000 in
theorem qadd_yes (t p : Nat) (hn : R.length ≤ 1000) (h : QR w A c R) (ht : ∀ a, a ∈ R → (a.1 : Int) ≠ (t : Int)) (hb : t < 16 ∧ p < 32) :
    Calls Try.prog 8 #[.agg #[.slice A R.length c], .int .i64 (t : Int), .int .i64 (p : Int)] w fun e w' => ∃ A' c', e = .returned (.tuple #[.agg #[.slice A' (R ++ [(t, p)]).length c'], .bool true]) ∧ QR w' A' c' (R ++ [(t, p)]) ∧ (∀ b off, A' = some ⟨b, off, none⟩ → w.heap.size ≤ b) ∧ Keeps (fun _ => False) w w' := by
  have HP := Lib.hid (fun w1 h1 => qplace_no A c R (t : Int) w1 hn h1 ht)
  have HR := Lib.hid h
  have d0 : decide ((t : Int) < 0) = false := decide_eq_false (by omega)
  have d1 : decide (15 < (t : Int)) = false := decide_eq_false (by omega)
  have d1n : decide (15 < t) = false := decide_eq_false (by omega)
  have d2 : decide ((p : Int) < 0) = false := decide_eq_false (by omega)
  have d3 : decide (31 < (p : Int)) = false := decide_eq_false (by omega)
  have d3n : decide (31 < p) = false := decide_eq_false (by omega)
  have HLEN := Lib.hid (flatQ_len R)
  have hlen : (R ++ [(t, p)]).length = R.length + 1 := by simp
  have HLE := Lib.hid hlen
  rw [hlen]
  obtain ⟨n, hne⟩ : ∃ n, R.length = n := ⟨_, rfl⟩
  rw [hne] at HP HLEN HLE hn ⊢
  have HLN := Lib.hid hne
  clear h ht hb hlen hne
  go_enter Try.func8, Try.ntmps8
  go_wp2_with fail
  refine (HP.out _ (HR.out.none (((Keeps.refl _ _).alloc _).alloc _))).mono ?_
  rintro e w1 ⟨rfl, k1⟩
  have hr1 := HR.out.none ((((Keeps.refl _ _).alloc (.cells #[.slice A n c] 35)).alloc (.cells #[.slice none 0 0] 35)).trans k1)
  obtain ⟨q3, q6, hb1, hsz⟩ := q_box2 k1
  have c3 := cell_of q3 0
  have l3 : w.heap.size < w1.heap.size := by omega
  have l6 : w.heap.size + 1 < w1.heap.size := by omega
  have HN := Lib.hid ((hr1.none ((Keeps.refl _ _).alloc (.cells #[] 57))).news)
  have H1 := Lib.hid (And.intro q6 (And.intro hb1 (q_empty w1 w.heap.size 57 hb1.size)))
  obtain ⟨i0, hi, hz0, hz1, hz2⟩ := info_parts Try.infoQ
  clear k1 q3 q6 hr1 hb1
  go_wp2_with (at_builtin; first
    | (refine wpList_append_any rfl (.tmp 29) (.tmp 31) 33 rfl w.heap.size 57 i0 (.agg #[.int .i64 0, .int .i64 0]) 2 16 Try.underlying33 hi hz0 hz1 hz2 rfl (by decide) _ _ _ rfl H1.out.2.2 A n c (flatQ R) rfl (HR.out.nil2 HLN.out) HLEN.out HN.out (flatQ_one R) (by unfold maxLen; omega) (by omega) (by simp; omega) ?_; intro v2 w2 hown2 hgrow; obtain ⟨g6, hb2⟩ := q_grown H1.out.1 H1.out.2.1 hgrow (fun k e => by have e2 : w1.heap.size = k := Option.some.inj e; subst e2; exact ⟨by omega, by omega⟩); rw [Nat.zero_add, List.nil_append] at hown2; have l62 := lt_of g6; have H2 := Lib.hid (And.intro g6 (And.intro hb2 hown2)); clear hown2 hgrow hb2 g6)
    | (refine wpList_append_any rfl (.tmp 32) (.tmp 36) 33 rfl w.heap.size 57 i0 (.agg #[.int .i64 0, .int .i64 0]) 2 16 Try.underlying33 hi hz0 hz1 hz2 rfl (by decide) v2 n (flatQ R) rfl (H2.out.2.2.alloc _) (some ⟨w2.heap.size, 0, none⟩) 1 1 [.int .i64 (t : Int), .int .i64 (p : Int)] rfl (fun e => by cases e) rfl (q_two _ _ _ _) (by simp [Value.oneCell']) (by unfold maxLen; omega) (by omega) (by simp; omega) ?_; intro v3 w3 hown3 hgrow; obtain ⟨g6, hb3⟩ := q_grown H2.out.1 H2.out.2.1 hgrow (fun k e => ⟨(H2.out.2.2.lt k e).1, fun e2 => q_apart H2.out.2.2 H2.out.1 (by decide) (by subst e2; exact e)⟩); have hap := q_apart hown3 g6 (by decide); obtain ⟨A', c', rfl, hrow, hfar⟩ := QR.ofOwn (R := R ++ [(t, p)]) (by rw [flatQ_app]; exact hown3); rw [HLE.out] at *; have l63 := lt_of g6; have r6 := cell_of g6 0; have f6 := free_of g6 0; have HFA := Lib.hid hfar; have H3 := Lib.hid (And.intro hap (And.intro hb3 hrow)); clear hown3 hgrow hb3 g6 hap hrow hfar)
    | fail)
  have hne : ∀ b' off', A' = some ⟨b', off', none⟩ → b' ≠ w.heap.size + 1 := fun b' off' e he => H3.out.1 (by subst e; rw [← he]; rfl)
  refine bodyPost_ret (v := .tuple #[.agg #[.slice A' (n + 1) c'], .bool true]) (by simp [results, Try.results8, go_sem, *]) rfl ⟨A', c', rfl, ?_, HFA.out, (Keeps.ofBelow H3.out.2.1).setCell (.inr (by simp)) _⟩
  exact H3.out.2.2.keeps (S := fun k => k = w.heap.size + 1) ((Keeps.refl (fun k => k = w.heap.size + 1) w3).setCell (p := ⟨w.heap.size + 1, 0, none⟩) (.inl rfl) _) fun b' off' e he => hne b' off' e he
end
end Go.Proofs.Ytfniicgfnlklbaa
