import Derived.Test.YtfniicgfnlklbabDeltaDoc
namespace Go.Proofs.Ytfniicgfnlklbab
open Go.ChangeShapes Go.WideShapes Go.ChangeAt Go.RowKit
set_option linter.unusedVariables false
set_option linter.unusedSimpArgs false
theorem pL_at {R : List (Int × Nat)} {q : Nat} {y : Int × Nat} {t : Int} (hq : R[q]? = some y) (hy : y.1 = t) : pL R q = t := by
  unfold pL
  rw [hq]
  exact hy
theorem pL_lt {R : List (Int × Nat)} {q : Nat} {t : Int} (hq : q < R.length) (ht : ∀ i a, i < q → R[i]? = some a → a.1 ≠ t) : ∀ i, i < q → pL R i ≠ t := by
  intro i hi
  have hx : R[i]? = some R[i] := List.getElem?_eq_getElem (by omega)
  have e1 : pL R i = R[i].1 := by unfold pL; rw [hx]
  rw [e1]
  exact ht i _ hi hx
theorem LP.left {w : World} {b c : Nat} {R : List (Int × Nat)} {q : Nat} {y : Int × Nat} (h : LP w (some ⟨b, 0, Option.none⟩) c R) (hq : R[q]? = some y) : w.cell? ⟨b, q * 2 + 1, Option.none⟩ = some (.int .u64 (y.2 : Int)) := by
  obtain ⟨b', e, _, _, h2⟩ := h.get q y hq
  injection e with e
  injection e with e
  subst e
  exact h2
set_option maxRecDepth 20000 in
set_option maxHeartbeats 1000000 in
theorem rrem_list (A : Option Addr) (c : Nat) (R : List (Int × Nat)) (w : World) (t : Int) (hn : R.length ≤ 1000) (h : LP w A c R) (q : Nat) (y : Int × Nat) (hq : R[q]? = some y) (hy : y.1 = t) (ht : ∀ i a, i < q → R[i]? = some a → a.1 ≠ t) (hx : y.2 < 4294967296) :
    Calls Try.prog 10 #[.agg #[.slice A R.length c], .int .i64 t] w fun e w' => ∃ A' c', e = .returned (.tuple #[.agg #[.slice A' (R.eraseIdx q).length c'], .int .u32 (y.2 : Int), .bool true]) ∧ LP w' A' c' (R.eraseIdx q) ∧ (∀ b off, A' = some ⟨b, off, none⟩ → w.heap.size ≤ b) ∧ Keeps (fun _ => False) w w' := by
  have hql : q < R.length := (List.getElem?_eq_some_iff.1 hq).1
  have HP := Lib.hid (fun w1 (h1 : LP w1 A c R) => rplace_yes A R.length c (pL R) (xL R) t w1 hn q hql (LP.rrow h1) (pL_lt hql ht) (pL_at hq hy))
  have HR := Lib.hid h
  obtain ⟨b, rfl, hb, _, _⟩ := h.get q y hq
  have HYQ := Lib.hid hq
  have hbn : b ≠ w.heap.size + 1 := by omega
  have hbn2 : w.heap.size + 1 ≠ b := by omega
  have e5 : IntKind.u32.wrap (y.2 : Int) = (y.2 : Int) := by simp [IntKind.wrap, IntKind.signed, IntKind.bits]; omega
  have hc := h.le
  have hlen : (R.eraseIdx q).length = R.length - 1 := by rw [List.length_eraseIdx, if_pos hql]
  have HLE := Lib.hid hlen
  have HER := Lib.hid (show flatP (R.take q) ++ flatP (R.drop (q + 1)) = flatP (R.eraseIdx q) by rw [← flatP_app, List.eraseIdx_eq_take_drop_succ])
  have hl1 : (flatP (R.take q)).length = q * 2 := by rw [flatP_len, List.length_take, Nat.min_eq_left (by omega)]
  have hl2 : (flatP (R.drop (q + 1))).length = (R.length - (q + 1)) * 2 := by rw [flatP_len, List.length_drop]
  obtain ⟨n, hne⟩ : ∃ n, R.length = n := ⟨_, rfl⟩
  rw [hlen]
  rw [hne] at HP HLE hn hql hc hl2 ⊢
  have HLN := Lib.hid (And.intro hne (And.intro hl1 hl2))
  have g0 : (0 : Int) ≤ (q : Int) := by omega
  have g1 : (q : Int) ≤ (c : Int) := by omega
  have g2 : (q : Int) < (n : Int) := by omega
  have g3 : (q : Int) ≤ (n : Int) := by omega
  have g4 : (0 : Int) ≤ (q : Int) + 1 := by omega
  have g5 : (q : Int) + 1 ≤ (n : Int) := by omega
  have g6 : (n : Int) ≤ (c : Int) := by omega
  have g7 : ¬ c = 0 := by omega
  have g8 : q ≤ c := by omega
  have g9 : q + 1 ≤ n := by omega
  have e3 : IntKind.i64.wrap (q : Int) = (q : Int) := by rw [IntWalk.i64_in _ (by omega)]
  have e2 : IntKind.i64.wrap ((q : Int) + 1) = (q : Int) + 1 := by rw [IntWalk.i64_in _ (by omega)]
  have e4 : ((q : Int) + 1).toNat = q + 1 := by omega
  clear h ht hlen hne hl1 hl2 hy
  go_enter Try.func10, Try.ntmps10
  go_wp2_with fail
  refine (HP.out _ (HR.out.none (((Keeps.refl _ _).alloc _).alloc _))).mono ?_
  rintro e w1 ⟨rfl, k1⟩
  have hr1 := HR.out.none ((((Keeps.refl _ _).alloc (.cells #[.slice (some ⟨b, 0, none⟩) n c] 30)).alloc (.cells #[.slice none 0 0] 30)).trans k1)
  obtain ⟨q3, q6, hb1, hsz⟩ := app_box2 k1
  have c3 := cell_of q3 0
  have HC3 := Lib.hid q3
  have l3 : w.heap.size < w1.heap.size := by omega
  have l6 : w.heap.size + 1 < w1.heap.size := by omega
  have hkw : Keeps (fun _ => False) w w1 := ((Keeps.refl _ _).alloc (.cells #[.slice (some ⟨b, 0, none⟩) n c] 30)).alloc (.cells #[.slice none 0 0] 30) |>.trans k1
  obtain ⟨b', eb, lb1, _, cq⟩ := hr1.get q y hq
  injection eb with eb
  injection eb with eb
  subst eb
  have HQ1 := Lib.hid (LP.news (hr1.none (((Keeps.refl _ _).alloc (.cells #[] 58)).drew)) q)
  have H1 := Lib.hid (And.intro (show ((w1.alloc (.cells #[] 58)).drew).heap[w.heap.size]? = _ from heap_old q3 _) (And.intro (show ((w1.alloc (.cells #[] 58)).drew).heap[w.heap.size + 1]? = _ from heap_old q6 _) (And.intro ((hkw.alloc (.cells #[] 58)).drew.none) (show ((w1.alloc (.cells #[] 58)).drew).ownsRow w.heap.size 58 2 (.slice (some ⟨w1.heap.size, 0, none⟩) 0 0) 0 [] from w_empty w1 w.heap.size 58 hb1.size))))
  obtain ⟨i0, hi, hz0, hz1, hz2⟩ := info_parts Try.infoW
  clear k1 q3 q6 hr1 hb1 hkw hq
  go_wp2_with fail
  go_region_held3 (fun w' => w'.cell? ⟨w.heap.size, 0, none⟩ = some (.slice (some ⟨b, 0, none⟩) n c) ∧ w'.cell? ⟨b, q * 2 + 1, none⟩ = some (.int .u64 (y.2 : Int)))
    (first
      | exact ⟨y1, z1⟩
      | exact ⟨y0, z0⟩
      | exact ⟨c3, cq⟩
      | go_keep)
    ((first
      | (refine step_app_any rfl (.tmp 14) (.tmp 18) 28 rfl w.heap.size 58 i0 (.agg #[.int .i64 0, .int .u64 0]) 2 16 Try.underlying28 hi hz0 hz1 hz2 rfl (by decide) (.slice (some ⟨w1.heap.size, 0, none⟩) 0 0) 0 [] rfl H1.out.2.2.2 (some ⟨b, 0, none⟩) q c (flatP (R.take q)) rfl (fun e => by cases e) HLN.out.2.1 HQ1.out (flatP_one _) (by unfold maxLen; omega) (by omega) (H1.out.2.2.1.size) ?_; intro v2 w2 hown2 hgrow; obtain ⟨g3', g6', hb2⟩ := app_grown2 H1.out.1 H1.out.2.1 H1.out.2.2.1 hgrow (fun k e => by have e2 : w1.heap.size = k := Option.some.inj e; subst e2; exact ⟨by omega, by omega, by omega⟩); rw [Nat.zero_add, List.nil_append] at hown2; have l32 := lt_of g3'; have l62 := lt_of g6'; have y0 := cell_of g3' 0; have z0 := LP.left (HR.out.none (Keeps.ofBelow hb2)) HYQ.out; have HQ2 := Lib.hid (LP.newsD (HR.out.none (Keeps.ofBelow hb2)) (q + 1) (by rw [HLN.out.1]; omega)); have H2 := Lib.hid (And.intro g3' (And.intro g6' (And.intro hb2 hown2))); clear hown2 hgrow hb2 g3' g6')
      | (refine step_app_any rfl (.tmp 19) (.tmp 24) 28 rfl w.heap.size 58 i0 (.agg #[.int .i64 0, .int .u64 0]) 2 16 Try.underlying28 hi hz0 hz1 hz2 rfl (by decide) v2 q (flatP (R.take q)) rfl H2.out.2.2.2 (if c = q + 1 then some ⟨b, 0, none⟩ else some ⟨b, (q + 1) * 2, none⟩) (n - (q + 1)) (c - (q + 1)) (flatP (R.drop (q + 1))) rfl (fun e => by split at e <;> cases e) HLN.out.2.2 HQ2.out (flatP_one _) (by unfold maxLen; omega) (by omega) (H2.out.2.2.1.size) ?_; intro v3 w3 hown3 hgrow; obtain ⟨g3', g6', hb3⟩ := app_grown2 H2.out.1 H2.out.2.1 H2.out.2.2.1 hgrow (fun k e => ⟨(H2.out.2.2.2.lt k e).1, (fun e2 => own_apart H2.out.2.2.2 H2.out.1 (by decide) (by subst e2; exact e)), (fun e2 => own_apart H2.out.2.2.2 H2.out.2.1 (by decide) (by subst e2; exact e))⟩); rw [HER.out] at hown3; have hap := own_apart hown3 g6' (by decide); obtain ⟨A', c', rfl, hrow, hfar⟩ := LP.ofOwn2 hown3; rw [HLE.out] at *; have y1 := cell_of g3' 0; have z1 := LP.left (HR.out.none (Keeps.ofBelow hb3)) HYQ.out; have l63 := lt_of g6'; have r6 := cell_of g6' 0; have f6 := free_of g6' 0; have HFA := Lib.hid hfar; have H3 := Lib.hid (And.intro hap (And.intro hb3 hrow)); clear hown3 hgrow hb3 g3' g6' hap hrow hfar)
      | fail))
  have hne' : ∀ b' off', A' = some ⟨b', off', none⟩ → b' ≠ w.heap.size + 1 := fun b' off' e he => H3.out.1 (by subst e; rw [← he]; rfl)
  go_wp2_with fail
  all_goals refine bodyPost_ret (v := .tuple #[.agg #[.slice A' (n - 1) c'], .int .u32 (y.2 : Int), .bool true]) (by simp [results, Try.results10, go_sem, *]) rfl ⟨A', c', rfl, ?_, HFA.out, (Keeps.ofBelow H3.out.2.1).setCell (.inr (by simp)) _⟩
  all_goals exact H3.out.2.2.keeps (S := fun k => k = w.heap.size + 1) ((Keeps.refl (fun k => k = w.heap.size + 1) w3).setCell (p := ⟨w.heap.size + 1, 0, none⟩) (.inl rfl) _) fun b' off' e he => hne' b' off' e he
end Go.Proofs.Ytfniicgfnlklbab
