import Derived.Test.YtfniicgfnlklbaaQRc
import Derived.Deep.RegionHeld3
import Derived.IntWalk
namespace Go.Proofs.Ytfniicgfnlklbaa
open Go.ChangeShapes Go.WideShapes Go.ChangeAt Go.RowKit
set_option linter.unusedVariables false
set_option linter.unusedSimpArgs false
theorem q_drewBox {w w1 : World} {x : Value} {T : TypeId} {o : Obj} {g : Nat} (h : w1.heap[g]? = some (.cells #[x] T (0, 0))) : (w1.drew.alloc o).heap[g]? = some (.cells #[x] T (0, 0)) := heap_old (w := w1.drew) h _
theorem q_grown2 {w wa w2 : World} {o3 o6 : Obj} {row : Option Nat} (h3 : wa.heap[w.heap.size]? = some o3) (h6 : wa.heap[w.heap.size + 1]? = some o6) (hb : Below w.heap.size w wa) (hg : wa.grownBy w2 row) (hr : ∀ k, row = some k → w.heap.size ≤ k ∧ k ≠ w.heap.size ∧ k ≠ w.heap.size + 1) :
    w2.heap[w.heap.size]? = some o3 ∧ w2.heap[w.heap.size + 1]? = some o6 ∧ Below w.heap.size w w2 := by
  have l3 := lt_of h3
  have l6 := lt_of h6
  refine ⟨?_, ?_, hb.grown hg hb.size fun k hk => (hr k hk).1⟩
  · rw [hg.block _ l3 fun e => (hr _ e.symm).2.1 rfl]
    exact h3
  · rw [hg.block _ l6 fun e => (hr _ e.symm).2.2 rfl]
    exact h6
theorem QR.newsTake {w : World} {b c : Nat} {R : List (Nat × Nat)} (h : QR w (some ⟨b, 0, Option.none⟩) c R) (q : Nat) : ∀ ad : Addr, some (⟨b, 0, Option.none⟩ : Addr) = some ad → ∀ (j : Nat) (u : Value), (flatQ (R.take q))[j]? = some u → w.cell? (ad.add j) = some u :=
  fun ad e j u hu => h.news ad e j u (flatQ_take R q j u hu)
theorem QR.newsDrop {w : World} {b c : Nat} {R : List (Nat × Nat)} (h : QR w (some ⟨b, 0, Option.none⟩) c R) (k : Nat) (hk : k ≤ R.length) : ∀ ad : Addr, (if c = k then some (⟨b, 0, Option.none⟩ : Addr) else some ⟨b, k * 2, Option.none⟩) = some ad → ∀ (j : Nat) (u : Value), (flatQ (R.drop k))[j]? = some u → w.cell? (ad.add j) = some u := by
  intro ad e j u hu
  have hle := h.le
  by_cases hc : c = k
  · rw [List.drop_eq_nil_of_le (by omega)] at hu
    simp [flatQ] at hu
  · rw [if_neg hc] at e
    injection e with e
    subst e
    obtain ⟨b', e', hb, hcl⟩ := h.lies _ rfl
    injection e' with e1
    subst e1
    have := hcl _ u (flatQ_drop R k j hk u hu)
    rw [show ((⟨b, k * 2, Option.none⟩ : Addr).add j) = ⟨b, k * 2 + j, Option.none⟩ by unfold Addr.add; split <;> simp_all]
    exact this
section
variable (A : Option Addr) (c : Nat) (R : List (Nat × Nat)) (t : Int) (w : World)
set_option maxRecDepth 20000 in
theorem qrem_no (hn : R.length ≤ 1000) (h : QR w A c R) (ht : ∀ a, a ∈ R → (a.1 : Int) ≠ t) :
    Calls Try.prog 10 #[.agg #[.slice A R.length c], .int .i64 t] w fun e w' => e = .returned (.tuple #[.agg #[.slice A R.length c], .bool false]) ∧ Keeps (fun _ => False) w w' := by
  have HP := Lib.hid (fun w1 h1 => qplace_no A c R t w1 hn h1 ht)
  have HR := Lib.hid h
  generalize R.length = n at HP ⊢
  clear h ht hn
  go_enter Try.func10, Try.ntmps10
  go_wp2_with fail
  refine (HP.out _ (HR.out.none (((Keeps.refl _ _).alloc _).alloc _))).mono ?_
  rintro e w1 ⟨rfl, k1⟩
  obtain ⟨q3, q6, _, _⟩ := q_box2 k1
  have c3 := cell_of q3 0
  have c6 := cell_of q6 0
  have f6 := free_of q6 0
  have l6 := lt_of q6
  have l3 := lt_of q3
  have HK := Lib.hid k1
  clear k1 q3 q6
  go_wp2
  exact bodyPost_ret (v := .tuple #[.agg #[.slice A n c], .bool false]) (by simp [results, Try.results10, go_sem, *]) rfl ⟨rfl, ((((Keeps.refl _ _).alloc _).alloc _).trans HK.out).setCell (.inr (by simp)) _⟩
set_option maxRecDepth 20000 in
set_option maxHeartbeats 1000000 in
theorem qrem_yes (hn : R.length ≤ 1000) (h : QR w A c R) (q : Nat) (y : Nat × Nat) (hq : R[q]? = some y) (hy : (y.1 : Int) = t) (ht : ∀ i a, i < q → R[i]? = some a → (a.1 : Int) ≠ t) :
    Calls Try.prog 10 #[.agg #[.slice A R.length c], .int .i64 t] w fun e w' => ∃ A' c', e = .returned (.tuple #[.agg #[.slice A' (R.eraseIdx q).length c'], .bool true]) ∧ QR w' A' c' (R.eraseIdx q) ∧ (∀ b off, A' = some ⟨b, off, none⟩ → w.heap.size ≤ b) ∧ Keeps (fun _ => False) w w' := by
  have hql : q < R.length := (List.getElem?_eq_some_iff.1 hq).1
  have HP := Lib.hid (fun w1 h1 => qplace_yes A c R t w1 hn h1 q y hq hy ht)
  have HR := Lib.hid h
  obtain ⟨b, rfl, hb, _, _⟩ := h.get q y hq
  have hc := h.le
  have hm := h.max
  unfold maxLen at hm
  have hlen : (R.eraseIdx q).length = R.length - 1 := by rw [List.length_eraseIdx, if_pos hql]
  have HLE := Lib.hid hlen
  have HER := Lib.hid (show flatQ (R.take q) ++ flatQ (R.drop (q + 1)) = flatQ (R.eraseIdx q) by rw [← flatQ_app, List.eraseIdx_eq_take_drop_succ])
  have hl1 : (flatQ (R.take q)).length = q * 2 := by rw [flatQ_len, List.length_take, Nat.min_eq_left (by omega)]
  have hl2 : (flatQ (R.drop (q + 1))).length = (R.length - (q + 1)) * 2 := by rw [flatQ_len, List.length_drop]
  obtain ⟨n, hne⟩ : ∃ n, R.length = n := ⟨_, rfl⟩
  rw [hlen]
  rw [hne] at HP HLE hn hql hc hl2 ⊢
  have HLN := Lib.hid (And.intro hne (And.intro hl1 hl2))
  have g0 : (0 : Int) ≤ (q : Int) := by omega
  have g1 : (q : Int) ≤ (c : Int) := by omega
  have g2 : (q : Int) < (n : Int) := by omega
  have g3 : (q : Int) ≤ (n : Int) := by omega
  have g4 : (0 : Int) ≤ (q : Int) + 1 := by omega
  have g5 : (q : Int) + 1 ≤ (n : Int) := by omega
  have g6 : (n : Int) ≤ (c : Int) := by omega
  have g7 : ¬ c = 0 := by omega
  have g8 : q ≤ c := by omega
  have g9 : q + 1 ≤ n := by omega
  have e3 : IntKind.i64.wrap (q : Int) = (q : Int) := by rw [IntWalk.i64_in _ (by omega)]
  have e2 : IntKind.i64.wrap ((q : Int) + 1) = (q : Int) + 1 := by rw [IntWalk.i64_in _ (by omega)]
  have e4 : ((q : Int) + 1).toNat = q + 1 := by omega
  clear h ht hq hy hlen hne hl1 hl2
  go_enter Try.func10, Try.ntmps10
  go_wp2_with fail
  refine (HP.out _ (HR.out.none (((Keeps.refl _ _).alloc _).alloc _))).mono ?_
  rintro e w1 ⟨rfl, k1⟩
  have hr1 := HR.out.none ((((Keeps.refl _ _).alloc (.cells #[.slice (some ⟨b, 0, none⟩) n c] 35)).alloc (.cells #[.slice none 0 0] 35)).trans k1)
  obtain ⟨q3, q6, hb1, hsz⟩ := q_box2 k1
  have c3 := cell_of q3 0
  have HC3 := Lib.hid q3
  have l3 : w.heap.size < w1.heap.size := by omega
  have l6 : w.heap.size + 1 < w1.heap.size := by omega
  have hkw : Keeps (fun _ => False) w w1 := ((Keeps.refl _ _).alloc (.cells #[.slice (some ⟨b, 0, none⟩) n c] 35)).alloc (.cells #[.slice none 0 0] 35) |>.trans k1
  have HQ1 := Lib.hid (QR.newsTake (hr1.none (((Keeps.refl _ _).alloc (.cells #[] 57)).drew)) q)
  have H1 := Lib.hid (And.intro (show ((w1.alloc (.cells #[] 57)).drew).heap[w.heap.size]? = _ from heap_old q3 _) (And.intro (show ((w1.alloc (.cells #[] 57)).drew).heap[w.heap.size + 1]? = _ from heap_old q6 _) (And.intro ((hkw.alloc (.cells #[] 57)).drew.none) (show ((w1.alloc (.cells #[] 57)).drew).ownsRow w.heap.size 57 2 (.slice (some ⟨w1.heap.size, 0, none⟩) 0 0) 0 [] from q_empty w1 w.heap.size 57 hb1.size))))
  obtain ⟨i0, hi, hz0, hz1, hz2⟩ := info_parts Try.infoQ
  clear k1 q3 q6 hr1 hb1 hkw
  go_wp2_with fail
  go_region_held3 (fun w' => w'.cell? ⟨w.heap.size, 0, none⟩ = some (.slice (some ⟨b, 0, none⟩) n c))
    (first
      | exact y1
      | exact y0
      | go_keep)
    ((first
      | (refine step_append_any rfl (.tmp 13) (.tmp 17) 33 rfl w.heap.size 57 i0 (.agg #[.int .i64 0, .int .i64 0]) 2 16 Try.underlying33 hi hz0 hz1 hz2 rfl (by decide) (.slice (some ⟨w1.heap.size, 0, none⟩) 0 0) 0 [] rfl H1.out.2.2.2 (some ⟨b, 0, none⟩) q c (flatQ (R.take q)) rfl (fun e => by cases e) HLN.out.2.1 HQ1.out (flatQ_one _) (by unfold maxLen; omega) (by omega) (H1.out.2.2.1.size) ?_; intro v2 w2 hown2 hgrow; obtain ⟨g3', g6', hb2⟩ := q_grown2 H1.out.1 H1.out.2.1 H1.out.2.2.1 hgrow (fun k e => by have e2 : w1.heap.size = k := Option.some.inj e; subst e2; exact ⟨by omega, by omega, by omega⟩); rw [Nat.zero_add, List.nil_append] at hown2; have l32 := lt_of g3'; have l62 := lt_of g6'; have y0 := cell_of g3' 0; have HQ2 := Lib.hid (QR.newsDrop (HR.out.none (Keeps.ofBelow hb2)) (q + 1) (by rw [HLN.out.1]; omega)); have H2 := Lib.hid (And.intro g3' (And.intro g6' (And.intro hb2 hown2))); clear hown2 hgrow hb2 g3' g6')
      | (refine step_append_any rfl (.tmp 18) (.tmp 23) 33 rfl w.heap.size 57 i0 (.agg #[.int .i64 0, .int .i64 0]) 2 16 Try.underlying33 hi hz0 hz1 hz2 rfl (by decide) v2 q (flatQ (R.take q)) rfl H2.out.2.2.2 (if c = q + 1 then some ⟨b, 0, none⟩ else some ⟨b, (q + 1) * 2, none⟩) (n - (q + 1)) (c - (q + 1)) (flatQ (R.drop (q + 1))) rfl (fun e => by split at e <;> cases e) HLN.out.2.2 HQ2.out (flatQ_one _) (by unfold maxLen; omega) (by omega) (H2.out.2.2.1.size) ?_; intro v3 w3 hown3 hgrow; obtain ⟨g3', g6', hb3⟩ := q_grown2 H2.out.1 H2.out.2.1 H2.out.2.2.1 hgrow (fun k e => ⟨(H2.out.2.2.2.lt k e).1, (fun e2 => q_apart H2.out.2.2.2 H2.out.1 (by decide) (by subst e2; exact e)), (fun e2 => q_apart H2.out.2.2.2 H2.out.2.1 (by decide) (by subst e2; exact e))⟩); rw [HER.out] at hown3; have hap := q_apart hown3 g6' (by decide); obtain ⟨A', c', rfl, hrow, hfar⟩ := QR.ofOwn hown3; rw [HLE.out] at *; have y1 := cell_of g3' 0; have l63 := lt_of g6'; have r6 := cell_of g6' 0; have f6 := free_of g6' 0; have HFA := Lib.hid hfar; have H3 := Lib.hid (And.intro hap (And.intro hb3 hrow)); clear hown3 hgrow hb3 g3' g6' hap hrow hfar)
      | fail))
  have hne' : ∀ b' off', A' = some ⟨b', off', none⟩ → b' ≠ w.heap.size + 1 := fun b' off' e he => H3.out.1 (by subst e; rw [← he]; rfl)
  go_wp2_with fail
  all_goals refine bodyPost_ret (v := .tuple #[.agg #[.slice A' (n - 1) c'], .bool true]) (by simp [results, Try.results10, go_sem, *]) rfl ⟨A', c', rfl, ?_, HFA.out, (Keeps.ofBelow H3.out.2.1).setCell (.inr (by simp)) _⟩
  all_goals exact H3.out.2.2.keeps (S := fun k => k = w.heap.size + 1) ((Keeps.refl (fun k => k = w.heap.size + 1) w3).setCell (p := ⟨w.heap.size + 1, 0, none⟩) (.inl rfl) _) fun b' off' e he => hne' b' off' e he
end
end Go.Proofs.Ytfniicgfnlklbaa
