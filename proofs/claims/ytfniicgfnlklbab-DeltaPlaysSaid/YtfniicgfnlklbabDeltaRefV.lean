import Derived.Test.YtfniicgfnlklbabDeltaRefR
import Derived.Test.YtfniicgfnlklbabAppAny
import Derived.Deep.RegionHeld3
import Derived.Handy
import Derived.IntWalk
namespace Go.Proofs.Ytfniicgfnlklbab
open Go.ChangeShapes Go.WideShapes Go.ChangeAt Go.RowKit
set_option linter.unusedVariables false
set_option linter.unusedSimpArgs false
theorem rrow_at {w : World} {b off n : Nat} {P : Nat → Int} {X : Nat → Nat} (h : RRow w (some ⟨b, off, none⟩) n P X) (i : Nat) (hi : i < n) : w.cell? ⟨b, off + i * 2, none⟩ = some (.int .i64 (P i)) ∧ w.cell? ⟨b, off + i * 2 + 1, none⟩ = some (.int .u64 (X i : Int)) := by
  obtain ⟨b', off', e, _, hc⟩ := h (by omega)
  cases e
  exact hc i hi
theorem rnews_take {w : World} {b off n : Nat} {P : Nat → Int} {X : Nat → Nat} (h : RRow w (some ⟨b, off, none⟩) n P X) (q : Nat) (hq : q ≤ n) : ∀ ad : Addr, some (⟨b, off, none⟩ : Addr) = some ad → ∀ (j : Nat) (u : Value), (flatW P X q)[j]? = some u → w.cell? (ad.add j) = some u := by
  intro ad e
  injection e with e
  subst e
  exact rrow_news (rrow_take h hq)
theorem rnews_drop {w : World} {b off n c : Nat} {P : Nat → Int} {X : Nat → Nat} (h : RRow w (some ⟨b, off, none⟩) n P X) (k : Nat) (hk : k ≤ n) (hc : n ≤ c) : ∀ ad : Addr, (if c = k then some (⟨b, off, none⟩ : Addr) else some ⟨b, off + k * 2, none⟩) = some ad → ∀ (j : Nat) (u : Value), (flatW (fun i => P (k + i)) (fun i => X (k + i)) (n - k))[j]? = some u → w.cell? (ad.add j) = some u := by
  intro ad e j u hu
  by_cases hck : c = k
  · have e0 : n - k = 0 := by omega
    rw [e0] at hu
    simp [flatW] at hu
  · rw [if_neg hck] at e
    injection e with e
    subst e
    exact rrow_news (rrow_drop h k) j u hu
set_option maxRecDepth 20000 in
set_option maxHeartbeats 1000000 in
theorem rrem_yes (b off n c : Nat) (P : Nat → Int) (X : Nat → Nat) (t : Int) (q : Nat) (w : World) (hn : n ≤ 100) (hnc : n ≤ c) (hq : q < n) (hr : RRow w (some ⟨b, off, none⟩) n P X) (hbw : b < w.heap.size) (ht : ∀ i, i < q → P i ≠ t) (he : P q = t) (hx : X q < 4294967296) :
    Calls Try.prog 10 #[.agg #[.slice (some ⟨b, off, none⟩) n c], .int .i64 t] w fun e w' => ∃ a' c', e = .returned (.tuple #[.agg #[.slice a' (n - 1) c'], .int .u32 (X q : Int), .bool true]) ∧ RRow w' a' (n - 1) (fun i => if i < q then P i else P (i + 1)) (fun i => if i < q then X i else X (i + 1)) ∧ (a' = none → c' = 0) ∧ n - 1 ≤ c' ∧ (∀ b off, a' = some ⟨b, off, none⟩ → w.heap.size ≤ b) ∧ Keeps (fun _ => False) w w' := by
  have HP := Lib.hid (fun w1 h1 => rplace_yes (some ⟨b, off, none⟩) n c P X t w1 (by omega) q hq h1 ht he)
  have HR := Lib.hid hr
  have HER := Lib.hid (show flatW P X q ++ flatW (fun i => P (q + 1 + i)) (fun i => X (q + 1 + i)) (n - (q + 1)) = flatW (fun i => if i < q then P i else P (i + 1)) (fun i => if i < q then X i else X (i + 1)) (n - 1) by
    rw [flatW_join, show q + (n - (q + 1)) = n - 1 by omega]
    refine flatW_congr (n - 1) fun i hi => ?_
    have e1 : ¬ i < q → q + 1 + (i - q) = i + 1 := fun h => by omega
    constructor
    · show (if i < q then P i else P (q + 1 + (i - q))) = if i < q then P i else P (i + 1)
      split
      · rfl
      · rename_i h1; rw [e1 h1]
    · show (if i < q then X i else X (q + 1 + (i - q))) = if i < q then X i else X (i + 1)
      split
      · rfl
      · rename_i h1; rw [e1 h1])
  have g0 : (0 : Int) ≤ (q : Int) := by omega
  have g1 : (q : Int) ≤ (c : Int) := by omega
  have g2 : (q : Int) < (n : Int) := by omega
  have g3 : (q : Int) ≤ (n : Int) := by omega
  have g4 : (0 : Int) ≤ (q : Int) + 1 := by omega
  have g5 : (q : Int) + 1 ≤ (n : Int) := by omega
  have g6 : (n : Int) ≤ (c : Int) := by omega
  have g7 : ¬ c = 0 := by omega
  have g8 : q ≤ c := by omega
  have g9 : q + 1 ≤ n := by omega
  have e3 : IntKind.i64.wrap (q : Int) = (q : Int) := by rw [IntWalk.i64_in _ (by omega)]
  have e2 : IntKind.i64.wrap ((q : Int) + 1) = (q : Int) + 1 := by rw [IntWalk.i64_in _ (by omega)]
  have e4 : ((q : Int) + 1).toNat = q + 1 := by omega
  have e5 : IntKind.u32.wrap (X q : Int) = (X q : Int) := by simp [IntKind.wrap, IntKind.signed, IntKind.bits]; omega
  clear hr ht he
  go_enter Try.func10, Try.ntmps10
  go_wp2_with fail
  refine (HP.out _ (HR.out.none (((Keeps.refl _ _).alloc _).alloc _))).mono ?_
  rintro e w1 ⟨rfl, k1⟩
  have hkw : Keeps (fun _ => False) w w1 := ((Keeps.refl _ _).alloc (.cells #[.slice (some ⟨b, off, none⟩) n c] 30)).alloc (.cells #[.slice none 0 0] 30) |>.trans k1
  have hr1 := HR.out.none hkw
  obtain ⟨q3, q6, hb1, hsz⟩ := app_box2 k1
  have c3 := cell_of q3 0
  have l3 : w.heap.size < w1.heap.size := by omega
  have l6 : w.heap.size + 1 < w1.heap.size := by omega
  obtain ⟨b', off', e', hb', hc'⟩ := hr1 (by omega)
  cases e'
  have cq := (hc' q hq).2
  have lb1 : b < w1.heap.size := hb'
  have hbn : b ≠ w.heap.size + 1 := by omega
  have hbn2 : w.heap.size + 1 ≠ b := by omega
  have HQ1 := Lib.hid (rnews_take (hr1.none (((Keeps.refl _ _).alloc (.cells #[] 58)).drew)) q (by omega))
  have H1 := Lib.hid (And.intro (show ((w1.alloc (.cells #[] 58)).drew).heap[w.heap.size]? = _ from heap_old q3 _) (And.intro (show ((w1.alloc (.cells #[] 58)).drew).heap[w.heap.size + 1]? = _ from heap_old q6 _) (And.intro ((hkw.alloc (.cells #[] 58)).drew.none) (show ((w1.alloc (.cells #[] 58)).drew).ownsRow w.heap.size 58 2 (.slice (some ⟨w1.heap.size, 0, none⟩) 0 0) 0 [] from w_empty w1 w.heap.size 58 hb1.size))))
  obtain ⟨i0, hi, hz0, hz1, hz2⟩ := info_parts Try.infoW
  clear k1 q3 q6 hr1 hb1 hkw hc'
  go_wp2_with fail
  go_region_held3 (fun w' => w'.cell? ⟨w.heap.size, 0, none⟩ = some (.slice (some ⟨b, off, none⟩) n c) ∧ w'.cell? ⟨b, off + q * 2 + 1, none⟩ = some (.int .u64 (X q : Int)))
    (first
      | exact ⟨y1, z1⟩
      | exact ⟨y0, z0⟩
      | exact ⟨c3, cq⟩
      | go_keep)
    ((first
      | (refine step_app_any rfl (.tmp 14) (.tmp 18) 28 rfl w.heap.size 58 i0 (.agg #[.int .i64 0, .int .u64 0]) 2 16 Try.underlying28 hi hz0 hz1 hz2 rfl (by decide) (.slice (some ⟨w1.heap.size, 0, none⟩) 0 0) 0 [] rfl H1.out.2.2.2 (some ⟨b, off, none⟩) q c (flatW P X q) rfl (fun e => by cases e) (flatW_len P X q) HQ1.out (flatW_one P X q) (by unfold maxLen; omega) (by omega) (H1.out.2.2.1.size) ?_; intro v2 w2 hown2 hgrow; obtain ⟨g3', g6', hb2⟩ := app_grown2 H1.out.1 H1.out.2.1 H1.out.2.2.1 hgrow (fun k e => by have e2 : w1.heap.size = k := Option.some.inj e; subst e2; exact ⟨by omega, by omega, by omega⟩); rw [Nat.zero_add, List.nil_append] at hown2; have l32 := lt_of g3'; have l62 := lt_of g6'; have y0 := cell_of g3' 0; have hr2 := HR.out.none (Keeps.ofBelow hb2); have z0 := (rrow_at hr2 q hq).2; have HQ2 := Lib.hid (rnews_drop (c := c) hr2 (q + 1) (by omega) hnc); have H2 := Lib.hid (And.intro g3' (And.intro g6' (And.intro hb2 hown2))); clear hown2 hgrow hb2 g3' g6' hr2)
      | (refine step_app_any rfl (.tmp 19) (.tmp 24) 28 rfl w.heap.size 58 i0 (.agg #[.int .i64 0, .int .u64 0]) 2 16 Try.underlying28 hi hz0 hz1 hz2 rfl (by decide) v2 q (flatW P X q) rfl H2.out.2.2.2 (if c = q + 1 then some ⟨b, off, none⟩ else some ⟨b, off + (q + 1) * 2, none⟩) (n - (q + 1)) (c - (q + 1)) (flatW (fun i => P (q + 1 + i)) (fun i => X (q + 1 + i)) (n - (q + 1))) rfl (fun e => by split at e <;> cases e) (flatW_len _ _ _) HQ2.out (flatW_one _ _ _) (by unfold maxLen; omega) (by omega) (H2.out.2.2.1.size) ?_; intro v3 w3 hown3 hgrow; obtain ⟨g3', g6', hb3⟩ := app_grown2 H2.out.1 H2.out.2.1 H2.out.2.2.1 hgrow (fun k e => ⟨(H2.out.2.2.2.lt k e).1, (fun e2 => own_apart H2.out.2.2.2 H2.out.1 (by decide) (by subst e2; exact e)), (fun e2 => own_apart H2.out.2.2.2 H2.out.2.1 (by decide) (by subst e2; exact e))⟩); rw [HER.out, show q + (n - (q + 1)) = n - 1 by omega] at hown3; have hap := own_apart hown3 g6' (by decide); have hlt3 := hown3.lt; obtain ⟨a', c', rfl, hrow, hg1, hg2⟩ := rrow_owns hown3; have y1 := cell_of g3' 0; have z1 := (rrow_at (HR.out.none (Keeps.ofBelow hb3)) q hq).2; have l63 := lt_of g6'; have r6 := cell_of g6' 0; have f6 := free_of g6' 0; have H3 := Lib.hid (And.intro hap (And.intro hb3 (And.intro hrow (And.intro hg1 (And.intro hg2 hlt3))))); clear hown3 hgrow hb3 g3' g6' hap hrow hg1 hg2 hlt3)
      | fail))
  have hne' : ∀ b' off', a' = some ⟨b', off', none⟩ → b' ≠ w.heap.size + 1 := fun b' off' e he => H3.out.1 (by subst e; rw [← he]; rfl)
  go_wp2_with fail
  all_goals refine bodyPost_ret (v := .tuple #[.agg #[.slice a' (n - 1) c'], .int .u32 (X q : Int), .bool true]) (by simp [results, Try.results10, go_sem, *]) rfl ⟨a', c', rfl, ?_, H3.out.2.2.2.1, (by have h := H3.out.2.2.2.2.1; omega), (fun b' off' e => (H3.out.2.2.2.2.2 b' (by subst e; rfl)).1), (Keeps.ofBelow H3.out.2.1).setCell (.inr (by simp)) _⟩
  all_goals exact H3.out.2.2.1.keeps (S := fun k => k = w.heap.size + 1) ((Keeps.refl (fun k => k = w.heap.size + 1) w3).setCell (p := ⟨w.heap.size + 1, 0, none⟩) (.inl rfl) _) fun b' off' e he => hne' b' off' e he
end Go.Proofs.Ytfniicgfnlklbab
