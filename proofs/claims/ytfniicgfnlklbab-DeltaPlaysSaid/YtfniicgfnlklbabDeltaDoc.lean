import Derived.Test.YtfniicgfnlklbabDeltaRel
import Derived.Test.YtfniicgfnlklbabDeltaRefU
namespace Go.Proofs.Ytfniicgfnlklbab
open Go.ChangeShapes Go.WideShapes Go.ChangeAt Go.RowKit
set_option linter.unusedVariables false
set_option linter.unusedSimpArgs false
theorem LP.rrow {w : World} {A : Option Addr} {c : Nat} {R : List (Int × Nat)} (h : LP w A c R) : RRow w A R.length (pL R) (xL R) := by
  intro hp
  obtain ⟨a, ha⟩ : ∃ a, R[0]? = some a := ⟨_, List.getElem?_eq_getElem hp⟩
  obtain ⟨b, rfl, hb, _, _⟩ := h.get 0 a ha
  refine ⟨b, 0, rfl, hb, fun i hi => ?_⟩
  have hx : R[i]? = some R[i] := List.getElem?_eq_getElem hi
  obtain ⟨b', e, _, h1, h2⟩ := h.get i _ hx
  injection e with e
  injection e with e
  subst e
  rw [Nat.zero_add]
  have e1 : pL R i = R[i].1 := by unfold pL; rw [hx]
  have e2 : xL R i = R[i].2 := by unfold xL; rw [hx]
  rw [e1, e2]
  exact ⟨h1, h2⟩
theorem pL_ne {R : List (Int × Nat)} {t : Int} (h : ∀ a, a ∈ R → a.1 ≠ t) : ∀ i, i < R.length → pL R i ≠ t := by
  intro i hi
  have hx : R[i]? = some R[i] := List.getElem?_eq_getElem hi
  have e1 : pL R i = R[i].1 := by unfold pL; rw [hx]
  rw [e1]
  exact h _ (List.getElem_mem hi)
theorem LP.nil2 {w : World} {A : Option Addr} {c n : Nat} {R : List (Int × Nat)} (h : LP w A c R) (hn : R.length = n) : A = Option.none → n = 0 ∧ c = 0 := fun e => ⟨by rw [← hn, (h.nil e).1]; rfl, (h.nil e).2⟩
theorem LP.newsA {w : World} {A : Option Addr} {c : Nat} {R : List (Int × Nat)} (h : LP w A c R) : ∀ ad, A = some ad → ∀ j u, (flatP R)[j]? = some u → w.cell? (ad.add j) = some u := fun ad e j u hu => h.news R.length ad e j u (by rw [List.take_length]; exact hu)
theorem LP.keeps {S : Nat → Prop} {w w' : World} {A : Option Addr} {c : Nat} {R : List (Int × Nat)} (h : LP w A c R) (hk : Keeps S w w') (hs : ∀ b off, A = some ⟨b, off, Option.none⟩ → ¬ S b) : LP w' A c R :=
  ⟨h.nil, h.le, fun ad e => by
    obtain ⟨b, rfl, hb, hc⟩ := h.lies ad e
    exact ⟨b, rfl, Nat.lt_of_lt_of_le hb hk.size, fun j u hu => (World.cell?_of_block (w := w) (hk.block b hb (hs b 0 e))).trans (hc j u hu)⟩⟩
theorem LP.ofOwn2 {w : World} {B n : Nat} {E : TypeId} {v : Value} {R : List (Int × Nat)} (h : w.ownsRow B E 2 v n (flatP R)) : ∃ A c, v = .slice A R.length c ∧ LP w A c R ∧ ∀ b off, A = some ⟨b, off, Option.none⟩ → B ≤ b := by
  have hlt := h.lt
  obtain ⟨A, c, rfl, hp⟩ := LP.ofOwn h
  exact ⟨A, c, rfl, hp, fun b off e => (hlt b (by subst e; rfl)).1⟩
theorem p_two (w : World) (x y : Value) (E : TypeId) : ∀ ad : Addr, some (⟨w.heap.size, 0, none⟩ : Addr) = some ad → ∀ (j : Nat) (u : Value), [x, y][j]? = some u → (w.alloc (.cells #[x, y] E)).cell? (ad.add j) = some u := by
  intro ad e j u h
  injection e with e
  subst e
  rcases j with _ | _ | j
  · rw [show ((⟨w.heap.size, 0, none⟩ : Addr).add 0) = ⟨w.heap.size, 0, none⟩ by simp [Addr.add]]
    simp at h
    subst h
    exact cell_of (heap_new w _) 0
  · rw [show ((⟨w.heap.size, 0, none⟩ : Addr).add (0 + 1)) = ⟨w.heap.size, 1, none⟩ by simp [Addr.add]]
    simp at h
    subst h
    exact cell_of (heap_new w _) 1
  · simp at h
theorem p_grown {w w1 w2 : World} {x : Value} {T : TypeId} {o : Obj} {row : Option Nat} (h6 : w1.heap[w.heap.size + 1]? = some (.cells #[x] T (0, 0))) (hb : Below w.heap.size w w1) (hg : (w1.alloc o).grownBy w2 row) (hr : ∀ k, row = some k → w.heap.size ≤ k ∧ k ≠ w.heap.size + 1) :
    w2.heap[w.heap.size + 1]? = some (.cells #[x] T (0, 0)) ∧ Below w.heap.size w w2 := by
  have hs : (w1.alloc o).heap.size = w1.heap.size + 1 := by simp
  have l6 := lt_of h6
  refine ⟨?_, (hb.alloc hb.size o).grown hg (by have := hb.size; omega) fun k hk => (hr k hk).1⟩
  rw [hg.block _ (by omega) fun e => (hr _ e.symm).2 rfl]
  exact heap_old h6 _
set_option maxRecDepth 20000 in
theorem radd_list (A : Option Addr) (c : Nat) (R : List (Int × Nat)) (w : World) (t : Int) (x : Nat) (hn : R.length ≤ 1000) (h : LP w A c R) (ht : ∀ a, a ∈ R → a.1 ≠ t) (hb : (0 ≤ t ∧ t < 16) ∧ 0 < x ∧ x < 4294967296) :
    Calls Try.prog 8 #[.agg #[.slice A R.length c], .int .i64 t, .int .u32 (x : Int)] w fun e w' => ∃ A' c', e = .returned (.tuple #[.agg #[.slice A' (R ++ [(t, x)]).length c'], .bool true]) ∧ LP w' A' c' (R ++ [(t, x)]) ∧ (∀ b off, A' = some ⟨b, off, none⟩ → w.heap.size ≤ b) ∧ Keeps (fun _ => False) w w' := by
  have HP := Lib.hid (fun w1 (h1 : LP w1 A c R) => rplace_no A R.length c (pL R) (xL R) t w1 hn (LP.rrow h1) (pL_ne ht))
  have HR := Lib.hid h
  have d0 : decide (t < 0) = false := decide_eq_false (by omega)
  have d1 : decide (15 < t) = false := decide_eq_false (by omega)
  have d2 : ((x : Int) == 0) = false := beq_eq_false_iff_ne.mpr (by omega)
  have hx2 := hb.2.2
  have HLEN := Lib.hid (flatP_len R)
  have hlen : (R ++ [(t, x)]).length = R.length + 1 := by simp
  have HLE := Lib.hid hlen
  rw [hlen]
  obtain ⟨n, hne⟩ : ∃ n, R.length = n := ⟨_, rfl⟩
  rw [hne] at HP HLEN HLE hn ⊢
  have HLN := Lib.hid hne
  clear h ht hb hlen hne
  go_enter Try.func8, Try.ntmps8
  go_wp2_with fail
  refine (HP.out _ (HR.out.none (((Keeps.refl _ _).alloc _).alloc _))).mono ?_
  rintro e w1 ⟨rfl, k1⟩
  have hr1 := HR.out.none ((((Keeps.refl _ _).alloc (.cells #[.slice A n c] 30)).alloc (.cells #[.slice none 0 0] 30)).trans k1)
  obtain ⟨q3, q6, hb1, hsz⟩ := app_box2 k1
  have c3 := cell_of q3 0
  have l3 : w.heap.size < w1.heap.size := by omega
  have l6 : w.heap.size + 1 < w1.heap.size := by omega
  have HN := Lib.hid ((hr1.none ((Keeps.refl _ _).alloc (.cells #[] 58))).newsA)
  have H1 := Lib.hid (And.intro q6 (And.intro hb1 (w_empty w1 w.heap.size 58 hb1.size)))
  obtain ⟨i0, hi, hz0, hz1, hz2⟩ := info_parts Try.infoW
  clear k1 q3 q6 hr1 hb1
  go_wp2_with (at_builtin; first
    | (refine wpList_app_any rfl (.tmp 25) (.tmp 27) 28 rfl w.heap.size 58 i0 (.agg #[.int .i64 0, .int .u64 0]) 2 16 Try.underlying28 hi hz0 hz1 hz2 rfl (by decide) _ _ _ rfl H1.out.2.2 A n c (flatP R) rfl (LP.nil2 HR.out HLN.out) HLEN.out HN.out (flatP_one R) (by unfold maxLen; omega) (by omega) (by simp; omega) ?_; intro v2 w2 hown2 hgrow; obtain ⟨g6, hb2⟩ := p_grown H1.out.1 H1.out.2.1 hgrow (fun k e => by have e2 : w1.heap.size = k := Option.some.inj e; subst e2; exact ⟨by omega, by omega⟩); rw [Nat.zero_add, List.nil_append] at hown2; have l62 := lt_of g6; have H2 := Lib.hid (And.intro g6 (And.intro hb2 hown2)); clear hown2 hgrow hb2 g6)
    | (refine wpList_app_any rfl (.tmp 28) (.tmp 33) 28 rfl w.heap.size 58 i0 (.agg #[.int .i64 0, .int .u64 0]) 2 16 Try.underlying28 hi hz0 hz1 hz2 rfl (by decide) v2 n (flatP R) rfl (H2.out.2.2.alloc _) (some ⟨w2.heap.size, 0, none⟩) 1 1 [.int .i64 t, .int .u64 (x : Int)] rfl (fun e => by cases e) rfl (p_two _ _ _ _) (by simp [Value.oneCell']) (by unfold maxLen; omega) (by omega) (by simp; omega) ?_; intro v3 w3 hown3 hgrow; obtain ⟨g6, hb3⟩ := p_grown H2.out.1 H2.out.2.1 hgrow (fun k e => ⟨(H2.out.2.2.lt k e).1, fun e2 => own_apart H2.out.2.2 H2.out.1 (by decide) (by subst e2; exact e)⟩); have hap := own_apart hown3 g6 (by decide); obtain ⟨A', c', rfl, hrow, hfar⟩ := LP.ofOwn2 (R := R ++ [(t, x)]) (by rw [flatP_app]; exact hown3); rw [HLE.out] at *; have l63 := lt_of g6; have r6 := cell_of g6 0; have f6 := free_of g6 0; have HFA := Lib.hid hfar; have H3 := Lib.hid (And.intro hap (And.intro hb3 hrow)); clear hown3 hgrow hb3 g6 hap hrow hfar)
    | fail)
  have hne : ∀ b' off', A' = some ⟨b', off', none⟩ → b' ≠ w.heap.size + 1 := fun b' off' e he => H3.out.1 (by subst e; rw [← he]; rfl)
  refine bodyPost_ret (v := .tuple #[.agg #[.slice A' (n + 1) c'], .bool true]) (by simp [results, Try.results8, go_sem, *]) rfl ⟨A', c', rfl, ?_, HFA.out, (Keeps.ofBelow H3.out.2.1).setCell (.inr (by simp)) _⟩
  exact H3.out.2.2.keeps (S := fun k => k = w.heap.size + 1) ((Keeps.refl (fun k => k = w.heap.size + 1) w3).setCell (p := ⟨w.heap.size + 1, 0, none⟩) (.inl rfl) _) fun b' off' e he => hne b' off' e he
end Go.Proofs.Ytfniicgfnlklbab
