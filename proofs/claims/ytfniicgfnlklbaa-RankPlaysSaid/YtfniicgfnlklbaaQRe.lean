import Derived.Test.YtfniicgfnlklbaaQRd
namespace Go.Proofs.Ytfniicgfnlklbaa
open Go.ChangeShapes Go.WideShapes Go.ChangeAt Go.RowKit
set_option linter.unusedVariables false
set_option linter.unusedSimpArgs false
section
variable (A : Option Addr) (c : Nat) (R : List (Nat × Nat)) (t : Int) (w : World)
set_option maxRecDepth 20000 in
theorem qturn_no (hn : R.length ≤ 1000) (h : QR w A c R) (ht : ∀ a, a ∈ R → (a.1 : Int) ≠ t) :
    Calls Try.prog 12 #[.agg #[.slice A R.length c], .int .i64 t] w fun e w' => e = .returned (.tuple #[.agg #[.slice A R.length c], .bool false]) ∧ Keeps (fun _ => False) w w' := by
  have HP := Lib.hid (fun w1 h1 => qprio_no A c R t w1 hn h1 ht)
  have HR := Lib.hid h
  generalize R.length = n at HP ⊢
  clear h ht hn
  go_enter Try.func12, Try.ntmps12
  go_wp2_with fail
  refine (HP.out _ (HR.out.none (((Keeps.refl _ _).alloc _).alloc _))).mono ?_
  rintro e w1 ⟨rfl, k1⟩
  obtain ⟨q3, q6, _, _⟩ := q_box2 k1
  have c3 := cell_of q3 0
  have c6 := cell_of q6 0
  have f6 := free_of q6 0
  have l6 := lt_of q6
  have l3 := lt_of q3
  have HK := Lib.hid k1
  clear k1 q3 q6
  go_wp2
  exact bodyPost_ret (v := .tuple #[.agg #[.slice A n c], .bool false]) (by simp [results, Try.results12, go_sem, *]) rfl ⟨rfl, ((((Keeps.refl _ _).alloc _).alloc _).trans HK.out).setCell (.inr (by simp)) _⟩
set_option maxRecDepth 20000 in
set_option maxHeartbeats 1000000 in
theorem qturn_yes (hn : R.length ≤ 1000) (h : QR w A c R) (q : Nat) (y : Nat × Nat) (hq : R[q]? = some y) (hy : (y.1 : Int) = t) (ht : ∀ i a, i < q → R[i]? = some a → (a.1 : Int) ≠ t) (hno : ∀ a, a ∈ R.eraseIdx q → (a.1 : Int) ≠ t) (hb : y.1 < 16 ∧ y.2 < 32) :
    Calls Try.prog 12 #[.agg #[.slice A R.length c], .int .i64 t] w fun e w' => ∃ A' c', e = .returned (.tuple #[.agg #[.slice A' (R.eraseIdx q ++ [y]).length c'], .bool true]) ∧ QR w' A' c' (R.eraseIdx q ++ [y]) ∧ (∀ b off, A' = some ⟨b, off, none⟩ → w.heap.size ≤ b) ∧ Keeps (fun _ => False) w w' := by
  obtain ⟨t1, p1⟩ := y
  dsimp only at hy hb
  have HP := Lib.hid (fun w1 h1 => qprio_yes A c R t w1 hn h1 q (t1, p1) hq hy ht)
  have HM := Lib.hid (fun w1 h1 => qrem_yes A c R t w1 hn h1 q (t1, p1) hq hy ht)
  subst hy
  have hle : (R.eraseIdx q).length ≤ 1000 := Nat.le_trans (List.length_eraseIdx_le _ _) hn
  have HA := Lib.hid (fun A1 c1 w1 h1 => qadd_yes A1 c1 (R.eraseIdx q) w1 t1 p1 hle h1 hno hb)
  have HR := Lib.hid h
  generalize R.length = n at HP HM ⊢
  generalize (R.eraseIdx q).length = n1 at HM HA
  generalize (R.eraseIdx q ++ [(t1, p1)]).length = n2 at HA ⊢
  clear h ht hno hn hb hle hq
  go_enter Try.func12, Try.ntmps12
  go_wp2_with fail
  refine (HP.out _ (HR.out.none (((Keeps.refl _ _).alloc _).alloc _))).mono ?_
  rintro e w1 ⟨rfl, k1⟩
  have hr1 := HR.out.none ((((Keeps.refl _ _).alloc (.cells #[.slice A n c] 35)).alloc (.cells #[.slice none 0 0] 35)).trans k1)
  have hkw : Keeps (fun _ => False) w w1 := ((Keeps.refl _ _).alloc (.cells #[.slice A n c] 35)).alloc (.cells #[.slice none 0 0] 35) |>.trans k1
  obtain ⟨q3, q6, _, hsz⟩ := q_box2 k1
  have c3 := cell_of q3 0
  have l3 := lt_of q3
  have H1 := Lib.hid (And.intro hr1 (And.intro hkw (And.intro q3 q6)))
  clear k1 q3 q6 hr1 hkw
  go_wp2_with fail
  refine (HM.out _ H1.out.1).mono ?_
  rintro e w2 ⟨A1, c1, rfl, hQ1, _, k2⟩
  have hkw2 := H1.out.2.1.trans k2
  have q62 : w2.heap[w.heap.size + 1]? = some (.cells #[.slice none 0 0] 35 (0, 0)) := k2.at H1.out.2.2.2 fun h => h
  have hw2 := Nat.le_trans hsz k2.size
  have H2 := Lib.hid (And.intro hQ1 (And.intro hkw2 q62))
  clear hQ1 k2 hkw2 q62 c3 l3
  go_wp2_with fail
  refine (HA.out _ _ _ (H2.out.1.none ((Keeps.refl _ _).alloc _))).mono ?_
  rintro e w3 ⟨A2, c2, rfl, hQ2, hf2, k3⟩
  have q63 : w3.heap[w.heap.size + 1]? = some (.cells #[.slice none 0 0] 35 (0, 0)) := k3.at (heap_old H2.out.2.2 _) fun h => h
  have c6 := cell_of q63 0
  have f6 := free_of q63 0
  have l6 := lt_of q63
  have hfar : ∀ b off, A2 = some ⟨b, off, none⟩ → w.heap.size + 2 ≤ b := fun b off e => by
    have h1 := hf2 b off e
    have h2 : (w2.alloc (.cells #[.slice A1 n1 c1] 35)).heap.size = w2.heap.size + 1 := by simp
    omega
  have H3 := Lib.hid (And.intro hQ2 (And.intro hfar (H2.out.2.1.trans (((Keeps.refl _ _).alloc (.cells #[.slice A1 n1 c1] 35)).trans k3))))
  clear hQ2 hf2 k3 q63 hfar
  go_wp2
  refine bodyPost_ret (v := .tuple #[.agg #[.slice A2 n2 c2], .bool true]) (by simp [results, Try.results12, go_sem, *]) rfl ⟨A2, c2, rfl, ?_, fun b off e => by have := H3.out.2.1 b off e; omega, H3.out.2.2.setCell (.inr (by simp)) _⟩
  exact H3.out.1.keeps (S := fun k => k = w.heap.size + 1) ((Keeps.refl (fun k => k = w.heap.size + 1) w3).setCell (p := ⟨w.heap.size + 1, 0, none⟩) (.inl rfl) _) fun b' off' e he => by have := H3.out.2.1 b' off' e; omega
end
end Go.Proofs.Ytfniicgfnlklbaa
