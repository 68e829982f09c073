import Derived.Test.YtfniicgfnlklbabDeltaDocC
namespace Go.Proofs.Ytfniicgfnlklbab
open Go.ChangeShapes Go.WideShapes Go.ChangeAt Go.RowKit
set_option linter.unusedVariables false
set_option linter.unusedSimpArgs false
theorem range_pL (R : List (Int × Nat)) : (List.range R.length).map (fun i => (pL R i, xL R i)) = R := by
  apply List.ext_getElem?
  intro i
  by_cases hi : i < R.length
  · have hx : R[i]? = some R[i] := List.getElem?_eq_getElem hi
    have e1 : pL R i = R[i].1 := by unfold pL; rw [hx]
    have e2 : xL R i = R[i].2 := by unfold xL; rw [hx]
    rw [hx]
    simp [hi, e1, e2]
  · rw [List.getElem?_eq_none (by simp; omega), List.getElem?_eq_none (by omega)]
theorem flatP_L (R : List (Int × Nat)) : flatP R = flatL R := by
  rw [flatL_all, ← flatP_W, range_pL]
section
variable (T : Int → Nat) (A : Option Addr) (c : Nat) (R : List (Int × Nat)) (w : World)
theorem doc24_tick (h : LP w A c R) (hs : Says T R) :
    Calls Try.prog 11 #[.agg #[.slice A R.length c]] w fun e w' => ∃ A' c' out, e = .returned (.tuple #[.agg #[.slice A' (decR R).length c'], out]) ∧ LP w' A' c' (decR R) ∧ (∀ b off, A' = some ⟨b, off, none⟩ → w.heap.size ≤ b) ∧ w'.ownsRow w.heap.size 3 1 out (outR R).length (intsL (outR R)) ∧ Keeps (fun _ => False) w w' := by
  have hf := hs.few
  have hx : ∀ i, i < R.length → 0 < xL R i ∧ xL R i < 4294967296 := fun i hi => by
    have hx : R[i]? = some R[i] := List.getElem?_eq_getElem hi
    have e2 : xL R i = R[i].2 := by unfold xL; rw [hx]
    have hv := hs.val _ (List.getElem_mem hi)
    have hl := hs.lt R[i].1
    rw [e2]
    omega
  have hk := keepT_list R R.length (Nat.le_refl _)
  rw [List.take_length] at hk
  refine (rtick A R.length c (pL R) (xL R) w hf h.rrow hx).mono ?_
  rintro e w' ⟨va, out, rfl, ho, hout, k⟩
  rw [hk.1, ← flatP_L] at ho
  rw [hk.2] at hout
  obtain ⟨A', c', rfl, hp, hfa⟩ := LP.ofOwn2 ho
  exact ⟨A', c', out, rfl, hp, hfa, hout, k⟩
theorem doc24_list (h : LP w A c R) (hs : Says T R) :
    Calls Try.prog 18 #[.agg #[.slice A R.length c]] w fun e w' => ∃ v, e = .returned v ∧ w'.ownsRow w.heap.size 3 1 v R.length ((sortS R).map fun a => .int .i64 a.1) ∧ Keeps (fun _ => False) w w' := by
  have := rlist A R.length c (pL R) (xL R) w hs.few h.rrow
  rw [range_pL] at this
  exact this
end
end Go.Proofs.Ytfniicgfnlklbab
