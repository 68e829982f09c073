import Derived.Test.YtdbplamhpkahaaaDeltaOps
import Derived.Test.YtdbplamhpkahaaaSchXz
namespace Go.Proofs.Ytdbplamhpkahaaa
open Go.ChangeShapes Go.WideShapes Go.ChangeAt Go.RowKit
set_option linter.unusedVariables false
theorem list_one {L : List Nd} {a : Nd} (hl : L.length = 1) (h0 : L[0]? = some a) : L = [a] := by
  rcases L with _ | ⟨x, _ | ⟨y, r⟩⟩
  · simp at hl
  · simp at h0; rw [h0]
  · simp at hl
theorem list_two {L : List Nd} {a b : Nd} (hl : L.length = 2) (h0 : L[0]? = some a) (h1 : L[1]? = some b) : L = [a, b] := by
  rcases L with _ | ⟨x, _ | ⟨y, _ | ⟨z, r⟩⟩⟩
  · simp at hl
  · simp at hl
  · simp at h0 h1; rw [h0, h1]
  · simp at hl
theorem list_three {L : List Nd} {a b c : Nd} (hl : L.length = 3) (h0 : L[0]? = some a) (h1 : L[1]? = some b) (h2 : L[2]? = some c) : L = [a, b, c] := by
  rcases L with _ | ⟨x, _ | ⟨y, _ | ⟨z, _ | ⟨u, r⟩⟩⟩⟩
  · simp at hl
  · simp at hl
  · simp at hl
  · simp at h0 h1 h2; rw [h0, h1, h2]
  · simp at hl
theorem alive_one {L : List Nd} {k g : Nat} (h : Ins [] L k ⟨g, 1, 2 - sumX [] k⟩) : L = [⟨g, 1, 2⟩] := by
  have hk : k = 0 := by have := h.le; simpa using this
  subst hk
  exact list_one h.len h.at_
theorem alive_two {L : List Nd} {g1 k g : Nat} (h : Ins [⟨g1, 1, 2⟩] L k ⟨g, 2, 1 - sumX [⟨g1, 1, 2⟩] k⟩) (h1 : sumX [⟨g1, 1, 2⟩] k ≤ 1) : L = [⟨g, 2, 1⟩, ⟨g1, 1, 1⟩] := by
  have hk : k = 0 := by
    have := h.le
    simp at this
    rcases (by omega : k = 0 ∨ k = 1) with rfl | rfl
    · rfl
    · simp [sumX] at h1
  subst hk
  exact list_two h.len h.at_ h.nx
theorem alive_three {L : List Nd} {g1 g2 k g : Nat} (h : Ins [⟨g2, 2, 1⟩, ⟨g1, 1, 1⟩] L k ⟨g, 3, 2 - sumX [⟨g2, 2, 1⟩, ⟨g1, 1, 1⟩] k⟩) (h2 : ∀ a : Nd, ([⟨g2, 2, 1⟩, ⟨g1, 1, 1⟩] : List Nd)[k]? = some a → 2 < sumX [⟨g2, 2, 1⟩, ⟨g1, 1, 1⟩] (k + 1)) : L = [⟨g2, 2, 1⟩, ⟨g1, 1, 1⟩, ⟨g, 3, 0⟩] := by
  have hk : k = 2 := by
    have := h.le
    simp at this
    rcases (by omega : k = 0 ∨ k = 1 ∨ k = 2) with rfl | rfl | rfl
    · have := h2 _ rfl
      simp [sumX] at this
    · have := h2 _ rfl
      simp [sumX] at this
    · rfl
  subst hk
  exact list_three h.len (h.lo 0 (by omega)) (h.lo 1 (by omega)) h.at_
theorem new_pair (w : World) (x y : Value) (E : TypeId) : (w.alloc (.cells #[x, y] E)).cell? ⟨w.heap.size, 0, none⟩ = some x ∧ (w.alloc (.cells #[x, y] E)).cell? ⟨w.heap.size, 1, none⟩ = some y :=
  ⟨cell_of (heap_new w _) 0, cell_of (heap_new w _) 1⟩
set_option maxRecDepth 20000 in
theorem alive24_any (w : World) :
    Calls Try.prog 22 #[] w fun e w' => e = .returned (.bool true) ∧ Keeps (fun _ => False) w w' := by
  have D0 := delta_made w
  go_enter Try.func22, Try.ntmps22
  go_wp2_with fail
  refine (d_add w _ w.heap.size 0 [] _ 1 2 D0 rfl (by omega) (by omega) (by omega)).mono ?_
  rintro e w1 ⟨rfl, L1, k1, g1, hI1, _, _, D1⟩
  obtain rfl := alive_one hI1
  go_wp2_with fail
  refine (d_add w _ w.heap.size 1 _ _ 2 1 D1 rfl (by omega) (by omega) (by omega)).mono ?_
  rintro e w2 ⟨rfl, L2, k2, g2, hI2, hs2, _, D2⟩
  obtain rfl := alive_two hI2 hs2
  go_wp2_with fail
  refine (d_add w _ w.heap.size 2 _ _ 3 2 D2 rfl (by omega) (by omega) (by omega)).mono ?_
  rintro e w3 ⟨rfl, L3, k3, g3, hI3, _, hm3, D3⟩
  obtain rfl := alive_three hI3 hm3
  clear D0 D1 D2 hI1 hI2 hI3 hs2 hm3
  go_wp2_with fail
  refine (dtick_some w.heap.size _ _ w3 D3.is (Nat.le_refl 1) (by simp) D3.abs.x_lt).mono ?_
  rintro e w4 ⟨v4, rfl, ht4⟩
  obtain ⟨k4, _, hz4, hn4, ho4, D4⟩ := dis_ticked D3 ht4
  have hk4 : k4 = 1 := by
    rcases (by simp at *; omega : k4 = 0 ∨ k4 = 1 ∨ k4 = 2 ∨ k4 = 3) with rfl | rfl | rfl | rfl
    · exact absurd rfl (hn4 _ rfl)
    · rfl
    · have := hz4 1 _ (by omega) rfl
      simp at this
    · have := hz4 1 _ (by omega) rfl
      simp at this
  subst hk4
  obtain ⟨a4, c4, rfl, r4⟩ := Row.ofOwn ho4
  obtain ⟨b4, o4, rfl, hb4, hc4⟩ := r4 (by omega)
  go_wp2_with fail
  refine (rsame_some b4 o4 w4.heap.size 0 1 c4 1 (fun _ => 2) _ (by decide) ?_ ?_).mono ?_
  · intro i hi
    obtain rfl : i = 0 := by omega
    exact (World.cell?_of_block (((Keeps.refl (fun _ => False) w4).alloc _).block b4 hb4 (fun h => h))).trans (hc4 0 (by omega))
  · intro i hi
    obtain rfl : i = 0 := by omega
    exact cell_of (heap_new w4 _) 0
  rintro e w5 ⟨rfl, k5⟩
  have D5 := D4.none (((Keeps.refl (fun _ => False) w4).alloc _).trans k5)
  go_wp2_with fail
  refine (dtick_some w.heap.size _ _ w5 D5.is (Nat.le_refl 1) (by simp) D5.abs.x_lt).mono ?_
  rintro e w6 ⟨v6, rfl, ht6⟩
  obtain ⟨k6, _, hz6, hn6, ho6, D6⟩ := dis_ticked D5 ht6
  have hk6 : k6 = 2 := by
    rcases (by simp at *; omega : k6 = 0 ∨ k6 = 1 ∨ k6 = 2) with rfl | rfl | rfl
    · exact absurd rfl (hn6 _ rfl)
    · exact absurd rfl (hn6 _ rfl)
    · rfl
  subst hk6
  obtain ⟨a6, c6, rfl, r6⟩ := Row.ofOwn ho6
  obtain ⟨b6, o6, rfl, hb6, hc6⟩ := r6 (by omega)
  go_wp2_with fail
  refine (rsame_some b6 o6 w6.heap.size 0 2 c6 2 (tk [⟨g1, 1, 1 - 1⟩, ⟨g3, 3, 0⟩]) _ (by decide) ?_ ?_).mono ?_
  · intro i hi
    exact (World.cell?_of_block (((Keeps.refl (fun _ => False) w6).alloc _).block b6 hb6 (fun h => h))).trans (hc6 i hi)
  · intro i hi
    rcases (by omega : i = 0 ∨ i = 1) with rfl | rfl
    · exact cell_of (heap_new w6 _) 0
    · exact cell_of (heap_new w6 _) 1
  rintro e w7 ⟨rfl, k7⟩
  have D7 := D6.none (((Keeps.refl (fun _ => False) w6).alloc _).trans k7)
  go_wp2
  go_ret
  exact ⟨rfl, Keeps.ofBelow D7.below⟩
end Go.Proofs.Ytdbplamhpkahaaa
