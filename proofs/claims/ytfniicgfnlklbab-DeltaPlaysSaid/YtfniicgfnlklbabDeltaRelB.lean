import Derived.Test.YtfniicgfnlklbabDeltaDocB
namespace Go.Proofs.Ytfniicgfnlklbab
set_option linter.unusedVariables false
set_option linter.unusedSimpArgs false
/-- A tick: who is told, and what is left of the others. -/
def decR (R : List (Int × Nat)) : List (Int × Nat) := (R.filter fun a => a.2 != 1).map fun a => (a.1, a.2 - 1)
def outR (R : List (Int × Nat)) : List Int := (R.filter fun a => a.2 == 1).map (·.1)
theorem keepT_list (R : List (Int × Nat)) : ∀ k, k ≤ R.length → keepT (pL R) (xL R) k = decR (R.take k) ∧ outT (pL R) (xL R) k = outR (R.take k)
  | 0, _ => ⟨rfl, rfl⟩
  | k + 1, h => by
    obtain ⟨h1, h2⟩ := keepT_list R k (by omega)
    have hx : R[k]? = some R[k] := List.getElem?_eq_getElem (by omega)
    have e1 : pL R k = R[k].1 := by unfold pL; rw [hx]
    have e2 : xL R k = R[k].2 := by unfold xL; rw [hx]
    rw [keepT, outT, h1, h2, e1, e2, List.take_add_one, hx]
    unfold decR outR
    simp only [Option.toList, List.filter_append, List.map_append]
    by_cases e : R[k].2 = 1
    · simp [e]
    · simp [e]
theorem RelD.tick {a : Nd} {r : List Nd} {T : Int → Nat} {R : List (Int × Nat)} {k : Nat} (h : RelD (a :: r) T R) (hA : Abs (a :: r) T) (hA' : Abs ((⟨a.g, a.t, a.x - 1⟩ :: r : List Nd).drop k) (fun t => T t - 1)) : RelD ((⟨a.g, a.t, a.x - 1⟩ :: r : List Nd).drop k) (fun t => T t - 1) (decR R) := by
  refine ⟨fun b hb => ?_, fun t hT => ?_, ?_, ?_⟩
  · unfold decR at hb
    obtain ⟨c, hc, rfl⟩ := List.mem_map.1 hb
    have h1 := List.mem_filter.1 hc
    have h2 := h.val c h1.1
    have h3 : c.2 ≠ 1 := by simpa using h1.2
    dsimp only
    omega
  · obtain ⟨x, hx⟩ := h.all t (by omega)
    have h2 := h.val (t, x) hx
    dsimp only at h2 hT
    exact ⟨x - 1, List.mem_map.2 ⟨(t, x), List.mem_filter.2 ⟨hx, by simp; omega⟩, rfl⟩⟩
  · unfold decR
    rw [List.map_map]
    exact h.nd.sublist (List.filter_sublist.map _)
  · refine (OrdB.tick k h.ord hA).mono fun i j b c hb hc hbc => ?_
    have h1 := hA'.mem i b hb
    have h2 := hA'.pos i b hb
    have h3 := hA'.mem j c hc
    have h4 := hA'.pos j c hc
    obtain ⟨x, y, hs⟩ := hbc
    have hx := (h.val (b.t, x) (hs.subset (by simp))).1
    have hy := (h.val (c.t, y) (hs.subset (by simp))).1
    dsimp only at h1 h3 hx hy
    refine ⟨x - 1, y - 1, ?_⟩
    have h5 := (hs.filter (fun a : Int × Nat => a.2 != 1)).map (fun a : Int × Nat => (a.1, a.2 - 1))
    have e1 : (x != 1) = true := by simp; omega
    have e2 : (y != 1) = true := by simp; omega
    simpa [decR, e1, e2] using h5
/-- Who is told: the program's row and the document's. -/
theorem RelD.told {a : Nd} {r : List Nd} {T : Int → Nat} {R : List (Int × Nat)} {k : Nat} (h : RelD (a :: r) T R) (hA : Abs (a :: r) T) (hk : k ≤ r.length + 1) (hz : ∀ (i : Nat) (nd : Nd), i < k → (⟨a.g, a.t, a.x - 1⟩ :: r : List Nd)[i]? = some nd → nd.x = 0) (hA' : Abs ((⟨a.g, a.t, a.x - 1⟩ :: r : List Nd).drop k) (fun t => T t - 1)) : ((a :: r).take k).map (·.t) = outR R := by
  have hax : 1 ≤ a.x := by
    have h3 : 0 < sumX (a :: r) 1 := hA.pos 0 a rfl
    have h2 : sumX (a :: r) 1 = 0 + a.x := rfl
    omega
  have hT : ∀ i nd, (a :: r)[i]? = some nd → (i < k → T nd.t = 1) ∧ (k ≤ i → 2 ≤ T nd.t) := by
    intro i nd hi
    have h1 := hA.mem i nd hi
    have h2 := sumX_dec a r hax i
    refine ⟨fun hik => ?_, fun hik => ?_⟩
    · have h3 : sumX (⟨a.g, a.t, a.x - 1⟩ :: r) (i + 1) = 0 := sumX_zero (i + 1) fun j b hj hb => hz j b (by omega) hb
      omega
    · obtain ⟨nd', hnd', et⟩ : ∃ nd', (⟨a.g, a.t, a.x - 1⟩ :: r : List Nd)[i]? = some nd' ∧ nd'.t = nd.t := by
        rcases i with _ | i
        · have e : a = nd := by simpa using hi
          exact ⟨_, rfl, by rw [← e]⟩
        · exact ⟨nd, by simpa using hi, rfl⟩
      have h4 : ((⟨a.g, a.t, a.x - 1⟩ :: r : List Nd).drop k)[i - k]? = some nd' := by
        rw [List.getElem?_drop, show k + (i - k) = i by omega]
        exact hnd'
      have h5 := hA'.mem _ _ h4
      have h6 := hA'.pos _ _ h4
      rw [et] at h5
      omega
  refine eq_sorted (Q := bef R) (fun s t h1 h2 => bef_asym h.nd h1 h2) _ _ ?_ ?_ fun x => ?_
  · rw [List.pairwise_map, List.pairwise_iff_getElem]
    intro i j hi hj hij
    have hi' : i < k := by simp at hi; omega
    have hj' : j < k := by simp at hj; omega
    have e1 : (a :: r)[i]? = some ((a :: r).take k)[i] := by
      have := List.getElem?_eq_getElem hi
      rw [List.getElem?_take, if_pos hi'] at this
      exact this
    have e2 : (a :: r)[j]? = some ((a :: r).take k)[j] := by
      have := List.getElem?_eq_getElem hj
      rw [List.getElem?_take, if_pos hj'] at this
      exact this
    exact h.ord i j _ _ hij e1 e2 (by rw [(hT i _ e1).1 hi', (hT j _ e2).1 hj'])
  · unfold outR
    rw [List.pairwise_map]
    have hp : R.Pairwise (fun a b => bef R a.1 b.1) := by
      rw [List.pairwise_iff_forall_sublist]
      intro a b hab
      exact ⟨a.2, b.2, hab⟩
    exact hp.sublist List.filter_sublist
  · unfold outR
    constructor
    · intro hx
      obtain ⟨nd, hnd, rfl⟩ := List.mem_map.1 hx
      obtain ⟨i, hi⟩ := List.getElem?_of_mem hnd
      have hik : i < k := by
        rcases Nat.lt_or_ge i k with h1 | h1
        · exact h1
        · rw [List.getElem?_take, if_neg (by omega)] at hi; cases hi
      rw [List.getElem?_take, if_pos hik] at hi
      have h1 := (hT i nd hi).1 hik
      obtain ⟨x, hx⟩ := h.all nd.t (by omega)
      have h2 := (h.val _ hx).1
      dsimp only at h2
      exact List.mem_map.2 ⟨(nd.t, x), List.mem_filter.2 ⟨hx, by simp; omega⟩, rfl⟩
    · intro hx
      obtain ⟨b, hb, rfl⟩ := List.mem_map.1 hx
      have h1 := List.mem_filter.1 hb
      have h2 : b.2 = 1 := by simpa using h1.2
      have h3 := (h.val b h1.1).1
      obtain ⟨i, nd, hi, et⟩ := hA.all b.1 (by omega)
      have hik : i < k := by
        rcases Nat.lt_or_ge i k with h4 | h4
        · exact h4
        · have := (hT i nd hi).2 h4
          rw [et] at this
          omega
      refine List.mem_map.2 ⟨nd, List.mem_of_getElem? (i := i) ?_, et⟩
      rw [List.getElem?_take, if_pos hik]
      exact hi
end Go.Proofs.Ytfniicgfnlklbab
