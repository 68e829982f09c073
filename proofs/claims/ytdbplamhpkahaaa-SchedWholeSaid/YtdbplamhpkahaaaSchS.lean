import Derived.Test.YtdbplamhpkahaaaSchR
namespace Go.Proofs.Ytdbplamhpkahaaa
open Go.ChangeShapes Go.WideShapes Go.ChangeAt Go.RowKit
set_option linter.unusedVariables false
set_option linter.unusedSimpArgs false
theorem flat_nodup {s : RkT} (hmem : ∀ p t, p < 32 → (t ∈ s.1 p ↔ t < 16 ∧ s.2 t = p + 1)) (hnd : ∀ p, p < 32 → (s.1 p).Nodup) : ∀ (n p : Nat), p + n = 32 → (flat s.1 p).Nodup
  | 0, p, h => by
    obtain rfl : p = 32 := by omega
    rw [flat_top]
    exact List.nodup_nil
  | n + 1, p, h => by
    rw [flat_down s.1 p (by omega)]
    refine List.nodup_append.2 ⟨flat_nodup hmem hnd n (p + 1) (by omega), hnd p (by omega), fun x hx y hy e => ?_⟩
    subst e
    obtain ⟨q, hq1, hq2, hxq⟩ := (mem_flat s.1 (p + 1) x).1 hx
    have h1 := ((hmem q x hq2).1 hxq).2
    have h2 := ((hmem p x (by omega)).1 hy).2
    omega
/-- How often a number stands in a row. -/
def cntI (l : List Int) (t : Int) : Nat := (l.filter fun x => x == t).length
theorem cnt_step {l : List Int} {k : Nat} {x : Int} (h : l[k]? = some x) (t : Int) : cntI (l.take (k + 1)) t = cntI (l.take k) t + if x = t then 1 else 0 := by
  unfold cntI
  rw [List.take_add_one, h, List.filter_append, List.length_append]
  by_cases e : x = t
  · simp [e]
  · simp [e]
theorem cnt_no {l : List Int} {t : Int} (h : t ∉ l) : cntI l t = 0 := by
  unfold cntI
  rw [List.filter_eq_nil_iff.2 fun x hx e => h (by rw [← beq_iff_eq.1 e]; exact hx)]
  rfl
theorem cnt_nodup : ∀ {l : List Int} (h : l.Nodup) (t : Int), t ∈ l → cntI l t = 1
  | x :: l, h, t, ht => by
    obtain ⟨h1, h2⟩ := List.nodup_cons.1 h
    by_cases e : x = t
    · have := cnt_no (l := l) (t := t) (e ▸ h1)
      unfold cntI at this ⊢
      rw [List.filter_cons_of_pos (by simpa using e), List.length_cons, this]
    · have ht' : t ∈ l := by
        rcases List.mem_cons.1 ht with rfl | ht
        · exact absurd rfl e
        · exact ht
      have := cnt_nodup h2 t ht'
      unfold cntI at this ⊢
      rw [List.filter_cons_of_neg (by simpa using e), this]
def rowI (M : ScM) : List Int := (listT M.R).map Int.ofNat
def rowW (M : ScM) : List Int := M.W.map fun v => v.1
section
variable {w : World} {P : Nat → Prop} {a : ScA} {M : ScM}
theorem ScW.row_nodup (h : ScW w P a M) : (rowI M).Nodup := by
  have := flat_nodup h.rank.mem h.rank.nd 32 0 rfl
  exact List.pairwise_map.2 (List.Pairwise.imp (fun hab e => hab (Int.ofNat.inj e)) this)
theorem ScW.row_mem (h : ScW w P a M) (t : Nat) (ht : t < 16) : (t : Int) ∈ rowI M ↔ M.R.2 t ≠ 0 := by
  unfold rowI
  constructor
  · intro hm
    obtain ⟨x, hx, e⟩ := List.mem_map.1 hm
    obtain rfl : x = t := Int.ofNat.inj e
    exact (h.inRow hx).2.2
  · intro hne
    refine List.mem_map.2 ⟨t, ?_, rfl⟩
    have h1 := h.rank.small t ht
    exact (mem_flat M.R.1 0 t).2 ⟨M.R.2 t - 1, by omega, by omega, (h.rank.mem _ t (by omega)).2 ⟨ht, by omega⟩⟩
theorem ScW.w_nodup (h : ScW w P a M) : (rowW M).Nodup ∧ M.W.length ≤ 16 := by
  obtain ⟨N, b, hq, hg, hW, hl⟩ := h.queue
  have e : rowW M = N.map fun x => x.t := by
    unfold rowW
    rw [← hW, List.map_map]
    rfl
  refine ⟨by rw [e]; exact hg.one, ?_⟩
  rw [← hW, List.length_map]
  have h1 : (N.map fun x => x.t.toNat).Nodup := by
    have h2 := hg.one
    rw [List.Nodup, List.pairwise_map] at h2 ⊢
    refine List.Pairwise.imp_of_mem (fun {x y} hx hy hxy e => ?_) h2
    have := hg.rng x hx
    have := hg.rng y hy
    exact hxy (by omega)
  have := nodup_le 16 _ h1 fun x hx => by
    obtain ⟨y, hy, rfl⟩ := List.mem_map.1 hx
    have := hg.rng y hy
    omega
  simpa using this
/-- One if they are the same. -/
def whenS (x y : Int) : Nat := if x = y then 1 else 0
theorem ScW.ready_cnt (h : ScW w P a M) (hi : Inv M) (t : Nat) (ht : t < M.many) : cntI (rowI M) (t : Int) = whenS (M.st t) 1 := by
  unfold whenS
  have hm := h.row_mem t (by have := h.le; omega)
  rw [← hi.row t ht] at hm
  by_cases e : M.st t = 1
  · rw [if_pos e]; exact cnt_nodup h.row_nodup _ (hm.2 e)
  · rw [if_neg e]; exact cnt_no fun h => e (hm.1 h)
theorem ScW.waits_cnt (h : ScW w P a M) (hi : Inv M) (t : Nat) (ht : t < M.many) : cntI (rowW M) (t : Int) = whenS (M.st t) 2 := by
  unfold whenS
  have hm : (t : Int) ∈ rowW M ↔ M.st t = 2 := by
    rw [hi.wait t ht]
    unfold rowW
    exact List.mem_map
  by_cases e : M.st t = 2
  · rw [if_pos e]; exact cnt_nodup h.w_nodup.1 _ (hm.2 e)
  · rw [if_neg e]; exact cnt_no fun h => e (hm.1 h)
end
/-- At first each task is ready or has ended. -/
structure Born (M : ScM) : Prop where
  inv : Inv M
  rin : ∀ t, M.R.2 t ≠ 0 → t < M.many
  T : M.T = fun _ => 0
  W : M.W = []
  two : ∀ t, t < M.many → M.st t = 1 ∨ M.st t = 4
theorem born_zero : Born zeroM := ⟨⟨Nat.zero_le _, fun t ht => absurd ht (Nat.not_lt_zero _), fun t ht => absurd ht (Nat.not_lt_zero _), fun v hv => (by cases hv), fun t ht => absurd ht (Nat.not_lt_zero _), fun t ht => absurd ht (Nat.not_lt_zero _), fun t ht => absurd ht (Nat.not_lt_zero _)⟩, fun t h => absurd rfl h, rfl, rfl, fun t ht => absurd ht (Nat.not_lt_zero _)⟩
theorem born_add {M : ScM} (h : Born M) (hm : M.many < 16) (p : Int) : Born (addM M p) := by
  have h0 : M.R.2 M.many = 0 := by
    by_cases e : M.R.2 M.many = 0
    · exact e
    · have := h.rin _ e; omega
  have hT : ∀ z, M.T z = 0 := fun z => by rw [h.T]
  unfold addM
  by_cases hc : canAdd M.R.2 (M.many : Int) p = true
  · rw [if_pos hc]
    have hp := (of_decide_eq_true (show decide _ = true from hc)).2.1
    have hR : ∀ x, (addT M.R (M.many : Int) p).2 x = if x = M.many then p.toNat + 1 else M.R.2 x := addT_at M.R M.many hm p hp h0
    refine ⟨⟨hm, fun t ht => ?_, fun t ht => ?_, fun v hv => ?_, fun t ht hTt => absurd (hT _) hTt, fun t ht hs => ?_, fun t ht => ?_⟩, fun t ht => ?_, h.T, h.W, fun t ht => ?_⟩
    · show upd M.st M.many 1 t = 1 ↔ (addT M.R (M.many : Int) p).2 t ≠ 0
      have ht' : t < M.many + 1 := ht
      rw [hR]
      by_cases e : t = M.many
      · rw [e, upd_at, if_pos rfl]; constructor <;> intro _ <;> omega
      · rw [upd_ne _ _ e, if_neg e]; exact h.inv.row t (by omega)
    · show upd M.st M.many 1 t = 2 ↔ ∃ v, v ∈ M.W ∧ v.1 = (t : Int)
      have ht' : t < M.many + 1 := ht
      rw [h.W]
      by_cases e : t = M.many
      · rw [e, upd_at]; constructor
        · intro h; omega
        · rintro ⟨v, hv, _⟩; cases hv
      · rw [upd_ne _ _ e]
        have := h.two t (by omega)
        constructor
        · intro h; omega
        · rintro ⟨v, hv, _⟩; cases hv
    · have hv' : v ∈ M.W := hv
      rw [h.W] at hv'; cases hv'
    · show 0 ≤ upd M.prio M.many p t ∧ upd M.prio M.many p t < 32
      have ht' : t < M.many + 1 := ht
      have hs' : upd M.st M.many 1 t ≠ 4 := hs
      by_cases e : t = M.many
      · rw [e, upd_at]; exact hp
      · rw [upd_ne _ _ e] at hs' ⊢; exact h.inv.pr t (by omega) hs'
    · show upd M.st M.many 1 t = 1 ∨ upd M.st M.many 1 t = 2 ∨ upd M.st M.many 1 t = 3 ∨ upd M.st M.many 1 t = 4
      have ht' : t < M.many + 1 := ht
      by_cases e : t = M.many
      · rw [e, upd_at]; exact .inl rfl
      · rw [upd_ne _ _ e]; exact h.inv.live t (by omega)
    · have ht' : (addT M.R (M.many : Int) p).2 t ≠ 0 := ht
      rw [hR] at ht'
      show t < M.many + 1
      by_cases e : t = M.many
      · omega
      · rw [if_neg e] at ht'; have := h.rin t ht'; omega
    · show upd M.st M.many 1 t = 1 ∨ upd M.st M.many 1 t = 4
      have ht' : t < M.many + 1 := ht
      by_cases e : t = M.many
      · rw [e, upd_at]; exact .inl rfl
      · rw [upd_ne _ _ e]; exact h.two t (by omega)
  · rw [if_neg hc]
    have hst : ∀ t, upd M.st M.many 4 t = if t = M.many then 4 else M.st t := fun t => rfl
    refine ⟨⟨hm, fun t ht => ?_, fun t ht => ?_, fun v hv => ?_, fun t ht hTt => absurd (hT _) hTt, fun t ht hs => ?_, fun t ht => ?_⟩, fun t ht => ?_, h.T, h.W, fun t ht => ?_⟩
    · show upd M.st M.many 4 t = 1 ↔ M.R.2 t ≠ 0
      have ht' : t < M.many + 1 := ht
      rw [hst]
      by_cases e : t = M.many
      · rw [if_pos e, e, h0]; constructor <;> intro h <;> omega
      · rw [if_neg e]; exact h.inv.row t (by omega)
    · show upd M.st M.many 4 t = 2 ↔ ∃ v, v ∈ M.W ∧ v.1 = (t : Int)
      have ht' : t < M.many + 1 := ht
      rw [hst, h.W]
      by_cases e : t = M.many
      · rw [if_pos e]; constructor
        · intro h; omega
        · rintro ⟨v, hv, _⟩; cases hv
      · rw [if_neg e]
        have := h.two t (by omega)
        constructor
        · intro h; omega
        · rintro ⟨v, hv, _⟩; cases hv
    · have hv' : v ∈ M.W := hv
      rw [h.W] at hv'; cases hv'
    · show 0 ≤ upd M.prio M.many p t ∧ upd M.prio M.many p t < 32
      have ht' : t < M.many + 1 := ht
      have hs' : upd M.st M.many 4 t ≠ 4 := hs
      rw [hst] at hs'
      by_cases e : t = M.many
      · rw [if_pos e] at hs'; exact absurd rfl hs'
      · rw [if_neg e] at hs'; rw [upd_ne _ _ e]; exact h.inv.pr t (by omega) hs'
    · show upd M.st M.many 4 t = 1 ∨ upd M.st M.many 4 t = 2 ∨ upd M.st M.many 4 t = 3 ∨ upd M.st M.many 4 t = 4
      have ht' : t < M.many + 1 := ht
      rw [hst]
      by_cases e : t = M.many
      · rw [if_pos e]; exact .inr (.inr (.inr rfl))
      · rw [if_neg e]; exact h.inv.live t (by omega)
    · have := h.rin t ht
      show t < M.many + 1
      omega
    · show upd M.st M.many 4 t = 1 ∨ upd M.st M.many 4 t = 4
      have ht' : t < M.many + 1 := ht
      rw [hst]
      by_cases e : t = M.many
      · rw [if_pos e]; exact .inr rfl
      · rw [if_neg e]; exact h.two t (by omega)
theorem born_adds : ∀ (L : List Int) (M : ScM), Born M → M.many + L.length ≤ 16 → Born (L.foldl addM M)
  | [], M, h, _ => h
  | p :: L, M, h, hl => by
    have hl' : M.many + (L.length + 1) ≤ 16 := by simpa using hl
    exact born_adds L _ (born_add h (by omega) p) (by rw [add_many]; omega)
theorem born_new (L : List Int) : Born (newM L) := born_adds _ _ born_zero (by show 0 + _ ≤ 16; rw [List.length_take]; omega)
theorem inv_new (L : List Int) : Inv (dispM (newM L)) := (born_new L).inv.disp
theorem many_new {L : List Int} (h : L.length ≤ 16) : (newM L).many = L.length := by
  unfold newM
  rw [adds_many]
  show 0 + _ = _
  rw [List.length_take]
  omega
end Go.Proofs.Ytdbplamhpkahaaa
