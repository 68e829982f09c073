import Derived.Test.YtfniicgfnlklbaaRankE
namespace Go.Proofs.Ytfniicgfnlklbaa
open Go.ChangeShapes Go.WideShapes Go.ChangeAt Go.RowKit
set_option linter.unusedVariables false
set_option linter.unusedSimpArgs false
/-- The rows of a rank, and each task's priority plus one. -/
abbrev RkT : Type := (Nat → List Nat) × (Nat → Nat)
structure RkS (w : World) (b : Nat) (s : RkT) : Prop where
  one : ∃ X m bs, RkM w b X m s.2 bs ∧ RkOk X m s.2 bs s.1
section
variable {w wr : World} {b : Nat} {s : RkT}
theorem RkS.keeps {S : Nat → Prop} (h : RkS w b s) (k : Keeps S w wr) (hs : ¬ S b) : RkS wr b s := by
  obtain ⟨X, m, bs, h1, h2⟩ := h.one
  exact ⟨X, m, bs, h1.keeps k hs, h2⟩
theorem RkS.lt (h : RkS w b s) : b < w.heap.size := by
  obtain ⟨X, m, bs, h1, h2⟩ := h.one
  exact h1.lt
theorem RkS.small (h : RkS w b s) : ∀ t, t < 16 → s.2 t ≤ 32 := by
  obtain ⟨X, m, bs, h1, h2⟩ := h.one
  exact h2.small
theorem RkS.mem (h : RkS w b s) : ∀ p t, p < 32 → (t ∈ s.1 p ↔ t < 16 ∧ s.2 t = p + 1) := by
  obtain ⟨X, m, bs, h1, h2⟩ := h.one
  exact h2.mem
theorem RkS.nd (h : RkS w b s) : ∀ p, p < 32 → (s.1 p).Nodup := by
  obtain ⟨X, m, bs, h1, h2⟩ := h.one
  exact h2.nd
theorem RkS.le (h : RkS w b s) : ∀ p, p < 32 → (s.1 p).length ≤ 16 := by
  obtain ⟨X, m, bs, h1, h2⟩ := h.one
  exact h2.le
end
def canAdd (pr : Nat → Nat) (t p : Int) : Bool := decide ((0 ≤ t ∧ t < 16) ∧ (0 ≤ p ∧ p < 32) ∧ pr t.toNat = 0)
def canRem (pr : Nat → Nat) (t : Int) : Bool := decide ((0 ≤ t ∧ t < 16) ∧ pr t.toNat ≠ 0)
def addL (L : Nat → List Nat) (p t : Nat) : Nat → List Nat := fun q => if q = p then L p ++ [t] else L q
def remL (L : Nat → List Nat) (t : Nat) : Nat → List Nat := fun q => (L q).filter (fun x => x != t)
def setP (pr : Nat → Nat) (t u : Nat) : Nat → Nat := fun q => if q = t then u else pr q
def addT (s : RkT) (t p : Int) : RkT := if canAdd s.2 t p then (addL s.1 p.toNat t.toNat, setP s.2 t.toNat (p.toNat + 1)) else s
def remT (s : RkT) (t : Int) : RkT := if canRem s.2 t then (remL s.1 t.toNat, setP s.2 t.toNat 0) else s
def prioT (s : RkT) (t : Int) : Nat := if canRem s.2 t then s.2 t.toNat - 1 else 0
def turnT (s : RkT) (t : Int) : RkT := if canRem s.2 t then addT (remT s t) t (prioT s t : Int) else s
def listT (s : RkT) : List Nat := flat s.1 0
theorem rks_add (w : World) (b : Nat) (s : RkT) (h : RkS w b s) (t p : Int) :
    Calls Try.prog 7 #[.pointer (some ⟨b, 0, none⟩), .int .i64 t, .int .i64 p] w fun e w' => e = .returned (.bool (canAdd s.2 t p)) ∧ RkS w' b (addT s t p) ∧ Keeps (fun k => k = b) w w' := by
  by_cases hc : (0 ≤ t ∧ t < 16) ∧ (0 ≤ p ∧ p < 32) ∧ s.2 t.toNat = 0
  · have e : canAdd s.2 t p = true := decide_eq_true hc
    unfold addT
    rw [if_pos e, e]
    obtain ⟨⟨h1, h2⟩, ⟨h3, h4⟩, h5⟩ := hc
    obtain ⟨T, rfl⟩ := Int.eq_ofNat_of_zero_le h1
    obtain ⟨P, rfl⟩ := Int.eq_ofNat_of_zero_le h3
    simp only [Int.toNat_natCast] at h5 ⊢
    obtain ⟨X, m, bs, hm, ho⟩ := h.one
    have hT : T < 16 := by omega
    have hP : P < 32 := by omega
    have hl : m P < 16 := by rw [ho.len P hP]; exact ho.less P T hP hT h5
    refine (rkadd_yes w b X m s.2 bs hm T P hT hP h5 hl ho.lt).mono ?_
    rintro e w' ⟨rfl, hm', hk⟩
    exact ⟨rfl, ⟨_, _, _, hm', ho.add P T hP hT h5⟩, hk⟩
  · have e : canAdd s.2 t p = false := decide_eq_false hc
    unfold addT
    rw [e]
    have hout : ∀ {e : Ending} {w' : World}, (e = .returned (.bool false) ∧ w = w') → (e = .returned (.bool false) ∧ RkS w' b (if false = true then (addL s.1 p.toNat t.toNat, setP s.2 t.toNat (p.toNat + 1)) else s) ∧ Keeps (fun k => k = b) w w') := by
      rintro e w' ⟨rfl, rfl⟩
      exact ⟨rfl, h, Keeps.refl _ _⟩
    by_cases h1 : 0 ≤ t ∧ t < 16
    · by_cases h2 : p < 0
      · exact (rkadd_p_low w b t p ⟨h1, h2⟩).mono fun e w' hh => hout hh
      · by_cases h3 : 32 ≤ p
        · exact (rkadd_p_high w b t p ⟨h1, h3⟩).mono fun e w' hh => hout hh
        · obtain ⟨T, rfl⟩ := Int.eq_ofNat_of_zero_le h1.1
          have h5 : 0 < s.2 T := by
            rcases Nat.eq_zero_or_pos (s.2 T) with h5 | h5
            · exact absurd ⟨h1, ⟨by omega, by omega⟩, by simpa using h5⟩ hc
            · exact h5
          obtain ⟨X, m, bs, hm, ho⟩ := h.one
          exact (rkadd_there w b X m s.2 bs hm T p (by omega) ⟨by omega, by omega⟩ h5).mono fun e w' hh => hout hh
    · exact (rkadd_t_out w b t p h1).mono fun e w' hh => hout hh
theorem rks_prio (w : World) (b : Nat) (s : RkT) (h : RkS w b s) (t : Int) :
    Calls Try.prog 15 #[.pointer (some ⟨b, 0, none⟩), .int .i64 t] w fun e w' => e = .returned (.tuple #[.int .i64 (prioT s t : Int), .bool (canRem s.2 t)]) ∧ w = w' := by
  unfold prioT
  by_cases h1 : 0 ≤ t ∧ t < 16
  · obtain ⟨T, rfl⟩ := Int.eq_ofNat_of_zero_le h1.1
    obtain ⟨X, m, bs, hm, ho⟩ := h.one
    have hT : T < 16 := by omega
    refine (rkprio_any w b X m s.2 bs hm T hT (ho.small T hT)).mono ?_
    rintro e w' ⟨rfl, rfl⟩
    refine ⟨?_, rfl⟩
    by_cases h5 : s.2 T = 0
    · have e : canRem s.2 (T : Int) = false := decide_eq_false (fun hh => hh.2 (by simpa using h5))
      rw [e, h5]
      simp
    · have e : canRem s.2 (T : Int) = true := decide_eq_true ⟨h1, by simpa using h5⟩
      rw [e]
      simp [h5]
  · have e : canRem s.2 t = false := decide_eq_false (fun hh => h1 hh.1)
    rw [e]
    exact (rkprio_out w b t h1).mono fun e w' hh => by simpa using hh
theorem RkOk.at {X : Nat → Nat → Int} {m pr : Nat → Nat} {bs : Nat} {L : Nat → List Nat} (h : RkOk X m pr bs L) (p t k : Nat) (hp : p < 32) (hk : (L p)[k]? = some t) :
    ∀ j, j < (L p).length → ∃ u : Nat, u < 16 ∧ X p j = (u : Int) ∧ (u = t ↔ j = k) := by
  intro j hj
  have hg : (L p)[j]? = some (L p)[j] := List.getElem?_eq_getElem hj
  refine ⟨(L p)[j], ((h.mem p _ hp).1 (List.getElem_mem hj)).1, h.row p j _ hp hg, fun e => ?_, fun e => ?_⟩
  · rw [e, ← hk] at hg
    exact (List.getElem?_inj hj (h.nd p hp)).1 hg
  · subst e
    rw [hg] at hk
    injection hk
theorem rks_rem (w : World) (b : Nat) (s : RkT) (h : RkS w b s) (t : Int) :
    Calls Try.prog 9 #[.pointer (some ⟨b, 0, none⟩), .int .i64 t] w fun e w' => e = .returned (.bool (canRem s.2 t)) ∧ RkS w' b (remT s t) ∧ Keeps (fun k => k = b) w w' := by
  obtain ⟨X, m, bs, hm, ho⟩ := h.one
  by_cases hc : (0 ≤ t ∧ t < 16) ∧ s.2 t.toNat ≠ 0
  · have e : canRem s.2 t = true := decide_eq_true hc
    unfold remT
    rw [if_pos e, e]
    obtain ⟨h1, h5⟩ := hc
    obtain ⟨T, rfl⟩ := Int.eq_ofNat_of_zero_le h1.1
    simp only [Int.toNat_natCast] at h5 ⊢
    have hT : T < 16 := by omega
    have hs := ho.small T hT
    obtain ⟨P, hP⟩ : ∃ P, s.2 T = P + 1 := ⟨s.2 T - 1, by omega⟩
    have hP32 : P < 32 := by omega
    have hmem : T ∈ s.1 P := (ho.mem P T hP32).2 ⟨hT, hP⟩
    obtain ⟨k, hk⟩ := List.getElem?_of_mem hmem
    have hkl : k < (s.1 P).length := by
      rcases Nat.lt_or_ge k (s.1 P).length with h1 | h1
      · exact h1
      · rw [List.getElem?_eq_none h1] at hk; cases hk
    refine (rkremove_yes w b X m s.2 bs hm P T k (s.1 P).length hP32 hT hP (ho.len P hP32) (ho.le P hP32) hkl (ho.at P T k hP32 hk) ho.lt).mono ?_
    rintro e w' ⟨rfl, hm', hK⟩
    refine ⟨rfl, ?_, hK⟩
    have hr := ho.remove P T k hP32 hk
    rw [ho.len P hP32] at hr
    have e1 : (fun q j => if q = P ∧ k ≤ j ∧ j < k + ((s.1 P).length - (k + 1)) then X P (j + 1) else X q j) = (fun q j => if q = P ∧ k ≤ j ∧ j + 1 < (s.1 P).length then X P (j + 1) else X q j) := by
      funext q j
      by_cases e : q = P ∧ k ≤ j ∧ j + 1 < (s.1 P).length
      · rw [if_pos e, if_pos ⟨e.1, e.2.1, by omega⟩]
      · rw [if_neg e, if_neg (fun hh => e ⟨hh.1, hh.2.1, by omega⟩)]
    rw [e1] at hm'
    exact ⟨_, _, _, hm', hr⟩
  · have e : canRem s.2 t = false := decide_eq_false hc
    unfold remT
    rw [e]
    have hout : ∀ {e : Ending} {w' : World}, (e = .returned (.bool false) ∧ w = w') → (e = .returned (.bool false) ∧ RkS w' b (if false = true then (remL s.1 t.toNat, setP s.2 t.toNat 0) else s) ∧ Keeps (fun k => k = b) w w') := by
      rintro e w' ⟨rfl, rfl⟩
      exact ⟨rfl, h, Keeps.refl _ _⟩
    by_cases h1 : 0 ≤ t ∧ t < 16
    · obtain ⟨T, rfl⟩ := Int.eq_ofNat_of_zero_le h1.1
      have h5 : s.2 T = 0 := by
        rcases Nat.eq_zero_or_pos (s.2 T) with h5 | h5
        · exact h5
        · exact absurd ⟨h1, by simp; omega⟩ hc
      exact (rkremove_none w b X m s.2 bs hm T (by omega) h5).mono fun e w' hh => hout hh
    · exact (rkremove_out w b t h1).mono fun e w' hh => hout hh
theorem rks_list (w : World) (b : Nat) (s : RkT) (h : RkS w b s) :
    Calls Try.prog 21 #[.pointer (some ⟨b, 0, none⟩)] w fun e w' => ∃ v, e = .returned v ∧ w'.ownsRow w.heap.size 3 1 v (listT s).length (ints (listT s)) ∧ Keeps (fun _ => False) w w' := by
  obtain ⟨X, m, bs, hm, ho⟩ := h.one
  exact rklist_any w b X m s.2 bs s.1 hm ho
theorem rks_len (w : World) (b : Nat) (s : RkT) (h : RkS w b s) :
    Calls Try.prog 19 #[.pointer (some ⟨b, 0, none⟩)] w fun e w' => e = .returned (.int .i64 ((listT s).length : Int)) ∧ Keeps (fun _ => False) w w' := by
  obtain ⟨X, m, bs, hm, ho⟩ := h.one
  exact rklen_any w b X m s.2 bs s.1 hm ho
theorem rks_first (w : World) (b : Nat) (s : RkT) (h : RkS w b s) :
    Calls Try.prog 13 #[.pointer (some ⟨b, 0, none⟩)] w fun e w' => e = .returned (.tuple #[.int .i64 ((listT s).headD 0 : Int), .bool (!(listT s).isEmpty)]) ∧ w = w' := by
  obtain ⟨X, m, bs, hm, ho⟩ := h.one
  by_cases h0 : bs = 0
  · subst h0
    refine (rkfirst_any w b X m s.2 0 hm ho.lt (fun h => absurd rfl h)).mono ?_
    rintro e w' ⟨rfl, rfl⟩
    have : listT s = [] := ho.empty
    rw [this]
    exact ⟨rfl, rfl⟩
  · obtain ⟨p, t, hp, hp32, hX, ht, hh⟩ := ho.first h0
    refine (rkfirst_any w b X m s.2 bs hm ho.lt (fun _ => ?_)).mono ?_
    · rw [hp, Nat.add_sub_cancel, hX]
      omega
    · rintro e w' ⟨rfl, rfl⟩
      have hh' : (listT s).head? = some t := hh
      rw [hp, Nat.add_sub_cancel, hX, if_neg h0]
      cases hl : listT s with
      | nil => rw [hl] at hh'; cases hh'
      | cons a l =>
        rw [hl] at hh'
        injection hh' with e
        subst e
        simp [h0]
theorem rks_bits (w : World) (b : Nat) (s : RkT) (h : RkS w b s) :
    ∃ bs : Nat, bs < 4294967296 ∧ (∀ p, p < 32 → bs.testBit p = !(s.1 p).isEmpty) ∧ ∀ w', RkS w' b s → Calls Try.prog 17 #[.pointer (some ⟨b, 0, none⟩)] w' fun e w2 => e = .returned (.int .u32 (bs : Int)) ∧ w' = w2 := by
  obtain ⟨X, m, bs, hm, ho⟩ := h.one
  refine ⟨bs, ho.lt, ho.bit, fun w' h' => ?_⟩
  obtain ⟨X', m', bs', hm', ho'⟩ := h'.one
  have e : bs = bs' := Nat.eq_of_testBit_eq fun i => by
    by_cases hi : i < 32
    · rw [ho.bit i hi, ho'.bit i hi]
    · rw [testBit_ge ho.lt (by omega), testBit_ge ho'.lt (by omega)]
  rw [e]
  exact rkbits_any w' b X' m' s.2 bs' hm'
end Go.Proofs.Ytfniicgfnlklbaa
