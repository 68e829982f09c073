import Derived.Test.YtohajfkekkelhaaDoorCertAz
import Derived.Test.YtohajfkekkelhaaDoorItem
namespace Go.Proofs.YtohajfkekkelhaaDoor
set_option linter.unusedVariables false
set_option linter.unusedSimpArgs false
/-- The calls of n that were not used, in order. -/
def freeL (n used : Nat) : List Nat := (List.range n).filter fun i => !used.testBit i
/-- Is another one of these calls before the call? -/
def behindL (Lo : List OpX) (l : List Nat) (i : Nat) : Bool := l.any fun j => (i != j) && befP (getX Lo j) (getX Lo i)
/-- The unused calls before which there is no other unused one. -/
def firstL (Lo : List OpX) (used : Nat) : List Nat := (freeL Lo.length used).filter fun i => !(behindL Lo (freeL Lo.length used) i)
/-- The bytes of a word, of a value, of an item, of a state. -/
def numN (x : Nat) : List UInt8 := [UInt8.ofNat x, UInt8.ofNat (x / 256), UInt8.ofNat (x / 65536), UInt8.ofNat (x / 16777216)]
def valN (v : W4) : List UInt8 := numN v.a.toNat ++ numN v.b.toNat ++ numN v.c.toNat ++ numN v.d.toNat
def rowN (r : List W4) : List UInt8 := r.flatMap valN
def itemN (x : ItemD) : List UInt8 := numN x.row.length ++ rowN x.row ++ valN x.v
def keyN (L : List ItemD) : List UInt8 := L.flatMap itemN
/-- The bits of an order's calls. -/
theorem mem_free {n used i : Nat} : i ∈ freeL n used ↔ i < n ∧ used.testBit i = false := by
  unfold freeL
  simp
theorem mem_first {Lo : List OpX} {used i : Nat} : i ∈ firstL Lo used ↔ (i < Lo.length ∧ used.testBit i = false) ∧ ∀ j, j < Lo.length → used.testBit j = false → j ≠ i → befP (getX Lo j) (getX Lo i) = false := by
  unfold firstL behindL
  rw [List.mem_filter, mem_free]
  constructor
  · rintro ⟨h1, h2⟩
    refine ⟨h1, fun j hj hu hne => ?_⟩
    cases hb : befP (getX Lo j) (getX Lo i) with
    | false => rfl
    | true =>
      have : (List.any (freeL Lo.length used) fun j => (i != j) && befP (getX Lo j) (getX Lo i)) = true := List.any_eq_true.2 ⟨j, mem_free.2 ⟨hj, hu⟩, by simp [hb]; omega⟩
      rw [this] at h2
      simp at h2
  · rintro ⟨h1, h2⟩
    refine ⟨h1, ?_⟩
    cases hb : (List.any (freeL Lo.length used) fun j => (i != j) && befP (getX Lo j) (getX Lo i)) with
    | false => rfl
    | true =>
      obtain ⟨j, hj, h3⟩ := List.any_eq_true.1 hb
      obtain ⟨hj1, hj2⟩ := mem_free.1 hj
      simp only [Bool.and_eq_true, bne_iff_ne, ne_eq] at h3
      rw [h2 j hj1 hj2 (fun e => h3.1 e.symm)] at h3
      simp at h3
end Go.Proofs.YtohajfkekkelhaaDoor
namespace Go.Proofs.YtohajfkekkelhaaDoor
set_option linter.unusedVariables false
set_option linter.unusedSimpArgs false
/-- The calls that are done, as bits. -/
def doneW (Lo : List OpX) : Nat → Nat
  | 0 => 0
  | k + 1 => if decide ((getX Lo k) 14 = 1) = true then doneW Lo k ||| 2 ^ k else doneW Lo k
/-- Where a search has failed. -/
abbrev Fail := List (Nat × List UInt8)
def failedB (F : Fail) (used : Nat) (key : List UInt8) : Bool := F.any fun p => (p.1 == used) && (p.2 == key)
/-- The candidates of a place, one behind the other. -/
def tryP (Lo : List OpX) (go : Nat → List ItemD → Fail → Bool × List Nat × Fail) (used : Nat) (L : List ItemD) : List Nat → Fail → Bool × List Nat × Fail
  | [], F => (false, [], (used, keyN L) :: F)
  | i :: r, F =>
    if (followP L (getX Lo i)).2 = true then
      if (go (used ||| 2 ^ i) (followP L (getX Lo i)).1 F).1 = true then (true, i :: (go (used ||| 2 ^ i) (followP L (getX Lo i)).1 F).2.1, (go (used ||| 2 ^ i) (followP L (getX Lo i)).1 F).2.2)
      else tryP Lo go used L r (go (used ||| 2 ^ i) (followP L (getX Lo i)).1 F).2.2
    else tryP Lo go used L r F
/-- The search. -/
def searchP (Lo : List OpX) (ans : Nat) : Nat → Nat → List ItemD → Fail → Bool × List Nat × Fail
  | 0, _, _, F => (false, [], F)
  | m + 1, used, L, F =>
    if used &&& ans = ans then (true, [], F)
    else if failedB F used (keyN L) = true then (false, [], F)
    else tryP Lo (searchP Lo ans m) used L (firstL Lo used) F
/-- What Find answers: an order, or none. -/
def findP (Os : List ObjX) (Lo : List OpX) : Option (List Nat) :=
  if 24 < Lo.length then none
  else if (searchP Lo (doneW Lo Lo.length) (Lo.length + 1) 0 (startP Os) []).1 = true then some (searchP Lo (doneW Lo Lo.length) (Lo.length + 1) 0 (startP Os) []).2.1
  else none
/-- An order of candidates, each allowed, with all that are done. -/
def LinR (Lo : List OpX) (ans : Nat) : Nat → List ItemD → List Nat → Prop
  | used, _, [] => used &&& ans = ans
  | used, L, i :: r => i ∈ firstL Lo used ∧ (followP L (getX Lo i)).2 = true ∧ LinR Lo ans (used ||| 2 ^ i) (followP L (getX Lo i)).1 r
theorem try_sound {Lo : List OpX} {ans : Nat} {go : Nat → List ItemD → Fail → Bool × List Nat × Fail} (hgo : ∀ u L F, (go u L F).1 = true → LinR Lo ans u L (go u L F).2.1) (used : Nat) (L : List ItemD) :
    ∀ (r : List Nat) (F : Fail), (∀ i, i ∈ r → i ∈ firstL Lo used) → (tryP Lo go used L r F).1 = true → LinR Lo ans used L (tryP Lo go used L r F).2.1
  | [], F, _, h => by simp [tryP] at h
  | i :: r, F, hr, h => by
    unfold tryP at h ⊢
    by_cases h1 : (followP L (getX Lo i)).2 = true
    · rw [if_pos h1] at h ⊢
      by_cases h2 : (go (used ||| 2 ^ i) (followP L (getX Lo i)).1 F).1 = true
      · rw [if_pos h2]
        exact ⟨hr i (.head _), h1, hgo _ _ _ h2⟩
      · rw [if_neg h2] at h ⊢
        exact try_sound hgo used L r _ (fun j hj => hr j (.tail _ hj)) h
    · rw [if_neg h1] at h ⊢
      exact try_sound hgo used L r F (fun j hj => hr j (.tail _ hj)) h
theorem search_sound {Lo : List OpX} {ans : Nat} : ∀ (m used : Nat) (L : List ItemD) (F : Fail), (searchP Lo ans m used L F).1 = true → LinR Lo ans used L (searchP Lo ans m used L F).2.1
  | 0, used, L, F, h => by simp [searchP] at h
  | m + 1, used, L, F, h => by
    unfold searchP at h ⊢
    by_cases h1 : used &&& ans = ans
    · rw [if_pos h1]
      exact h1
    · rw [if_neg h1] at h ⊢
      by_cases h2 : failedB F used (keyN L) = true
      · rw [if_pos h2] at h
        simp at h
      · rw [if_neg h2] at h ⊢
        exact try_sound (fun u L F hh => search_sound m u L F hh) used L _ F (fun i hi => hi) h
theorem bit_put (used i j : Nat) : (used ||| 2 ^ i).testBit j = (used.testBit j || decide (j = i)) := by
  rw [Nat.testBit_or, Nat.testBit_two_pow]
  congr 1
  by_cases e : i = j
  · simp [e]
  · simp [e]; omega
/-- What holds of a part of an order: its bits; no call that remains is before one of its. -/
structure PartR (Lo : List OpX) (used : Nat) (t : List Nat) : Prop where
  bits : ∀ j, used.testBit j = true ↔ j ∈ t
  lt : ∀ j, j ∈ t → j < Lo.length
  late : ∀ p, p ∈ t → ∀ j, j < Lo.length → j ∉ t → befP (getX Lo j) (getX Lo p) = false
theorem PartR.next {Lo : List OpX} {used : Nat} {t : List Nat} (h : PartR Lo used t) {i : Nat} (hi : i ∈ firstL Lo used) : PartR Lo (used ||| 2 ^ i) (i :: t) := by
  obtain ⟨⟨h1, h2⟩, h3⟩ := mem_first.1 hi
  refine ⟨fun j => ?_, fun j hj => ?_, fun p hp j hj hnj => ?_⟩
  · rw [bit_put, List.mem_cons, Bool.or_eq_true, h.bits j, decide_eq_true_eq]
    exact Or.comm
  · rcases List.mem_cons.1 hj with rfl | hj
    · exact h1
    · exact h.lt j hj
  · have hn : j ∉ t := fun e => hnj (.tail _ e)
    rcases List.mem_cons.1 hp with rfl | hp
    · refine h3 j hj ?_ (fun e => hnj (by rw [e]; exact .head _))
      cases hb : used.testBit j with
      | false => rfl
      | true => exact absurd ((h.bits j).1 hb) hn
    · exact h.late p hp j hj hn
theorem late_not {Lo : List OpX} {used : Nat} {t : List Nat} (h : PartR Lo used t) {i : Nat} (hi : i < Lo.length) (hn : i ∉ t) : lateP Lo (lastG Lo t) i = false := by
  rcases lastG_max Lo t with ⟨rfl, e⟩ | ⟨p, e, hp, _⟩
  · rw [e]; rfl
  · rw [e]
    unfold lateP
    rw [if_neg (by omega), Int.toNat_natCast]
    exact h.late p hp i hi hn
theorem lin_check {Lo : List OpX} {ans : Nat} : ∀ (o : List Nat) (used : Nat) (t : List Nat) (L : List ItemD), PartR Lo used t → LinR Lo ans used L o → checkG Lo t o L = (0, 0) ∧ (∀ (s : Nat → Bool), (∀ j, s j = used.testBit j) → ∃ s', seenG Lo.length (o.map Int.ofNat) s = some s' ∧ ∀ j, ans.testBit j = true → s' j = true)
  | [], used, t, L, ht, h => by
    refine ⟨rfl, fun s hs => ⟨s, rfl, fun j hj => ?_⟩⟩
    have h' : used &&& ans = ans := h
    rw [← h', Nat.testBit_and, Bool.and_eq_true] at hj
    rw [hs j]
    exact hj.1
  | i :: r, used, t, L, ht, h => by
    obtain ⟨h1, h2, h3⟩ := h
    obtain ⟨hi, hu⟩ := (mem_first.1 h1).1
    have hn : i ∉ t := fun e => by rw [(ht.bits i).2 e] at hu; cases hu
    obtain ⟨c1, c2⟩ := lin_check r _ _ _ (ht.next h1) h3
    constructor
    · unfold checkG
      rw [if_neg (by rw [late_not ht hi hn]; simp), if_pos h2]
      exact c1
    · intro s hs
      obtain ⟨s', e, hs'⟩ := c2 (markB s i) (fun j => by
        unfold markB
        rw [bit_put]
        by_cases e : j = i
        · simp [e]
        · simp [e, hs j])
      refine ⟨s', ?_, hs'⟩
      show seenG Lo.length ((i : Int) :: r.map Int.ofNat) s = some s'
      unfold seenG
      rw [if_neg (by
        rintro (h | h | h)
        · omega
        · omega
        · rw [Int.toNat_natCast, hs i, hu] at h; cases h), Int.toNat_natCast]
      exact e
theorem done_bit (Lo : List OpX) : ∀ (k j : Nat), (doneW Lo k).testBit j = (decide (j < k) && decide ((getX Lo j) 14 = 1))
  | 0, j => by simp [doneW]
  | k + 1, j => by
    unfold doneW
    by_cases h : decide ((getX Lo k) 14 = 1) = true
    · rw [if_pos h, bit_put, done_bit Lo k j]
      by_cases e : j = k
      · subst e
        simp at h
        simp [h]
      · have : decide (j < k + 1) = decide (j < k) := by
          by_cases h2 : j < k
          · simp [h2]; omega
          · simp [h2]; omega
        rw [this]
        simp [e]
    · rw [if_neg h, done_bit Lo k j]
      by_cases e : j = k
      · subst e
        simp at h
        simp [h]
      · have : decide (j < k + 1) = decide (j < k) := by
          by_cases h2 : j < k
          · simp [h2]; omega
          · simp [h2]; omega
        rw [this]
/-- What is found is an order that cert.Check tells OK. -/
theorem find_sound {Os : List ObjX} {Lo : List OpX} {o : List Nat} (h : findP Os Lo = some o) : checkP Os Lo (o.map Int.ofNat) = (0, 0) ∧ Lo.length ≤ 24 := by
  unfold findP at h
  by_cases hl : 24 < Lo.length
  · rw [if_pos hl] at h; cases h
  · rw [if_neg hl] at h
    by_cases hs : (searchP Lo (doneW Lo Lo.length) (Lo.length + 1) 0 (startP Os) []).1 = true
    · rw [if_pos hs] at h
      obtain rfl := Option.some.inj h
      have hlin := search_sound _ _ _ _ hs
      obtain ⟨c1, c2⟩ := lin_check _ _ [] _ ⟨fun j => by simp, (fun j hj => by cases hj), (fun p hp => by cases hp)⟩ hlin
      obtain ⟨s', e, hs'⟩ := c2 (fun _ => false) (fun j => by simp)
      refine ⟨?_, by omega⟩
      unfold checkP
      have hw : wholeP Lo ((searchP Lo (doneW Lo Lo.length) (Lo.length + 1) 0 (startP Os) []).2.1.map Int.ofNat) = true := by
        unfold wholeP
        rw [e]
        show ((List.range Lo.length).all fun i => !(decide (((Lo[i]?).getD (fun _ => 0)) 14 = 1)) || s' i) = true
        rw [List.all_eq_true]
        intro i hi
        have hi' : i < Lo.length := List.mem_range.1 hi
        cases hd : decide ((getX Lo i) 14 = 1) with
        | true =>
          rw [hs' i (by rw [done_bit, hd]; simp [hi'])]
          simp
        | false =>
          have : decide (((Lo[i]?).getD (fun _ => 0)) 14 = 1) = false := hd
          rw [this]
          rfl
      rw [if_pos hw, List.map_map]
      have hid : (Int.toNat ∘ Int.ofNat) = id := by funext x; rfl
      rw [hid, List.map_id]
      exact c1
    · rw [if_neg hs] at h; cases h
end Go.Proofs.YtohajfkekkelhaaDoor
