import Derived.Test.YtdbplamhpkahaaaDeltaTick
import Derived.Test.YtdbplamhpkahaaaDeltaRem
namespace Go.Proofs.Ytdbplamhpkahaaa
open Go.ChangeShapes Go.WideShapes Go.ChangeAt Go.RowKit
set_option linter.unusedVariables false
/-- How many ticks are left to each task: 0: it does not wait. -/
structure Abs (L : List Nd) (T : Int → Nat) : Prop where
  mem : ∀ (i : Nat) (a : Nd), L[i]? = some a → T a.t = sumX L (i + 1)
  all : ∀ t : Int, T t ≠ 0 → ∃ (i : Nat) (a : Nd), L[i]? = some a ∧ a.t = t
  uniq : ∀ (i j : Nat) (a b : Nd), L[i]? = some a → L[j]? = some b → a.t = b.t → i = j
  pos : ∀ (i : Nat) (a : Nd), L[i]? = some a → 0 < sumX L (i + 1)
  rng : ∀ (i : Nat) (a : Nd), L[i]? = some a → 0 ≤ a.t ∧ a.t < 16
  lt : sumX L L.length < 4294967296
theorem Abs.x_lt {L : List Nd} {T : Int → Nat} (h : Abs L T) (i : Nat) (a : Nd) (ha : L[i]? = some a) : a.x < 4294967296 := by
  have h1 := sumX_succ ha
  have h2 := sumX_mono L (show i + 1 ≤ L.length from get_lt ha)
  have := h.lt
  omega
theorem Abs.no {L : List Nd} {T : Int → Nat} (h : Abs L T) {t : Int} (h0 : T t = 0) : ∀ (j : Nat) (a : Nd), L[j]? = some a → a.t ≠ t := by
  intro j a ha e
  have h1 := h.mem j a ha
  have h2 := h.pos j a ha
  rw [e, h0] at h1
  omega
theorem Abs.yes {L : List Nd} {T : Int → Nat} (h : Abs L T) {t : Int} (h0 : T t ≠ 0) : ∃ (k : Nat) (a : Nd), L[k]? = some a ∧ a.t = t ∧ (∀ (j : Nat) (b : Nd), j < k → L[j]? = some b → b.t ≠ t) ∧ sumX L (k + 1) = T t := by
  obtain ⟨k, a, ha, he⟩ := h.all t h0
  refine ⟨k, a, ha, he, fun j b hj hb e => ?_, ?_⟩
  · have := h.uniq j k b a hb ha (by rw [e, he])
    omega
  · rw [← h.mem k a ha, he]
theorem Abs.nil : Abs [] (fun _ => 0) :=
  ⟨fun i a h => by simp at h, fun t h => absurd rfl h, fun i j a b h => by simp at h, fun i a h => by simp at h, fun i a h => by simp at h, by decide⟩
theorem Abs.congr {L : List Nd} {T T' : Int → Nat} (h : Abs L T) (e : ∀ t, T t = T' t) : Abs L T' := by
  have : T = T' := funext e
  rw [← this]
  exact h
theorem Abs.add {L L' : List Nd} {T : Int → Nat} {k g ticks : Nat} {task : Int} (h : Abs L T) (hI : Ins L L' k ⟨g, task, ticks - sumX L k⟩) (h1 : sumX L k ≤ ticks) (h2 : ∀ a : Nd, L[k]? = some a → ticks < sumX L (k + 1)) (h0 : T task = 0) (hr : 0 ≤ task ∧ task < 16) (ht : 0 < ticks) (ht2 : ticks < 4294967296) :
    Abs L' (fun t => if t = task then ticks else T t) := by
  have hx : ∀ b : Nd, L[k]? = some b → (⟨g, task, ticks - sumX L k⟩ : Nd).x ≤ b.x := by
    intro b hb
    have := h2 b hb
    have := sumX_succ hb
    show ticks - sumX L k ≤ b.x
    omega
  have hno := h.no h0
  have hat : sumX L' (k + 1) = ticks := by
    rw [hI.sum_at]
    show sumX L k + (ticks - sumX L k) = ticks
    omega
  have key : ∀ (i : Nat) (a : Nd), L'[i]? = some a → (i = k ∧ a.t = task ∧ sumX L' (i + 1) = ticks) ∨ (∃ (z : Nat) (c : Nd), L[z]? = some c ∧ c.t = a.t ∧ sumX L' (i + 1) = sumX L (z + 1) ∧ i = if z < k then z else z + 1) := by
    intro i a ha
    rcases hI.cases ha with ⟨c1, c2⟩ | ⟨rfl, rfl⟩ | ⟨rfl, b, c2, rfl⟩ | ⟨c1, c2⟩
    · exact .inr ⟨i, a, c2, rfl, hI.sum_lo (i + 1) (by omega), by rw [if_pos c1]⟩
    · exact .inl ⟨rfl, rfl, hat⟩
    · exact .inr ⟨k, b, c2, rfl, hI.sum_hi hx (k + 1) (by omega) (get_lt c2), by rw [if_neg (by omega)]⟩
    · refine .inr ⟨i - 1, a, c2, rfl, ?_, by rw [if_neg (by omega)]; omega⟩
      rw [show i - 1 + 1 = i by omega]
      exact hI.sum_hi hx i (by omega) (by have := get_lt c2; omega)
  refine ⟨?_, ?_, ?_, ?_, ?_, ?_⟩
  · intro i a ha
    rcases key i a ha with ⟨_, e1, e2⟩ | ⟨z, c, hc, e1, e2, _⟩
    · show (if a.t = task then ticks else T a.t) = _
      rw [if_pos e1, e2]
    · show (if a.t = task then ticks else T a.t) = _
      rw [← e1, if_neg (hno z c hc), h.mem z c hc, e2]
  · intro t hT
    by_cases e : t = task
    · exact ⟨k, _, hI.at_, e.symm⟩
    · have hT' : T t ≠ 0 := by
        have : (if t = task then ticks else T t) ≠ 0 := hT
        rwa [if_neg e] at this
      obtain ⟨z, c, hc, he⟩ := h.all t hT'
      by_cases hz : z < k
      · exact ⟨z, c, by rw [hI.lo z hz]; exact hc, he⟩
      · by_cases hz2 : z = k
        · subst hz2
          exact ⟨z + 1, (⟨c.g, c.t, c.x - (ticks - sumX L z)⟩ : Nd), by rw [hI.nx, hc]; rfl, he⟩
        · exact ⟨z + 1, c, by rw [hI.hi z (by omega)]; exact hc, he⟩
  · intro i j a b ha hb hab
    rcases key i a ha with ⟨e0, e1, e2⟩ | ⟨z, c, hc, e1, e2, e3⟩
    · rcases key j b hb with ⟨f0, f1, f2⟩ | ⟨y, d, hd, f1, f2, f3⟩
      · omega
      · exact absurd (by rw [f1, ← hab, e1]) (hno y d hd)
    · rcases key j b hb with ⟨f0, f1, f2⟩ | ⟨y, d, hd, f1, f2, f3⟩
      · exact absurd (by rw [e1, hab, f1]) (hno z c hc)
      · have := h.uniq z y c d hc hd (by rw [e1, f1, hab])
        subst this
        rw [e3, f3]
  · intro i a ha
    rcases key i a ha with ⟨_, e1, e2⟩ | ⟨z, c, hc, e1, e2, _⟩
    · rw [e2]; exact ht
    · rw [e2]; exact h.pos z c hc
  · intro i a ha
    rcases key i a ha with ⟨_, e1, e2⟩ | ⟨z, c, hc, e1, e2, _⟩
    · rw [e1]; exact hr
    · rw [← e1]; exact h.rng z c hc
  · rw [hI.len]
    by_cases e : k = L.length
    · rw [← e, hat]; exact ht2
    · rw [hI.sum_hi hx L.length (by have := hI.le; omega) (Nat.le_refl _)]
      exact h.lt
theorem Abs.del {L L' : List Nd} {T : Int → Nat} {k : Nat} {n : Nd} (h : Abs L T) (hI : Del L L' k n) : Abs L' (fun t => if t = n.t then 0 else T t) := by
  have key : ∀ (i : Nat) (a : Nd), L'[i]? = some a → ∃ (z : Nat) (c : Nd), L[z]? = some c ∧ c.t = a.t ∧ sumX L' (i + 1) = sumX L (z + 1) ∧ z ≠ k ∧ z = if i < k then i else i + 1 := by
    intro i a ha
    have hil := get_lt ha
    rcases hI.cases ha with ⟨c1, c2⟩ | ⟨rfl, b, c2, rfl⟩ | ⟨c1, c2⟩
    · exact ⟨i, a, c2, rfl, hI.sum_lo (i + 1) (by omega), by omega, by rw [if_pos c1]⟩
    · exact ⟨i + 1, b, c2, rfl, hI.sum_hi (i + 1) (by omega) (by omega), by omega, by rw [if_neg (by omega)]⟩
    · exact ⟨i + 1, a, c2, rfl, hI.sum_hi (i + 1) (by omega) (by omega), by omega, by rw [if_neg (by omega)]⟩
  have hne : ∀ (i : Nat) (a : Nd), L'[i]? = some a → a.t ≠ n.t := by
    intro i a ha e
    obtain ⟨z, c, hc, e1, _, e3, _⟩ := key i a ha
    exact e3 (h.uniq z k c n hc hI.at_ (by rw [e1, e]))
  refine ⟨?_, ?_, ?_, ?_, ?_, ?_⟩
  · intro i a ha
    obtain ⟨z, c, hc, e1, e2, _⟩ := key i a ha
    show (if a.t = n.t then 0 else T a.t) = _
    rw [if_neg (hne i a ha), ← e1, h.mem z c hc, e2]
  · intro t hT
    have hT' : (if t = n.t then 0 else T t) ≠ 0 := hT
    by_cases e : t = n.t
    · rw [if_pos e] at hT'; exact absurd rfl hT'
    · rw [if_neg e] at hT'
      obtain ⟨z, c, hc, he⟩ := h.all t hT'
      have hzk : z ≠ k := by
        rintro rfl
        rw [hI.at_] at hc
        cases hc
        exact e he.symm
      by_cases hz : z < k
      · exact ⟨z, c, by rw [hI.lo z hz]; exact hc, he⟩
      · obtain ⟨y, rfl⟩ : ∃ y, z = y + 1 := ⟨z - 1, by omega⟩
        by_cases hy : y = k
        · subst hy
          exact ⟨y, (⟨c.g, c.t, c.x + n.x⟩ : Nd), by rw [hI.nx, hc]; rfl, he⟩
        · exact ⟨y, c, by rw [hI.hi y (by omega)]; exact hc, he⟩
  · intro i j a b ha hb hab
    obtain ⟨z, c, hc, e1, e2, e3, e4⟩ := key i a ha
    obtain ⟨y, d, hd, f1, f2, f3, f4⟩ := key j b hb
    have := h.uniq z y c d hc hd (by rw [e1, f1, hab])
    subst this
    by_cases h1 : i < k <;> by_cases h2 : j < k
    · rw [if_pos h1] at e4; rw [if_pos h2] at f4; omega
    · rw [if_pos h1] at e4; rw [if_neg h2] at f4; omega
    · rw [if_neg h1] at e4; rw [if_pos h2] at f4; omega
    · rw [if_neg h1] at e4; rw [if_neg h2] at f4; omega
  · intro i a ha
    obtain ⟨z, c, hc, e1, e2, _⟩ := key i a ha
    rw [e2]; exact h.pos z c hc
  · intro i a ha
    obtain ⟨z, c, hc, e1, e2, _⟩ := key i a ha
    rw [← e1]; exact h.rng z c hc
  · have hl := hI.len
    have hk := get_lt hI.at_
    by_cases e : L'.length ≤ k
    · rw [hI.sum_lo L'.length (by omega)]
      have := sumX_mono L (show L'.length ≤ L.length by omega)
      have := h.lt
      omega
    · rw [hI.sum_hi L'.length (by omega) (Nat.le_refl _), hl]
      exact h.lt
theorem sumX_drop (L : List Nd) (k : Nat) : ∀ i, sumX (L.drop k) i + sumX L k = sumX L (k + i)
  | 0 => by simp [sumX]
  | i + 1 => by
    have ih := sumX_drop L k i
    have e : sumX L (k + (i + 1)) = sumX L (k + i) + (match L[k + i]? with | some nd => nd.x | none => 0) := rfl
    have e2 : sumX (L.drop k) (i + 1) = sumX (L.drop k) i + (match (L.drop k)[i]? with | some nd => nd.x | none => 0) := rfl
    rw [e, e2, List.getElem?_drop]
    omega
theorem sumX_zero {L : List Nd} : ∀ k, (∀ (i : Nat) (a : Nd), i < k → L[i]? = some a → a.x = 0) → sumX L k = 0
  | 0, _ => rfl
  | k + 1, h => by
    show sumX L k + _ = 0
    rw [sumX_zero k fun i a hi => h i a (by omega)]
    cases hk : L[k]? with
    | none => rfl
    | some a => have := h k a (by omega) hk; simpa using this
theorem sumX_dec (a : Nd) (r : List Nd) (h : 1 ≤ a.x) : ∀ i, sumX (⟨a.g, a.t, a.x - 1⟩ :: r) (i + 1) + 1 = sumX (a :: r) (i + 1)
  | 0 => by show 0 + (a.x - 1) + 1 = 0 + a.x; omega
  | i + 1 => by
    have ih := sumX_dec a r h i
    show sumX (⟨a.g, a.t, a.x - 1⟩ :: r) (i + 1) + _ + 1 = sumX (a :: r) (i + 1) + _
    have e : (⟨a.g, a.t, a.x - 1⟩ :: r : List Nd)[i + 1]? = (a :: r)[i + 1]? := rfl
    rw [e]
    omega
theorem Abs.tick {a : Nd} {r : List Nd} {T : Int → Nat} {k : Nat} (h : Abs (a :: r) T) (hk : k ≤ (⟨a.g, a.t, a.x - 1⟩ :: r : List Nd).length)
    (hz : ∀ (i : Nat) (b : Nd), i < k → (⟨a.g, a.t, a.x - 1⟩ :: r : List Nd)[i]? = some b → b.x = 0) (hnz : ∀ b : Nd, (⟨a.g, a.t, a.x - 1⟩ :: r : List Nd)[k]? = some b → b.x ≠ 0) :
    Abs ((⟨a.g, a.t, a.x - 1⟩ :: r : List Nd).drop k) (fun t => T t - 1) := by
  have h1 : 1 ≤ a.x := by
    have h3 : 0 < sumX (a :: r) 1 := h.pos 0 a rfl
    have h2 : sumX (a :: r) 1 = 0 + a.x := rfl
    omega
  have hd := sumX_dec a r h1
  have hs := sumX_zero k hz
  generalize hL1 : (⟨a.g, a.t, a.x - 1⟩ :: r : List Nd) = L1 at *
  have hsd : ∀ i, sumX (L1.drop k) i = sumX L1 (k + i) := fun i => by have := sumX_drop L1 k i; omega
  have hlen : L1.length = (a :: r).length := by rw [← hL1]; rfl
  have hget : ∀ (i : Nat) (b : Nd), L1[i]? = some b → ∃ c, (a :: r)[i]? = some c ∧ c.t = b.t := by
    intro i b hb
    rw [← hL1] at hb
    cases i with
    | zero => cases hb; exact ⟨a, rfl, rfl⟩
    | succ i => exact ⟨b, hb, rfl⟩
  have hget2 : ∀ (i : Nat) (c : Nd), (a :: r)[i]? = some c → ∃ b, L1[i]? = some b ∧ b.t = c.t := by
    intro i c hc
    rw [← hL1]
    cases i with
    | zero => cases hc; exact ⟨_, rfl, rfl⟩
    | succ i => exact ⟨c, hc, rfl⟩
  have hsum : ∀ i, sumX L1 (i + 1) + 1 = sumX (a :: r) (i + 1) := hd
  refine ⟨?_, ?_, ?_, ?_, ?_, ?_⟩
  · intro i b hb
    rw [List.getElem?_drop] at hb
    obtain ⟨c, hc, e⟩ := hget _ b hb
    rw [hsd, ← e]
    show T c.t - 1 = _
    rw [h.mem _ c hc]
    have := hsum (k + i)
    rw [show k + (i + 1) = k + i + 1 by omega]
    omega
  · intro t hT
    have hT' : T t - 1 ≠ 0 := hT
    obtain ⟨z, c, hc, he⟩ := h.all t (by omega)
    obtain ⟨b, hb, hbt⟩ := hget2 z c hc
    have hm := h.mem z c hc
    rw [he] at hm
    have hsz := hsum z
    have hkz : k ≤ z := by
      rcases Nat.lt_or_ge z k with h2 | h2
      · have := sumX_mono L1 (show z + 1 ≤ k by omega)
        omega
      · exact h2
    refine ⟨z - k, b, ?_, by rw [hbt, he]⟩
    rw [List.getElem?_drop, show k + (z - k) = z by omega]
    exact hb
  · intro i j x y hx hy hxy
    rw [List.getElem?_drop] at hx hy
    obtain ⟨c, hc, e⟩ := hget _ x hx
    obtain ⟨d, hd', e'⟩ := hget _ y hy
    have := h.uniq _ _ c d hc hd' (by rw [e, e', hxy])
    omega
  · intro i b hb
    rw [List.getElem?_drop] at hb
    rw [hsd]
    have hkl : k < L1.length := by have := get_lt hb; omega
    have hkk := List.getElem?_eq_getElem hkl
    have := hnz _ hkk
    have h2 := sumX_succ hkk
    have h3 := sumX_mono L1 (show k + 1 ≤ k + (i + 1) by omega)
    omega
  · intro i b hb
    rw [List.getElem?_drop] at hb
    obtain ⟨c, hc, e⟩ := hget _ b hb
    rw [← e]
    exact h.rng _ c hc
  · rw [hsd, List.length_drop]
    have := sumX_mono L1 (show k + (L1.length - k) ≤ L1.length by omega)
    have h2 := h.lt
    rw [← hlen] at h2
    cases hl : L1.length with
    | zero => rw [hl] at this; have h5 : sumX L1 0 = 0 := rfl; rw [h5] at this; omega
    | succ z =>
      rw [hl] at this h2
      have := hsum z
      omega
/-- How many of the tasks below n wait. -/
def cntT (T : Int → Nat) : Nat → Nat
  | 0 => 0
  | n + 1 => cntT T n + if T n = 0 then 0 else 1
theorem filt_len (L : List Nd) (i : Int) : (L.filter fun a : Nd => decide (a.t < i + 1)).length = (L.filter fun a : Nd => decide (a.t < i)).length + (L.filter fun a : Nd => decide (a.t = i)).length := by
  induction L with
  | nil => rfl
  | cons a r ih =>
    simp only [List.filter_cons]
    by_cases h1 : a.t < i
    · have e1 : decide (a.t < i + 1) = true := decide_eq_true (by omega)
      have e2 : decide (a.t < i) = true := decide_eq_true h1
      have e3 : decide (a.t = i) = false := decide_eq_false (by omega)
      simp only [e1, e2, e3, if_true, Bool.false_eq_true, if_false, List.length_cons, ih]
      omega
    · by_cases h3 : a.t = i
      · have e1 : decide (a.t < i + 1) = true := decide_eq_true (by omega)
        have e2 : decide (a.t < i) = false := decide_eq_false h1
        have e3 : decide (a.t = i) = true := decide_eq_true h3
        simp only [e1, e2, e3, if_true, Bool.false_eq_true, if_false, List.length_cons, ih]
        omega
      · have e1 : decide (a.t < i + 1) = false := decide_eq_false (by omega)
        have e2 : decide (a.t < i) = false := decide_eq_false h1
        have e3 : decide (a.t = i) = false := decide_eq_false h3
        simp only [e1, e2, e3, Bool.false_eq_true, if_false, ih]
open Classical in
theorem filt_eq (L : List Nd) (i : Int) (hu : ∀ (x y : Nat) (a b : Nd), L[x]? = some a → L[y]? = some b → a.t = b.t → x = y) :
    (L.filter fun a : Nd => decide (a.t = i)).length = if ∃ (x : Nat) (a : Nd), L[x]? = some a ∧ a.t = i then 1 else 0 := by
  induction L with
  | nil =>
    rw [if_neg]
    · rfl
    · rintro ⟨x, a, h, _⟩
      simp at h
  | cons a r ih =>
    have hu' : ∀ (x y : Nat) (c b : Nd), r[x]? = some c → r[y]? = some b → c.t = b.t → x = y := fun x y c b hc hb e => by
      have := hu (x + 1) (y + 1) c b hc hb e
      omega
    have ih' := ih hu'
    simp only [List.filter_cons]
    by_cases h : a.t = i
    · have hno : ¬ ∃ (x : Nat) (b : Nd), r[x]? = some b ∧ b.t = i := by
        rintro ⟨x, b, hb, e⟩
        have := hu (x + 1) 0 b a hb rfl (by rw [e, h])
        omega
      rw [if_neg hno] at ih'
      have hex : ∃ (x : Nat) (b : Nd), (a :: r)[x]? = some b ∧ b.t = i := ⟨0, a, rfl, h⟩
      have e3 : decide (a.t = i) = true := decide_eq_true h
      rw [if_pos hex]
      simp only [e3, if_true, List.length_cons, ih']
    · have hiff : (∃ (x : Nat) (b : Nd), (a :: r)[x]? = some b ∧ b.t = i) ↔ ∃ (x : Nat) (b : Nd), r[x]? = some b ∧ b.t = i := by
        constructor
        · rintro ⟨x, b, hb, e⟩
          cases x with
          | zero => cases hb; exact absurd e h
          | succ x => exact ⟨x, b, hb, e⟩
        · rintro ⟨x, b, hb, e⟩
          exact ⟨x + 1, b, hb, e⟩
      simp only [h, decide_false, Bool.false_eq_true, if_false]
      rw [ih']
      simp only [hiff]
theorem Abs.cnt {L : List Nd} {T : Int → Nat} (h : Abs L T) (n : Nat) : cntT T n = (L.filter fun a : Nd => decide (a.t < (n : Int))).length := by
  induction n with
  | zero =>
    have e : L.filter (fun a : Nd => decide (a.t < ((0 : Nat) : Int))) = [] := by
      rw [List.filter_eq_nil_iff]
      intro a ha
      obtain ⟨i, hi⟩ := List.getElem?_of_mem ha
      have := h.rng i a hi
      simp only [decide_eq_true_eq]
      omega
    rw [e]
    rfl
  | succ n ih =>
    show cntT T n + _ = _
    rw [ih, show ((n + 1 : Nat) : Int) = (n : Int) + 1 from rfl, filt_len, filt_eq L n h.uniq]
    congr 1
    by_cases hT : T n = 0
    · rw [if_pos hT, if_neg]
      rintro ⟨x, a, ha, e⟩
      exact h.no hT x a ha e
    · rw [if_neg hT, if_pos (h.all n hT)]
theorem Abs.count {L : List Nd} {T : Int → Nat} (h : Abs L T) (n : Nat) (hn : ∀ t : Int, (n : Int) ≤ t → T t = 0) : L.length = cntT T n := by
  rw [h.cnt n]
  have e : L.filter (fun a : Nd => decide (a.t < (n : Int))) = L := by
    rw [List.filter_eq_self]
    intro a ha
    obtain ⟨i, hi⟩ := List.getElem?_of_mem ha
    simp only [decide_eq_true_eq]
    rcases Int.lt_or_le a.t n with h1 | h1
    · exact h1
    · have h2 := h.mem i a hi
      have h3 := h.pos i a hi
      rw [hn a.t h1] at h2
      omega
  rw [e]
end Go.Proofs.Ytdbplamhpkahaaa
