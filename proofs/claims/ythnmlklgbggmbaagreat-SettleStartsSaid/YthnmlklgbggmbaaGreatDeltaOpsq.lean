import Derived.Test.YthnmlklgbggmbaaGreatObjq
import Derived.Test.YthnmlklgbggmbaaGreatGhostq
import Derived.Test.YthnmlklgbggmbaaGreatRows
import Derived.ProofKit
import Derived.OpenShut
import Derived.WalkLawsBesides
import Derived.WalkSpells
import Derived.Lib.Hide
import Derived.Deep.QuietTactic
import Derived.BigQuiet
import Derived.BigRegion
import Derived.Test.YthnmlklgbggmbaaGreatRowq
import Derived.Deep.LoopGhost
import Derived.Laws.AppendOwn
import Derived.Deep.RegionLaw
import Derived.Deep.RegionWith
import Derived.Handy
namespace Go.Proofs.YthnmlklgbggmbaaGreat
open Go.ChangeShapes Go.WideShapes Go.ChangeAt Go.RowKit
set_option linter.unusedVariables false
structure Nd where
  g : Nat
  t : Int
  x : Nat
def ptrOf (L : List Nd) (i : Nat) : Option Addr := (L[i]?).map fun nd => ⟨nd.g, 0, none⟩
theorem ptrOf_some {L : List Nd} {i : Nat} {nd : Nd} (h : L[i]? = some nd) : ptrOf L i = some ⟨nd.g, 0, none⟩ := by simp [ptrOf, h]
theorem ptrOf_none {L : List Nd} {i : Nat} (h : L.length ≤ i) : ptrOf L i = none := by simp [ptrOf, h]
structure IsDelta (w : World) (D : Nat) (L : List Nd) : Prop where
  head : w.heap[D]? = some (.cells #[.pointer (ptrOf L 0)] 157 (0, 0))
  node : ∀ (i : Nat) (nd : Nd), L[i]? = some nd → w.heap[nd.g]? = some (.cells #[.int .i64 nd.t, .int .u32 (nd.x : Int), .pointer (ptrOf L (i + 1))] 172 (0, 0))
  inj : ∀ (i j : Nat) (a b : Nd), L[i]? = some a → L[j]? = some b → a.g = b.g → i = j
section
variable {w w' : World} {D : Nat} {L : List Nd}
theorem IsDelta.keeps {S : Nat → Prop} (h : IsDelta w D L) (hk : Keeps S w w') (hD : ¬ S D) (hN : ∀ (i : Nat) (nd : Nd), L[i]? = some nd → ¬ S nd.g) : IsDelta w' D L :=
  ⟨hk.at h.head hD, fun i nd hi => hk.at (h.node i nd hi) (hN i nd hi), h.inj⟩
theorem IsDelta.none (h : IsDelta w D L) (hk : Keeps (fun _ => False) w w') : IsDelta w' D L := h.keeps hk (fun h => h) fun _ _ _ h => h
theorem IsDelta.lt (h : IsDelta w D L) : D < w.heap.size := lt_of h.head
theorem IsDelta.ne (h : IsDelta w D L) {i : Nat} {nd : Nd} (hi : L[i]? = some nd) : nd.g ≠ D := by
  intro e
  have h1 := h.node i nd hi
  rw [e, h.head] at h1
  injection h1 with h1
  injection h1 with _ h1
  exact absurd h1 (by decide)
end
def sumX (L : List Nd) : Nat → Nat
  | 0 => 0
  | k + 1 => sumX L k + (match L[k]? with | some nd => nd.x | none => 0)
theorem sumX_succ {L : List Nd} {k : Nat} {nd : Nd} (h : L[k]? = some nd) : sumX L (k + 1) = sumX L k + nd.x := by simp [sumX, h]
theorem sumX_mono (L : List Nd) {i j : Nat} (h : i ≤ j) : sumX L i ≤ sumX L j := by
  induction h with
  | refl => exact Nat.le_refl _
  | step _ ih => exact Nat.le_trans ih (Nat.le_add_right _ _)
end Go.Proofs.YthnmlklgbggmbaaGreat
namespace Go.Proofs.YthnmlklgbggmbaaGreat
open Go.ChangeShapes Go.WideShapes Go.ChangeAt Go.RowKit
set_option linter.unusedVariables false
theorem get_lt {L : List Nd} {i : Nat} {a : Nd} (h : L[i]? = some a) : i < L.length := by
  rcases Nat.lt_or_ge i L.length with h1 | h1
  · exact h1
  · rw [List.getElem?_eq_none h1] at h; cases h
theorem get_ge {L : List Nd} {i : Nat} (h : L[i]? = none) : L.length ≤ i := by
  rcases Nat.lt_or_ge i L.length with h1 | h1
  · rw [List.getElem?_eq_getElem h1] at h; cases h
  · exact h1
structure Ins (L L' : List Nd) (k : Nat) (n : Nd) : Prop where
  len : L'.length = L.length + 1
  lo : ∀ i, i < k → L'[i]? = L[i]?
  at_ : L'[k]? = some n
  nx : L'[k + 1]? = (L[k]?).map fun a => ⟨a.g, a.t, a.x - n.x⟩
  hi : ∀ i, k < i → L'[i + 1]? = L[i]?
  le : k ≤ L.length
theorem ins_make (L : List Nd) (k : Nat) (n : Nd) (hk : k ≤ L.length) : ∃ L', Ins L L' k n := by
  have ht : (L.take k).length = k := by rw [List.length_take]; omega
  cases hd : L.drop k with
  | nil =>
    have hl : L.length = k := by
      have := congrArg List.length hd
      rw [List.length_drop] at this
      simp at this
      omega
    refine ⟨L ++ [n], ⟨by simp, ?_, ?_, ?_, ?_, hk⟩⟩
    · intro i hi; rw [List.getElem?_append_left (by omega)]
    · rw [List.getElem?_append_right (by omega), hl]; simp
    · rw [List.getElem?_append_right (by omega), hl, List.getElem?_eq_none (l := L) (by omega)]
      rw [show k + 1 - k = 1 by omega]; rfl
    · intro i hi; rw [List.getElem?_append_right (by omega), List.getElem?_eq_none (l := L) (by omega), List.getElem?_eq_none (by simp; omega)]
  | cons a r =>
    have hs : L = L.take k ++ a :: r := by rw [← hd, List.take_append_drop]
    have hg : ∀ j, L[k + j]? = (a :: r)[j]? := by
      intro j
      rw [hs, List.getElem?_append_right (by omega), ht]
      congr 1
      omega
    refine ⟨L.take k ++ n :: ⟨a.g, a.t, a.x - n.x⟩ :: r, ⟨?_, ?_, ?_, ?_, ?_, hk⟩⟩
    · have := congrArg List.length hs
      simp at this ⊢
      omega
    · intro i hi
      rw [List.getElem?_append_left (by omega), List.getElem?_take_of_lt hi]
    · rw [List.getElem?_append_right (by omega), ht]; simp
    · rw [List.getElem?_append_right (by omega), ht, show k + 1 - k = 1 by omega]
      have := hg 0
      rw [Nat.add_zero] at this
      rw [this]; rfl
    · intro i hi
      rw [List.getElem?_append_right (by omega), ht]
      obtain ⟨j, rfl⟩ : ∃ j, i = k + (j + 1) := ⟨i - k - 1, by omega⟩
      rw [hg, show k + (j + 1) + 1 - k = j + 2 by omega]
      rfl
theorem Ins.cases {L L' : List Nd} {k : Nat} {n : Nd} (h : Ins L L' k n) {i : Nat} {a : Nd} (ha : L'[i]? = some a) :
    (i < k ∧ L[i]? = some a) ∨ (i = k ∧ a = n) ∨ (i = k + 1 ∧ ∃ b, L[k]? = some b ∧ a = ⟨b.g, b.t, b.x - n.x⟩) ∨ (k + 1 < i ∧ L[i - 1]? = some a) := by
  rcases Nat.lt_trichotomy i k with h1 | h1 | h1
  · exact .inl ⟨h1, by rw [← h.lo i h1]; exact ha⟩
  · subst h1
    rw [h.at_] at ha
    cases ha
    exact .inr (.inl ⟨rfl, rfl⟩)
  · by_cases h2 : i = k + 1
    · subst h2
      rw [h.nx] at ha
      cases hb : L[k]? with
      | none => rw [hb] at ha; cases ha
      | some b =>
        rw [hb] at ha
        cases ha
        exact .inr (.inr (.inl ⟨rfl, b, rfl, rfl⟩))
    · obtain ⟨j, rfl⟩ : ∃ j, i = j + 1 := ⟨i - 1, by omega⟩
      rw [h.hi j (by omega)] at ha
      exact .inr (.inr (.inr ⟨by omega, ha⟩))
theorem Ins.sum_lo {L L' : List Nd} {k : Nat} {n : Nd} (h : Ins L L' k n) : ∀ i, i ≤ k → sumX L' i = sumX L i
  | 0, _ => rfl
  | i + 1, hi => by
    show sumX L' i + _ = sumX L i + _
    rw [h.sum_lo i (by omega), h.lo i (by omega)]
theorem Ins.sum_at {L L' : List Nd} {k : Nat} {n : Nd} (h : Ins L L' k n) : sumX L' (k + 1) = sumX L k + n.x := by
  rw [sumX_succ h.at_, h.sum_lo k (Nat.le_refl _)]
theorem Ins.sum_hi {L L' : List Nd} {k : Nat} {n : Nd} (h : Ins L L' k n) (hx : ∀ b, L[k]? = some b → n.x ≤ b.x) : ∀ i, k < i → i ≤ L.length → sumX L' (i + 1) = sumX L i := by
  intro i hi hl
  induction i with
  | zero => omega
  | succ i ih =>
    by_cases e : i = k
    · subst e
      cases hb : L[i]? with
      | none => have := get_ge hb; omega
      | some b =>
        have hn := h.nx
        rw [hb] at hn
        have hn' : L'[i + 1]? = some ⟨b.g, b.t, b.x - n.x⟩ := hn
        have := hx b hb
        rw [sumX_succ hn', h.sum_at, sumX_succ hb]
        show sumX L i + n.x + (b.x - n.x) = _
        omega
    · show sumX L' (i + 1) + _ = sumX L i + _
      rw [ih (by omega) (by omega), h.hi i (by omega)]
def gOf (L : List Nd) (i : Nat) : Nat := match L[i]? with | some a => a.g | none => 0
theorem gOf_some {L : List Nd} {i : Nat} {a : Nd} (h : L[i]? = some a) : gOf L i = a.g := by simp [gOf, h]
def atA (D : Nat) (L : List Nd) : Nat → Addr
  | 0 => ⟨D, 0, none⟩
  | i + 1 => ⟨gOf L i, 2, none⟩
theorem at_cell {w : World} {D : Nat} {L : List Nd} (h : IsDelta w D L) {i : Nat} (hi : i ≤ L.length) : w.cell? (atA D L i) = some (.pointer (ptrOf L i)) ∧ w.frozen? (atA D L i) = false ∧ (atA D L i).block < w.heap.size := by
  cases i with
  | zero => exact ⟨cell_of h.head 0, free_of h.head 0, lt_of h.head⟩
  | succ i =>
    cases ha : L[i]? with
    | none => have := get_ge ha; omega
    | some a =>
      have hn := h.node i a ha
      simp only [atA, gOf_some ha]
      exact ⟨cell_of hn 2, free_of hn 2, lt_of hn⟩
theorem ins_delta {w w' : World} {D k : Nat} {L L' : List Nd} {n : Nd} (h : IsDelta w D L) (hI : Ins L L' k n) (hnew : w.heap.size ≤ n.g)
    (hN : w'.heap[n.g]? = some (.cells #[.int .i64 n.t, .int .u32 (n.x : Int), .pointer (ptrOf L k)] 172 (0, 0)))
    (hD : w'.heap[D]? = some (.cells #[.pointer (if k = 0 then some ⟨n.g, 0, none⟩ else ptrOf L 0)] 157 (0, 0)))
    (hO : ∀ (j : Nat) (a : Nd), L[j]? = some a → w'.heap[a.g]? = some (.cells #[.int .i64 a.t, .int .u32 ((if j = k then a.x - n.x else a.x : Nat) : Int), .pointer (if j + 1 = k then some ⟨n.g, 0, none⟩ else ptrOf L (j + 1))] 172 (0, 0))) : IsDelta w' D L' := by
  have hp : ∀ i, i ≤ L.length → ptrOf L' i = if i = k then some ⟨n.g, 0, none⟩ else if i < k then ptrOf L i else ptrOf L (i - 1) := by
    intro i hi
    by_cases e : i = k
    · subst e; rw [if_pos rfl, ptrOf_some hI.at_]
    · rw [if_neg e]
      by_cases e2 : i < k
      · rw [if_pos e2]; simp only [ptrOf, hI.lo i e2]
      · rw [if_neg e2]
        obtain ⟨j, rfl⟩ : ∃ j, i = j + 1 := ⟨i - 1, by omega⟩
        simp only [Nat.add_sub_cancel]
        by_cases e3 : j = k
        · subst e3
          simp only [ptrOf, hI.nx]
          cases L[j]? <;> rfl
        · simp only [ptrOf, hI.hi j (by omega)]
  have hp2 : ∀ i, L.length < i → ptrOf L' (i + 1) = none := fun i hi => ptrOf_none (by rw [hI.len]; omega)
  have hpt : ∀ i, k < i → ptrOf L' (i + 1) = ptrOf L i := by
    intro i hi
    simp only [ptrOf, hI.hi i hi]
  have hpk : ptrOf L' (k + 1) = ptrOf L k := by
    simp only [ptrOf, hI.nx]
    cases L[k]? <;> rfl
  refine ⟨?_, ?_, ?_⟩
  · rw [hD]
    by_cases e : k = 0
    · subst e; rw [if_pos rfl, ptrOf_some hI.at_]
    · rw [if_neg e]
      simp only [ptrOf, hI.lo 0 (by omega)]
  · intro i a ha
    rcases hI.cases ha with ⟨h1, h2⟩ | ⟨rfl, rfl⟩ | ⟨rfl, b, h2, rfl⟩ | ⟨h1, h2⟩
    · rw [hO i a h2, if_neg (by omega)]
      by_cases e : i + 1 = k
      · rw [if_pos e, e, ptrOf_some hI.at_]
      · rw [if_neg e]
        simp only [ptrOf, hI.lo (i + 1) (by omega)]
    · rw [hN, hpk]
    · rw [hO k b h2, if_pos rfl, if_neg (by omega), hpt (k + 1) (by omega)]
    · obtain ⟨j, rfl⟩ : ∃ j, i = j + 1 := ⟨i - 1, by omega⟩
      simp only [Nat.add_sub_cancel] at h2
      rw [hO j a h2, if_neg (by omega), if_neg (by omega), hpt (j + 1) (by omega)]
  · intro i j a b ha hb hab
    have hlt : ∀ (z : Nat) (c : Nd), L[z]? = some c → c.g < n.g := fun z c hc => Nat.lt_of_lt_of_le (lt_of (h.node z c hc)) hnew
    have key : ∀ {i : Nat} {a : Nd}, L'[i]? = some a → (i = k ∧ a.g = n.g) ∨ ∃ (z : Nat) (c : Nd), L[z]? = some c ∧ c.g = a.g ∧ i = if z < k then z else z + 1 := by
      intro i a ha
      rcases hI.cases ha with ⟨h1, h2⟩ | ⟨rfl, rfl⟩ | ⟨rfl, b, h2, rfl⟩ | ⟨h1, h2⟩
      · exact .inr ⟨i, a, h2, rfl, by rw [if_pos h1]⟩
      · exact .inl ⟨rfl, rfl⟩
      · exact .inr ⟨k, b, h2, rfl, by rw [if_neg (by omega)]⟩
      · exact .inr ⟨i - 1, a, h2, rfl, by rw [if_neg (by omega)]; omega⟩
    rcases key ha with ⟨e1, e2⟩ | ⟨z, c, hc, hcg, e⟩
    · rcases key hb with ⟨e3, e4⟩ | ⟨z2, c2, hc2, hcg2, e5⟩
      · omega
      · have := hlt z2 c2 hc2; omega
    · rcases key hb with ⟨e3, e4⟩ | ⟨z2, c2, hc2, hcg2, e5⟩
      · have := hlt z c hc; omega
      · have := h.inj z z2 c c2 hc hc2 (by omega)
        subst this
        rw [e, e5]
end Go.Proofs.YthnmlklgbggmbaaGreat
namespace Go.Proofs.YthnmlklgbggmbaaGreat
open Go.ChangeShapes Go.WideShapes Go.ChangeAt Go.RowKit
set_option linter.unusedVariables false
def Own (D : Nat) (L : List Nd) (k : Nat) : Prop := k = D ∨ ∃ (i : Nat) (a : Nd), L[i]? = some a ∧ k = a.g
def Added (w w' : World) (D : Nat) (L : List Nd) (task : Int) (ticks : Nat) : Prop :=
  ∃ (L' : List Nd) (k g : Nat), Ins L L' k ⟨g, task, ticks - sumX L k⟩ ∧ sumX L k ≤ ticks ∧ (∀ a, L[k]? = some a → ticks < sumX L (k + 1)) ∧ w.heap.size ≤ g ∧ IsDelta w' D L' ∧ Keeps (Own D L) w w'
theorem at_block {D k : Nat} {L : List Nd} (hk : k ≤ L.length) : Own D L (atA D L k).block := by
  cases k with
  | zero => exact .inl rfl
  | succ z =>
    have hlt : z < L.length := by omega
    have hg := List.getElem?_eq_getElem hlt
    exact .inr ⟨z, _, hg, gOf_some hg⟩
theorem alloc_at {w : World} {A : Addr} {v : Value} (h1 : w.cell? A = some v) (h2 : w.frozen? A = false) (h3 : A.block < w.heap.size) (o : Obj) : (w.alloc o).cell? A = some v ∧ (w.alloc o).frozen? A = false :=
  ⟨(World.cell?_of_block (w := w) (Below.heap_alloc _ _ _ h3)).trans h1, (World.frozen?_of_block (w := w) (Below.heap_alloc _ _ _ h3)).trans h2⟩
end Go.Proofs.YthnmlklgbggmbaaGreat
namespace Go.Proofs.YthnmlklgbggmbaaGreat
open Go.ChangeShapes Go.WideShapes Go.ChangeAt Go.RowKit
set_option linter.unusedVariables false
theorem IsDelta.below {B : Nat} {w w' : World} {D : Nat} {L : List Nd} (h : IsDelta w D L) (hb : Below B w w') (hD : D < B) (hN : ∀ (i : Nat) (nd : Nd), L[i]? = some nd → nd.g < B) : IsDelta w' D L :=
  ⟨Below.at hb h.head hD, fun i nd hi => Below.at hb (h.node i nd hi) (hN i nd hi), h.inj⟩
end Go.Proofs.YthnmlklgbggmbaaGreat
namespace Go.Proofs.YthnmlklgbggmbaaGreat
open Go.ChangeShapes Go.WideShapes Go.ChangeAt Go.RowKit
set_option linter.unusedVariables false
structure Del (L L' : List Nd) (k : Nat) (n : Nd) : Prop where
  len : L'.length + 1 = L.length
  at_ : L[k]? = some n
  lo : ∀ i, i < k → L'[i]? = L[i]?
  nx : L'[k]? = (L[k + 1]?).map fun a => ⟨a.g, a.t, a.x + n.x⟩
  hi : ∀ i, k < i → L'[i]? = L[i + 1]?
theorem Del.cases {L L' : List Nd} {k : Nat} {n : Nd} (h : Del L L' k n) {i : Nat} {a : Nd} (ha : L'[i]? = some a) :
    (i < k ∧ L[i]? = some a) ∨ (i = k ∧ ∃ b, L[k + 1]? = some b ∧ a = ⟨b.g, b.t, b.x + n.x⟩) ∨ (k < i ∧ L[i + 1]? = some a) := by
  rcases Nat.lt_trichotomy i k with h1 | h1 | h1
  · exact .inl ⟨h1, by rw [← h.lo i h1]; exact ha⟩
  · subst h1
    rw [h.nx] at ha
    cases hb : L[i + 1]? with
    | none => rw [hb] at ha; cases ha
    | some b =>
      rw [hb] at ha
      cases ha
      exact .inr (.inl ⟨rfl, b, rfl, rfl⟩)
  · exact .inr (.inr ⟨h1, by rw [← h.hi i h1]; exact ha⟩)
theorem Del.sum_lo {L L' : List Nd} {k : Nat} {n : Nd} (h : Del L L' k n) : ∀ i, i ≤ k → sumX L' i = sumX L i
  | 0, _ => rfl
  | i + 1, hi => by
    show sumX L' i + _ = sumX L i + _
    rw [h.sum_lo i (by omega), h.lo i (by omega)]
theorem Del.sum_hi {L L' : List Nd} {k : Nat} {n : Nd} (h : Del L L' k n) : ∀ i, k < i → i ≤ L'.length → sumX L' i = sumX L (i + 1) := by
  intro i hi hl
  induction i with
  | zero => omega
  | succ i ih =>
    by_cases e : i = k
    · subst e
      cases hb : L[i + 1]? with
      | none => have := get_ge hb; have := h.len; omega
      | some b =>
        have hn := h.nx
        rw [hb] at hn
        have hn' : L'[i]? = some ⟨b.g, b.t, b.x + n.x⟩ := hn
        rw [sumX_succ hn', h.sum_lo i (Nat.le_refl _), sumX_succ hb, sumX_succ h.at_]
        show sumX L i + (b.x + n.x) = _
        omega
    · show sumX L' i + _ = sumX L (i + 1) + _
      rw [ih (by omega) (by omega), h.hi i (by omega)]
end Go.Proofs.YthnmlklgbggmbaaGreat
namespace Go.Proofs.YthnmlklgbggmbaaGreat
open Go.ChangeShapes Go.WideShapes Go.ChangeAt Go.RowKit
set_option linter.unusedVariables false
structure Abs (L : List Nd) (T : Int → Nat) : Prop where
  mem : ∀ (i : Nat) (a : Nd), L[i]? = some a → T a.t = sumX L (i + 1)
  all : ∀ t : Int, T t ≠ 0 → ∃ (i : Nat) (a : Nd), L[i]? = some a ∧ a.t = t
  uniq : ∀ (i j : Nat) (a b : Nd), L[i]? = some a → L[j]? = some b → a.t = b.t → i = j
  pos : ∀ (i : Nat) (a : Nd), L[i]? = some a → 0 < sumX L (i + 1)
  rng : ∀ (i : Nat) (a : Nd), L[i]? = some a → 0 ≤ a.t ∧ a.t < 16
  lt : sumX L L.length < 4294967296
theorem Abs.no {L : List Nd} {T : Int → Nat} (h : Abs L T) {t : Int} (h0 : T t = 0) : ∀ (j : Nat) (a : Nd), L[j]? = some a → a.t ≠ t := by
  intro j a ha e
  have h1 := h.mem j a ha
  have h2 := h.pos j a ha
  rw [e, h0] at h1
  omega
theorem Abs.nil : Abs [] (fun _ => 0) :=
  ⟨fun i a h => by simp at h, fun t h => absurd rfl h, fun i j a b h => by simp at h, fun i a h => by simp at h, fun i a h => by simp at h, by decide⟩
theorem Abs.congr {L : List Nd} {T T' : Int → Nat} (h : Abs L T) (e : ∀ t, T t = T' t) : Abs L T' := by
  have : T = T' := funext e
  rw [← this]
  exact h
theorem Abs.add {L L' : List Nd} {T : Int → Nat} {k g ticks : Nat} {task : Int} (h : Abs L T) (hI : Ins L L' k ⟨g, task, ticks - sumX L k⟩) (h1 : sumX L k ≤ ticks) (h2 : ∀ a : Nd, L[k]? = some a → ticks < sumX L (k + 1)) (h0 : T task = 0) (hr : 0 ≤ task ∧ task < 16) (ht : 0 < ticks) (ht2 : ticks < 4294967296) :
    Abs L' (fun t => if t = task then ticks else T t) := by
  have hx : ∀ b : Nd, L[k]? = some b → (⟨g, task, ticks - sumX L k⟩ : Nd).x ≤ b.x := by
    intro b hb
    have := h2 b hb
    have := sumX_succ hb
    show ticks - sumX L k ≤ b.x
    omega
  have hno := h.no h0
  have hat : sumX L' (k + 1) = ticks := by
    rw [hI.sum_at]
    show sumX L k + (ticks - sumX L k) = ticks
    omega
  have key : ∀ (i : Nat) (a : Nd), L'[i]? = some a → (i = k ∧ a.t = task ∧ sumX L' (i + 1) = ticks) ∨ (∃ (z : Nat) (c : Nd), L[z]? = some c ∧ c.t = a.t ∧ sumX L' (i + 1) = sumX L (z + 1) ∧ i = if z < k then z else z + 1) := by
    intro i a ha
    rcases hI.cases ha with ⟨c1, c2⟩ | ⟨rfl, rfl⟩ | ⟨rfl, b, c2, rfl⟩ | ⟨c1, c2⟩
    · exact .inr ⟨i, a, c2, rfl, hI.sum_lo (i + 1) (by omega), by rw [if_pos c1]⟩
    · exact .inl ⟨rfl, rfl, hat⟩
    · exact .inr ⟨k, b, c2, rfl, hI.sum_hi hx (k + 1) (by omega) (get_lt c2), by rw [if_neg (by omega)]⟩
    · refine .inr ⟨i - 1, a, c2, rfl, ?_, by rw [if_neg (by omega)]; omega⟩
      rw [show i - 1 + 1 = i by omega]
      exact hI.sum_hi hx i (by omega) (by have := get_lt c2; omega)
  refine ⟨?_, ?_, ?_, ?_, ?_, ?_⟩
  · intro i a ha
    rcases key i a ha with ⟨_, e1, e2⟩ | ⟨z, c, hc, e1, e2, _⟩
    · show (if a.t = task then ticks else T a.t) = _
      rw [if_pos e1, e2]
    · show (if a.t = task then ticks else T a.t) = _
      rw [← e1, if_neg (hno z c hc), h.mem z c hc, e2]
  · intro t hT
    by_cases e : t = task
    · exact ⟨k, _, hI.at_, e.symm⟩
    · have hT' : T t ≠ 0 := by
        have : (if t = task then ticks else T t) ≠ 0 := hT
        rwa [if_neg e] at this
      obtain ⟨z, c, hc, he⟩ := h.all t hT'
      by_cases hz : z < k
      · exact ⟨z, c, by rw [hI.lo z hz]; exact hc, he⟩
      · by_cases hz2 : z = k
        · subst hz2
          exact ⟨z + 1, (⟨c.g, c.t, c.x - (ticks - sumX L z)⟩ : Nd), by rw [hI.nx, hc]; rfl, he⟩
        · exact ⟨z + 1, c, by rw [hI.hi z (by omega)]; exact hc, he⟩
  · intro i j a b ha hb hab
    rcases key i a ha with ⟨e0, e1, e2⟩ | ⟨z, c, hc, e1, e2, e3⟩
    · rcases key j b hb with ⟨f0, f1, f2⟩ | ⟨y, d, hd, f1, f2, f3⟩
      · omega
      · exact absurd (by rw [f1, ← hab, e1]) (hno y d hd)
    · rcases key j b hb with ⟨f0, f1, f2⟩ | ⟨y, d, hd, f1, f2, f3⟩
      · exact absurd (by rw [e1, hab, f1]) (hno z c hc)
      · have := h.uniq z y c d hc hd (by rw [e1, f1, hab])
        subst this
        rw [e3, f3]
  · intro i a ha
    rcases key i a ha with ⟨_, e1, e2⟩ | ⟨z, c, hc, e1, e2, _⟩
    · rw [e2]; exact ht
    · rw [e2]; exact h.pos z c hc
  · intro i a ha
    rcases key i a ha with ⟨_, e1, e2⟩ | ⟨z, c, hc, e1, e2, _⟩
    · rw [e1]; exact hr
    · rw [← e1]; exact h.rng z c hc
  · rw [hI.len]
    by_cases e : k = L.length
    · rw [← e, hat]; exact ht2
    · rw [hI.sum_hi hx L.length (by have := hI.le; omega) (Nat.le_refl _)]
      exact h.lt
theorem sumX_drop (L : List Nd) (k : Nat) : ∀ i, sumX (L.drop k) i + sumX L k = sumX L (k + i)
  | 0 => by simp [sumX]
  | i + 1 => by
    have ih := sumX_drop L k i
    have e : sumX L (k + (i + 1)) = sumX L (k + i) + (match L[k + i]? with | some nd => nd.x | none => 0) := rfl
    have e2 : sumX (L.drop k) (i + 1) = sumX (L.drop k) i + (match (L.drop k)[i]? with | some nd => nd.x | none => 0) := rfl
    rw [e, e2, List.getElem?_drop]
    omega
theorem sumX_zero {L : List Nd} : ∀ k, (∀ (i : Nat) (a : Nd), i < k → L[i]? = some a → a.x = 0) → sumX L k = 0
  | 0, _ => rfl
  | k + 1, h => by
    show sumX L k + _ = 0
    rw [sumX_zero k fun i a hi => h i a (by omega)]
    cases hk : L[k]? with
    | none => rfl
    | some a => have := h k a (by omega) hk; simpa using this
theorem sumX_dec (a : Nd) (r : List Nd) (h : 1 ≤ a.x) : ∀ i, sumX (⟨a.g, a.t, a.x - 1⟩ :: r) (i + 1) + 1 = sumX (a :: r) (i + 1)
  | 0 => by show 0 + (a.x - 1) + 1 = 0 + a.x; omega
  | i + 1 => by
    have ih := sumX_dec a r h i
    show sumX (⟨a.g, a.t, a.x - 1⟩ :: r) (i + 1) + _ + 1 = sumX (a :: r) (i + 1) + _
    have e : (⟨a.g, a.t, a.x - 1⟩ :: r : List Nd)[i + 1]? = (a :: r)[i + 1]? := rfl
    rw [e]
    omega
theorem Abs.tick {a : Nd} {r : List Nd} {T : Int → Nat} {k : Nat} (h : Abs (a :: r) T) (hk : k ≤ (⟨a.g, a.t, a.x - 1⟩ :: r : List Nd).length)
    (hz : ∀ (i : Nat) (b : Nd), i < k → (⟨a.g, a.t, a.x - 1⟩ :: r : List Nd)[i]? = some b → b.x = 0) (hnz : ∀ b : Nd, (⟨a.g, a.t, a.x - 1⟩ :: r : List Nd)[k]? = some b → b.x ≠ 0) :
    Abs ((⟨a.g, a.t, a.x - 1⟩ :: r : List Nd).drop k) (fun t => T t - 1) := by
  have h1 : 1 ≤ a.x := by
    have h3 : 0 < sumX (a :: r) 1 := h.pos 0 a rfl
    have h2 : sumX (a :: r) 1 = 0 + a.x := rfl
    omega
  have hd := sumX_dec a r h1
  have hs := sumX_zero k hz
  generalize hL1 : (⟨a.g, a.t, a.x - 1⟩ :: r : List Nd) = L1 at *
  have hsd : ∀ i, sumX (L1.drop k) i = sumX L1 (k + i) := fun i => by have := sumX_drop L1 k i; omega
  have hlen : L1.length = (a :: r).length := by rw [← hL1]; rfl
  have hget : ∀ (i : Nat) (b : Nd), L1[i]? = some b → ∃ c, (a :: r)[i]? = some c ∧ c.t = b.t := by
    intro i b hb
    rw [← hL1] at hb
    cases i with
    | zero => cases hb; exact ⟨a, rfl, rfl⟩
    | succ i => exact ⟨b, hb, rfl⟩
  have hget2 : ∀ (i : Nat) (c : Nd), (a :: r)[i]? = some c → ∃ b, L1[i]? = some b ∧ b.t = c.t := by
    intro i c hc
    rw [← hL1]
    cases i with
    | zero => cases hc; exact ⟨_, rfl, rfl⟩
    | succ i => exact ⟨c, hc, rfl⟩
  have hsum : ∀ i, sumX L1 (i + 1) + 1 = sumX (a :: r) (i + 1) := hd
  refine ⟨?_, ?_, ?_, ?_, ?_, ?_⟩
  · intro i b hb
    rw [List.getElem?_drop] at hb
    obtain ⟨c, hc, e⟩ := hget _ b hb
    rw [hsd, ← e]
    show T c.t - 1 = _
    rw [h.mem _ c hc]
    have := hsum (k + i)
    rw [show k + (i + 1) = k + i + 1 by omega]
    omega
  · intro t hT
    have hT' : T t - 1 ≠ 0 := hT
    obtain ⟨z, c, hc, he⟩ := h.all t (by omega)
    obtain ⟨b, hb, hbt⟩ := hget2 z c hc
    have hm := h.mem z c hc
    rw [he] at hm
    have hsz := hsum z
    have hkz : k ≤ z := by
      rcases Nat.lt_or_ge z k with h2 | h2
      · have := sumX_mono L1 (show z + 1 ≤ k by omega)
        omega
      · exact h2
    refine ⟨z - k, b, ?_, by rw [hbt, he]⟩
    rw [List.getElem?_drop, show k + (z - k) = z by omega]
    exact hb
  · intro i j x y hx hy hxy
    rw [List.getElem?_drop] at hx hy
    obtain ⟨c, hc, e⟩ := hget _ x hx
    obtain ⟨d, hd', e'⟩ := hget _ y hy
    have := h.uniq _ _ c d hc hd' (by rw [e, e', hxy])
    omega
  · intro i b hb
    rw [List.getElem?_drop] at hb
    rw [hsd]
    have hkl : k < L1.length := by have := get_lt hb; omega
    have hkk := List.getElem?_eq_getElem hkl
    have := hnz _ hkk
    have h2 := sumX_succ hkk
    have h3 := sumX_mono L1 (show k + 1 ≤ k + (i + 1) by omega)
    omega
  · intro i b hb
    rw [List.getElem?_drop] at hb
    obtain ⟨c, hc, e⟩ := hget _ b hb
    rw [← e]
    exact h.rng _ c hc
  · rw [hsd, List.length_drop]
    have := sumX_mono L1 (show k + (L1.length - k) ≤ L1.length by omega)
    have h2 := h.lt
    rw [← hlen] at h2
    cases hl : L1.length with
    | zero => rw [hl] at this; have h5 : sumX L1 0 = 0 := rfl; rw [h5] at this; omega
    | succ z =>
      rw [hl] at this h2
      have := hsum z
      omega
def cntT (T : Int → Nat) : Nat → Nat
  | 0 => 0
  | n + 1 => cntT T n + if T n = 0 then 0 else 1
theorem filt_len (L : List Nd) (i : Int) : (L.filter fun a : Nd => decide (a.t < i + 1)).length = (L.filter fun a : Nd => decide (a.t < i)).length + (L.filter fun a : Nd => decide (a.t = i)).length := by
  induction L with
  | nil => rfl
  | cons a r ih =>
    simp only [List.filter_cons]
    by_cases h1 : a.t < i
    · have e1 : decide (a.t < i + 1) = true := decide_eq_true (by omega)
      have e2 : decide (a.t < i) = true := decide_eq_true h1
      have e3 : decide (a.t = i) = false := decide_eq_false (by omega)
      simp only [e1, e2, e3, if_true, Bool.false_eq_true, if_false, List.length_cons, ih]
      omega
    · by_cases h3 : a.t = i
      · have e1 : decide (a.t < i + 1) = true := decide_eq_true (by omega)
        have e2 : decide (a.t < i) = false := decide_eq_false h1
        have e3 : decide (a.t = i) = true := decide_eq_true h3
        simp only [e1, e2, e3, if_true, Bool.false_eq_true, if_false, List.length_cons, ih]
        omega
      · have e1 : decide (a.t < i + 1) = false := decide_eq_false (by omega)
        have e2 : decide (a.t < i) = false := decide_eq_false h1
        have e3 : decide (a.t = i) = false := decide_eq_false h3
        simp only [e1, e2, e3, Bool.false_eq_true, if_false, ih]
open Classical in
theorem filt_eq (L : List Nd) (i : Int) (hu : ∀ (x y : Nat) (a b : Nd), L[x]? = some a → L[y]? = some b → a.t = b.t → x = y) :
    (L.filter fun a : Nd => decide (a.t = i)).length = if ∃ (x : Nat) (a : Nd), L[x]? = some a ∧ a.t = i then 1 else 0 := by
  induction L with
  | nil =>
    rw [if_neg]
    · rfl
    · rintro ⟨x, a, h, _⟩
      simp at h
  | cons a r ih =>
    have hu' : ∀ (x y : Nat) (c b : Nd), r[x]? = some c → r[y]? = some b → c.t = b.t → x = y := fun x y c b hc hb e => by
      have := hu (x + 1) (y + 1) c b hc hb e
      omega
    have ih' := ih hu'
    simp only [List.filter_cons]
    by_cases h : a.t = i
    · have hno : ¬ ∃ (x : Nat) (b : Nd), r[x]? = some b ∧ b.t = i := by
        rintro ⟨x, b, hb, e⟩
        have := hu (x + 1) 0 b a hb rfl (by rw [e, h])
        omega
      rw [if_neg hno] at ih'
      have hex : ∃ (x : Nat) (b : Nd), (a :: r)[x]? = some b ∧ b.t = i := ⟨0, a, rfl, h⟩
      have e3 : decide (a.t = i) = true := decide_eq_true h
      rw [if_pos hex]
      simp only [e3, if_true, List.length_cons, ih']
    · have hiff : (∃ (x : Nat) (b : Nd), (a :: r)[x]? = some b ∧ b.t = i) ↔ ∃ (x : Nat) (b : Nd), r[x]? = some b ∧ b.t = i := by
        constructor
        · rintro ⟨x, b, hb, e⟩
          cases x with
          | zero => cases hb; exact absurd e h
          | succ x => exact ⟨x, b, hb, e⟩
        · rintro ⟨x, b, hb, e⟩
          exact ⟨x + 1, b, hb, e⟩
      simp only [h, decide_false, Bool.false_eq_true, if_false]
      rw [ih']
      simp only [hiff]
theorem Abs.cnt {L : List Nd} {T : Int → Nat} (h : Abs L T) (n : Nat) : cntT T n = (L.filter fun a : Nd => decide (a.t < (n : Int))).length := by
  induction n with
  | zero =>
    have e : L.filter (fun a : Nd => decide (a.t < ((0 : Nat) : Int))) = [] := by
      rw [List.filter_eq_nil_iff]
      intro a ha
      obtain ⟨i, hi⟩ := List.getElem?_of_mem ha
      have := h.rng i a hi
      simp only [decide_eq_true_eq]
      omega
    rw [e]
    rfl
  | succ n ih =>
    show cntT T n + _ = _
    rw [ih, show ((n + 1 : Nat) : Int) = (n : Int) + 1 from rfl, filt_len, filt_eq L n h.uniq]
    congr 1
    by_cases hT : T n = 0
    · rw [if_pos hT, if_neg]
      rintro ⟨x, a, ha, e⟩
      exact h.no hT x a ha e
    · rw [if_neg hT, if_pos (h.all n hT)]
theorem Abs.count {L : List Nd} {T : Int → Nat} (h : Abs L T) (n : Nat) (hn : ∀ t : Int, (n : Int) ≤ t → T t = 0) : L.length = cntT T n := by
  rw [h.cnt n]
  have e : L.filter (fun a : Nd => decide (a.t < (n : Int))) = L := by
    rw [List.filter_eq_self]
    intro a ha
    obtain ⟨i, hi⟩ := List.getElem?_of_mem ha
    simp only [decide_eq_true_eq]
    rcases Int.lt_or_le a.t n with h1 | h1
    · exact h1
    · have h2 := h.mem i a hi
      have h3 := h.pos i a hi
      rw [hn a.t h1] at h2
      omega
  rw [e]
end Go.Proofs.YthnmlklgbggmbaaGreat
namespace Go.Proofs.YthnmlklgbggmbaaGreat
open Go.ChangeShapes Go.WideShapes Go.ChangeAt Go.RowKit
set_option linter.unusedVariables false
structure DIs (w wr : World) (D : Nat) (L : List Nd) (T : Int → Nat) (m : Nat) : Prop where
  is : IsDelta wr D L
  abs : Abs L T
  len : L.length ≤ m
  below : Below w.heap.size w wr
  newD : w.heap.size ≤ D
  newN : ∀ (i : Nat) (a : Nd), L[i]? = some a → w.heap.size ≤ a.g
def DAt (w wr : World) (D : Nat) (T : Int → Nat) (m : Nat) : Prop := ∃ L, DIs w wr D L T m
section
variable {w w1 w2 : World} {D m : Nat} {L : List Nd} {T : Int → Nat}
theorem DIs.own (h : DIs w w1 D L T m) : ∀ k, k < w1.heap.size → Own D L k → w.heap.size ≤ k := by
  intro k _ hk
  rcases hk with rfl | ⟨i, a, ha, rfl⟩
  · exact h.newD
  · exact h.newN i a ha
theorem DIs.none (h : DIs w w1 D L T m) (hk : Keeps (fun _ => False) w1 w2) : DIs w w2 D L T m :=
  ⟨h.is.none hk, h.abs, h.len, h.below.trans (hk.none.mono h.below.size), h.newD, h.newN⟩
theorem DAt.none (h : DAt w w1 D T m) (hk : Keeps (fun _ => False) w1 w2) : DAt w w2 D T m := by
  obtain ⟨L, h⟩ := h
  exact ⟨L, h.none hk⟩
theorem DAt.below (h : DAt w w1 D T m) : Below w.heap.size w w1 := h.choose_spec.below
theorem DIs.added {task : Int} {ticks : Nat} (h : DIs w w1 D L T m) (ha : Added w1 w2 D L task ticks) (h0 : T task = 0) (hr : 0 ≤ task ∧ task < 16) (ht : 0 < ticks) (ht2 : ticks < 4294967296) :
    ∃ (L' : List Nd) (k g : Nat), Ins L L' k ⟨g, task, ticks - sumX L k⟩ ∧ sumX L k ≤ ticks ∧ (∀ a : Nd, L[k]? = some a → ticks < sumX L (k + 1)) ∧ DIs w w2 D L' (fun t => if t = task then ticks else T t) (m + 1) := by
  obtain ⟨L', k, g, hI, h1, h2, hg, hd, hk⟩ := ha
  refine ⟨L', k, g, hI, h1, h2, hd, h.abs.add hI h1 h2 h0 hr ht ht2, by rw [hI.len]; have := h.len; omega, h.below.trans (hk.below h.below.size h.own), h.newD, ?_⟩
  intro i a ha
  rcases hI.cases ha with ⟨c1, c2⟩ | ⟨rfl, rfl⟩ | ⟨rfl, b, c2, rfl⟩ | ⟨c1, c2⟩
  · exact h.newN i a c2
  · exact Nat.le_trans h.below.size hg
  · exact h.newN k b c2
  · exact h.newN (i - 1) a c2
end
end Go.Proofs.YthnmlklgbggmbaaGreat
