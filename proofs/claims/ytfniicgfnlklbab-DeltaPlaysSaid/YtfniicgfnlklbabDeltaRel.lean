import Derived.Test.YtfniicgfnlklbabDeltaRefX
import Derived.Test.YtfniicgfnlklbabDeltaOrdB
namespace Go.Proofs.Ytfniicgfnlklbab
set_option linter.unusedVariables false
set_option linter.unusedSimpArgs false
/-- Two rows in one order with the same members are the same. -/
theorem eq_sorted {Q : Int → Int → Prop} (asy : ∀ a b, Q a b → Q b a → False) : ∀ l1 l2 : List Int, l1.Pairwise Q → l2.Pairwise Q → (∀ x, x ∈ l1 ↔ x ∈ l2) → l1 = l2
  | [], [], _, _, _ => rfl
  | [], b :: l2, _, _, h => by have := (h b).2 (by simp); cases this
  | a :: l1, [], _, _, h => by have := (h a).1 (by simp); cases this
  | a :: l1, b :: l2, h1, h2, h => by
    have p1 := List.pairwise_cons.1 h1
    have p2 := List.pairwise_cons.1 h2
    have e : a = b := by
      rcases List.mem_cons.1 ((h a).1 (by simp)) with e | ha
      · exact e
      · rcases List.mem_cons.1 ((h b).2 (by simp)) with e | hb
        · exact e.symm
        · exact (asy _ _ (p1.1 b hb) (p2.1 a ha)).elim
    subst e
    have := eq_sorted asy l1 l2 p1.2 p2.2 fun x => by
      constructor
      · intro hx
        rcases List.mem_cons.1 ((h x).1 (List.mem_cons_of_mem _ hx)) with e | hx2
        · subst e; exact (asy _ _ (p1.1 x hx) (p1.1 x hx)).elim
        · exact hx2
      · intro hx
        rcases List.mem_cons.1 ((h x).2 (List.mem_cons_of_mem _ hx)) with e | hx2
        · subst e; exact (asy _ _ (p2.1 x hx) (p2.1 x hx)).elim
        · exact hx2
    rw [this]
theorem two_asym {α : Type} {s t : α} : ∀ M : List α, M.Nodup → List.Sublist [s, t] M → List.Sublist [t, s] M → False
  | [], _, h, _ => by cases h
  | m :: M, hn, h1, h2 => by
    have hn' := List.nodup_cons.1 hn
    rcases List.sublist_cons_iff.1 h1 with h1 | ⟨r, e1, h1⟩
    · rcases List.sublist_cons_iff.1 h2 with h2 | ⟨r, e2, h2⟩
      · exact two_asym M hn'.2 h1 h2
      · injection e2 with e2 e3
        have : t ∈ M := h1.subset (by simp)
        rw [e2] at this
        exact hn'.1 this
    · injection e1 with e1 e3
      subst e1 e3
      rcases List.sublist_cons_iff.1 h2 with h2 | ⟨r, e2, h2⟩
      · have : s ∈ M := h2.subset (by simp)
        exact hn'.1 this
      · injection e2 with e2 e3
        subst e2 e3
        have : t ∈ M := h2.subset (by simp)
        exact hn'.1 this
/-- Who came earlier. -/
def bef (R : List (Int × Nat)) (s t : Int) : Prop := ∃ x y : Nat, List.Sublist [(s, x), (t, y)] R
theorem bef_asym {R : List (Int × Nat)} (hn : (R.map (·.1)).Nodup) {s t : Int} (h1 : bef R s t) (h2 : bef R t s) : False := by
  obtain ⟨x, y, h1⟩ := h1
  obtain ⟨x', y', h2⟩ := h2
  exact two_asym (s := s) (t := t) _ hn (by simpa using h1.map (·.1)) (by simpa using h2.map (·.1))
theorem bef_app {R : List (Int × Nat)} (S : List (Int × Nat)) {s t : Int} (h : bef R s t) : bef (R ++ S) s t := by
  obtain ⟨x, y, h⟩ := h
  exact ⟨x, y, h.trans (List.sublist_append_left R S)⟩
theorem bef_last {R : List (Int × Nat)} {a y : Int × Nat} (h : a ∈ R) : bef (R ++ [y]) a.1 y.1 :=
  ⟨a.2, y.2, List.Sublist.append (List.singleton_sublist.2 h) (List.Sublist.refl [y])⟩
theorem bef_filter {R : List (Int × Nat)} {s t z : Int} (h : bef R s t) (hs : s ≠ z) (ht : t ≠ z) : bef (R.filter fun a => a.1 != z) s t := by
  obtain ⟨x, y, h⟩ := h
  refine ⟨x, y, ?_⟩
  have := h.filter (fun a : Int × Nat => a.1 != z)
  simpa [hs, ht] using this
theorem mem_sortS (R : List (Int × Nat)) : ∀ a, a ∈ sortS R ↔ a ∈ R := by
  refine snoc_ind (Q := fun R => ∀ a, a ∈ sortS R ↔ a ∈ R) (fun a => Iff.rfl) (fun R y ih a => ?_) R
  rw [sortS_snoc, mem_insS, ih a]
  simp
/-- The insertion sort keeps those of the same number of ticks in the order in which they came. -/
theorem sortS_stable (R : List (Int × Nat)) : (sortS R).Pairwise (fun a b => a.2 < b.2 ∨ (a.2 = b.2 ∧ bef R a.1 b.1)) := by
  refine snoc_ind (Q := fun R => (sortS R).Pairwise (fun a b => a.2 < b.2 ∨ (a.2 = b.2 ∧ bef R a.1 b.1))) List.Pairwise.nil (fun R y ih => ?_) R
  rw [sortS_snoc]
  have h0 : (sortS R).Pairwise (fun a b => a.2 < b.2 ∨ (a.2 = b.2 ∧ bef (R ++ [y]) a.1 b.1)) := ih.imp fun {a b} h => by
    rcases h with h | ⟨h1, h2⟩
    · exact .inl h
    · exact .inr ⟨h1, bef_app [y] h2⟩
  unfold insS
  rw [List.pairwise_append, List.pairwise_append]
  refine ⟨⟨h0.sublist List.filter_sublist, List.pairwise_singleton _ _, fun a ha b hb => ?_⟩, h0.sublist List.filter_sublist, fun a ha b hb => ?_⟩
  · have h1 := of_decide_eq_true (List.mem_filter.1 ha).2
    have h3 := (mem_sortS R a).1 (List.mem_filter.1 ha).1
    have h2 : b = y := by simpa using hb
    subst h2
    rcases Nat.lt_or_ge a.2 b.2 with h4 | h4
    · exact .inl h4
    · exact .inr ⟨by omega, bef_last h3⟩
  · have h2 := of_decide_eq_true (List.mem_filter.1 hb).2
    rcases List.mem_append.1 ha with ha | ha
    · have h1 := of_decide_eq_true (List.mem_filter.1 ha).2
      exact .inl (by omega)
    · have h1 : a = y := by simpa using ha
      subst h1
      exact .inl h2
/-- The program's list and the document's row say the same. -/
structure RelD (L : List Nd) (T : Int → Nat) (R : List (Int × Nat)) : Prop where
  val : ∀ a, a ∈ R → T a.1 = a.2 ∧ 0 < a.2
  all : ∀ t, T t ≠ 0 → ∃ x, (t, x) ∈ R
  nd : (R.map (·.1)).Nodup
  ord : OrdB (bef R) L T
theorem RelD.list {L : List Nd} {T : Int → Nat} {R : List (Int × Nat)} (h : RelD L T R) (hA : Abs L T) : L.map (·.t) = (sortS R).map (·.1) := by
  refine eq_sorted (Q := fun s t => T s < T t ∨ (T s = T t ∧ bef R s t)) (fun a b h1 h2 => ?_) _ _ ?_ ?_ fun x => ?_
  · rcases h1 with h1 | ⟨h1, h3⟩
    · rcases h2 with h2 | ⟨h2, h4⟩ <;> omega
    · rcases h2 with h2 | ⟨h2, h4⟩
      · omega
      · exact bef_asym h.nd h3 h4
  · rw [List.pairwise_map, List.pairwise_iff_getElem]
    intro i j hi hj hij
    have e1 : L[i]? = some L[i] := List.getElem?_eq_getElem hi
    have e2 : L[j]? = some L[j] := List.getElem?_eq_getElem hj
    have h1 := hA.mem i _ e1
    have h2 := hA.mem j _ e2
    have h3 := sumX_mono L (show i + 1 ≤ j + 1 by omega)
    rcases Nat.lt_or_ge (T L[i].t) (T L[j].t) with h4 | h4
    · exact .inl h4
    · have h5 : T L[i].t = T L[j].t := by omega
      exact .inr ⟨h5, h.ord i j _ _ hij e1 e2 h5⟩
  · rw [List.pairwise_map]
    refine List.Pairwise.imp_of_mem ?_ (sortS_stable R)
    intro a b ha hb hab
    have h1 := (h.val a ((mem_sortS R a).1 ha)).1
    have h2 := (h.val b ((mem_sortS R b).1 hb)).1
    rw [h1, h2]
    exact hab
  · constructor
    · intro hx
      obtain ⟨a, ha, rfl⟩ := List.mem_map.1 hx
      obtain ⟨i, hi⟩ := List.getElem?_of_mem ha
      have h1 := hA.mem i a hi
      have h2 := hA.pos i a hi
      obtain ⟨x, hx⟩ := h.all a.t (by omega)
      exact List.mem_map.2 ⟨_, (mem_sortS R _).2 hx, rfl⟩
    · intro hx
      obtain ⟨a, ha, rfl⟩ := List.mem_map.1 hx
      have h1 := h.val a ((mem_sortS R a).1 ha)
      obtain ⟨i, b, hb, e⟩ := hA.all a.1 (by omega)
      exact List.mem_map.2 ⟨b, List.mem_of_getElem? hb, e⟩
theorem RelD.nil : RelD [] (fun _ => 0) [] := ⟨fun a ha => (by cases ha), fun t h => absurd rfl h, List.nodup_nil, OrdB.nil _ _⟩
theorem RelD.notIn {L : List Nd} {T : Int → Nat} {R : List (Int × Nat)} (h : RelD L T R) {t : Int} (h0 : T t = 0) : ∀ a, a ∈ R → a.1 ≠ t := fun a ha e => by
  have := h.val a ha
  rw [e] at this
  omega
theorem RelD.add {L L' : List Nd} {T : Int → Nat} {R : List (Int × Nat)} {k g ticks : Nat} {task : Int} (h : RelD L T R) (hA : Abs L T) (hI : Ins L L' k ⟨g, task, ticks - sumX L k⟩) (h2 : ∀ a : Nd, L[k]? = some a → ticks < sumX L (k + 1)) (h0 : T task = 0) (ht : 0 < ticks) : RelD L' (fun t => if t = task then ticks else T t) (R ++ [(task, ticks)]) := by
  have hno := h.notIn h0
  refine ⟨fun a ha => ?_, fun t hT => ?_, ?_, ?_⟩
  · rcases List.mem_append.1 ha with ha | ha
    · rw [if_neg (hno a ha)]
      exact h.val a ha
    · have e : a = (task, ticks) := by simpa using ha
      rw [e]
      exact ⟨if_pos rfl, ht⟩
  · by_cases e : t = task
    · exact ⟨ticks, by rw [e]; simp⟩
    · rw [if_neg e] at hT
      obtain ⟨x, hx⟩ := h.all t hT
      exact ⟨x, List.mem_append_left _ hx⟩
  · rw [List.map_append]
    refine List.nodup_append.2 ⟨h.nd, by simp, fun a ha b hb => ?_⟩
    obtain ⟨x, hx, rfl⟩ := List.mem_map.1 ha
    have : b = task := by simpa using hb
    rw [this]
    exact hno x hx
  · refine OrdB.add (h.ord.mono fun i j a b _ _ hb => bef_app _ hb) hA hI h2 h0 fun i a ha => ?_
    have h3 := hA.mem i a ha
    have h4 := hA.pos i a ha
    obtain ⟨x, hx⟩ := h.all a.t (by omega)
    exact bef_last (a := (a.t, x)) (y := (task, ticks)) hx
theorem RelD.del {L L' : List Nd} {T : Int → Nat} {R : List (Int × Nat)} {k : Nat} {n : Nd} (h : RelD L T R) (hA : Abs L T) (hI : Del L L' k n) (hA' : Abs L' (fun t => if t = n.t then 0 else T t)) : RelD L' (fun t => if t = n.t then 0 else T t) (R.filter fun a => a.1 != n.t) := by
  refine ⟨fun a ha => ?_, fun t hT => ?_, h.nd.sublist (List.filter_sublist.map _), ?_⟩
  · have h1 := List.mem_filter.1 ha
    have h2 : a.1 ≠ n.t := by simpa using h1.2
    rw [if_neg h2]
    exact h.val a h1.1
  · by_cases e : t = n.t
    · rw [if_pos e] at hT; exact absurd rfl hT
    · rw [if_neg e] at hT
      obtain ⟨x, hx⟩ := h.all t hT
      exact ⟨x, List.mem_filter.2 ⟨hx, by simpa using e⟩⟩
  · refine (OrdB.del h.ord hA hI).mono fun i j a b ha hb hab => ?_
    have h1 := hA'.mem i a ha
    have h2 := hA'.pos i a ha
    have h3 := hA'.mem j b hb
    have h4 := hA'.pos j b hb
    refine bef_filter hab (fun e => ?_) (fun e => ?_)
    · rw [if_pos e] at h1; omega
    · rw [if_pos e] at h3; omega
end Go.Proofs.Ytfniicgfnlklbab
