import Derived.Test.YthnmlklgbggmbaaGreatQuAz
import Derived.Test.YthnmlklgbggmbaaGreatBaseZ
namespace Go.Proofs.YthnmlklgbggmbaaGreat
open Go.RowKit Go.Shelf
set_option linter.unusedVariables false
attribute [local go_sem] Oper.semAt_some
attribute [local go_sem ↓ 2000] app_pre
attribute [local go_sem] app_run
def ofs (L : List QN) (obj : Int) : List QN := L.filter fun x => x.o == obj
theorem ofs_le (L : List QN) (obj : Int) : (ofs L obj).length ≤ L.length := List.length_filter_le _ _
theorem ofs_hit (L : List QN) (obj : Int) (x : QN) (h : x.o = obj) : ofs (L ++ [x]) obj = ofs L obj ++ [x] := by simp [ofs, h]
theorem ofs_miss (L : List QN) (obj : Int) (x : QN) (h : x.o ≠ obj) : ofs (L ++ [x]) obj = ofs L obj := by simp [ofs, h]
end Go.Proofs.YthnmlklgbggmbaaGreat
namespace Go.Proofs.YthnmlklgbggmbaaGreat
open Go.ChangeShapes Go.WideShapes Go.ChangeAt Go.RowKit
set_option linter.unusedVariables false
/-- The tasks, as numbers. -/
def tv (L : List QN) : List Value := L.map fun x => Value.int .i64 x.t
theorem tv_len (L : List QN) : (tv L).length = L.length := by simp [tv]
theorem tv_get {L : List QN} {i : Nat} {x : QN} (h : L[i]? = some x) : (tv L)[i]? = some (.int .i64 x.t) := by simp [tv, h]
theorem tv_snoc (L : List QN) (x : QN) : tv (L ++ [x]) = tv L ++ [.int .i64 x.t] := by simp [tv]
theorem owns_keeps {w w' : World} {S : Nat → Prop} {B E s n : Nat} {v : Value} {xs : List Value} (h : w.ownsRow B E s v n xs) (hk : Keeps S w w') (hS : ∀ k, S k → ∀ cs, w.heap[k]? ≠ some (.cells cs E (0, 0))) : w'.ownsRow B E s v n xs := by
  obtain ⟨h1, h | ⟨g, cap, cur, rfl, hg, hb, hc1, hc2, hs, ht⟩⟩ := h
  · exact ⟨h1, .inl h⟩
  · exact ⟨h1, .inr ⟨g, cap, cur, rfl, hg, hk.at hb (fun hs => hS g hs cur hb), hc1, hc2, hs, ht⟩⟩
theorem owns_cell {w : World} {B E n : Nat} {a : Option Addr} {c : Nat} {xs : List Value} (h : w.ownsRow B E 1 (.slice a n c) n xs) {q : Nat} (hq : q < n) : ∃ b, a = some ⟨b, 0, none⟩ ∧ b < w.heap.size ∧ w.cell? ⟨b, q, none⟩ = xs[q]? := by
  obtain ⟨h1, h | ⟨g, cap, cur, e, hg, hb, hc1, hc2, hs, ht⟩⟩ := h
  · omega
  · cases e
    refine ⟨g, rfl, lt_of hb, ?_⟩
    rw [cell_of hb q, ← ht, List.getElem?_take, if_pos (by omega)]
    simp
theorem owns_base {w : World} {B B' E s n : Nat} {v : Value} {xs : List Value} (h : w.ownsRow B E s v n xs) (hB : B' ≤ B) : w.ownsRow B' E s v n xs := by
  obtain ⟨h1, h | ⟨g, cap, cur, rfl, hg, r⟩⟩ := h
  · exact ⟨h1, .inl h⟩
  · exact ⟨h1, .inr ⟨g, cap, cur, rfl, by omega, r⟩⟩
theorem keeps_grown {w w' : World} {r : Option Nat} (h : w.grownBy w' r) : Keeps (fun k => some k = r) w w' := ⟨h.os, h.tape, h.output, h.size, fun k hk hs => h.block k hk hs⟩
theorem info_int : (Tryz.prog.info? 3).map (fun i => (i.zero, i.size, i.bytes)) = some (some (.int .i64 0), 1, 8) := by kernel_rfl
/-- 'append(row, x)' of a number: the run, the new row; what else there was stands. -/
theorem app_int {W : World} {B : Nat} {v : Value} {n : Nat} {xs : List Value} (x : Int) (hrow : W.ownsRow B 3 1 v n xs) (hB : B ≤ W.heap.size) (hn : n < 1000000) :
    ∃ g cap w1, appRun Tryz.prog #[53, 53] 53 #[v, .slice (some ⟨W.heap.size, 0, none⟩) 1 1] (W.alloc (.cells #[.int .i64 x] 3)) = .ok (.slice (some ⟨g, 0, none⟩) (n + 1) cap) w1 ∧
      w1.ownsRow B 3 1 (.slice (some ⟨g, 0, none⟩) (n + 1) cap) (n + 1) (xs ++ [.int .i64 x]) ∧ Keeps (fun k => B ≤ k ∧ ∃ cs, W.heap[k]? = some (.cells cs 3 (0, 0))) W w1 := by
  obtain ⟨i0, hi, hz0, hz1, hz2⟩ := info_parts info_int
  obtain ⟨v', w1, hrun, hown, hgrow, _⟩ := run_append_own (P := Tryz.prog) (W.alloc (.cells #[.int .i64 x] 3)) B 53 53 3 i0 _ 1 8 Tryz.underlying53 hi hz0 hz1 hz2 rfl (by decide) v n xs (hrow.alloc _) ⟨W.heap.size, 0, none⟩ 1 1 [.int .i64 x] rfl (new_one _ _ _) (by simp [Value.oneCell']) (by unfold maxLen; omega) (by omega) (by rw [World.size_alloc]; exact Nat.le_succ_of_le hB)
  obtain ⟨g, cap, rfl⟩ := ownsRow_succ hown
  refine ⟨g, cap, w1, hrun, hown, ?_⟩
  have h1 := keeps_grown hgrow
  refine ⟨h1.os, h1.tape, h1.output, Nat.le_trans (by simp) h1.size, fun k hk hs => ?_⟩
  rw [h1.block k (by simp; omega) ?_, Below.heap_alloc _ _ _ hk]
  intro e
  obtain ⟨_, h | ⟨g', cap', cur, rfl, hg, hb, _⟩⟩ := hrow
  · rw [h.1] at e; cases e
  · simp [Value.ownBlock] at e
    subst e
    exact hs ⟨hg, cur, hb⟩
theorem OwnQ.ints {B : Nat} {w w' : World} {Q : Nat} {L : List QN} (h : OwnQ B w Q L) {P : Nat → Prop} (hk : Keeps (fun k => P k ∧ ∃ cs, w.heap[k]? = some (.cells cs 3 (0, 0))) w w') : OwnQ B w' Q L := by
  obtain ⟨b, hq⟩ := h.ring
  refine ⟨⟨b, hq.keeps hk ?_ ?_⟩, h.lowQ, h.low⟩
  · rintro ⟨_, cs, h1⟩
    rw [hq.head] at h1; injection h1 with h1; injection h1 with _ h1 _; exact absurd h1 (by decide)
  · rintro i x hx ⟨_, cs, h1⟩
    rw [hq.node i x hx] at h1; injection h1 with h1; injection h1 with _ h1 _; exact absurd h1 (by decide)
theorem RS_int {w : World} {Q : Nat} {L : List QN} {h : Bool} (hq : IsQ w Q L h) : ∀ k, RS Q L k → ∀ cs, w.heap[k]? ≠ some (.cells cs 3 (0, 0)) := by
  intro k hk cs e
  obtain ⟨c2, h1 | h1⟩ := RS_cells hq hk <;> (rw [e] at h1; injection h1 with h1; injection h1 with _ h1 _; exact absurd h1 (by decide))
/-- The waits of a queue as the laws make them. -/
structure Good (L : List QN) : Prop where
  rng : ∀ x, x ∈ L → 0 ≤ x.t ∧ x.t < 16
  one : (L.map fun x => x.t).Nodup
theorem good_nil : Good [] := ⟨fun x hx => (by cases hx), by simp⟩
theorem good_add {L : List QN} (h : Good L) (x : QN) (hx : 0 ≤ x.t ∧ x.t < 16) (hf : fnd L x.t = none) : Good (L ++ [x]) := by
  refine ⟨fun y hy => ?_, ?_⟩
  · rcases List.mem_append.1 hy with h1 | h1
    · exact h.rng y h1
    · simp at h1; subst h1; exact hx
  · rw [List.map_append, List.nodup_append]
    refine ⟨h.one, by simp, ?_⟩
    intro a ha b hb
    simp at hb
    subst hb
    obtain ⟨y, hy, rfl⟩ := List.mem_map.1 ha
    have := List.find?_eq_none.1 hf y hy
    simpa using this
theorem good_apart {P R : List QN} {x : QN} (h : Good (P ++ x :: R)) : (∀ y, y ∈ P → y.t ≠ x.t) ∧ ∀ y, y ∈ R → y.t ≠ x.t := by
  have h1 := h.one
  rw [List.map_append, List.map_cons, List.nodup_append] at h1
  obtain ⟨_, h2, h3⟩ := h1
  rw [List.nodup_cons] at h2
  exact ⟨fun y hy => h3 y.t (List.mem_map.2 ⟨y, hy, rfl⟩) x.t (by simp), fun y hy e => h2.1 (List.mem_map.2 ⟨y, hy, e⟩)⟩
theorem good_drop {P R : List QN} {x : QN} (h : Good (P ++ x :: R)) : Good (P ++ R) := by
  refine ⟨fun y hy => h.rng y ?_, ?_⟩
  · simp at hy ⊢
    rcases hy with h1 | h1
    · exact .inl h1
    · exact .inr (.inr h1)
  · refine List.Nodup.sublist ?_ h.one
    exact ((List.Sublist.refl P).append (List.sublist_cons_self x R)).map _
/-- What is left where a task has gone. -/
def wo (L : List QN) (g : Int) : List QN := L.filter fun x => x.t != g
theorem wo_drop {P R : List QN} {x : QN} (h : Good (P ++ x :: R)) : wo (P ++ x :: R) x.t = P ++ R := by
  obtain ⟨h1, h2⟩ := good_apart h
  have e1 : P.filter (fun y => y.t != x.t) = P := List.filter_eq_self.2 fun a ha => by simpa using h1 a ha
  have e2 : R.filter (fun y => y.t != x.t) = R := List.filter_eq_self.2 fun a ha => by simpa using h2 a ha
  rw [wo, List.filter_append, List.filter_cons, e1, e2]
  simp
theorem wo_none {L : List QN} {g : Int} (h : fnd L g = none) : wo L g = L := by
  rw [wo, List.filter_eq_self]
  intro x hx
  have := List.find?_eq_none.1 h x hx
  simpa using this
theorem wo_take_hit {L : List QN} {g : Int} {q : Nat} {x : QN} (hx : L[q]? = some x) (h : x.t ≠ g) : wo (L.take (q + 1)) g = wo (L.take q) g ++ [x] := by
  rw [List.take_add_one, hx, wo, List.filter_append]; simp [wo, h]
theorem wo_take_miss {L : List QN} {g : Int} {q : Nat} {x : QN} (hx : L[q]? = some x) (h : x.t = g) : wo (L.take (q + 1)) g = wo (L.take q) g := by
  rw [List.take_add_one, hx, wo, List.filter_append]; simp [wo, h]
theorem wo_le (L : List QN) (g : Int) : (wo L g).length ≤ L.length := List.length_filter_le _ _
theorem joinAll_good {L : List QN} (h : (L.map fun x => x.t).Nodup) : joinAll (L.map QN.wait) = L.map QN.wait := by
  have key : ∀ (R P : List QN), ((P ++ R).map fun x => x.t).Nodup → (R.map QN.wait).foldl joinW (P.map QN.wait) = (P ++ R).map QN.wait := by
    intro R
    induction R with
    | nil => intro P _; simp
    | cons x R ih =>
      intro P hn
      rw [List.map_cons, List.foldl_cons]
      have h1 : joinW (P.map QN.wait) x.wait = (P ++ [x]).map QN.wait := by
        rw [joinW, if_neg]
        · simp
        · rw [List.any_map]
          simp only [List.any_eq_true, not_exists, not_and]
          intro y hy e
          rw [List.map_append, List.map_cons, List.nodup_append] at hn
          have := hn.2.2 y.t (List.mem_map.2 ⟨y, hy, rfl⟩) x.t (by simp)
          exact this (by simpa [QN.wait] using e)
      rw [h1, ih (P ++ [x]) (by simpa using hn)]
      simp
  exact key L [] (by simpa using h)
/-- The task of the wait ahead of place k. -/
def atT (L : List QN) : Nat → Int
  | 0 => -1
  | k + 1 => match L[k]? with | some x => x.t | none => 0
theorem atT_succ {L : List QN} {k : Nat} {x : QN} (h : L[k]? = some x) : atT L (k + 1) = x.t := by simp [atT, h]
theorem scan_true (v : Int × Int × Int × Nat) (L : List QN) : scan v true L = L[0]? := by cases L <;> rfl
theorem scan_split (x : QN) : ∀ (A B : List QN), (∀ y, y ∈ A → y.wait ≠ x.wait) → scan x.wait false (A ++ x :: B) = B[0]?
  | [], B, _ => by
    show scan x.wait (decide (x.wait = x.wait)) B = _
    rw [decide_eq_true rfl, scan_true]
  | a :: A, B, h => by
    show scan x.wait (decide (a.wait = x.wait)) (A ++ x :: B) = _
    rw [decide_eq_false (h a (by simp))]
    exact scan_split x A B fun y hy => h y (by simp [hy])
theorem next_at {L : List QN} (hg : Good L) (k : Nat) (hk : k ≤ L.length) : ∃ X b0, wv (fnd L (atT L k)) = qv X ∧ (fnd L (atT L k)).isSome = !b0 ∧ scan X.wait b0 L = L[k]? := by
  cases k with
  | zero =>
    have hf : fnd L (-1) = none := by
      rw [fnd, List.find?_eq_none]
      intro x hx
      have := hg.rng x hx
      simp; omega
    refine ⟨⟨0, 0, 0, 0, 0⟩, true, ?_, ?_, scan_true _ _⟩
    · show wv (fnd L (-1)) = _
      rw [hf]; rfl
    · show (fnd L (-1)).isSome = _
      rw [hf]; rfl
  | succ k =>
    obtain ⟨x, hx⟩ : ∃ x, L[k]? = some x := ⟨_, List.getElem?_eq_getElem (by omega)⟩
    have hs : L = L.take k ++ x :: L.drop (k + 1) := by
      have := List.getElem?_eq_some_iff.1 hx
      obtain ⟨h1, rfl⟩ := this
      simp
    have ha := good_apart (hs ▸ hg)
    have hf : fnd L x.t = some x := by
      rw [hs]
      exact fnd_of_split rfl ha.1
    rw [atT_succ hx, hf]
    refine ⟨x, false, rfl, rfl, ?_⟩
    have := scan_split x (L.take k) (L.drop (k + 1)) (fun y hy e => ha.1 y hy (congrArg (fun v => v.1) e))
    rw [← hs] at this
    rw [this]
    simp
end Go.Proofs.YthnmlklgbggmbaaGreat
