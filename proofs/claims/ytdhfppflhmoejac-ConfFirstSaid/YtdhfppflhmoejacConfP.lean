import Derived.Test.YtdhfppflhmoejacRuleL
import Derived.Test.YtdhfppflhmoejacConfO
import Derived.Laws.AppendOwn
import Derived.Deep.AppendLies
namespace Go.Proofs.Ytdhfppflhmoejac
open Go.ChangeShapes Go.WideShapes Go.ChangeAt Go.RowKit
set_option linter.unusedVariables false
set_option linter.unusedSimpArgs false
/-- The configuration whose tasks were laid anew. -/
def dOf (c : CfD) (a : Option Addr) (cap : Nat) (tp : Nat → Int) (nO : Nat) : CfD := ⟨c.nT, c.nL, nO, c.tick, a, c.la, c.oa, cap, c.lc, c.oc, tp, fun _ => false, fun _ => 0, fun _ => none, fun _ => 0, c.lr, c.ll, c.lca, c.lcc, c.ob, c.oi⟩
@[reducible] def dCells (c : CfD) (a : Option Addr) (cap nO : Nat) : Array Value := #[.slice a c.nT cap, .slice c.la c.nL c.lc, .slice c.oa nO c.oc, .int .i64 c.tick]
theorem firstN_zero {p : Int} {f : Nat → Int} {n : Nat} : (eachV p f n).1 = 0 ↔ ∀ i, i < n → f i = 0 := by
  constructor
  · intro h
    unfold eachV at h
    cases hf : firstN f n with
    | none => exact firstN_none hf
    | some i => rw [hf] at h; exact absurd h (firstN_some hf).2.1
  · intro h
    rw [eachV_none h]
theorem badOf_iff (c : CfD) : (badOf c).1 = 0 ↔ (bad1 c).1 = 0 ∧ (bad2 c).1 = 0 ∧ (bad3 c).1 = 0 ∧ (bad4 c).1 = 0 := by
  unfold badOf
  by_cases h1 : (bad1 c).1 = 0
  · by_cases h2 : (bad2 c).1 = 0
    · by_cases h3 : (bad3 c).1 = 0
      · rw [if_pos h1, if_pos h2, if_pos h3]; simp [h1, h2, h3]
      · rw [if_pos h1, if_pos h2, if_neg h3]; simp [h3]
    · rw [if_pos h1, if_neg h2]; simp [h2]
  · rw [if_neg h1]; simp [h1]
theorem taskF_less {p : Int} {n : Nat} (h : taskF p n = 0) : taskF p 0 = 0 := by
  unfold taskF at *
  by_cases hp : p < 0 ∨ 32 ≤ p
  · rw [if_pos hp] at h; exact absurd h (by decide)
  · rw [if_neg hp]; rfl
theorem dOf_zero (c : CfD) (a : Option Addr) (cap nO : Nat) (hn : nO ≤ c.nO) (h : (badOf c).1 = 0) : (badOf (dOf c a cap c.tp nO)).1 = 0 := by
  rw [badOf_iff] at *
  obtain ⟨h1, h2, h3, h4⟩ := h
  unfold bad1 bad2 bad3 bad4 at *
  rw [firstN_zero] at h1 h2 h3 h4
  refine ⟨firstN_zero.2 fun i hi => ?_, firstN_zero.2 fun i hi => taskF_less (h2 i hi), firstN_zero.2 fun i hi => h3 i hi, firstN_zero.2 fun i hi => h4 i (Nat.lt_of_lt_of_le hi hn)⟩
  have := h1 i hi
  unfold cntF at *
  rcases (by omega : i = 0 ∨ i = 1 ∨ i = 2 ∨ i = 3) with rfl | rfl | rfl | rfl
  · exact this
  · exact this
  · have h16 : cntB c 2 = true := by
      cases hq : cntB c 2
      · rw [hq] at this; exact absurd this (by decide)
      · rfl
    have h17 : (c.nO : Int) ≤ 16 := by simpa [cntB] using h16
    have : cntB (dOf c a cap c.tp nO) 2 = true := by
      show decide ((nO : Int) ≤ 16) = true
      exact decide_eq_true (by omega)
    rw [this]; rfl
  · exact this
theorem dOf_prio (c : CfD) (a : Option Addr) (cap nO : Nat) (tp : Nat → Int) (hn : 0 < c.nT) (h : tp 0 < 0 ∨ 32 ≤ tp 0) : badOf (dOf c a cap tp nO) = (2, 2, 0) ∨ (badOf (dOf c a cap tp nO)).2.1 = 1 := by
  generalize hd : dOf c a cap tp nO = d
  have hnT : d.nT = c.nT := by rw [← hd]; rfl
  have htp : d.tp = tp := by rw [← hd]; rfl
  have htl : d.tl = fun _ => 0 := by rw [← hd]; rfl
  clear hd
  unfold badOf
  by_cases h1 : (bad1 d).1 = 0
  · left
    have h2 : bad2 d = (2, 2, 0) := by
      unfold bad2
      rw [eachV_some (i := 0) (by omega) (fun j hj => by omega)]
      · rw [htp, htl]
        show (taskF (tp 0) 0, (2 : Int), ((0 : Nat) : Int)) = (2, 2, 0)
        unfold taskF
        rw [if_pos h]
        rfl
      · rw [htp, htl]
        show taskF (tp 0) 0 ≠ 0
        unfold taskF
        rw [if_pos h]
        decide
    rw [if_pos h1, h2]
    rfl
  · right
    rw [if_neg h1]
    unfold bad1 eachV at *
    cases hf : firstN (cntF d) 4 with
    | none => rw [hf] at h1; exact absurd rfl h1
    | some i => rfl
/-- What the last part stands on. -/
structure EB (w wr : World) (c : CfD) (D : Nat) (a : Option Addr) (cap : Nat) (tp : Nat → Int) (nO : Nat) : Prop where
  keeps : Keeps (fun _ => False) w wr
  cb : wr.heap[w.heap.size]? = some (.cells c.cells 46 (0, 0))
  db : wr.heap[D]? = some (.cells (dCells c a cap nO) 46 (0, 0))
  hD : w.heap.size < D
  row : 0 < c.nT → ∃ (g : Nat) (cs : Array Value), a = some ⟨g, 0, Option.none⟩ ∧ wr.heap[g]? = some (.cells cs 50 (0, 0)) ∧ w.heap.size ≤ g ∧ ∀ i, i < c.nT → cs[i * 3]? = some (.int .i64 (tp i)) ∧ cs[i * 3 + 1]? = some (.bool false) ∧ cs[i * 3 + 2]? = some (.slice Option.none 0 0)
section
variable {w wr w2 : World} {c : CfD} {D : Nat} {a : Option Addr} {cap : Nat} {tp : Nat → Int} {nO : Nat}
theorem EB.none (h : EB w wr c D a cap tp nO) (k : Keeps (fun _ => False) wr w2) : EB w w2 c D a cap tp nO :=
  ⟨h.keeps.trans k, k.at h.cb fun h => h, k.at h.db fun h => h, h.hD, fun hn => by
    obtain ⟨g, cs, h1, h2, h3, h4⟩ := h.row hn
    exact ⟨g, cs, h1, k.at h2 fun h => h, h3, h4⟩⟩
theorem EB.cin (h : EB w wr c D a cap tp nO) (hc : CfIn w c) (hn : nO ≤ c.nO) : CfIn wr (dOf c a cap tp nO) := by
  have hc' := hc.none h.keeps
  refine ⟨fun h0 => ?_, fun h0 => hc'.l h0, fun h0 => ?_⟩
  · obtain ⟨g, cs, h1, h2, h3, h4⟩ := h.row h0
    exact ⟨g, 0, h1, lt_of h2, fun i hi => by
      obtain ⟨q0, q1, q2⟩ := h4 i hi
      rw [Nat.zero_add]
      exact ⟨(cell_of h2 (i * 3)).trans q0, (cell_of h2 (i * 3 + 1)).trans q1, (cell_of h2 (i * 3 + 2)).trans q2⟩⟩
  · have h0' : 0 < c.nO := Nat.lt_of_lt_of_le h0 hn
    obtain ⟨b, off, q1, q2, q3⟩ := hc'.o h0'
    exact ⟨b, off, q1, q2, fun i hi => q3 i (Nat.lt_of_lt_of_le hi hn)⟩
theorem EB.setO (h : EB w wr c D a cap tp nO) (n' : Nat) : EB w (wr.setCell ⟨D, 2, Option.none⟩ (.slice c.oa n' c.oc)) c D a cap tp n' := by
  have hD := h.hD
  have e2 := heap_set h.db 2 (.slice c.oa n' c.oc)
  simp only [List.setIfInBounds_toArray, List.set_cons_zero, List.set_cons_succ] at e2
  refine ⟨h.keeps.setCell (p := ⟨D, 2, Option.none⟩) (.inr (show w.heap.size ≤ D by omega)) _, heap_other h.cb (show w.heap.size ≠ D by omega) _, e2, hD, fun hn => ?_⟩
  obtain ⟨g, cs, h1, h2, h3, h4⟩ := h.row hn
  exact ⟨g, cs, h1, heap_other h2 (by
    intro e
    have e' : g = D := e
    subst e'
    rw [h.db] at h2
    injection h2 with h2
    injection h2 with _ ht
    exact absurd ht (by decide)) _, h3, h4⟩
theorem EB.setP (h : EB w wr c D a cap tp nO) (hn : 0 < c.nT) (g : Nat) (hg : a = some ⟨g, 0, Option.none⟩) (p : Int) : EB w (wr.setCell ⟨g, 0, Option.none⟩ (.int .i64 p)) c D a cap (fun i => if i = 0 then p else tp i) nO := by
  obtain ⟨g', cs, h1, h2, h3, h4⟩ := h.row hn
  rw [hg] at h1
  injection h1 with h1
  injection h1 with h1
  subst h1
  have hne : ∀ {b : Nat} {cs' : Array Value}, wr.heap[b]? = some (.cells cs' 46 (0, 0)) → b ≠ g := by
    intro b cs' hb e
    subst e
    rw [hb] at h2
    injection h2 with h2
    injection h2 with _ ht
    exact absurd ht (by decide)
  refine ⟨h.keeps.setCell (p := ⟨g, 0, Option.none⟩) (.inr h3) _, heap_other h.cb (hne h.cb) _, heap_other h.db (hne h.db) _, h.hD, fun _ => ⟨g, _, hg, heap_set h2 0 _, h3, fun i hi => ?_⟩⟩
  obtain ⟨q0, q1, q2⟩ := h4 i hi
  have hs : 0 < cs.size := by
    obtain ⟨r0, _, _⟩ := h4 0 hn
    rcases Nat.lt_or_ge 0 cs.size with h5 | h5
    · exact h5
    · rw [Array.getElem?_eq_none (by omega)] at r0; cases r0
  by_cases e : i = 0
  · subst e
    refine ⟨?_, ?_, ?_⟩
    · simp [hs]
    · rw [Array.getElem?_setIfInBounds, if_neg (by omega)]; exact q1
    · rw [Array.getElem?_setIfInBounds, if_neg (by omega)]; exact q2
  · rw [if_neg e, Array.getElem?_setIfInBounds, if_neg (by omega), Array.getElem?_setIfInBounds, if_neg (by omega), Array.getElem?_setIfInBounds, if_neg (by omega)]
    exact ⟨q0, q1, q2⟩
end
/-- The laid tasks' cells. -/
def flatP (tp : Nat → Int) : Nat → List Value
  | 0 => []
  | j + 1 => flatP tp j ++ [.int .i64 (tp j), .bool false, .slice none 0 0]
theorem flatP_len (tp : Nat → Int) : ∀ j, (flatP tp j).length = j * 3
  | 0 => rfl
  | j + 1 => by unfold flatP; rw [List.length_append, flatP_len tp j]; simp; omega
theorem flatP_get (tp : Nat → Int) : ∀ (j i : Nat), i < j → (flatP tp j)[i * 3]? = some (.int .i64 (tp i)) ∧ (flatP tp j)[i * 3 + 1]? = some (.bool false) ∧ (flatP tp j)[i * 3 + 2]? = some (.slice none 0 0)
  | 0, i, h => by omega
  | j + 1, i, h => by
    unfold flatP
    by_cases e : i = j
    · subst e
      have hl := flatP_len tp i
      refine ⟨?_, ?_, ?_⟩ <;> rw [List.getElem?_append_right (by omega)]
      · rw [hl, Nat.sub_self]; rfl
      · rw [hl, show i * 3 + 1 - i * 3 = 1 by omega]; rfl
      · rw [hl, show i * 3 + 2 - i * 3 = 2 by omega]; rfl
    · obtain ⟨q0, q1, q2⟩ := flatP_get tp j i (by omega)
      have hl := flatP_len tp j
      refine ⟨?_, ?_, ?_⟩ <;> rw [List.getElem?_append_left (by omega)]
      · exact q0
      · exact q1
      · exact q2
/-- What the loop stands on. -/
structure LB (w wr : World) (c : CfD) (D : Nat) (v : Value) (j : Nat) : Prop where
  keeps : Keeps (fun _ => False) w wr
  cb : wr.heap[w.heap.size]? = some (.cells c.cells 46 (0, 0))
  db : wr.heap[D]? = some (.cells #[v, .slice c.la c.nL c.lc, .slice c.oa c.nO c.oc, .int .i64 c.tick] 46 (0, 0))
  hD : w.heap.size < D
  own : wr.ownsRow w.heap.size 50 3 v j (flatP c.tp j)
theorem own_apartT {w : World} {base : Nat} {e t : TypeId} {size n g : Nat} {v : Value} {xs : List Value} {cs : Array Value} (h : w.ownsRow base e size v n xs) (hg : w.heap[g]? = some (.cells cs t (0, 0))) (hne : e ≠ t) : v.ownBlock ≠ some g := by
  rcases h.2 with ⟨rfl, _⟩ | ⟨g', cap, cur, rfl, _, hh, _⟩
  · simp [Value.ownBlock]
  · intro he
    have e1 : g' = g := by simpa [Value.ownBlock] using he
    subst e1
    rw [hg] at hh
    injection hh with hh
    injection hh with _ ht
    exact hne ht.symm
theorem own_setT {w : World} {base : Nat} {e t : TypeId} {size n g : Nat} {v : Value} {xs : List Value} {cs : Array Value} (h : w.ownsRow base e size v n xs) (hg : w.heap[g]? = some (.cells cs t (0, 0))) (hne : e ≠ t) (i : Nat) (u : Value) : (w.setCell ⟨g, i, none⟩ u).ownsRow base e size v n xs := by
  refine ⟨h.1, ?_⟩
  rcases h.2 with h2 | ⟨g', cap, cur, rfl, hb, hh, h3⟩
  · exact .inl h2
  · refine .inr ⟨g', cap, cur, rfl, hb, heap_other hh (fun e2 => ?_) _, h3⟩
    have e3 : g' = g := e2
    subst e3
    rw [hg] at hh
    injection hh with hh
    injection hh with _ ht
    exact hne ht.symm
theorem LB.more {w wr w4 : World} {c : CfD} {D : Nat} {v v' : Value} {j : Nat} {o : Obj} (h : LB w wr c D v j) (hg : ((wr.alloc o).drew).grownBy w4 v.ownBlock) (ho : w4.ownsRow w.heap.size 50 3 v' (j + 1) (flatP c.tp j ++ [.int .i64 (c.tp j), .bool false, .slice none 0 0])) :
    LB w (w4.setCell ⟨D, 0, none⟩ v') c D v' (j + 1) ∧ w4.heap[D]? = some (.cells #[v, .slice c.la c.nL c.lc, .slice c.oa c.nO c.oc, .int .i64 c.tick] 46 (0, 0)) := by
  have k1 : Keeps (fun _ => False) w ((wr.alloc o).drew) := (h.keeps.alloc o).drew
  have hb := k1.none.grown hg k1.size (fun q hq => (h.own.lt q hq).1)
  have k2 : Keeps (fun _ => False) w w4 := ⟨hb.os, hb.tape, hb.output, hb.size, fun k hk _ => hb.block k hk⟩
  have old : ∀ {b : Nat} {cs : Array Value}, wr.heap[b]? = some (.cells cs 46 (0, 0)) → w4.heap[b]? = some (.cells cs 46 (0, 0)) := fun {b cs} hbb => by
    have h1 : ((wr.alloc o).drew).heap[b]? = some (.cells cs 46 (0, 0)) := heap_old hbb o
    exact (hg.block b (lt_of h1) (fun e => own_apartT h.own hbb (by decide) e.symm)).trans h1
  have hd := old h.db
  have e2 := heap_set hd 0 v'
  simp only [List.setIfInBounds_toArray, List.set_cons_zero, List.set_cons_succ] at e2
  have hD := h.hD
  exact ⟨⟨k2.setCell (p := ⟨D, 0, none⟩) (.inr (show w.heap.size ≤ D by omega)) _, heap_other (old h.cb) (show w.heap.size ≠ D by omega) _, e2, hD, own_setT ho hd (by decide) 0 _⟩, hd⟩
theorem LB.fin {w wr : World} {c : CfD} {D : Nat} {v : Value} (h : LB w wr c D v c.nT) : ∃ a cap, v = .slice a c.nT cap ∧ EB w wr c D a cap c.tp c.nO := by
  obtain ⟨h1, h2 | ⟨g, cap, cur, rfl, hg, hb, hc1, hc2, hs, ht⟩⟩ := h.own
  · exact ⟨none, 0, by rw [h2.1, h2.2], h.keeps, h.cb, by have h3 := h.db; rw [h2.1] at h3; simpa [dCells, h2.2] using h3, h.hD, fun hn => by omega⟩
  · refine ⟨some ⟨g, 0, none⟩, cap, rfl, h.keeps, h.cb, h.db, h.hD, fun hn => ⟨g, cur, rfl, hb, hg, fun i hi => ?_⟩⟩
    obtain ⟨q0, q1, q2⟩ := flatP_get c.tp c.nT i hi
    rw [← ht] at q0 q1 q2
    rw [List.getElem?_take, if_pos (by omega)] at q0 q1 q2
    exact ⟨by simpa using q0, by simpa using q1, by simpa using q2⟩
end Go.Proofs.Ytdhfppflhmoejac
