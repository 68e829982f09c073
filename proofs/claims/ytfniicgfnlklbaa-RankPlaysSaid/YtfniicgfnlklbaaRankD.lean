import Derived.Test.YtfniicgfnlklbaaRankC
import Derived.Laws.CopyOwn
import Derived.Deep.OwnRows
namespace Go.Proofs.Ytfniicgfnlklbaa
open Go.ChangeShapes Go.WideShapes Go.ChangeAt Go.RowKit
set_option linter.unusedVariables false
set_option linter.unusedSimpArgs false
theorem splice_get {α : Type} (cur : List α) (off : Nat) (cs : List α) (h : off + cs.length ≤ cur.length) (i : Nat) : (splice cur off cs)[i]? = if off ≤ i ∧ i < off + cs.length then cs[i - off]? else cur[i]? := by
  unfold splice
  rcases Nat.lt_or_ge i off with h1 | h1
  · rw [List.getElem?_append_left (by simp; omega), List.getElem?_take, if_pos h1, if_neg (by omega)]
  · rw [List.getElem?_append_right (by simp; omega), List.length_take, Nat.min_eq_left (by omega)]
    rcases Nat.lt_or_ge i (off + cs.length) with h2 | h2
    · rw [List.getElem?_append_left (by omega), if_pos ⟨h1, h2⟩]
    · rw [List.getElem?_append_right (by omega), List.getElem?_drop, if_neg (by omega)]
      congr 1
      omega
/-- A copy within a known block. -/
theorem step_copy_put {P : Program} {ops : Array Oper} {o : Oper} {a : Act} {w : World} {K : Act → World → Prop} {Q : Exit → Act → World → Prop} {E : Prop} (hgd : o.guard = none) (d s : Operand) (dT sT : TypeId)
    (ho : o.op = .call { callee := .builtin .copy, args := #[d, s], argTypes := #[dT, sT] }) (elem : TypeId) (hu : P.underlying dT = some (.slice elem)) (hsz : (P.info? elem).map (·.size) = some 1)
    (dp sp : Option Addr) (dLen dCap sLen sCap : Nat) (hd : a.eval d = .slice dp dLen dCap) (hs : a.eval s = .slice sp sLen sCap)
    (g off : Nat) (cur : List Value) (t : TypeId) (hg : w.heap[g]? = some (.cells cur.toArray t (0, 0))) (cs : List Value) (hn : cs.length = Nat.min sLen dLen)
    (hpos : 0 < cs.length → dp = some ⟨g, off, none⟩ ∧ ∃ ad, sp = some ad ∧ ∀ j v, cs[j]? = some v → w.cell? (ad.add j) = some v)
    (hfit : off + cs.length ≤ cur.length) (h1 : ∀ v ∈ cs, v.oneCell' = true)
    (h : ∀ w', Hid (w'.heap[g]? = some (.cells (splice cur off cs).toArray t (0, 0))) → Hid (Keeps (fun k => k = g) w w') → K (a.put o.dst (goInt cs.length)) w') :
    if Region.wanted o (yielded ops a.tmps) = true then Oper.wp P o a w K Q else E := by
  have hw : Region.wanted o (yielded ops a.tmps) = true := by simp [Region.wanted, hgd]
  rw [if_pos hw]
  by_cases h0 : cs.length = 0
  · obtain rfl : cs = [] := List.eq_nil_of_length_eq_zero h0
    have hrun := run_copy_none (P := P) w dT sT o.type elem dp sp dLen dCap sLen sCap hu hsz (by simpa using hn.symm)
    unfold Oper.wp
    simp [execOp, ho, resolve, invoke, builtin, hd, hs, hrun, Result.andThen]
    exact h w (Lib.hid (by simpa [splice] using hg)) (Lib.hid (Keeps.refl _ _))
  · obtain ⟨rfl, ad, rfl, hsrc⟩ := hpos (by omega)
    have hrun := run_copy_row (P := P) w dT sT o.type elem g off dLen dCap ad sLen sCap cur.toArray t cs hu hsz hg hn hsrc (by simpa using hfit) h1
    unfold Oper.wp
    simp [execOp, ho, resolve, invoke, builtin, hd, hs, hrun, Result.andThen]
    exact h _ (Lib.hid (by simpa [splice] using setRow_heap w g _ _ t _ hg)) (Lib.hid ⟨rfl, rfl, rfl, by simp [World.setRow], fun k _ hk => setRow_other w g k _ hk⟩)
/-- What the copy moves down: n tasks of a row, from the one behind k. -/
def movedUp (X : Nat → Nat → Int) (p k n : Nat) : List Value := (List.range n).map fun j => Value.int .i8 (X p (k + 1 + j))
theorem movedUp_len (X : Nat → Nat → Int) (p k n : Nat) : (movedUp X p k n).length = n := by simp [movedUp]
theorem movedUp_get (X : Nat → Nat → Int) (p k n j : Nat) (h : j < n) : (movedUp X p k n)[j]? = some (.int .i8 (X p (k + 1 + j))) := by simp [movedUp, h]
theorem RkM.moved {w w2 : World} {b : Nat} {cs : Array Value} {X : Nat → Nat → Int} {m pr : Nat → Nat} {bs : Nat} (h1 : w.heap[b]? = some (.cells cs 32 (0, 0))) (h : RkM w b X m pr bs) (p k n : Nat) (hp : p < 32) (hn : k + 1 + n ≤ 16) (h2 : w2.heap[b]? = some (.cells (splice cs.toList (p * 16 + k) (movedUp X p k n)).toArray 32 (0, 0))) :
    RkM w2 b (fun q j => if q = p ∧ k ≤ j ∧ j < k + n then X p (j + 1) else X q j) m pr bs := by
  obtain ⟨cs', h1', hs, h3, h4, h5, h6⟩ := h.one
  rw [h1] at h1'
  obtain rfl : cs = cs' := by injection h1' with h; injection h
  have hl : p * 16 + k + (movedUp X p k n).length ≤ cs.toList.length := by rw [movedUp_len]; simp; omega
  have hg : ∀ i, ((splice cs.toList (p * 16 + k) (movedUp X p k n)).toArray)[i]? = if p * 16 + k ≤ i ∧ i < p * 16 + k + n then (movedUp X p k n)[i - (p * 16 + k)]? else cs[i]? := fun i => by
    rw [List.getElem?_toArray, splice_get _ _ _ hl, movedUp_len]; simp
  refine ⟨_, h2, ?_, fun q j hq hj => ?_, fun q hq => ?_, fun t ht => ?_, ?_⟩
  · rw [List.size_toArray, length_splice _ _ _ hl]; simpa using hs
  · rw [hg]
    by_cases e : q = p ∧ k ≤ j ∧ j < k + n
    · obtain ⟨rfl, e1, e2⟩ := e
      rw [if_pos ⟨by omega, by omega⟩, if_pos ⟨rfl, e1, e2⟩, show q * 16 + j - (q * 16 + k) = j - k by omega, movedUp_get _ _ _ _ _ (by omega), show k + 1 + (j - k) = j + 1 by omega]
    · rw [if_neg (by omega), if_neg e]; exact h3 q j hq hj
  · rw [hg, if_neg (by omega)]; exact h4 q hq
  · rw [hg, if_neg (by omega)]; exact h5 t ht
  · rw [hg, if_neg (by omega)]; exact h6
/-- What lies behind a place of a row. -/
theorem rk_from (b p n k : Nat) (hk : k ≤ n) (hn : n ≤ 16) (w : World) :
    ∃ A, (k < n → A = some ⟨b, p * 16 + k, none⟩) ∧ ∀ w, (Instr.sliceAt 58 (.slice (some ⟨b, p * 16, none⟩) n 16) (some (.int .i64 (k : Int))) none none).run Try.prog w = .ok (.slice A (n - k) (16 - k)) w := by
  have hs : ∀ w, (sizeOf (Try.prog.elem 58)).run Try.prog w = .ok 1 w := fun w => by kernel_rfl
  have hu : Try.prog.underlying 58 = some (.slice (Try.prog.elem 58)) := by kernel_rfl
  refine ⟨(if 16 = k then some ⟨b, p * 16, none⟩ else some ⟨b, p * 16 + k, none⟩), fun h => by rw [if_neg (by omega)], fun w => ?_⟩
  have h1 := run_sliceAt_slice (P := Try.prog) (w := w) 58 (.slice (some ⟨b, p * 16, none⟩) n 16) (some (.int .i64 (k : Int))) none none hu
  have h2 := run_slice_l (P := Try.prog) (w := w) 58 (some ⟨b, p * 16, none⟩) n 16 hu .i64 (k : Int) (by omega) (by omega)
  rw [h1, h2, hs]
  simp only [Result.andThen, sliced, Int.toNat_natCast]
  by_cases e : 16 = k
  · subst e; simp
  · by_cases e2 : k = 0
    · subst e2; simp [Addr.add]
    · simp [e, Addr.add, e2]
end Go.Proofs.Ytfniicgfnlklbaa
