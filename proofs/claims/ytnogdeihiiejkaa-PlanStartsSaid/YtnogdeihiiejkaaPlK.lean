import Derived.Test.YtnogdeihiiejkaaPlJ
namespace Go.Proofs.Ytnogdeihiiejkaa
open Go.ChangeShapes Go.WideShapes Go.ChangeAt Go.RowKit
set_option linter.unusedVariables false
set_option linter.unusedSimpArgs false
/-- A stretch: its first cell, how many, the part, the index. -/
abbrev StX := Int × Int × Int × Int
@[reducible] def stC (x : StX) : List Value := [.int .i64 x.1, .int .i64 x.2.1, .int .i64 x.2.2.1, .int .i64 x.2.2.2]
def flatT (L : List StX) : List Value := L.flatMap stC
theorem flatT_app (A B : List StX) : flatT (A ++ B) = flatT A ++ flatT B := List.flatMap_append
theorem flatT_len (L : List StX) : (flatT L).length = L.length * 4 := by
  unfold flatT
  induction L with
  | nil => rfl
  | cons x t ih => rw [List.flatMap_cons, List.length_append, ih]; show 4 + t.length * 4 = (t.length + 1) * 4; omega
theorem flatT_one (L : List StX) : ∀ u, u ∈ flatT L → u.oneCell' = true := by
  intro u hu
  obtain ⟨x, _, hx⟩ := List.mem_flatMap.1 hu
  simp only [stC, List.mem_cons, List.not_mem_nil, or_false] at hx
  rcases hx with rfl | rfl | rfl | rfl <;> rfl
theorem flat_get {α : Type} {f : Nat → List α} {m : Nat} (hf : ∀ i, (f i).length = m) : ∀ n k r, k < n → r < m → ((List.range n).flatMap f)[k * m + r]? = (f k)[r]?
  | 0, k, r, h, _ => absurd h (Nat.not_lt_zero _)
  | n + 1, k, r, h, hr => by
    have hl : ((List.range n).flatMap f).length = n * m := by
      clear h
      induction n with
      | zero => simp
      | succ n ih => rw [List.range_succ, List.flatMap_append, List.length_append, ih]; simp [hf, Nat.add_mul]
    rw [List.range_succ, List.flatMap_append]
    by_cases hk : k < n
    · have : k * m + r < n * m := by
        have := Nat.mul_le_mul_right m (show k + 1 ≤ n by omega)
        rw [Nat.add_mul, Nat.one_mul] at this
        omega
      rw [List.getElem?_append_left (by omega)]
      exact flat_get hf n k r hk hr
    · obtain rfl : k = n := by omega
      rw [List.getElem?_append_right (by omega), hl, show k * m + r - k * m = r by omega]
      simp
def objSt (c : CfD) (n : Nat) : List StX := (List.range n).map fun i => (preP c.ob i, sizeP (c.ob i), 1, (i : Int))
def lvSt (c : CfD) (n : Nat) : List StX := (List.range n).flatMap fun i => [(lnP (baseP c) c.lr i, 2 + c.lr i, 2, (i : Int)), (lnP (baseP c) c.lr i + (2 + c.lr i), 1, 3, (i : Int))]
def askSt (c : CfD) (n : Nat) : List StX := (List.range n).map fun (i : Nat) => (tickP c + 1 + (i : Int), 1, 5, (i : Int))
def allSt (c : CfD) : List StX := objSt c c.nO ++ (lvSt c c.nL ++ ((tickP c, 1, 4, 0) :: askSt c c.nT))
theorem objSt_next (c : CfD) (n : Nat) : objSt c (n + 1) = objSt c n ++ [(preP c.ob n, sizeP (c.ob n), 1, (n : Int))] := by unfold objSt; rw [List.range_succ, List.map_append]; rfl
theorem lvSt_next (c : CfD) (n : Nat) : lvSt c (n + 1) = lvSt c n ++ [(lnP (baseP c) c.lr n, 2 + c.lr n, 2, (n : Int)), (lnP (baseP c) c.lr n + (2 + c.lr n), 1, 3, (n : Int))] := by unfold lvSt; rw [List.range_succ, List.flatMap_append]; simp
theorem askSt_next (c : CfD) (n : Nat) : askSt c (n + 1) = askSt c n ++ [(tickP c + 1 + (n : Int), 1, 5, (n : Int))] := by unfold askSt; rw [List.range_succ, List.map_append]; rfl
theorem objSt_len (c : CfD) (n : Nat) : (objSt c n).length = n := by unfold objSt; simp
theorem lvSt_len (c : CfD) : ∀ n : Nat, (lvSt c n).length = 2 * n
  | 0 => rfl
  | n + 1 => by rw [lvSt_next, List.length_append, lvSt_len c n]; show _ + 2 = _; omega
theorem askSt_len (c : CfD) (n : Nat) : (askSt c n).length = n := by unfold askSt; simp
theorem st_zero : (Try.prog.info? 76).map (fun i => (i.zero, i.size, i.bytes)) = some (some (.agg #[.int .i64 0, .int .i64 0, .int .i64 0, .int .i64 0]), 4, 32) := by kernel_rfl
/-- What the stretches stand on. -/
structure SrB (w W : World) (PB : Nat) (ps : List Value) (v : Value) (L : List StX) : Prop where
  keeps : Keeps (fun _ => False) w W
  box : W.heap[PB]? = some (.cells ps.toArray 33 (0, 0))
  own : W.ownsRow w.heap.size 76 4 v L.length (flatT L)
theorem SrB.none {w W W' : World} {PB : Nat} {ps : List Value} {v : Value} {L : List StX} (h : SrB w W PB ps v L) (k : Keeps (fun _ => False) W W') : SrB w W' PB ps v L :=
  ⟨h.keeps.trans k, k.at h.box (fun h => h), own_keepK h.own k (fun _ _ h => h)⟩
/-- Behind the growth of the row. -/
theorem SrB.grow {w W W' : World} {PB : Nat} {ps : List Value} {v v' : Value} {L M : List StX} (h : SrB w W PB ps v L) (o : Obj) (hg : (W.alloc o).grownBy W' v.ownBlock) (ho : W'.ownsRow w.heap.size 76 4 v' (L.length + M.length) (flatT L ++ flatT M)) : SrB w W' PB ps v' (L ++ M) ∧ ∀ (b : Nat) (cs : Array Value) (T : TypeId), W.heap[b]? = some (.cells cs T (0, 0)) → T ≠ 76 → W'.heap[b]? = some (.cells cs T (0, 0)) := by
  have kk : Keeps (fun b => v.ownBlock = some b) W W' := ⟨hg.os, hg.tape, hg.output, Nat.le_trans (by simp) hg.size, fun i hi hn => (hg.block i (by simp; omega) (fun e => hn e.symm)).trans (((Keeps.refl (fun _ => False) W).alloc o).block i hi (fun h => h))⟩
  have hall : ∀ (b : Nat) (cs : Array Value) (T : TypeId), W.heap[b]? = some (.cells cs T (0, 0)) → T ≠ 76 → W'.heap[b]? = some (.cells cs T (0, 0)) := fun b cs T hb ht => kk.at hb (own_apart h.own hb (fun e => ht e.symm))
  exact ⟨⟨h.keeps.far kk (fun j e => (h.own.lt j e).1), hall _ _ _ h.box (by decide), by rw [List.length_append, flatT_app]; exact ho⟩, hall⟩
/-- The lines, the asks: where they lie. -/
theorem line_at {w : World} {B nL lc : Nat} {la : Option Addr} {base : Int} {lr : Nat → Int} (h : w.ownsRow B 56 6 (.slice la nL lc) nL (linesF base lr nL)) {k : Nat} (hk : k < nL) : ∃ b, la = some ⟨b, 0, Option.none⟩ ∧ b < w.heap.size ∧ w.rangeAt b (k * 6) (lineC base lr k) := by
  rcases h.2 with ⟨_, h0⟩ | ⟨b, cap, cur, e, _, hb, _⟩
  · omega
  · injection e with e1 _ _
    refine ⟨b, e1, lt_of hb, fun j v hv => ?_⟩
    have hj : j < 6 := (List.getElem?_eq_some_iff.1 hv).1
    have := h.cells (g := b) (by rw [e1]; rfl) (k * 6 + j) v (by unfold linesF; rw [flat_get (m := 6) (fun i => rfl) nL k j hk hj]; exact hv)
    rwa [Addr.add_mid, Nat.zero_add] at this
theorem ask_at {w : World} {B n ac : Nat} {aa : Option Addr} {t : Int} (h : w.ownsRow B 3 1 (.slice aa n ac) n (asksF t n)) {k : Nat} (hk : k < n) : ∃ b, aa = some ⟨b, 0, Option.none⟩ ∧ b < w.heap.size ∧ w.cell? ⟨b, k, Option.none⟩ = some (.int .i64 (t + (k : Int))) := by
  rcases h.2 with ⟨_, h0⟩ | ⟨b, cap, cur, e, _, hb, _⟩
  · omega
  · injection e with e1 _ _
    refine ⟨b, e1, lt_of hb, ?_⟩
    have := h.cells (g := b) (by rw [e1]; rfl) k (.int .i64 (t + (k : Int))) (by unfold asksF; simp [hk])
    rwa [Addr.add_mid, Nat.zero_add] at this
end Go.Proofs.Ytnogdeihiiejkaa
