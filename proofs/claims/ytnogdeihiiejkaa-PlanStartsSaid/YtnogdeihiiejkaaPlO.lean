import Derived.Test.YtnogdeihiiejkaaPlN
namespace Go.Proofs.Ytnogdeihiiejkaa
open Go.ChangeShapes Go.WideShapes Go.ChangeAt Go.RowKit
set_option linter.unusedVariables false
set_option linter.unusedSimpArgs false
theorem pre_find {ob : Nat → Nat → Int} {a : Int} (h0 : 0 ≤ a) : ∀ n, a < preP ob n → ∃ i, i < n ∧ preP ob i ≤ a ∧ a < preP ob (i + 1)
  | 0, h => by
    have : preP ob 0 = 0 := rfl
    omega
  | n + 1, h => by
    by_cases hn : a < preP ob n
    · obtain ⟨i, h1, h2, h3⟩ := pre_find h0 n hn
      exact ⟨i, by omega, h2, h3⟩
    · exact ⟨n, by omega, by omega, h⟩
theorem pre_mono {c : CfD} (h : GoodC c) : ∀ d i, i + d ≤ c.nO → preP c.ob i ≤ preP c.ob (i + d)
  | 0, i, _ => Int.le_refl _
  | d + 1, i, hi => by
    have h1 := pre_mono h d i (by omega)
    have h2 := size_bound (h.right (i + d) (by omega))
    have e : preP c.ob (i + (d + 1)) = preP c.ob (i + d) + sizeP (c.ob (i + d)) := rfl
    omega
/-- A cell ahead of the lines is an object's. -/
theorem whose_obj {c : CfD} (h : GoodC c) {k : Nat} (hk : (k : Int) < baseP c) : ∃ i, i < c.nO ∧ whoseP (allSt c) (k : Int) = (1, (i : Int)) := by
  obtain ⟨i, h1, h2, h3⟩ := pre_find (ob := c.ob) (a := (k : Int)) (by omega) c.nO hk
  have hx : inSt (k : Int) (preP c.ob i, sizeP (c.ob i), 1, (i : Int)) = true := by
    unfold inSt
    have e : preP c.ob (i + 1) = preP c.ob i + sizeP (c.ob i) := rfl
    rw [decide_eq_true (show preP c.ob i ≤ (k : Int) from h2), decide_eq_true (show (k : Int) - preP c.ob i < sizeP (c.ob i) by omega)]
    rfl
  have hsome : ((objSt c c.nO).find? (inSt (k : Int))).isSome = true := by
    rw [List.find?_isSome]
    exact ⟨_, List.mem_map.2 ⟨i, List.mem_range.2 h1, rfl⟩, hx⟩
  obtain ⟨x, hfx⟩ := Option.isSome_iff_exists.1 hsome
  obtain ⟨j, hj, rfl⟩ := List.mem_map.1 (List.mem_of_find?_eq_some hfx)
  refine ⟨j, List.mem_range.1 hj, ?_⟩
  unfold whoseP allSt
  rw [List.find?_append, hfx]
  rfl
/-- No other cell is. -/
theorem whose_other {c : CfD} (h : GoodC c) {k : Nat} (hk : baseP c ≤ (k : Int)) : (whoseP (allSt c) (k : Int)).1 ≠ 1 := by
  have hnone : (objSt c c.nO).find? (inSt (k : Int)) = none := List.find?_eq_none.2 fun x hx => by
    obtain ⟨i, hi, rfl⟩ := List.mem_map.1 hx
    have hi2 := List.mem_range.1 hi
    have hm := pre_mono h (c.nO - (i + 1)) (i + 1) (by omega)
    rw [show i + 1 + (c.nO - (i + 1)) = c.nO by omega] at hm
    have e : preP c.ob (i + 1) = preP c.ob i + sizeP (c.ob i) := rfl
    unfold baseP at hk
    unfold inSt
    rw [decide_eq_false (show ¬ ((k : Int) - preP c.ob i < sizeP (c.ob i)) by omega), Bool.and_false]
    simp
  unfold whoseP allSt
  rw [List.find?_append, hnone, Option.none_or]
  cases hf : (lvSt c c.nL ++ ((tickP c, 1, 4, 0) :: askSt c c.nT)).find? (inSt (k : Int)) with
  | none => show (0 : Int) ≠ 1; omega
  | some x =>
    show x.2.2.1 ≠ 1
    have hx := List.mem_of_find?_eq_some hf
    rcases List.mem_append.1 hx with hx | hx
    · unfold lvSt at hx
      obtain ⟨i, hi, hx⟩ := List.mem_flatMap.1 hx
      simp only [List.mem_cons, List.not_mem_nil, or_false] at hx
      rcases hx with rfl | rfl
      · show (2 : Int) ≠ 1; omega
      · show (3 : Int) ≠ 1; omega
    · rcases List.mem_cons.1 hx with rfl | hx
      · show (4 : Int) ≠ 1; omega
      · unfold askSt at hx
        obtain ⟨i, hi, rfl⟩ := List.mem_map.1 hx
        show (5 : Int) ≠ 1; omega
/-- What the law stands on. -/
structure LwB (w W : World) (c : CfD) (PB g : Nat) (la : Option Addr) (lc : Nat) (aa : Option Addr) (ac q1 q2 m n : Nat) (N : Nat → Nat) : Prop where
  keeps : Keeps (fun _ => False) w W
  cfg : W.heap[w.heap.size]? = some (.cells c.cells 26 (0, 0))
  box : W.heap[PB]? = some (.cells ([.slice (some ⟨g, 0, none⟩) c.nO c.nO, .slice la c.nL lc, .int .i64 (tickP c), .slice aa c.nT ac, .int .i64 (tickP c + 1 + (c.nT : Int))] : List Value).toArray 33 (0, 0))
  pl : PlacesAt W g c.nO (placeP c.ob)
  ln : W.ownsRow w.heap.size 56 6 (.slice la c.nL lc) c.nL (linesF (baseP c) c.lr c.nL)
  ak : W.ownsRow w.heap.size 3 1 (.slice aa c.nT ac) c.nT (asksF (tickP c + 1) c.nT)
  own : W.heap[q1]? = some (.cells (words N m).toArray 43 (0, 0))
  ws : W.heap[q2]? = some (.cells (words (memW N m) n).toArray 43 (0, 0))
theorem LwB.none {w W W' : World} {c : CfD} {PB g : Nat} {la aa : Option Addr} {lc ac q1 q2 m n : Nat} {N : Nat → Nat} (h : LwB w W c PB g la lc aa ac q1 q2 m n N) (k : Keeps (fun _ => False) W W') : LwB w W' c PB g la lc aa ac q1 q2 m n N :=
  ⟨h.keeps.trans k, k.at h.cfg (fun h => h), k.at h.box (fun h => h), h.pl.keep k (fun h => h), own_keepK h.ln k (fun _ _ h => h), own_keepK h.ak k (fun _ _ h => h), k.at h.own (fun h => h), k.at h.ws (fun h => h)⟩
end Go.Proofs.Ytnogdeihiiejkaa
