import Derived.Test.YtakaclkhnajpeaaRowC
namespace Go.Proofs.Ytakaclkhnajpeaa
open Go.RowKit Go.Shelf
set_option linter.unusedVariables false
attribute [local go_sem] Oper.semAt_some
attribute [local go_sem ↓ 2000] app_pre
attribute [local go_sem] app_run
/-- A row of words: its number, where its words lie, the words. -/
structure RowD where
  n : Nat
  A : Nat
  ws : List ByteArray
def flatR (R : List RowD) : List Value := R.flatMap fun r => [.int .i64 (r.n : Int), .slice (some ⟨r.A, 0, none⟩) r.ws.length r.ws.length]
theorem flatR_snoc (R : List RowD) (r : RowD) : flatR (R ++ [r]) = flatR R ++ [.int .i64 (r.n : Int), .slice (some ⟨r.A, 0, none⟩) r.ws.length r.ws.length] := by simp [flatR]
def WordsAt (w : World) (A : Nat) (ws : List ByteArray) : Prop := ∃ cur, w.heap[A]? = some (.cells cur 9 (0, 0)) ∧ cur.toList.take ws.length = ws.map Value.string
theorem WordsAt.cell {w : World} {A : Nat} {ws : List ByteArray} (h : WordsAt w A ws) (i : Nat) (s : ByteArray) (hi : ws[i]? = some s) : w.cell? ⟨A, i, none⟩ = some (.string s) := by
  obtain ⟨cur, hb, ht⟩ := h
  have hl : i < ws.length := by
    rcases Nat.lt_or_ge i ws.length with h | h
    · exact h
    · rw [List.getElem?_eq_none h] at hi; cases hi
  have h2 : (cur.toList.take ws.length)[i]? = some (.string s) := by rw [ht, List.getElem?_map, hi]; rfl
  rw [List.getElem?_take, if_pos hl] at h2
  rw [cell_of hb i]
  simpa using h2
theorem WordsAt.lt {w : World} {A : Nat} {ws : List ByteArray} (h : WordsAt w A ws) : A < w.heap.size := by
  obtain ⟨cur, hb, _⟩ := h
  exact lt_of hb
theorem WordsAt.of {w w' : World} {A : Nat} {ws : List ByteArray} (h : WordsAt w A ws) (hb : ∀ o, w.heap[A]? = some o → w'.heap[A]? = some o) : WordsAt w' A ws := by
  obtain ⟨cur, h1, h2⟩ := h
  exact ⟨cur, hb _ h1, h2⟩
theorem WordsAt.below {w w' : World} {A B : Nat} {ws : List ByteArray} (h : WordsAt w A ws) (hb : Below B w w') (hA : A < B) : WordsAt w' A ws := h.of fun o ho => (hb.block A hA).trans ho
theorem WordsAt.grown {w w' : World} {A : Nat} {ws : List ByteArray} {row : Option Nat} (h : WordsAt w A ws) (hg : w.grownBy w' row) (hr : row ≠ some A) : WordsAt w' A ws :=
  h.of fun o ho => by rw [hg.block A (lt_of ho) (fun e => hr e.symm)]; exact ho
theorem WordsAt.own {w : World} {B A : Nat} {ws : List ByteArray} (h : w.ownsRow B 9 1 (.slice (some ⟨A, 0, none⟩) ws.length ws.length) ws.length (ws.map Value.string)) : WordsAt w A ws := by
  rcases h.2 with ⟨h, _⟩ | ⟨g, cap, cur, h, _, hb, _, _, _, ht⟩
  · cases h
  · cases h
    rw [Nat.mul_one] at ht
    exact ⟨cur, hb, ht⟩
/-- The words of all rows. -/
def RowsAt (w : World) (R : List RowD) : Prop := ∀ r, r ∈ R → WordsAt w r.A r.ws
theorem info_row : (Try.prog.info? 45).map (fun i => (i.zero, i.size, i.bytes)) = some (some (.agg #[.int .i64 0, .slice none 0 0]), 2, 32) := by kernel_rfl
theorem cell_two_new (w : World) (x y : Value) (t : TypeId) : ∀ (j : Nat) u, [x, y][j]? = some u → (w.alloc (.cells #[x, y] t)).cell? ((⟨w.heap.size, 0, none⟩ : Addr).add j) = some u := by
  intro j u hj
  match j, hj with
  | 0, hj => cases hj; rw [show ((⟨w.heap.size, 0, none⟩ : Addr).add 0) = ⟨w.heap.size, 0, none⟩ from rfl, cell_of (heap_new w _) 0]; rfl
  | 1, hj => cases hj; rw [show ((⟨w.heap.size, 0, none⟩ : Addr).add 1) = ⟨w.heap.size, 1, none⟩ from rfl, cell_of (heap_new w _) 1]; rfl
  | j + 2, hj => simp at hj
theorem own_not_words {W : World} {base : Nat} {v : Value} {n : Nat} {xs : List Value} (h : W.ownsRow base 45 2 v n xs) {A : Nat} {ws : List ByteArray} (hw : WordsAt W A ws) : v.ownBlock ≠ some A := by
  obtain ⟨cur', hb, _⟩ := hw
  rcases h.2 with ⟨rfl, _⟩ | ⟨g, cap, cur, rfl, _, hgb, _⟩
  · simp [Value.ownBlock]
  · intro e
    obtain rfl : g = A := by simpa [Value.ownBlock] using e
    rw [hgb] at hb
    simp at hb
theorem app_row {W : World} {z n₀ B : Nat} {v : Value} {R : List RowD} (r : RowD) (hv : Boxed W B 41 v) (hrow : W.ownsRow n₀ 45 2 v R.length (flatR R)) (hn₀ : n₀ ≤ W.heap.size) (hz : z ≤ n₀) (hB : z ≤ B) (hm : R.length < 1000000) :
    ∃ g cap w1, appRun Try.prog #[41, 41] 41 #[v, .slice (some ⟨W.heap.size, 0, none⟩) 1 1] (W.alloc (.cells #[.int .i64 (r.n : Int), .slice (some ⟨r.A, 0, none⟩) r.ws.length r.ws.length] 45)) = .ok (.slice (some ⟨g, 0, none⟩) (R.length + 1) cap) w1 ∧
      Boxed w1 B 41 v ∧ Boxed (w1.setCell ⟨B, 0, none⟩ (.slice (some ⟨g, 0, none⟩) (R.length + 1) cap)) B 41 (.slice (some ⟨g, 0, none⟩) (R.length + 1) cap) ∧
      (w1.setCell ⟨B, 0, none⟩ (.slice (some ⟨g, 0, none⟩) (R.length + 1) cap)).ownsRow n₀ 45 2 (.slice (some ⟨g, 0, none⟩) (R.length + 1) cap) (R ++ [r]).length (flatR (R ++ [r])) ∧
      KeepsOthers W (w1.setCell ⟨B, 0, none⟩ (.slice (some ⟨g, 0, none⟩) (R.length + 1) cap)) ∧ Below z W (w1.setCell ⟨B, 0, none⟩ (.slice (some ⟨g, 0, none⟩) (R.length + 1) cap)) ∧
      ∀ A ws, WordsAt W A ws → WordsAt (w1.setCell ⟨B, 0, none⟩ (.slice (some ⟨g, 0, none⟩) (R.length + 1) cap)) A ws := by
  obtain ⟨i0, hi, hz0, hz1, hz2⟩ := info_parts info_row
  obtain ⟨v', w1, hrun, hown, hgrow, _⟩ := run_append_own (P := Try.prog) (W.alloc (.cells #[.int .i64 (r.n : Int), .slice (some ⟨r.A, 0, none⟩) r.ws.length r.ws.length] 45)) n₀ 41 41 45 i0 _ 2 32 Try.underlying41 hi hz0 hz1 hz2 rfl (by decide) v R.length (flatR R) (hrow.alloc _) ⟨W.heap.size, 0, none⟩ 1 1 [.int .i64 (r.n : Int), .slice (some ⟨r.A, 0, none⟩) r.ws.length r.ws.length] rfl (cell_two_new W _ _ _) (by simp [Value.oneCell']) (by unfold maxLen; omega) (by omega) (by rw [World.size_alloc]; exact Nat.le_succ_of_le hn₀)
  obtain ⟨g, cap, rfl⟩ := ownsRow_succ hown
  obtain ⟨h1, h2, h3, h4, h5⟩ := hv.appended (by decide) (hrow.mono hz) (Nat.le_trans hz hn₀) hB (hown.mono hz) hgrow
  have h6 := hown.kept (grownBy_setCell' w1 B (.slice (some ⟨g, 0, none⟩) (R.length + 1) cap)) (.inr (h1.not_row (by decide) hown).symm)
  refine ⟨g, cap, w1, hrun, h1, h2, by rw [flatR_snoc, List.length_append]; exact h6, h4, h5, fun A ws hA => ?_⟩
  have a1 : WordsAt (W.alloc (.cells #[.int .i64 (r.n : Int), .slice (some ⟨r.A, 0, none⟩) r.ws.length r.ws.length] 45)) A ws := hA.of fun o ho => heap_old ho _
  have a2 : WordsAt w1 A ws := a1.grown hgrow (own_not_words hrow hA)
  refine a2.of fun o ho => heap_other ho ?_ _
  intro e
  obtain ⟨cur, hb, _⟩ := a2
  rw [show A = B from e, show w1.heap[B]? = _ from h1] at hb
  simp at hb
/-- What All gives of lines. -/
def rowsOf (L : List (Nat × List UInt8)) : List (Nat × List ByteArray) := L.flatMap fun x => if (wordsL x.2).length = 0 then [] else [(x.1, wordsL x.2)]
theorem rowsOf_snoc (L : List (Nat × List UInt8)) (x : Nat × List UInt8) : rowsOf (L ++ [x]) = rowsOf L ++ (if (wordsL x.2).length = 0 then [] else [(x.1, wordsL x.2)]) := by simp [rowsOf]
theorem rowsOf_len (L : List (Nat × List UInt8)) : (rowsOf L).length ≤ L.length := by
  induction L with
  | nil => simp [rowsOf]
  | cons x t ih =>
    have e : rowsOf (x :: t) = (if (wordsL x.2).length = 0 then [] else [(x.1, wordsL x.2)]) ++ rowsOf t := by simp [rowsOf]
    rw [e, List.length_append, List.length_cons]
    split <;> simp <;> omega
def keyR (r : RowD) : Nat × List ByteArray := (r.n, r.ws)
end Go.Proofs.Ytakaclkhnajpeaa
