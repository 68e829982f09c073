import Derived.Test.YtdjfelabdofaaaaCodePa
import Derived.Test.YtdjfelabdofaaaaTxAz
import Derived.Test.YtdjfelabdofaaaaTextK
namespace Go.Proofs.Ytdjfelabdofaaaa
open Go.ChangeShapes Go.WideShapes Go.ChangeAt Go.RowKit
set_option linter.unusedVariables false
set_option linter.unusedSimpArgs false
/-- A row's words. -/
def wRow (h : List UInt8) (F : Nat → Int) (n : Nat) : List (List UInt8) := h :: (List.range n).map fun i => prnL (F i)
def catL (Ls : List (List (List UInt8))) : List UInt8 := Ls.flatMap fun ws => joinB ws ++ [10]
def numW : Nat → List (List (List UInt8)) → List (Nat × List UInt8)
  | _, [] => []
  | k, ws :: t => (k, joinB ws) :: numW (k + 1) t
def rowW : Nat → List (List (List UInt8)) → List (Nat × List ByteArray)
  | _, [] => []
  | k, ws :: t => (k, ws.map fun w => ⟨w.toArray⟩) :: rowW (k + 1) t
def GoodW (ws : List (List UInt8)) : Prop := ws ≠ [] ∧ ∀ w, w ∈ ws → w ≠ [] ∧ ∀ x, x ∈ w → goodB x
theorem join_no {ws : List (List UInt8)} (h : GoodW ws) : (10 : UInt8) ∉ joinB ws := fun hm => by
  have := joinB_good (P := fun x => x.toNat ≠ 10) (by decide) ws (fun w hw x hx => by have := ((h.2 w hw).2 x hx).1; omega) 10 hm
  exact this rfl
theorem lines_cat : ∀ (Ls : List (List (List UInt8))) (k : Nat), (∀ ws, ws ∈ Ls → GoodW ws) → LinesOf k (numW k Ls) (catL Ls)
  | [], _, _ => rfl
  | ws :: t, k, h => by
    have e : catL (ws :: t) = joinB ws ++ 10 :: catL t := by show (joinB ws ++ [10]) ++ catL t = _; simp
    have hc := cutAt_split 10 (catL t) (joinB ws) (join_no (h ws (.head _)))
    refine ⟨rfl, by rw [e]; simp, by rw [e, hc], ?_⟩
    rw [e, hc]
    exact lines_cat t (k + 1) fun x hx => h x (.tail _ hx)
theorem rows_cat : ∀ (Ls : List (List (List UInt8))) (k : Nat), (∀ ws, ws ∈ Ls → GoodW ws) → rowsOf (numW k Ls) = rowW k Ls
  | [], _, _ => rfl
  | ws :: t, k, h => by
    have hg := h ws (.head _)
    show (if (wordsL (joinB ws)).length = 0 then [] else [(k, wordsL (joinB ws))]) ++ rowsOf (numW (k + 1) t) = _
    rw [words_join ws hg.2, if_neg (by rw [List.length_map]; intro h0; exact hg.1 (List.eq_nil_of_length_eq_zero h0)), rows_cat t (k + 1) fun x hx => h x (.tail _ hx)]
    rfl
/-- The words of the parts, counted. -/
def objW (c : CfD) : Nat → List (List (List UInt8))
  | 0 => []
  | k + 1 => objW c k ++ [wRow hObj (objF c k) 10]
def tskW (c : CfD) (TC : Nat → List CallD) : Nat → List (List (List UInt8))
  | 0 => []
  | k + 1 => tskW c TC k ++ (wRow hTask (tskF c k) 2 :: (TC k).map wordsC)
def lvlW (c : CfD) (LC : Nat → List CallD) : Nat → List (List (List UInt8))
  | 0 => []
  | k + 1 => lvlW c LC k ++ (wRow hLvl (fun _ => c.lr k) 1 :: (LC k).map wordsC)
def chW (n : Nat) (F : Nat → Int) : Nat → List (List (List UInt8))
  | 0 => []
  | k + 1 => chW n F k ++ [wRow hCh (fun j => F (20 * k + j)) (min 20 (n - 20 * k))]
def wordsT (c : CfD) (TC LC : Nat → List CallD) (n : Nat) (F : Nat → Int) : List (List (List UInt8)) :=
  objW c c.nO ++ [wRow hTick (fun _ => c.tick) 1] ++ tskW c TC c.nT ++ lvlW c LC c.nL ++ chW n F ((n + 19) / 20)
theorem catL_app (a b : List (List (List UInt8))) : catL (a ++ b) = catL a ++ catL b := by simp [catL]
theorem catL_row (h : List UInt8) (F : Nat → Int) (n : Nat) (hn : 0 < n) : catL [wRow h F n] = rowT h F n := by
  obtain ⟨m, rfl⟩ : ∃ m, n = m + 1 := ⟨n - 1, by omega⟩
  show joinB (wRow h F (m + 1)) ++ [10] ++ [] = _
  rw [List.append_nil]
  unfold wRow rowT
  rw [row_join, rowN_join]
theorem catL_cons (a : List (List UInt8)) (b : List (List (List UInt8))) : catL (a :: b) = catL [a] ++ catL b := by
  show joinB a ++ [10] ++ catL b = (joinB a ++ [10] ++ []) ++ catL b
  rw [List.append_nil]
theorem catL_code : ∀ L : List CallD, catL (L.map wordsC) = allC L
  | [] => rfl
  | c :: t => by
    show joinB (wordsC c) ++ [10] ++ catL (t.map wordsC) = printC c ++ [10] ++ allC t
    rw [printC_join, catL_code t]
theorem catL_obj (c : CfD) : ∀ k, catL (objW c k) = objT c k
  | 0 => rfl
  | k + 1 => by
    show catL (objW c k ++ [wRow hObj (objF c k) 10]) = objT c k ++ rowT hObj (objF c k) 10
    rw [catL_app, catL_obj c k, catL_row _ _ _ (by omega)]
theorem catL_tsk (c : CfD) (TC : Nat → List CallD) : ∀ k, catL (tskW c TC k) = tskT c TC k
  | 0 => rfl
  | k + 1 => by
    show catL (tskW c TC k ++ (wRow hTask (tskF c k) 2 :: (TC k).map wordsC)) = tskT c TC k ++ (rowT hTask (tskF c k) 2 ++ allC (TC k))
    rw [catL_app, catL_tsk c TC k, catL_cons, catL_row _ _ _ (by omega), catL_code]
theorem catL_lvl (c : CfD) (LC : Nat → List CallD) : ∀ k, catL (lvlW c LC k) = lvlT c LC k
  | 0 => rfl
  | k + 1 => by
    show catL (lvlW c LC k ++ (wRow hLvl (fun _ => c.lr k) 1 :: (LC k).map wordsC)) = lvlT c LC k ++ (rowT hLvl (fun _ => c.lr k) 1 ++ allC (LC k))
    rw [catL_app, catL_lvl c LC k, catL_cons, catL_row _ _ _ (by omega), catL_code]
theorem catL_ch (n : Nat) (F : Nat → Int) : ∀ k, k ≤ (n + 19) / 20 → catL (chW n F k) = chT n F k
  | 0, _ => rfl
  | k + 1, hk => by
    show catL (chW n F k ++ [wRow hCh (fun j => F (20 * k + j)) (min 20 (n - 20 * k))]) = chT n F k ++ rowT hCh (fun j => F (20 * k + j)) (min 20 (n - 20 * k))
    rw [catL_app, catL_ch n F k (by omega), catL_row _ _ _ (by omega)]
/-- The text is its rows. -/
theorem cat_text (c : CfD) (TC LC : Nat → List CallD) (n : Nat) (F : Nat → Int) : catL (wordsT c TC LC n F) = textT c TC LC n F := by
  unfold wordsT textT headT
  rw [catL_app, catL_app, catL_app, catL_app, catL_obj, catL_row _ _ _ (by omega), catL_tsk, catL_lvl, catL_ch _ _ _ (Nat.le_refl _)]
theorem wRow_good (h : List UInt8) (F : Nat → Int) (n : Nat) (hh : h ≠ [] ∧ ∀ x, x ∈ h → goodB x) : GoodW (wRow h F n) := by
  refine ⟨by simp [wRow], fun w hw => ?_⟩
  rcases List.mem_cons.1 hw with rfl | hw
  · exact hh
  · obtain ⟨i, _, rfl⟩ := List.mem_map.1 hw
    exact ⟨prnL_ne _, prnL_good _⟩
theorem code_good (L : List CallD) : ∀ ws, ws ∈ L.map wordsC → GoodW ws := fun ws h => by
  obtain ⟨c, _, rfl⟩ := List.mem_map.1 h
  exact ⟨by simp [wordsC], wordsC_good c⟩
theorem heads_good : (∀ x, x ∈ hObj → goodB x) ∧ (∀ x, x ∈ hTick → goodB x) ∧ (∀ x, x ∈ hTask → goodB x) ∧ (∀ x, x ∈ hLvl → goodB x) ∧ (∀ x, x ∈ hCh → goodB x) := by
  unfold goodB hObj hTick hTask hLvl hCh
  refine ⟨?_, ?_, ?_, ?_, ?_⟩ <;> decide
theorem text_good (c : CfD) (TC LC : Nat → List CallD) (n : Nat) (F : Nat → Int) : ∀ ws, ws ∈ wordsT c TC LC n F → GoodW ws := by
  obtain ⟨g0, g1, g2, g3, g4⟩ := heads_good
  have go : ∀ k ws, ws ∈ objW c k → GoodW ws := by
    intro k
    induction k with
    | zero => intro ws h; cases h
    | succ k ih =>
      intro ws h
      rcases List.mem_append.1 h with h | h
      · exact ih ws h
      · rw [List.mem_singleton] at h; subst h; exact wRow_good _ _ _ ⟨by decide, g0⟩
  have gt : ∀ k ws, ws ∈ tskW c TC k → GoodW ws := by
    intro k
    induction k with
    | zero => intro ws h; cases h
    | succ k ih =>
      intro ws h
      rcases List.mem_append.1 h with h | h
      · exact ih ws h
      · rcases List.mem_cons.1 h with rfl | h
        · exact wRow_good _ _ _ ⟨by decide, g2⟩
        · exact code_good _ ws h
  have gl : ∀ k ws, ws ∈ lvlW c LC k → GoodW ws := by
    intro k
    induction k with
    | zero => intro ws h; cases h
    | succ k ih =>
      intro ws h
      rcases List.mem_append.1 h with h | h
      · exact ih ws h
      · rcases List.mem_cons.1 h with rfl | h
        · exact wRow_good _ _ _ ⟨by decide, g3⟩
        · exact code_good _ ws h
  have gc : ∀ k ws, ws ∈ chW n F k → GoodW ws := by
    intro k
    induction k with
    | zero => intro ws h; cases h
    | succ k ih =>
      intro ws h
      rcases List.mem_append.1 h with h | h
      · exact ih ws h
      · rw [List.mem_singleton] at h; subst h; exact wRow_good _ _ _ ⟨by decide, g4⟩
  intro ws h
  unfold wordsT at h
  rcases List.mem_append.1 h with h | h
  · rcases List.mem_append.1 h with h | h
    · rcases List.mem_append.1 h with h | h
      · rcases List.mem_append.1 h with h | h
        · exact go _ ws h
        · rw [List.mem_singleton] at h; subst h; exact wRow_good _ _ _ ⟨by decide, g1⟩
      · exact gt _ ws h
    · exact gl _ ws h
  · exact gc _ ws h
end Go.Proofs.Ytdjfelabdofaaaa
namespace Go.Proofs.Ytdjfelabdofaaaa
open Go.ChangeShapes Go.WideShapes Go.ChangeAt Go.RowKit
set_option linter.unusedVariables false
set_option linter.unusedSimpArgs false
/-- A row's words as strings. -/
def strW (ws : List (List UInt8)) : List ByteArray := ws.map fun w => ⟨w.toArray⟩
theorem wRow_len (h : List UInt8) (F : Nat → Int) (n : Nat) : (strW (wRow h F n)).length = n + 1 := by simp [strW, wRow]
theorem wRow_head (h : List UInt8) (F : Nat → Int) (n : Nat) : fOf (strW (wRow h F n)) 0 = h := fOf_mkd _ 0
theorem wRow_at (h : List UInt8) (F : Nat → Int) (n i : Nat) (hi : i < n) : fOf (strW (wRow h F n)) (i + 1) = prnL (F i) := by
  have e : fOf (strW (wRow h F n)) (i + 1) = (wRow h F n).getD (i + 1) [] := fOf_mkd _ _
  rw [e]
  show (h :: (List.range n).map fun i => prnL (F i)).getD (i + 1) [] = _
  simp [List.getD, List.getElem?_map, List.getElem?_range hi]
theorem take_row (h : List UInt8) (F : Nat → Int) (n i : Nat) (a b : Int) (hi : i < n) (hf : -999999999999999999 ≤ F i ∧ F i ≤ 999999999999999999) (ha : a ≤ F i) (hb : F i ≤ b) :
    takP (fOf (strW (wRow h F n))) (n + 1) ((i + 1 : Nat) : Int) a b = (F i, 0) := by
  unfold takP
  rw [if_neg (by omega), show (((i + 1 : Nat) : Int)).toNat = i + 1 by omega, wRow_at h F n i hi]
  exact parP_prnL (F i) a b hf ha hb
theorem fOf_mkM (ws : List ByteArray) (i : Nat) (s : ByteArray) (h : ws[i]? = some s) : (⟨(fOf ws i).toArray⟩ : ByteArray) = s := by
  unfold fOf
  rw [h]
  cases s
  rfl
theorem words_row {w : World} {A : Nat} {ws : List ByteArray} (h : WordsAt w A ws) : StrRow w (some ⟨A, 0, none⟩) ws.length (fOf ws) := fun _ =>
  ⟨A, 0, rfl, h.lt, fun i hi => by
    have e : ws[i]? = some ws[i] := List.getElem?_eq_getElem hi
    rw [Nat.zero_add, h.cell i _ e, fOf_mkM ws i _ e]⟩
theorem wRow_small (h : List UInt8) (F : Nat → Int) (n : Nat) (hh : h.length ≤ 1000) (hF : ∀ i, i < n → -9223372036854775808 ≤ F i ∧ F i ≤ 9223372036854775807) : ∀ i, i < n + 1 → (fOf (strW (wRow h F n)) i).length ≤ 1000
  | 0, _ => by rw [wRow_head]; exact hh
  | i + 1, hi => by rw [wRow_at h F n i (by omega)]; have := prnL_len (hF i (by omega)); omega
end Go.Proofs.Ytdjfelabdofaaaa
