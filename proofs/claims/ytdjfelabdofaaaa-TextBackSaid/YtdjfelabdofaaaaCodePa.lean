import Derived.Test.YtdjfelabdofaaaaBackA
import Derived.Test.YtdjfelabdofaaaaCodeI
import Derived.Test.YtdjfelabdofaaaaRowAz
import Derived.Test.YtdjfelabdofaaaaCodeK
import Derived.Test.YtdjfelabdofaaaaCodeE
namespace Go.Proofs.Ytdjfelabdofaaaa
open Go.RowKit Go.Shelf
set_option linter.unusedVariables false
set_option linter.unusedSimpArgs false
def fOf (ws : List ByteArray) (i : Nat) : List UInt8 := ((ws[i]?).getD ⟨#[]⟩).data.toList
theorem kwF_good : ∀ i, i < 19 → kwF i ≠ [] ∧ ∀ x, x ∈ kwF i → goodB x := by
  have : ∀ i, i < 19 → kwF i ≠ [] ∧ ∀ x, x ∈ kwF i → 36 ≤ x.toNat ∧ x.toNat < 128 := by decide
  exact this
theorem wordK_good (k : Int) : wordK k ≠ [] ∧ ∀ x, x ∈ wordK k → goodB x := by
  unfold wordK
  split
  · exact kwF_good _ (by omega)
  · refine ⟨by simp, fun x hx => ?_⟩
    rcases List.mem_cons.1 hx with rfl | hx
    · unfold goodB; decide
    · exact prnL_good k x hx
theorem srch_hit (i : Nat) (hi : i < 19) : srch (kwF i) 19 0 = some i := by
  have : ∀ i, i < 19 → srch (kwF i) 19 0 = some i := by decide
  exact this i hi
theorem srch_miss (l : List UInt8) : ∀ (f k : Nat), (∀ i, k ≤ i → i < k + f → kwF i ≠ l) → srch l f k = none
  | 0, _, _ => rfl
  | f + 1, k, h => by
    unfold srch
    rw [if_neg (h k (Nat.le_refl _) (by omega))]
    exact srch_miss l f (k + 1) fun i h1 h2 => h i (by omega) (by omega)
theorem kindP_word (k : Int) (h : -999999999999999999 ≤ k ∧ k ≤ 999999999999999999) : kindP (wordK k) = (k, true) := by
  unfold wordK
  by_cases hk : 1 ≤ k ∧ k ≤ 19
  · rw [if_pos hk]
    unfold kindP
    rw [srch_hit _ (by omega)]
    show (((k - 1).toNat : Int) + 1, true) = _
    congr 1
    omega
  · rw [if_neg hk]
    have hno : ∀ i, i < 19 → (kwF i).head? ≠ some 107 := by decide
    have hs : srch (107 :: prnL k) 19 0 = none := srch_miss _ _ _ fun i _ hi e => hno i (by omega) (by rw [e]; rfl)
    unfold kindP
    rw [hs]
    show kindQ (107 :: prnL k) = _
    rw [kindQ_cons _ _ (by decide), valP_prnL k h]
    exact if_neg hk
/-- A call that can be read again. -/
structure CallD.Fit (c : CallD) : Prop where
  k : -999999999999999999 ≤ c.k ∧ c.k ≤ 999999999999999999
  o : -2147483648 ≤ c.o ∧ c.o ≤ 2147483647
  v0 : 0 ≤ c.v0 ∧ c.v0 ≤ 4294967295
  v1 : 0 ≤ c.v1 ∧ c.v1 ≤ 4294967295
  v2 : 0 ≤ c.v2 ∧ c.v2 ≤ 4294967295
  v3 : 0 ≤ c.v3 ∧ c.v3 ≤ 4294967295
  n : 0 ≤ c.n ∧ c.n ≤ 4294967295
theorem CallD.Fit.ok {c : CallD} (h : c.Fit) : c.Ok := ⟨by have := h.k; omega, by have := h.o; omega, h.v0, h.v1, h.v2, h.v3, h.n⟩
theorem CallD.Fit.num {c : CallD} (h : c.Fit) (i : Nat) (hi : i ≠ 0) : 0 ≤ numC c i ∧ numC c i ≤ 4294967295 := by
  obtain ⟨h0, h1, h2, h3, h4, h5, h6⟩ := h
  match i, hi with
  | 1, _ => exact h2
  | 2, _ => exact h3
  | 3, _ => exact h4
  | 4, _ => exact h5
  | 5, _ => exact h6
  | i + 6, _ => exact ⟨by show _ ≤ (0 : Int); omega, by show (0 : Int) ≤ _; omega⟩
theorem keepN_zero (F : Nat → Int) : ∀ m i, keepN F m ≤ i → i < m → F i = 0
  | 0, i, _, h => by omega
  | m + 1, i, h1, h2 => by
    by_cases hz : F m = 0
    · by_cases e : i = m
      · rw [e]; exact hz
      · refine keepN_zero F m i ?_ (by omega)
        have : keepN F (m + 1) = keepN F m := if_pos hz
        omega
    · have : keepN F (m + 1) = m + 1 := if_neg hz
      omega
/-- The words of a call. -/
def wordsC (c : CallD) : List (List UInt8) := wordK c.k :: (List.range (keepN (numC c) 6)).map fun i => prnL (numC c i)
theorem row_join (W : List UInt8) (F : Nat → Int) : ∀ k, joinB (W :: (List.range k).map fun i => prnL (F i)) = rowN W F k
  | 0 => rfl
  | k + 1 => by
    rw [List.range_succ, List.map_append, ← List.cons_append]
    show joinB (_ ++ [prnL (F k)]) = rowN W F k ++ [32] ++ prnL (F k)
    rw [joinB_snoc _ _ (by simp), row_join W F k]
theorem printC_join (c : CallD) : joinB (wordsC c) = printC c := by
  rw [← rowN_print c]
  exact row_join _ _ _
theorem wordsC_good (c : CallD) : ∀ w, w ∈ wordsC c → w ≠ [] ∧ ∀ x, x ∈ w → goodB x := by
  intro w hw
  rcases List.mem_cons.1 hw with rfl | hw
  · exact wordK_good c.k
  · obtain ⟨i, _, rfl⟩ := List.mem_map.1 hw
    exact ⟨prnL_ne _, prnL_good _⟩
/-- The words as strings. -/
def strsC (c : CallD) : List ByteArray := (wordsC c).map fun w => ⟨w.toArray⟩
theorem words_print (c : CallD) : wordsL (printC c) = strsC c := by
  rw [← printC_join]
  exact words_join _ (wordsC_good c)
theorem strsC_len (c : CallD) : (strsC c).length = keepN (numC c) 6 + 1 := by simp [strsC, wordsC]
theorem fOf_mkd (L : List (List UInt8)) (i : Nat) : fOf (L.map fun w => (⟨w.toArray⟩ : ByteArray)) i = L.getD i [] := by
  unfold fOf
  rw [List.getElem?_map, List.getD_eq_getElem?_getD]
  cases L[i]? <;> simp
theorem fOf_zero (c : CallD) : fOf (strsC c) 0 = wordK c.k := fOf_mkd _ 0
theorem fOf_succ (c : CallD) (i : Nat) (hi : i < keepN (numC c) 6) : fOf (strsC c) (i + 1) = prnL (numC c i) := by
  unfold strsC
  rw [fOf_mkd]
  show (wordK c.k :: _).getD (i + 1) [] = _
  rw [List.getD_cons_succ, List.getD_eq_getElem?_getD, List.getElem?_map, List.getElem?_range hi]
  rfl
theorem opP_fit (c : CallD) (h : c.Fit) (i : Nat) (hi : i < keepN (numC c) 6) : opP (fOf (strsC c)) (i + 1) = (numC c i, 0) := by
  unfold opP
  rw [fOf_succ c i hi]
  by_cases h0 : i = 0
  · subst h0
    have ho := h.o
    exact parP_prnL c.o _ _ (by omega) ho.1 ho.2
  · have hn := h.num i h0
    rw [if_neg (by omega), if_neg (by omega)]
    exact parP_prnL _ _ _ (by omega) hn.1 hn.2
theorem opsF_zero (F : Nat → List UInt8) : ∀ (f i : Nat), (∀ j, i ≤ j → j < i + f → (opP F j).2 = 0) → opsF F f i = 0
  | 0, _, _ => rfl
  | f + 1, i, h => by
    show (if (opP F i).2 = 0 then _ else _) = _
    rw [if_pos (h i (Nat.le_refl _) (by omega))]
    exact opsF_zero F f (i + 1) fun j h1 h2 => h j (by omega) (by omega)
theorem valO_fit (c : CallD) (h : c.Fit) (i : Nat) (hi : i < 6) : valO (fOf (strsC c)) (keepN (numC c) 6 + 1) (i + 1) = numC c i := by
  unfold valO
  by_cases hq : i < keepN (numC c) 6
  · rw [if_pos (by omega), opP_fit c h i hq]
  · rw [if_neg (by omega), keepN_zero (numC c) 6 i (by omega) hi]
/-- **A printed call is read as itself.** -/
theorem parse_print (c : CallD) (h : c.Fit) : parseC (strsC c).length (fOf (strsC c)) = (c, 0) := by
  have hq := keepN_le (numC c) 6
  have h1 := kindP_word c.k h.k
  rw [strsC_len]
  unfold parseC
  rw [if_neg (by omega), if_neg (by omega), fOf_zero, h1, if_neg (by simp), opsF_zero _ _ _ (fun j hj1 hj2 => by
    have := opP_fit c h (j - 1) (by omega)
    rw [show j - 1 + 1 = j by omega] at this
    rw [this]), if_pos rfl]
  congr 1
  unfold callO
  rw [fOf_zero, h1, valO_fit c h 0 (by omega), valO_fit c h 1 (by omega), valO_fit c h 2 (by omega), valO_fit c h 3 (by omega), valO_fit c h 4 (by omega), valO_fit c h 5 (by omega)]
  rfl
/-- The lines of calls, and their rows. -/
def linesC : Nat → List CallD → List (Nat × List UInt8)
  | _, [] => []
  | k, c :: t => (k, printC c) :: linesC (k + 1) t
def rowsC : Nat → List CallD → List (Nat × List ByteArray)
  | _, [] => []
  | k, c :: t => (k, strsC c) :: rowsC (k + 1) t
theorem printC_no (c : CallD) : (10 : UInt8) ∉ printC c := fun hm => by
  rw [← printC_join] at hm
  exact joinB_good (P := fun x => x ≠ 10) (by decide) (wordsC c) (fun w hw x hx e => by
    have := (wordsC_good c w hw).2 x hx
    rw [e] at this
    exact absurd this.1 (by decide)) 10 hm rfl
theorem lines_all : ∀ (L : List CallD) (k : Nat), LinesOf k (linesC k L) (allC L)
  | [], _ => rfl
  | c :: t, k => by
    have e : allC (c :: t) = printC c ++ 10 :: allC t := by show printC c ++ [10] ++ allC t = _; simp
    have hc := cutAt_split 10 (allC t) (printC c) (printC_no c)
    refine ⟨rfl, by rw [e]; simp, by rw [e, hc], ?_⟩
    rw [e, hc]
    exact lines_all t (k + 1)
theorem rows_lines : ∀ (L : List CallD) (k : Nat), rowsOf (linesC k L) = rowsC k L
  | [], _ => rfl
  | c :: t, k => by
    show (if (wordsL (printC c)).length = 0 then [] else [(k, wordsL (printC c))]) ++ rowsOf (linesC (k + 1) t) = _
    rw [words_print, if_neg (by rw [strsC_len]; omega), rows_lines t (k + 1)]
    rfl
theorem rowsC_mem : ∀ (L : List CallD) (k : Nat) (x : Nat × List ByteArray), x ∈ rowsC k L → ∃ c, c ∈ L ∧ x.2 = strsC c
  | [], _, x, h => by cases h
  | c :: t, k, x, h => by
    rcases List.mem_cons.1 h with rfl | h
    · exact ⟨c, List.mem_cons_self, rfl⟩
    · obtain ⟨d, hd, e⟩ := rowsC_mem t (k + 1) x h
      exact ⟨d, List.mem_cons_of_mem _ hd, e⟩
theorem linesC_len : ∀ (L : List CallD) (k : Nat), (linesC k L).length = L.length
  | [], _ => rfl
  | c :: t, k => by show (linesC (k + 1) t).length + 1 = _; rw [linesC_len t]; rfl
theorem linesC_mem : ∀ (L : List CallD) (k : Nat) (x : Nat × List UInt8), x ∈ linesC k L → ∃ c, c ∈ L ∧ x.2 = printC c
  | [], _, x, h => by cases h
  | c :: t, k, x, h => by
    rcases List.mem_cons.1 h with rfl | h
    · exact ⟨c, List.mem_cons_self, rfl⟩
    · obtain ⟨d, hd, e⟩ := linesC_mem t (k + 1) x h
      exact ⟨d, List.mem_cons_of_mem _ hd, e⟩
theorem rowsC_len : ∀ (L : List CallD) (k : Nat), (rowsC k L).length = L.length
  | [], _ => rfl
  | c :: t, k => by show (rowsC (k + 1) t).length + 1 = _; rw [rowsC_len t]; rfl
theorem strsC_small (c : CallD) (hc : c.Ok) : (strsC c).length ≤ 7 ∧ ∀ s, s ∈ strsC c → s.size ≤ 22 := by
  have hq := keepN_le (numC c) 6
  refine ⟨by rw [strsC_len]; omega, fun s hs => ?_⟩
  obtain ⟨w, hw, rfl⟩ := List.mem_map.1 hs
  rw [str_size]
  rcases List.mem_cons.1 hw with rfl | hw
  · exact wordK_len c.k hc.k
  · obtain ⟨i, _, rfl⟩ := List.mem_map.1 hw
    have := prnL_len (numC_ok hc i)
    omega
end Go.Proofs.Ytdjfelabdofaaaa
