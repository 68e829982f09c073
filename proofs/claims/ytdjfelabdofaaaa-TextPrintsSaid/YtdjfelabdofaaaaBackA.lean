import Derived.Test.YtdjfelabdofaaaaRowAz
import Derived.Lib.TrimUEq
namespace Go.Proofs.Ytdjfelabdofaaaa
open Go.RowKit Go.Shelf
set_option linter.unusedVariables false
set_option linter.unusedSimpArgs false
/- What was printed is read again: numbers, words between blanks, lines. -/
def goodB (x : UInt8) : Prop := 36 ≤ x.toNat ∧ x.toNat < 128
theorem digL_isD : ∀ (k m : Nat), m ≤ k → ∀ x, x ∈ digL m → 48 ≤ x.toNat ∧ x.toNat ≤ 57
  | k, m, hk, x, hx => by
    have one : ∀ d, d < 10 → 48 ≤ (UInt8.ofNat (48 + d)).toNat ∧ (UInt8.ofNat (48 + d)).toNat ≤ 57 := fun d hd => by
      have := byte_of d hd
      omega
    by_cases h : m < 10
    · rw [digL_small h] at hx
      rw [List.mem_singleton.1 hx]
      exact one m h
    · rw [digL_big h] at hx
      rcases List.mem_append.1 hx with hx | hx
      · match k, hk with
        | 0, hk => omega
        | k + 1, hk => exact digL_isD k (m / 10) (by omega) x hx
      · rw [List.mem_singleton.1 hx]
        exact one _ (by omega)
theorem digL_all (m : Nat) : (digL m).all isD = true := by
  rw [List.all_eq_true]
  intro x hx
  have := digL_isD m m (Nat.le_refl _) x hx
  unfold isD
  simp
  omega
theorem val_digL : ∀ (k m : Nat), m ≤ k → val (digL m) 0 = m
  | k, m, hk => by
    by_cases h : m < 10
    · rw [digL_small h]
      show 0 * 10 + ((UInt8.ofNat (48 + m)).toNat - 48) = m
      have := byte_of m h
      omega
    · match k, hk with
      | 0, hk => omega
      | k + 1, hk =>
        rw [digL_big h, val_snoc, val_digL k (m / 10) (by omega)]
        have := byte_of (m % 10) (by omega)
        omega
theorem digL_head (m : Nat) : ∃ x t, digL m = x :: t ∧ x.toNat ≠ 45 := by
  have hp := digL_pos m
  match h : digL m with
  | [] => rw [h] at hp; simp at hp
  | x :: t =>
    refine ⟨x, t, rfl, ?_⟩
    have := digL_isD m m (Nat.le_refl _) x (by rw [h]; exact List.mem_cons_self)
    omega
theorem dig_prnL (n : Int) : dig (prnL n) = digL n.natAbs ∧ negL (prnL n) = decide (n < 0) := by
  unfold prnL
  by_cases h : n < 0
  · rw [if_pos h]
    refine ⟨by rw [dig_cons, if_pos (by decide)], ?_⟩
    show decide ((45 : UInt8).toNat = 45) = _
    simp [h]
  · rw [if_neg h]
    obtain ⟨x, t, e, hx⟩ := digL_head n.natAbs
    rw [e]
    refine ⟨by rw [dig_cons, if_neg hx], ?_⟩
    show decide (x.toNat = 45) = _
    simp [h, hx]
theorem sgn_prnL (n : Int) : sgn (prnL n) = n := by
  obtain ⟨h1, h2⟩ := dig_prnL n
  unfold sgn
  rw [h1, h2, val_digL _ _ (Nat.le_refl _)]
  by_cases h : n < 0
  · simp [h]; omega
  · simp [h]; omega
theorem valP_prnL (n : Int) (h : -999999999999999999 ≤ n ∧ n ≤ 999999999999999999) : valP (prnL n) = some n := by
  obtain ⟨h1, h2⟩ := dig_prnL n
  have ho : okL (prnL n) = true := by
    unfold okL
    rw [h1, sgn_prnL, digL_all]
    have a := digL_pos n.natAbs
    have b := digL_len 17 n.natAbs (by omega)
    simp
    omega
  unfold valP
  rw [ho, sgn_prnL]
  rfl
theorem parP_prnL (n a b : Int) (h : -999999999999999999 ≤ n ∧ n ≤ 999999999999999999) (ha : a ≤ n) (hb : n ≤ b) : parP (prnL n) a b = (n, 0) := by
  unfold parP
  rw [valP_prnL n h]
  exact if_neg (by omega)
theorem prnL_good (n : Int) : ∀ x, x ∈ prnL n → goodB x := by
  intro x hx
  unfold prnL at hx
  have d : ∀ y, y ∈ digL n.natAbs → goodB y := fun y hy => by
    have := digL_isD _ _ (Nat.le_refl _) y hy
    unfold goodB
    omega
  by_cases h : n < 0
  · rw [if_pos h] at hx
    rcases List.mem_cons.1 hx with rfl | hx
    · unfold goodB; decide
    · exact d x hx
  · rw [if_neg h] at hx
    exact d x hx
theorem prnL_ne (n : Int) : prnL n ≠ [] := by
  unfold prnL
  split
  · simp
  · have := digL_pos n.natAbs
    intro e
    rw [e] at this
    simp at this
theorem cutAt_no (c : UInt8) : ∀ (l : List UInt8), c ∉ l → cutAt c l = (l, [])
  | [], _ => rfl
  | x :: t, h => by
    have h1 : x ≠ c := fun e => h (by rw [e]; exact List.mem_cons_self)
    have h2 := cutAt_no c t fun e => h (List.mem_cons_of_mem _ e)
    unfold cutAt
    rw [if_neg h1, h2]
theorem cutAt_split (c : UInt8) (q : List UInt8) : ∀ (p : List UInt8), c ∉ p → cutAt c (p ++ c :: q) = (p, q)
  | [], _ => if_pos rfl
  | x :: t, h => by
    have h1 : x ≠ c := fun e => h (by rw [e]; exact List.mem_cons_self)
    have h2 := cutAt_split c q t fun e => h (List.mem_cons_of_mem _ e)
    show cutAt c (x :: (t ++ c :: q)) = _
    unfold cutAt
    rw [if_neg h1, h2]
/-- Words with a blank between them. -/
def joinB : List (List UInt8) → List UInt8
  | [] => []
  | [w] => w
  | w :: v :: t => w ++ 32 :: joinB (v :: t)
theorem joinB_snoc (v : List UInt8) : ∀ (ws : List (List UInt8)), ws ≠ [] → joinB (ws ++ [v]) = joinB ws ++ [32] ++ v
  | [], h => absurd rfl h
  | [w], _ => by simp [joinB]
  | w :: u :: t, _ => by
    have := joinB_snoc v (u :: t) (by simp)
    show w ++ 32 :: joinB (u :: t ++ [v]) = w ++ 32 :: joinB (u :: t) ++ [32] ++ v
    rw [this]
    simp
theorem joinB_good {P : UInt8 → Prop} (h32 : P 32) : ∀ (ws : List (List UInt8)), (∀ w, w ∈ ws → ∀ x, x ∈ w → P x) → ∀ x, x ∈ joinB ws → P x
  | [], _, x, hx => by cases hx
  | [w], h, x, hx => h w (List.mem_singleton.2 rfl) x hx
  | w :: u :: t, h, x, hx => by
    rcases List.mem_append.1 hx with hx | hx
    · exact h w List.mem_cons_self x hx
    · rcases List.mem_cons.1 hx with rfl | hx
      · exact h32
      · exact joinB_good h32 (u :: t) (fun v hv => h v (List.mem_cons_of_mem _ hv)) x hx
theorem dec_at (p t : List UInt8) (x : UInt8) (h : x.toNat < 128) : Utf8.decode ⟨(p ++ x :: t).toArray⟩ p.length = (x.toNat, 1) := by
  rw [Lib.decode_N]
  have e : ((⟨(p ++ x :: t).toArray⟩ : ByteArray).data.toList.getD p.length 0) = x := by simp [List.getD_eq_getElem?_getD]
  rw [e]
  exact Lib.decodeN_ascii _ _ _ _ _ h
theorem isWs_good {x : UInt8} (h : goodB x) : isWs x.toNat = false := by
  unfold goodB at h
  unfold isWs
  simp
  omega
/-- Through a word. -/
theorem spans_word (t : List UInt8) (a : Nat) (acc : List (Nat × Nat)) : ∀ (w p : List UInt8) (f : Nat), (∀ x, x ∈ w → goodB x) →
    Lib.spansFromP isWs ⟨(p ++ (w ++ t)).toArray⟩ (w.length + f) p.length (some a) acc = Lib.spansFromP isWs ⟨(p ++ (w ++ t)).toArray⟩ f (p.length + w.length) (some a) acc
  | [], p, f, _ => by simp
  | x :: w, p, f, h => by
    have hx := h x List.mem_cons_self
    have ih := spans_word t a acc w (p ++ [x]) f fun y hy => h y (List.mem_cons_of_mem _ hy)
    rw [show p ++ [x] ++ (w ++ t) = p ++ (x :: w ++ t) by simp, show (p ++ [x]).length = p.length + 1 by simp] at ih
    rw [show (x :: w).length + f = (w.length + f) + 1 by simp; omega]
    have hd := dec_at p (w ++ t) x hx.2
    rw [show p ++ x :: (w ++ t) = p ++ (x :: w ++ t) by simp] at hd
    have hl : p.length < (⟨(p ++ (x :: w ++ t)).toArray⟩ : ByteArray).size := by rw [str_size]; simp
    show (if _ then _ else _) = _
    rw [if_pos hl, hd, isWs_good hx, if_neg (by simp)]
    show Lib.spansFromP isWs _ (w.length + f) (p.length + 1) (some a) acc = _
    rw [ih]
    congr 1
    simp
    omega
theorem spans_word0 (t : List UInt8) (acc : List (Nat × Nat)) (w p : List UInt8) (f : Nat) (hw : w ≠ []) (h : ∀ x, x ∈ w → goodB x) :
    Lib.spansFromP isWs ⟨(p ++ (w ++ t)).toArray⟩ (w.length + f) p.length none acc = Lib.spansFromP isWs ⟨(p ++ (w ++ t)).toArray⟩ f (p.length + w.length) (some p.length) acc := by
  match w, hw, h with
  | x :: w, _, h =>
    have hx := h x List.mem_cons_self
    have ih := spans_word t p.length acc w (p ++ [x]) f fun y hy => h y (List.mem_cons_of_mem _ hy)
    rw [show p ++ [x] ++ (w ++ t) = p ++ (x :: w ++ t) by simp, show (p ++ [x]).length = p.length + 1 by simp] at ih
    rw [show (x :: w).length + f = (w.length + f) + 1 by simp; omega]
    have hd := dec_at p (w ++ t) x hx.2
    rw [show p ++ x :: (w ++ t) = p ++ (x :: w ++ t) by simp] at hd
    have hl : p.length < (⟨(p ++ (x :: w ++ t)).toArray⟩ : ByteArray).size := by rw [str_size]; simp
    show (if _ then _ else _) = _
    rw [if_pos hl, hd, isWs_good hx, if_neg (by simp)]
    show Lib.spansFromP isWs _ (w.length + f) (p.length + 1) (some p.length) acc = _
    rw [ih]
    congr 1
    simp
    omega
theorem ext_mid (p w t : List UInt8) : (⟨(p ++ (w ++ t)).toArray⟩ : ByteArray).extract p.length (p.length + w.length) = ⟨w.toArray⟩ := by
  rw [ByteArray.extract_mk]
  simp
theorem spans_join : ∀ (ws : List (List UInt8)) (p : List UInt8) (acc : List (Nat × Nat)) (f : Nat), (∀ w, w ∈ ws → w ≠ [] ∧ ∀ x, x ∈ w → goodB x) → (joinB ws).length ≤ f →
    (Lib.closeSpans ⟨(p ++ joinB ws).toArray⟩ (Lib.spansFromP isWs ⟨(p ++ joinB ws).toArray⟩ f p.length none acc)).map (fun x => (⟨(p ++ joinB ws).toArray⟩ : ByteArray).extract x.1 x.2)
      = acc.map (fun x => (⟨(p ++ joinB ws).toArray⟩ : ByteArray).extract x.1 x.2) ++ ws.map (fun w => ⟨w.toArray⟩)
  | [], p, acc, f, _, _ => by
    rw [Lib.spansFromP_end _ _ _ _ _ _ (by rw [str_size]; simp [joinB])]
    simp [Lib.closeSpans]
  | [w], p, acc, f, h, hf => by
    obtain ⟨hw, hg⟩ := h w (List.mem_singleton.2 rfl)
    have e : p ++ joinB [w] = p ++ (w ++ []) := by simp [joinB]
    have hf : w.length ≤ f := hf
    rw [e, show f = w.length + (f - w.length) by omega, spans_word0 [] acc w p _ hw hg, Lib.spansFromP_end _ _ _ _ _ _ (by rw [str_size]; simp)]
    have hm := ext_mid p w []
    show (acc ++ [(p.length, (⟨(p ++ (w ++ [])).toArray⟩ : ByteArray).size)]).map _ = _
    rw [str_size, List.map_append, show (p ++ (w ++ ([] : List UInt8))).length = p.length + w.length by simp]
    simp only [List.map_cons, List.map_nil]
    rw [hm]
  | w :: v :: t, p, acc, f, h, hf => by
    obtain ⟨hw, hg⟩ := h w List.mem_cons_self
    have e : p ++ joinB (w :: v :: t) = p ++ (w ++ 32 :: joinB (v :: t)) := rfl
    have hf : (w ++ 32 :: joinB (v :: t)).length ≤ f := hf
    rw [List.length_append, List.length_cons] at hf
    have ih := spans_join (v :: t) (p ++ w ++ [32]) (acc ++ [(p.length, p.length + w.length)]) (f - w.length - 1) (fun u hu => h u (List.mem_cons_of_mem _ hu)) (by omega)
    have e2 : p ++ w ++ [32] ++ joinB (v :: t) = p ++ (w ++ 32 :: joinB (v :: t)) := by simp
    rw [e2, show (p ++ w ++ ([32] : List UInt8)).length = p.length + w.length + 1 by simp; omega] at ih
    have hm := ext_mid p w (32 :: joinB (v :: t))
    have hd := dec_at (p ++ w) (joinB (v :: t)) 32 (by decide)
    rw [show p ++ w ++ 32 :: joinB (v :: t) = p ++ (w ++ 32 :: joinB (v :: t)) by simp, show (p ++ w).length = p.length + w.length by simp] at hd
    have hl : p.length + w.length < (⟨(p ++ (w ++ 32 :: joinB (v :: t))).toArray⟩ : ByteArray).size := by rw [str_size]; simp
    have hs : Lib.spansFromP isWs ⟨(p ++ (w ++ 32 :: joinB (v :: t))).toArray⟩ f p.length none acc = Lib.spansFromP isWs ⟨(p ++ (w ++ 32 :: joinB (v :: t))).toArray⟩ (f - w.length - 1) (p.length + w.length + 1) none (acc ++ [(p.length, p.length + w.length)]) := by
      rw [show f = w.length + ((f - w.length - 1) + 1) by omega, spans_word0 _ acc w p _ hw hg]
      show (if _ then _ else _) = _
      rw [if_pos hl, hd, if_pos (by decide)]
      rw [show w.length + (f - w.length - 1 + 1) - w.length - 1 = f - w.length - 1 by omega]
    rw [e, hs, ih, List.map_append, List.map_cons, List.map_nil, List.map_cons]
    simp only []
    rw [hm]
    simp
/-- **The words of a line of words.** -/
theorem words_join (ws : List (List UInt8)) (h : ∀ w, w ∈ ws → w ≠ [] ∧ ∀ x, x ∈ w → goodB x) : wordsL (joinB ws) = ws.map fun w => ⟨w.toArray⟩ := by
  have h35 : (35 : UInt8) ∉ joinB ws := fun hm => by
    have := joinB_good (P := fun x => x ≠ 35) (by decide) ws (fun w hw x hx e => by
      have := (h w hw).2 x hx
      rw [e] at this
      exact absurd this.1 (by decide)) 35 hm
    exact this rfl
  unfold wordsL
  rw [cutAt_no _ _ h35]
  have := spans_join ws [] [] (joinB ws).length h (Nat.le_refl _)
  unfold Lib.goFieldsP Lib.spansOfP
  rw [str_size]
  simpa using this
end Go.Proofs.Ytdjfelabdofaaaa
