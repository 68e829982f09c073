import Derived.Test.YtdjfelabdofaaaaNumAz
import Derived.Test.YtdjfelabdofaaaaNumHa
import Derived.Test.YtdjfelabdofaaaaRow
namespace Go.Proofs.Ytdjfelabdofaaaa
open Go.ChangeShapes Go.WideShapes Go.ChangeAt Go.RowKit
set_option linter.unusedVariables false
set_option linter.unusedSimpArgs false
/-- The words of the kinds, from 1 on. -/
def kwL : List (List UInt8) := [[115, 101, 110, 100], [114, 101, 99, 118], [119, 114, 105, 116, 101], [114, 101, 97, 100], [116, 114, 121], [97, 103, 97, 105, 110], [115, 101, 116], [99, 108, 101, 97, 114], [103, 101, 116], [112, 111, 115, 116], [116, 105, 99, 107], [121, 105, 101, 108, 100], [115, 108, 101, 101, 112], [115, 101, 110, 100, 119, 97, 105, 116], [114, 101, 99, 118, 119, 97, 105, 116], [119, 97, 105, 116, 97, 110, 121], [119, 97, 105, 116, 97, 108, 108], [97, 119, 97, 105, 116], [101, 120, 105, 116]]
def kwF (i : Nat) : List UInt8 := kwL.getD i []
def kxF (i : Nat) : List UInt8 := if i = 0 then [] else kwF (i - 1)
theorem kwF_len (i : Nat) : (kwF i).length ≤ 8 := by
  rcases Nat.lt_or_ge i 19 with h | h
  · have : ∀ i, i < 19 → (kwF i).length ≤ 8 := by decide
    exact this i h
  · unfold kwF
    rw [List.getD_eq_getElem?_getD, List.getElem?_eq_none (by show 19 ≤ i; exact h)]
    simp
/-- Where the words stand. -/
structure KwAt (w w' : World) (n : Nat) (F : Nat → List UInt8) (b : Nat) : Prop where
  cell : ∀ i, i < n → w'.cell? ⟨b, i, none⟩ = some (.string ⟨(F i).toArray⟩)
  lt : b < w'.heap.size
  keeps : Keeps (fun _ => False) w w'
theorem words_any_lits : ∀ i, i < 19 → (#[Value.string ⟨#[115, 101, 110, 100]⟩, Value.string ⟨#[114, 101, 99, 118]⟩, Value.string ⟨#[119, 114, 105, 116, 101]⟩, Value.string ⟨#[114, 101, 97, 100]⟩, Value.string ⟨#[116, 114, 121]⟩, Value.string ⟨#[97, 103, 97, 105, 110]⟩, Value.string ⟨#[115, 101, 116]⟩, Value.string ⟨#[99, 108, 101, 97, 114]⟩, Value.string ⟨#[103, 101, 116]⟩, Value.string ⟨#[112, 111, 115, 116]⟩, Value.string ⟨#[116, 105, 99, 107]⟩, Value.string ⟨#[121, 105, 101, 108, 100]⟩, Value.string ⟨#[115, 108, 101, 101, 112]⟩, Value.string ⟨#[115, 101, 110, 100, 119, 97, 105, 116]⟩, Value.string ⟨#[114, 101, 99, 118, 119, 97, 105, 116]⟩, Value.string ⟨#[119, 97, 105, 116, 97, 110, 121]⟩, Value.string ⟨#[119, 97, 105, 116, 97, 108, 108]⟩, Value.string ⟨#[97, 119, 97, 105, 116]⟩, Value.string ⟨#[101, 120, 105, 116]⟩] : Array Value)[i]? = some (.string ⟨(kwF i).toArray⟩)
  | 0, _ => rfl
  | 1, _ => rfl
  | 2, _ => rfl
  | 3, _ => rfl
  | 4, _ => rfl
  | 5, _ => rfl
  | 6, _ => rfl
  | 7, _ => rfl
  | 8, _ => rfl
  | 9, _ => rfl
  | 10, _ => rfl
  | 11, _ => rfl
  | 12, _ => rfl
  | 13, _ => rfl
  | 14, _ => rfl
  | 15, _ => rfl
  | 16, _ => rfl
  | 17, _ => rfl
  | 18, _ => rfl
  | i + 19, h => by omega
set_option maxRecDepth 20000 in
theorem words_any (w : World) : Calls Try.prog 57 #[] w fun e w' => ∃ b, e = .returned (.slice (some ⟨b, 0, none⟩) 19 19) ∧ KwAt w w' 19 kwF b := by
  go_enter Try.func57, Try.ntmps57
  go_wp2_with fail
  go_ret
  exact ⟨_, rfl, fun i hi => (cell_of (heap_new w _) i).trans (words_any_lits i hi), by simp, (Keeps.refl _ w).alloc _⟩
theorem rwords_any_lits : ∀ i, i < 20 → (#[Value.string ⟨#[]⟩, Value.string ⟨#[115, 101, 110, 100]⟩, Value.string ⟨#[114, 101, 99, 118]⟩, Value.string ⟨#[119, 114, 105, 116, 101]⟩, Value.string ⟨#[114, 101, 97, 100]⟩, Value.string ⟨#[116, 114, 121]⟩, Value.string ⟨#[97, 103, 97, 105, 110]⟩, Value.string ⟨#[115, 101, 116]⟩, Value.string ⟨#[99, 108, 101, 97, 114]⟩, Value.string ⟨#[103, 101, 116]⟩, Value.string ⟨#[112, 111, 115, 116]⟩, Value.string ⟨#[116, 105, 99, 107]⟩, Value.string ⟨#[121, 105, 101, 108, 100]⟩, Value.string ⟨#[115, 108, 101, 101, 112]⟩, Value.string ⟨#[115, 101, 110, 100, 119, 97, 105, 116]⟩, Value.string ⟨#[114, 101, 99, 118, 119, 97, 105, 116]⟩, Value.string ⟨#[119, 97, 105, 116, 97, 110, 121]⟩, Value.string ⟨#[119, 97, 105, 116, 97, 108, 108]⟩, Value.string ⟨#[97, 119, 97, 105, 116]⟩, Value.string ⟨#[101, 120, 105, 116]⟩] : Array Value)[i]? = some (.string ⟨(kxF i).toArray⟩)
  | 0, _ => rfl
  | 1, _ => rfl
  | 2, _ => rfl
  | 3, _ => rfl
  | 4, _ => rfl
  | 5, _ => rfl
  | 6, _ => rfl
  | 7, _ => rfl
  | 8, _ => rfl
  | 9, _ => rfl
  | 10, _ => rfl
  | 11, _ => rfl
  | 12, _ => rfl
  | 13, _ => rfl
  | 14, _ => rfl
  | 15, _ => rfl
  | 16, _ => rfl
  | 17, _ => rfl
  | 18, _ => rfl
  | 19, _ => rfl
  | i + 20, h => by omega
set_option maxRecDepth 20000 in
theorem rwords_any (w : World) : Calls Try.prog 58 #[] w fun e w' => ∃ b, e = .returned (.slice (some ⟨b, 0, none⟩) 20 20) ∧ KwAt w w' 20 kxF b := by
  go_enter Try.func58, Try.ntmps58
  go_wp2_with fail
  go_ret
  exact ⟨_, rfl, fun i hi => (cell_of (heap_new w _) i).trans (rwords_any_lits i hi), by simp, (Keeps.refl _ w).alloc _⟩
/-- The word of a kind. -/
def wordK (k : Int) : List UInt8 := if 1 ≤ k ∧ k ≤ 19 then kwF (k - 1).toNat else 107 :: prnL k
theorem wordK_len (k : Int) (h : -9223372036854775808 ≤ k ∧ k ≤ 9223372036854775807) : (wordK k).length ≤ 22 := by
  unfold wordK
  split
  · have := kwF_len (k - 1).toNat; omega
  · rw [List.length_cons]; have := prnL_len h; omega
set_option maxRecDepth 20000 in
set_option maxHeartbeats 1000000 in
theorem word_of (w : World) (k : Int) (h : -9223372036854775808 ≤ k ∧ k ≤ 9223372036854775807) : Calls Try.prog 45 #[.int .i64 k] w fun e w' => e = .returned (.string ⟨(wordK k).toArray⟩) ∧ Keeps (fun _ => False) w w' := by
  by_cases hk : 1 ≤ k ∧ k ≤ 19
  · obtain ⟨m, rfl⟩ : ∃ m : Nat, k = (m : Int) + 1 := ⟨(k - 1).toNat, by omega⟩
    have e : wordK ((m : Int) + 1) = kwF m := by unfold wordK; rw [if_pos hk, show ((m : Int) + 1 - 1).toNat = m by omega]
    rw [e]
    have hm : m < 19 := by omega
    have d1 : decide ((m : Int) + 1 < 1) = false := decide_eq_false (by omega)
    have d2 : decide ((19 : Int) < (m : Int) + 1) = false := decide_eq_false (by omega)
    have d3 : decide ((1 : Int) ≤ (m : Int) + 1) = true := decide_eq_true (by omega)
    have d4 : decide ((m : Int) + 1 ≤ 19) = true := decide_eq_true (by omega)
    clear hk e
    go_enter Try.func45, Try.ntmps45
    go_wp2_with fail
    refine (words_any w).mono ?_
    rintro e1 w1 ⟨b, rfl, hk⟩
    have c0 : w1.cell? ⟨b, m, none⟩ = some (.string ⟨(kwF m).toArray⟩) := hk.cell m (by omega)
    have HK := Lib.hid hk.keeps
    clear hk
    go_wp2_with fail
    go_ret
    exact ⟨rfl, HK.out⟩
  · have e : wordK k = 107 :: prnL k := if_neg hk
    rw [e]
    have hpz := str_size (prnL k)
    have hpl := prnL_len h
    have hPB : (⟨(prnL k).toArray⟩ : ByteArray) = prnB k := rfl
    rw [hPB] at hpz
    have hS := run_string_add_sum (P := Try.prog)
    have HT := Lib.hid (show (ByteArray.mk #[107]) ++ prnB k = ⟨(107 :: prnL k).toArray⟩ from ByteArray.mk_append_mk [107] _)
    have HP := Lib.hid (print_any w k h)
    clear hPB e
    generalize (⟨(107 :: prnL k).toArray⟩ : ByteArray) = R at *
    generalize prnB k = PB at *
    have FIN : ∀ d1 d2 : Bool, decide (k < 1) = d1 → decide ((19 : Int) < k) = d2 → decide ((1 : Int) ≤ k) = (!d1) → decide (k ≤ 19) = (!d2) → (d1 || d2) = true → Calls Try.prog 45 #[.int .i64 k] w fun e w' => e = .returned (.string R) ∧ Keeps (fun _ => False) w w' := by
      intro d1 d2 h1 h2 h3 h4 h5
      clear hk h
      cases d1
      · cases d2
        · cases h5
        · clear h5
          simp only [Bool.not_false, Bool.not_true] at h3 h4
          clear hS
          go_enter Try.func45, Try.ntmps45
          go_wp2_with fail
          refine HP.out.mono ?_
          rintro e1 w1 ⟨rfl, k1⟩
          have HK := Lib.hid k1
          clear k1
          have hS1 := run_string_add_sum (P := Try.prog) w1 ⟨#[107]⟩ PB (by show 1 + PB.size ≤ _; omega)
          rw [HT.out] at hS1
          go_wp2_with fail
          go_ret
          exact ⟨rfl, HK.out⟩
      · clear h5
        simp only [Bool.not_false, Bool.not_true] at h3
        clear hS h2 h4
        go_enter Try.func45, Try.ntmps45
        go_wp2_with fail
        refine HP.out.mono ?_
        rintro e1 w1 ⟨rfl, k1⟩
        have HK := Lib.hid k1
        clear k1
        have hS1 := run_string_add_sum (P := Try.prog) w1 ⟨#[107]⟩ PB (by show 1 + PB.size ≤ _; omega)
        rw [HT.out] at hS1
        go_wp2_with fail
        go_ret
        exact ⟨rfl, HK.out⟩
    refine FIN _ _ rfl rfl ?_ ?_ ?_
    · by_cases q : k < 1
      · rw [decide_eq_true q, decide_eq_false (by omega)]; rfl
      · rw [decide_eq_false q, decide_eq_true (by omega)]; rfl
    · by_cases q : 19 < k
      · rw [decide_eq_true q, decide_eq_false (by omega)]; rfl
      · rw [decide_eq_false q, decide_eq_true (by omega)]; rfl
    · rw [Bool.or_eq_true, decide_eq_true_eq, decide_eq_true_eq]; omega
set_option maxRecDepth 20000 in
set_option maxHeartbeats 1000000 in
theorem rword_of (w : World) (k : Int) (h : -9223372036854775808 ≤ k ∧ k ≤ 9223372036854775807) : Calls Try.prog 47 #[.int .i64 k] w fun e w' => e = .returned (.string ⟨(wordK k).toArray⟩) ∧ Keeps (fun _ => False) w w' := by
  by_cases hk : 1 ≤ k ∧ k ≤ 19
  · obtain ⟨m, rfl⟩ : ∃ m : Nat, k = (m : Int) + 1 := ⟨(k - 1).toNat, by omega⟩
    have e : wordK ((m : Int) + 1) = kwF m := by unfold wordK; rw [if_pos hk, show ((m : Int) + 1 - 1).toNat = m by omega]
    rw [e]
    have hm : m < 19 := by omega
    have d1 : decide ((m : Int) + 1 < 1) = false := decide_eq_false (by omega)
    have d2 : decide ((19 : Int) < (m : Int) + 1) = false := decide_eq_false (by omega)
    have d3 : decide ((1 : Int) ≤ (m : Int) + 1) = true := decide_eq_true (by omega)
    have d4 : decide ((m : Int) + 1 ≤ 19) = true := decide_eq_true (by omega)
    clear hk e
    go_enter Try.func47, Try.ntmps47
    go_wp2_with fail
    refine (rwords_any w).mono ?_
    rintro e1 w1 ⟨b, rfl, hk⟩
    have c0 : w1.cell? ⟨b, m + 1, none⟩ = some (.string ⟨(kwF m).toArray⟩) := hk.cell (m + 1) (by omega)
    have HK := Lib.hid hk.keeps
    clear hk
    go_wp2_with fail
    go_ret
    exact ⟨rfl, HK.out⟩
  · have e : wordK k = 107 :: prnL k := if_neg hk
    rw [e]
    have hpz := str_size (prnL k)
    have hpl := prnL_len h
    have hPB : (⟨(prnL k).toArray⟩ : ByteArray) = prnB k := rfl
    rw [hPB] at hpz
    have hS := run_string_add_sum (P := Try.prog)
    have HT := Lib.hid (show (ByteArray.mk #[107]) ++ prnB k = ⟨(107 :: prnL k).toArray⟩ from ByteArray.mk_append_mk [107] _)
    have HP := Lib.hid (rprint_any w k h)
    clear hPB e
    generalize (⟨(107 :: prnL k).toArray⟩ : ByteArray) = R at *
    generalize prnB k = PB at *
    have FIN : ∀ d1 d2 : Bool, decide (k < 1) = d1 → decide ((19 : Int) < k) = d2 → decide ((1 : Int) ≤ k) = (!d1) → decide (k ≤ 19) = (!d2) → (d1 || d2) = true → Calls Try.prog 47 #[.int .i64 k] w fun e w' => e = .returned (.string R) ∧ Keeps (fun _ => False) w w' := by
      intro d1 d2 h1 h2 h3 h4 h5
      clear hk h
      cases d1
      · cases d2
        · cases h5
        · clear h5
          simp only [Bool.not_false, Bool.not_true] at h3 h4
          clear hS
          go_enter Try.func47, Try.ntmps47
          go_wp2_with fail
          refine HP.out.mono ?_
          rintro e1 w1 ⟨rfl, rfl⟩
          have HK := Lib.hid (Keeps.refl (fun _ => False) w1)
          have hS1 := run_string_add_sum (P := Try.prog) w1 ⟨#[107]⟩ PB (by show 1 + PB.size ≤ _; omega)
          rw [HT.out] at hS1
          go_wp2_with fail
          go_ret
          exact ⟨rfl, HK.out⟩
      · clear h5
        simp only [Bool.not_false, Bool.not_true] at h3
        clear hS h2 h4
        go_enter Try.func47, Try.ntmps47
        go_wp2_with fail
        refine HP.out.mono ?_
        rintro e1 w1 ⟨rfl, rfl⟩
        have HK := Lib.hid (Keeps.refl (fun _ => False) w1)
        have hS1 := run_string_add_sum (P := Try.prog) w1 ⟨#[107]⟩ PB (by show 1 + PB.size ≤ _; omega)
        rw [HT.out] at hS1
        go_wp2_with fail
        go_ret
        exact ⟨rfl, HK.out⟩
    refine FIN _ _ rfl rfl ?_ ?_ ?_
    · by_cases q : k < 1
      · rw [decide_eq_true q, decide_eq_false (by omega)]; rfl
      · rw [decide_eq_false q, decide_eq_true (by omega)]; rfl
    · by_cases q : 19 < k
      · rw [decide_eq_true q, decide_eq_false (by omega)]; rfl
      · rw [decide_eq_false q, decide_eq_true (by omega)]; rfl
    · rw [Bool.or_eq_true, decide_eq_true_eq, decide_eq_true_eq]; omega
end Go.Proofs.Ytdjfelabdofaaaa
namespace Go.Proofs.Ytdjfelabdofaaaa
open Go.ChangeShapes Go.WideShapes Go.ChangeAt Go.RowKit
set_option linter.unusedVariables false
set_option linter.unusedSimpArgs false
/-- The first of the words from k on that is l. -/
def srch (l : List UInt8) : Nat → Nat → Option Nat
  | 0, _ => none
  | f + 1, k => if kwF k = l then some k else srch l f (k + 1)
theorem srch_none {l : List UInt8} : ∀ {f k : Nat}, srch l f k = none → ∀ i, k ≤ i → i < k + f → kwF i ≠ l
  | 0, k, _, i, h1, h2 => by omega
  | f + 1, k, h, i, h1, h2 => by
    unfold srch at h
    by_cases e : kwF k = l
    · rw [if_pos e] at h; cases h
    · rw [if_neg e] at h
      by_cases q : i = k
      · rw [q]; exact e
      · exact srch_none h i (by omega) (by omega)
/-- Any other word: k and a number that is no kind's. -/
def kindQ : List UInt8 → Int × Bool
  | [] => (0, false)
  | x :: t => if x.toNat = 107 then (match valP t with
    | none => (0, false)
    | some n => if 1 ≤ n ∧ n ≤ 19 then (0, false) else (n, true)) else (0, false)
/-- The kind of a word. -/
def kindP (l : List UInt8) : Int × Bool := match srch l 19 0 with
  | some i => ((i : Int) + 1, true)
  | none => kindQ l
def hasK : List UInt8 → Bool
  | [] => false
  | x :: _ => decide (x.toNat = 107)
def dropK : List UInt8 → List UInt8
  | [] => []
  | x :: t => if x.toNat = 107 then t else x :: t
theorem dropK_len (l : List UInt8) : (dropK l).length ≤ l.length := by
  cases l with
  | nil => simp [dropK]
  | cons x t =>
    show (if x.toNat = 107 then t else x :: t).length ≤ _
    split <;> simp
theorem valP_bound {t : List UInt8} {n : Int} (h : valP t = some n) : -999999999999999999 ≤ n ∧ n ≤ 999999999999999999 ∧ prnL n = t := by
  unfold valP at h
  cases ho : okL t with
  | false => rw [ho] at h; cases h
  | true =>
    rw [ho] at h
    obtain rfl : sgn t = n := by simpa using h
    unfold okL at ho
    simp only [Bool.and_eq_true, decide_eq_true_eq, beq_iff_eq] at ho
    obtain ⟨⟨⟨h1, h2⟩, h3⟩, h4⟩ := ho
    have hv := val_max' h3 h2
    refine ⟨?_, ?_, h4⟩ <;> · unfold sgn; split <;> omega
theorem parP_val {t : List UInt8} {a b : Int} (ha : a ≤ -999999999999999999) (hb : 999999999999999999 ≤ b) : parP t a b = match valP t with
    | none => (0, 3)
    | some n => (n, 0) := by
  unfold parP
  cases h : valP t with
  | none => rfl
  | some n =>
    have := valP_bound h
    show (if n < a ∨ b < n then _ else _) = _
    rw [if_neg (by omega)]
theorem kindQ_cons (x : UInt8) (t : List UInt8) (hx : x.toNat = 107) : kindQ (x :: t) = match valP t with
    | none => (0, false)
    | some n => if 1 ≤ n ∧ n ≤ 19 then (0, false) else (n, true) := by
  show (if x.toNat = 107 then _ else _) = _
  rw [if_pos hx]
set_option maxRecDepth 20000 in
theorem prefk_any (w : World) (l : List UInt8) (hl : l.length ≤ 9223372036854775807) :
    Calls Try.prog 73 #[.string ⟨l.toArray⟩, .string { data := #[107] }] w fun e w' => e = .returned (.bool (hasK l)) ∧ w' = w := by
  cases l with
  | nil =>
    go_enter Try.func73, Try.ntmps73
    go_wp2_with fail
    go_ret
    exact ⟨rfl, rfl⟩
  | cons x t =>
    have h1 := str_to w x t
    have h2 : hasK (x :: t) = (x == (107 : UInt8)) := by
      unfold hasK
      rw [Bool.eq_iff_iff, decide_eq_true_eq]
      simp [← UInt8.toNat_inj]
    rw [h2]
    have hs := str_size (x :: t)
    rw [List.length_cons] at hs hl
    generalize (⟨(x :: t).toArray⟩ : ByteArray) = B at h1 hs ⊢
    clear h2
    go_enter Try.func73, Try.ntmps73
    go_wp2_with fail
    go_ret
    exact ⟨rfl, rfl⟩
set_option maxRecDepth 20000 in
theorem cutpfs_any (w : World) (l : List UInt8) (hl : l.length ≤ 9223372036854775807) :
    Calls Try.prog 66 #[.string ⟨l.toArray⟩, .string { data := #[107] }] w fun e w' => e = .returned (.tuple #[.string ⟨(dropK l).toArray⟩, .bool (hasK l)]) ∧ w' = w := by
  have HC := Lib.hid (prefk_any w l hl)
  by_cases hq : hasK l = true
  · obtain ⟨x, t, rfl⟩ : ∃ x t, l = x :: t := by
      cases l with
      | nil => cases hq
      | cons x t => exact ⟨x, t, rfl⟩
    have e : dropK (x :: t) = t := if_pos (of_decide_eq_true hq)
    have h1 := str_from w x t
    rw [e]
    rw [hq] at HC ⊢
    generalize (⟨(x :: t).toArray⟩ : ByteArray) = B at h1 HC ⊢
    generalize (⟨t.toArray⟩ : ByteArray) = D at h1 ⊢
    clear hq e
    go_enter Try.func66, Try.ntmps66
    go_wp2_with fail
    refine HC.out.mono ?_
    rintro e1 w1 ⟨rfl, rfl⟩
    go_wp2_with fail
    refine bodyPost_ret (v := .tuple #[.string D, .bool true]) (by simp [results, Try.results66, go_sem]) rfl ?_
    exact ⟨rfl, rfl⟩
  · have hq' : hasK l = false := by simpa using hq
    have e : dropK l = l := by
      cases l with
      | nil => rfl
      | cons x t => exact if_neg (of_decide_eq_false hq')
    rw [e]
    rw [hq'] at HC ⊢
    generalize (⟨l.toArray⟩ : ByteArray) = B at HC ⊢
    clear hq hq' e
    go_enter Try.func66, Try.ntmps66
    go_wp2_with fail
    refine HC.out.mono ?_
    rintro e1 w1 ⟨rfl, rfl⟩
    go_wp2_with fail
    refine bodyPost_ret (v := .tuple #[.string B, .bool false]) (by simp [results, Try.results66, go_sem]) rfl ?_
    exact ⟨rfl, rfl⟩
set_option maxRecDepth 20000 in
theorem cutpf_any (w : World) (l : List UInt8) (hl : l.length ≤ 9223372036854775807) :
    Calls Try.prog 60 #[.string ⟨l.toArray⟩, .string { data := #[107] }] w fun e w' => e = .returned (.tuple #[.string ⟨(dropK l).toArray⟩, .bool (hasK l)]) ∧ w' = w := by
  have HC := Lib.hid (cutpfs_any w l hl)
  generalize (⟨(dropK l).toArray⟩ : ByteArray) = D at HC ⊢
  generalize (⟨l.toArray⟩ : ByteArray) = B at HC ⊢
  generalize hasK l = b at HC ⊢
  go_enter Try.func60, Try.ntmps60
  go_wp2_with fail
  refine HC.out.mono ?_
  rintro e1 w1 ⟨rfl, rfl⟩
  go_wp2_with fail
  refine bodyPost_ret (v := .tuple #[.string D, .bool b]) (by simp [results, Try.results60, go_sem]) rfl ?_
  exact ⟨rfl, rfl⟩
set_option maxRecDepth 100000 in
set_option maxHeartbeats 1000000 in
theorem kind_any (w : World) (l : List UInt8) (hl : l.length ≤ 9223372036854775807) :
    Calls Try.prog 54 #[.string ⟨l.toArray⟩] w fun e w' => e = .returned (.tuple #[.int .i64 (kindP l).1, .bool (kindP l).2]) ∧ Keeps (fun _ => False) w w' := by
  have HKP := Lib.hid (show kindP l = match srch l 19 0 with
    | some i => ((i : Int) + 1, true)
    | none => kindQ l from rfl)
  have HCP := Lib.hid (fun w => cutpf_any w l hl)
  have HPP := Lib.hid (fun w => parse_big w (dropK l) (Nat.le_trans (dropK_len l) hl) (-9223372036854775808) 9223372036854775807 (by omega) (by omega))
  have e1 : (ByteArray.mk l.toArray).toList = l := ByteArray.toList_mk _
  generalize (⟨l.toArray⟩ : ByteArray) = B at HCP e1 ⊢
  generalize (⟨(dropK l).toArray⟩ : ByteArray) = D at HCP HPP
  go_enter Try.func54, Try.ntmps54
  go_wp2_with fail
  refine (words_any w).mono ?_
  rintro e0 w1 ⟨b, rfl, hkw⟩
  have HKW := Lib.hid hkw
  clear hkw
  go_wp2_with fail
  go_loop [12] (fun i => ∃ k : Nat, k ≤ 19 ∧ i = .int .i64 (k : Int) ∧ srch l 19 0 = srch l (19 - k) k) (fun i => 19 - (intOf i).toNat)
  case atStart => exact ⟨0, by omega, rfl, rfl⟩
  case round =>
    obtain ⟨k, hk, rfl, hs⟩ := hrel
    by_cases hlt : k < 19
    · have c0 := HKW.out.cell k hlt
      have hu : srch l (19 - k) k = if kwF k = l then some k else srch l (19 - (k + 1)) (k + 1) := by
        rw [show 19 - k = (19 - (k + 1)) + 1 by omega]; rfl
      have e2 : (ByteArray.mk (kwF k).toArray).toList = kwF k := ByteArray.toList_mk _
      by_cases hq : kwF k = l
      · rw [if_pos hq] at hu
        have g0 : (kwF k == l) = true := by rw [hq]; simp
        have HF := Lib.hid (show kindP l = ((k : Int) + 1, true) by rw [HKP.out, hs, hu])
        have HQ := Lib.hid hq
        clear hu hs hq
        generalize (⟨(kwF k).toArray⟩ : ByteArray) = X at *
        generalize kwF k = y at *
        go_wp2_with fail
        refine bodyPost_ret (v := .tuple #[.int .i64 ((k : Int) + 1), .bool true]) (by simp [results, Try.results54, go_sem]) rfl ?_
        exact ⟨by rw [HF.out], HKW.out.keeps⟩
      · rw [if_neg hq] at hu
        have g0 : (kwF k == l) = false := by simpa using hq
        have HS := Lib.hid (hs.trans hu)
        clear hu hs hq
        generalize (⟨(kwF k).toArray⟩ : ByteArray) = X at *
        generalize kwF k = y at *
        go_wp2_with fail
        go_round
        case rel => exact ⟨k + 1, by omega, by go_num, HS.out⟩
        case measure => simp [intOf]; omega
    · obtain rfl : k = 19 := by omega
      have hnone : srch l 19 0 = none := hs
      have HN := Lib.hid (And.intro hnone (show kindP l = kindQ l by rw [HKP.out, hnone]))
      clear hs hnone
      go_wp2_with fail
      refine (HCP.out _).mono ?_
      rintro e3 w3 ⟨rfl, hw3⟩
      have hw3' := hw3.symm
      subst hw3'
      generalize hpx : (parP (dropK l) (-9223372036854775808) 9223372036854775807).1 = px at HPP
      generalize hpy : (parP (dropK l) (-9223372036854775808) 9223372036854775807).2 = py at HPP
      have HPXY := Lib.hid (And.intro hpx hpy)
      clear hpx hpy
      cases l with
      | nil =>
        have HF := Lib.hid (show kindP [] = (0, false) from HN.out.2)
        have hh : hasK [] = false := rfl
        rw [hh]
        clear hh
        go_wp2_with fail
        refine (HPP.out _).mono ?_
        rintro e4 w4 ⟨rfl, k4⟩
        have HK4 := Lib.hid (HKW.out.keeps.trans k4)
        clear k4
        go_wp2_with fail
        refine bodyPost_ret (v := .tuple #[.int .i64 0, .bool false]) (by simp [results, Try.results54, go_sem]) rfl ?_
        exact ⟨by rw [HF.out], HK4.out⟩
      | cons x t =>
        by_cases hx : x.toNat = 107
        · have hh : hasK (x :: t) = true := decide_eq_true hx
          have hd : dropK (x :: t) = t := if_pos hx
          rw [hh]
          have HQ := Lib.hid (kindQ_cons x t hx)
          have HV := Lib.hid (parP_val (t := t) (a := -9223372036854775808) (b := 9223372036854775807) (by omega) (by omega))
          have HX := Lib.hid hx
          rw [hd] at HPXY
          clear hh hd hx
          cases hv : valP t with
          | none =>
            have hv0 : parP t (-9223372036854775808) 9223372036854775807 = (0, 3) := by rw [HV.out, hv]
            have hy : py = 3 := by rw [← HPXY.out.2, hv0]
            have HF := Lib.hid (show kindP (x :: t) = (0, false) by rw [HN.out.2, HQ.out, hv])
            subst hy
            clear hv hv0
            go_wp2_with fail
            refine (HPP.out _).mono ?_
            rintro e4 w4 ⟨rfl, k4⟩
            have HK4 := Lib.hid (HKW.out.keeps.trans k4)
            clear k4
            go_wp2_with fail
            refine bodyPost_ret (v := .tuple #[.int .i64 0, .bool false]) (by simp [results, Try.results54, go_sem]) rfl ?_
            exact ⟨by rw [HF.out], HK4.out⟩
          | some n =>
            have hv0 : parP t (-9223372036854775808) 9223372036854775807 = (n, 0) := by rw [HV.out, hv]
            have hy : py = 0 := by rw [← HPXY.out.2, hv0]
            have hn : px = n := by rw [← HPXY.out.1, hv0]
            have hb := valP_bound hv
            have HF := Lib.hid (show kindP (x :: t) = if 1 ≤ n ∧ n ≤ 19 then (0, false) else (n, true) by rw [HN.out.2, HQ.out, hv])
            subst hy
            subst hn
            have HW := Lib.hid (fun w => word_of w px (by omega))
            have e5 : (ByteArray.mk (wordK px).toArray).toList = wordK px := ByteArray.toList_mk _
            have hwk : (wordK px != x :: t) = if 1 ≤ px ∧ px ≤ 19 then true else false := by
              by_cases hr : 1 ≤ px ∧ px ≤ 19
              · rw [if_pos hr]
                have : wordK px = kwF (px - 1).toNat := if_pos hr
                rw [this]
                have := srch_none HN.out.1 (px - 1).toNat (by omega) (by omega)
                simpa using this
              · rw [if_neg hr]
                have : wordK px = 107 :: prnL px := if_neg hr
                rw [this, hb.2.2]
                have hx := HX.out
                have : x = 107 := by rw [← UInt8.toNat_inj]; exact hx
                rw [this]
                simp
            generalize (⟨(wordK px).toArray⟩ : ByteArray) = WB at HW e5
            clear hv hv0 hb
            by_cases hr : 1 ≤ px ∧ px ≤ 19
            · rw [if_pos hr] at HF hwk
              clear hr
              generalize wordK px = wk at *
              have hwk2 : (wk == x :: t) = false := by simpa using hwk
              go_wp2_with fail
              refine (HPP.out _).mono ?_
              rintro e4 w4 ⟨rfl, k4⟩
              have HK4 := Lib.hid (HKW.out.keeps.trans k4)
              clear k4
              go_wp2_with fail
              refine (HW.out _).mono ?_
              rintro e6 w6 ⟨rfl, k6⟩
              have HK6 := Lib.hid (HK4.out.trans k6)
              clear k6
              go_wp2_with fail
              refine bodyPost_ret (v := .tuple #[.int .i64 0, .bool false]) (by simp [results, Try.results54, go_sem]) rfl ?_
              exact ⟨by rw [HF.out], HK6.out⟩
            · rw [if_neg hr] at HF hwk
              clear hr
              generalize wordK px = wk at *
              have hwk2 : (wk == x :: t) = true := by simpa using hwk
              go_wp2_with fail
              refine (HPP.out _).mono ?_
              rintro e4 w4 ⟨rfl, k4⟩
              have HK4 := Lib.hid (HKW.out.keeps.trans k4)
              clear k4
              go_wp2_with fail
              refine (HW.out _).mono ?_
              rintro e6 w6 ⟨rfl, k6⟩
              have HK6 := Lib.hid (HK4.out.trans k6)
              clear k6
              go_wp2_with fail
              refine bodyPost_ret (v := .tuple #[.int .i64 px, .bool true]) (by simp [results, Try.results54, go_sem]) rfl ?_
              exact ⟨by rw [HF.out], HK6.out⟩
        · have hh : hasK (x :: t) = false := decide_eq_false hx
          have HF := Lib.hid (show kindP (x :: t) = (0, false) by rw [HN.out.2]; exact if_neg hx)
          rw [hh]
          clear hh hx
          go_wp2_with fail
          refine (HPP.out _).mono ?_
          rintro e4 w4 ⟨rfl, k4⟩
          have HK4 := Lib.hid (HKW.out.keeps.trans k4)
          clear k4
          go_wp2_with fail
          refine bodyPost_ret (v := .tuple #[.int .i64 0, .bool false]) (by simp [results, Try.results54, go_sem]) rfl ?_
          exact ⟨by rw [HF.out], HK4.out⟩
end Go.Proofs.Ytdjfelabdofaaaa
