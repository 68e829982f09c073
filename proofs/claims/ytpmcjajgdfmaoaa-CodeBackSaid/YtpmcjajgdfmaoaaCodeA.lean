import Derived.Test.YtpmcjajgdfmaoaaNumF
import Derived.Test.YtpmcjajgdfmaoaaNumHa
import Derived.Test.YtpmcjajgdfmaoaaRow
namespace Go.Proofs.Ytpmcjajgdfmaoaa
open Go.ChangeShapes Go.WideShapes Go.ChangeAt Go.RowKit
set_option linter.unusedVariables false
set_option linter.unusedSimpArgs false
/-- The words of the kinds, from 1 on. -/
def kwL : List (List UInt8) := [[115, 101, 110, 100], [114, 101, 99, 118], [119, 114, 105, 116, 101], [114, 101, 97, 100], [116, 114, 121], [97, 103, 97, 105, 110], [115, 101, 116], [99, 108, 101, 97, 114], [103, 101, 116], [112, 111, 115, 116], [116, 105, 99, 107], [121, 105, 101, 108, 100], [115, 108, 101, 101, 112], [115, 101, 110, 100, 119, 97, 105, 116], [114, 101, 99, 118, 119, 97, 105, 116], [119, 97, 105, 116, 97, 110, 121], [119, 97, 105, 116, 97, 108, 108], [97, 119, 97, 105, 116], [101, 120, 105, 116]]
def kwF (i : Nat) : List UInt8 := kwL.getD i []
def kxF (i : Nat) : List UInt8 := if i = 0 then [] else kwF (i - 1)
theorem kwF_len (i : Nat) : (kwF i).length ≤ 8 := by
  rcases Nat.lt_or_ge i 19 with h | h
  · have : ∀ i, i < 19 → (kwF i).length ≤ 8 := by decide
    exact this i h
  · unfold kwF
    rw [List.getD_eq_getElem?_getD, List.getElem?_eq_none (by show 19 ≤ i; exact h)]
    simp
/-- Where the words stand. -/
structure KwAt (w w' : World) (n : Nat) (F : Nat → List UInt8) (b : Nat) : Prop where
  cell : ∀ i, i < n → w'.cell? ⟨b, i, none⟩ = some (.string ⟨(F i).toArray⟩)
  lt : b < w'.heap.size
  keeps : Keeps (fun _ => False) w w'
theorem words_any_lits : ∀ i, i < 19 → (#[Value.string ⟨#[115, 101, 110, 100]⟩, Value.string ⟨#[114, 101, 99, 118]⟩, Value.string ⟨#[119, 114, 105, 116, 101]⟩, Value.string ⟨#[114, 101, 97, 100]⟩, Value.string ⟨#[116, 114, 121]⟩, Value.string ⟨#[97, 103, 97, 105, 110]⟩, Value.string ⟨#[115, 101, 116]⟩, Value.string ⟨#[99, 108, 101, 97, 114]⟩, Value.string ⟨#[103, 101, 116]⟩, Value.string ⟨#[112, 111, 115, 116]⟩, Value.string ⟨#[116, 105, 99, 107]⟩, Value.string ⟨#[121, 105, 101, 108, 100]⟩, Value.string ⟨#[115, 108, 101, 101, 112]⟩, Value.string ⟨#[115, 101, 110, 100, 119, 97, 105, 116]⟩, Value.string ⟨#[114, 101, 99, 118, 119, 97, 105, 116]⟩, Value.string ⟨#[119, 97, 105, 116, 97, 110, 121]⟩, Value.string ⟨#[119, 97, 105, 116, 97, 108, 108]⟩, Value.string ⟨#[97, 119, 97, 105, 116]⟩, Value.string ⟨#[101, 120, 105, 116]⟩] : Array Value)[i]? = some (.string ⟨(kwF i).toArray⟩)
  | 0, _ => rfl
  | 1, _ => rfl
  | 2, _ => rfl
  | 3, _ => rfl
  | 4, _ => rfl
  | 5, _ => rfl
  | 6, _ => rfl
  | 7, _ => rfl
  | 8, _ => rfl
  | 9, _ => rfl
  | 10, _ => rfl
  | 11, _ => rfl
  | 12, _ => rfl
  | 13, _ => rfl
  | 14, _ => rfl
  | 15, _ => rfl
  | 16, _ => rfl
  | 17, _ => rfl
  | 18, _ => rfl
  | i + 19, h => by omega
set_option maxRecDepth 20000 in
theorem words_any (w : World) : Calls Try.prog 19 #[] w fun e w' => ∃ b, e = .returned (.slice (some ⟨b, 0, none⟩) 19 19) ∧ KwAt w w' 19 kwF b := by
  go_enter Try.func19, Try.ntmps19
  go_wp2_with fail
  go_ret
  exact ⟨_, rfl, fun i hi => (cell_of (heap_new w _) i).trans (words_any_lits i hi), by simp, (Keeps.refl _ w).alloc _⟩
theorem rwords_any_lits : ∀ i, i < 20 → (#[Value.string ⟨#[]⟩, Value.string ⟨#[115, 101, 110, 100]⟩, Value.string ⟨#[114, 101, 99, 118]⟩, Value.string ⟨#[119, 114, 105, 116, 101]⟩, Value.string ⟨#[114, 101, 97, 100]⟩, Value.string ⟨#[116, 114, 121]⟩, Value.string ⟨#[97, 103, 97, 105, 110]⟩, Value.string ⟨#[115, 101, 116]⟩, Value.string ⟨#[99, 108, 101, 97, 114]⟩, Value.string ⟨#[103, 101, 116]⟩, Value.string ⟨#[112, 111, 115, 116]⟩, Value.string ⟨#[116, 105, 99, 107]⟩, Value.string ⟨#[121, 105, 101, 108, 100]⟩, Value.string ⟨#[115, 108, 101, 101, 112]⟩, Value.string ⟨#[115, 101, 110, 100, 119, 97, 105, 116]⟩, Value.string ⟨#[114, 101, 99, 118, 119, 97, 105, 116]⟩, Value.string ⟨#[119, 97, 105, 116, 97, 110, 121]⟩, Value.string ⟨#[119, 97, 105, 116, 97, 108, 108]⟩, Value.string ⟨#[97, 119, 97, 105, 116]⟩, Value.string ⟨#[101, 120, 105, 116]⟩] : Array Value)[i]? = some (.string ⟨(kxF i).toArray⟩)
  | 0, _ => rfl
  | 1, _ => rfl
  | 2, _ => rfl
  | 3, _ => rfl
  | 4, _ => rfl
  | 5, _ => rfl
  | 6, _ => rfl
  | 7, _ => rfl
  | 8, _ => rfl
  | 9, _ => rfl
  | 10, _ => rfl
  | 11, _ => rfl
  | 12, _ => rfl
  | 13, _ => rfl
  | 14, _ => rfl
  | 15, _ => rfl
  | 16, _ => rfl
  | 17, _ => rfl
  | 18, _ => rfl
  | 19, _ => rfl
  | i + 20, h => by omega
set_option maxRecDepth 20000 in
theorem rwords_any (w : World) : Calls Try.prog 22 #[] w fun e w' => ∃ b, e = .returned (.slice (some ⟨b, 0, none⟩) 20 20) ∧ KwAt w w' 20 kxF b := by
  go_enter Try.func22, Try.ntmps22
  go_wp2_with fail
  go_ret
  exact ⟨_, rfl, fun i hi => (cell_of (heap_new w _) i).trans (rwords_any_lits i hi), by simp, (Keeps.refl _ w).alloc _⟩
/-- The word of a kind. -/
def wordK (k : Int) : List UInt8 := if 1 ≤ k ∧ k ≤ 19 then kwF (k - 1).toNat else 107 :: prnL k
theorem wordK_len (k : Int) (h : -9223372036854775808 ≤ k ∧ k ≤ 9223372036854775807) : (wordK k).length ≤ 22 := by
  unfold wordK
  split
  · have := kwF_len (k - 1).toNat; omega
  · rw [List.length_cons]; have := prnL_len h; omega
set_option maxRecDepth 20000 in
set_option maxHeartbeats 1000000 in
theorem word_of (w : World) (k : Int) (h : -9223372036854775808 ≤ k ∧ k ≤ 9223372036854775807) : Calls Try.prog 11 #[.int .i64 k] w fun e w' => e = .returned (.string ⟨(wordK k).toArray⟩) ∧ Keeps (fun _ => False) w w' := by
  by_cases hk : 1 ≤ k ∧ k ≤ 19
  · obtain ⟨m, rfl⟩ : ∃ m : Nat, k = (m : Int) + 1 := ⟨(k - 1).toNat, by omega⟩
    have e : wordK ((m : Int) + 1) = kwF m := by unfold wordK; rw [if_pos hk, show ((m : Int) + 1 - 1).toNat = m by omega]
    rw [e]
    have hm : m < 19 := by omega
    have d1 : decide ((m : Int) + 1 < 1) = false := decide_eq_false (by omega)
    have d2 : decide ((19 : Int) < (m : Int) + 1) = false := decide_eq_false (by omega)
    have d3 : decide ((1 : Int) ≤ (m : Int) + 1) = true := decide_eq_true (by omega)
    have d4 : decide ((m : Int) + 1 ≤ 19) = true := decide_eq_true (by omega)
    clear hk e
    go_enter Try.func11, Try.ntmps11
    go_wp2_with fail
    refine (words_any w).mono ?_
    rintro e1 w1 ⟨b, rfl, hk⟩
    have c0 : w1.cell? ⟨b, m, none⟩ = some (.string ⟨(kwF m).toArray⟩) := hk.cell m (by omega)
    have HK := Lib.hid hk.keeps
    clear hk
    go_wp2_with fail
    go_ret
    exact ⟨rfl, HK.out⟩
  · have e : wordK k = 107 :: prnL k := if_neg hk
    rw [e]
    have hpz := str_size (prnL k)
    have hpl := prnL_len h
    have hPB : (⟨(prnL k).toArray⟩ : ByteArray) = prnB k := rfl
    rw [hPB] at hpz
    have hS := run_string_add_sum (P := Try.prog)
    have HT := Lib.hid (show (ByteArray.mk #[107]) ++ prnB k = ⟨(107 :: prnL k).toArray⟩ from ByteArray.mk_append_mk [107] _)
    have HP := Lib.hid (print_any w k h)
    clear hPB e
    generalize (⟨(107 :: prnL k).toArray⟩ : ByteArray) = R at *
    generalize prnB k = PB at *
    have FIN : ∀ d1 d2 : Bool, decide (k < 1) = d1 → decide ((19 : Int) < k) = d2 → decide ((1 : Int) ≤ k) = (!d1) → decide (k ≤ 19) = (!d2) → (d1 || d2) = true → Calls Try.prog 11 #[.int .i64 k] w fun e w' => e = .returned (.string R) ∧ Keeps (fun _ => False) w w' := by
      intro d1 d2 h1 h2 h3 h4 h5
      clear hk h
      cases d1
      · cases d2
        · cases h5
        · clear h5
          simp only [Bool.not_false, Bool.not_true] at h3 h4
          clear hS
          go_enter Try.func11, Try.ntmps11
          go_wp2_with fail
          refine HP.out.mono ?_
          rintro e1 w1 ⟨rfl, k1⟩
          have HK := Lib.hid k1
          clear k1
          have hS1 := run_string_add_sum (P := Try.prog) w1 ⟨#[107]⟩ PB (by show 1 + PB.size ≤ _; omega)
          rw [HT.out] at hS1
          go_wp2_with fail
          go_ret
          exact ⟨rfl, HK.out⟩
      · clear h5
        simp only [Bool.not_false, Bool.not_true] at h3
        clear hS h2 h4
        go_enter Try.func11, Try.ntmps11
        go_wp2_with fail
        refine HP.out.mono ?_
        rintro e1 w1 ⟨rfl, k1⟩
        have HK := Lib.hid k1
        clear k1
        have hS1 := run_string_add_sum (P := Try.prog) w1 ⟨#[107]⟩ PB (by show 1 + PB.size ≤ _; omega)
        rw [HT.out] at hS1
        go_wp2_with fail
        go_ret
        exact ⟨rfl, HK.out⟩
    refine FIN _ _ rfl rfl ?_ ?_ ?_
    · by_cases q : k < 1
      · rw [decide_eq_true q, decide_eq_false (by omega)]; rfl
      · rw [decide_eq_false q, decide_eq_true (by omega)]; rfl
    · by_cases q : 19 < k
      · rw [decide_eq_true q, decide_eq_false (by omega)]; rfl
      · rw [decide_eq_false q, decide_eq_true (by omega)]; rfl
    · rw [Bool.or_eq_true, decide_eq_true_eq, decide_eq_true_eq]; omega
set_option maxRecDepth 20000 in
set_option maxHeartbeats 1000000 in
theorem rword_of (w : World) (k : Int) (h : -9223372036854775808 ≤ k ∧ k ≤ 9223372036854775807) : Calls Try.prog 12 #[.int .i64 k] w fun e w' => e = .returned (.string ⟨(wordK k).toArray⟩) ∧ Keeps (fun _ => False) w w' := by
  by_cases hk : 1 ≤ k ∧ k ≤ 19
  · obtain ⟨m, rfl⟩ : ∃ m : Nat, k = (m : Int) + 1 := ⟨(k - 1).toNat, by omega⟩
    have e : wordK ((m : Int) + 1) = kwF m := by unfold wordK; rw [if_pos hk, show ((m : Int) + 1 - 1).toNat = m by omega]
    rw [e]
    have hm : m < 19 := by omega
    have d1 : decide ((m : Int) + 1 < 1) = false := decide_eq_false (by omega)
    have d2 : decide ((19 : Int) < (m : Int) + 1) = false := decide_eq_false (by omega)
    have d3 : decide ((1 : Int) ≤ (m : Int) + 1) = true := decide_eq_true (by omega)
    have d4 : decide ((m : Int) + 1 ≤ 19) = true := decide_eq_true (by omega)
    clear hk e
    go_enter Try.func12, Try.ntmps12
    go_wp2_with fail
    refine (rwords_any w).mono ?_
    rintro e1 w1 ⟨b, rfl, hk⟩
    have c0 : w1.cell? ⟨b, m + 1, none⟩ = some (.string ⟨(kwF m).toArray⟩) := hk.cell (m + 1) (by omega)
    have HK := Lib.hid hk.keeps
    clear hk
    go_wp2_with fail
    go_ret
    exact ⟨rfl, HK.out⟩
  · have e : wordK k = 107 :: prnL k := if_neg hk
    rw [e]
    have hpz := str_size (prnL k)
    have hpl := prnL_len h
    have hPB : (⟨(prnL k).toArray⟩ : ByteArray) = prnB k := rfl
    rw [hPB] at hpz
    have hS := run_string_add_sum (P := Try.prog)
    have HT := Lib.hid (show (ByteArray.mk #[107]) ++ prnB k = ⟨(107 :: prnL k).toArray⟩ from ByteArray.mk_append_mk [107] _)
    have HP := Lib.hid (rprint_any w k h)
    clear hPB e
    generalize (⟨(107 :: prnL k).toArray⟩ : ByteArray) = R at *
    generalize prnB k = PB at *
    have FIN : ∀ d1 d2 : Bool, decide (k < 1) = d1 → decide ((19 : Int) < k) = d2 → decide ((1 : Int) ≤ k) = (!d1) → decide (k ≤ 19) = (!d2) → (d1 || d2) = true → Calls Try.prog 12 #[.int .i64 k] w fun e w' => e = .returned (.string R) ∧ Keeps (fun _ => False) w w' := by
      intro d1 d2 h1 h2 h3 h4 h5
      clear hk h
      cases d1
      · cases d2
        · cases h5
        · clear h5
          simp only [Bool.not_false, Bool.not_true] at h3 h4
          clear hS
          go_enter Try.func12, Try.ntmps12
          go_wp2_with fail
          refine HP.out.mono ?_
          rintro e1 w1 ⟨rfl, rfl⟩
          have HK := Lib.hid (Keeps.refl (fun _ => False) w1)
          have hS1 := run_string_add_sum (P := Try.prog) w1 ⟨#[107]⟩ PB (by show 1 + PB.size ≤ _; omega)
          rw [HT.out] at hS1
          go_wp2_with fail
          go_ret
          exact ⟨rfl, HK.out⟩
      · clear h5
        simp only [Bool.not_false, Bool.not_true] at h3
        clear hS h2 h4
        go_enter Try.func12, Try.ntmps12
        go_wp2_with fail
        refine HP.out.mono ?_
        rintro e1 w1 ⟨rfl, rfl⟩
        have HK := Lib.hid (Keeps.refl (fun _ => False) w1)
        have hS1 := run_string_add_sum (P := Try.prog) w1 ⟨#[107]⟩ PB (by show 1 + PB.size ≤ _; omega)
        rw [HT.out] at hS1
        go_wp2_with fail
        go_ret
        exact ⟨rfl, HK.out⟩
    refine FIN _ _ rfl rfl ?_ ?_ ?_
    · by_cases q : k < 1
      · rw [decide_eq_true q, decide_eq_false (by omega)]; rfl
      · rw [decide_eq_false q, decide_eq_true (by omega)]; rfl
    · by_cases q : 19 < k
      · rw [decide_eq_true q, decide_eq_false (by omega)]; rfl
      · rw [decide_eq_false q, decide_eq_true (by omega)]; rfl
    · rw [Bool.or_eq_true, decide_eq_true_eq, decide_eq_true_eq]; omega
end Go.Proofs.Ytpmcjajgdfmaoaa
