import Derived.Test.YtakaclkhnajpeaaNumA
import Derived.Laws.Strings3
namespace Go.Proofs.Ytakaclkhnajpeaa
open Go.ChangeShapes Go.WideShapes Go.ChangeAt Go.RowKit
set_option linter.unusedVariables false
set_option linter.unusedSimpArgs false
/-- A text's bytes behind one minus. -/
def dig : List UInt8 → List UInt8
  | [] => []
  | x :: t => if x.toNat = 45 then t else x :: t
def negL : List UInt8 → Bool
  | [] => false
  | x :: t => decide (x.toNat = 45)
def isD (x : UInt8) : Bool := decide (48 ≤ x.toNat) && decide (x.toNat ≤ 57)
def val : List UInt8 → Nat → Nat
  | [], n => n
  | x :: t, n => val t (n * 10 + (x.toNat - 48))
theorem val_snoc : ∀ (l : List UInt8) (x : UInt8) (n : Nat), val (l ++ [x]) n = val l n * 10 + (x.toNat - 48)
  | [], x, n => rfl
  | y :: t, x, n => by show val (t ++ [x]) _ = _; rw [val_snoc t x]; rfl
theorem val_lt : ∀ (l : List UInt8) (n k : Nat), l.all isD = true → n < 10 ^ k → val l n < 10 ^ (k + l.length)
  | [], n, k, _, h => h
  | x :: t, n, k, hl, h => by
    rw [List.all_cons, Bool.and_eq_true] at hl
    have h1 := hl.1
    unfold isD at h1
    rw [Bool.and_eq_true, decide_eq_true_eq, decide_eq_true_eq] at h1
    have := val_lt t (n * 10 + (x.toNat - 48)) (k + 1) hl.2 (by rw [Nat.pow_succ]; omega)
    rw [List.length_cons, show k + (t.length + 1) = k + 1 + t.length by omega]
    exact this
/-- The number that a text is the spelling of. -/
def sgn (l : List UInt8) : Int := if negL l then -((val (dig l) 0 : Nat) : Int) else ((val (dig l) 0 : Nat) : Int)
def okL (l : List UInt8) : Bool := decide (0 < (dig l).length) && decide ((dig l).length ≤ 18) && (dig l).all isD && (prnL (sgn l) == l)
def valP (l : List UInt8) : Option Int := if okL l then some (sgn l) else none
/-- What parsing gives: the number and the fault. -/
def parP (l : List UInt8) (a b : Int) : Int × Int := match valP l with
  | none => (0, 3)
  | some n => if n < a ∨ b < n then (0, 2) else (n, 0)
theorem dig_cons (x : UInt8) (t : List UInt8) : dig (x :: t) = if x.toNat = 45 then t else x :: t := rfl
theorem dig_len (l : List UInt8) : (dig l).length ≤ l.length := by
  cases l with
  | nil => simp [dig]
  | cons x t => rw [dig_cons]; split <;> simp
theorem dig_short (l : List UInt8) : decide ((dig l).length < l.length) = negL l := by
  cases l with
  | nil => simp [dig, negL]
  | cons x t =>
    rw [dig_cons]
    show _ = decide (x.toNat = 45)
    by_cases h : x.toNat = 45
    · rw [if_pos h, decide_eq_true h, decide_eq_true]; simp
    · rw [if_neg h, decide_eq_false h, decide_eq_false]; simp
theorem str_size (l : List UInt8) : (ByteArray.mk l.toArray).size = l.length := by rw [ByteArray.size_mk']; simp
/-- One byte of a text. -/
theorem str_index (w : World) (l : List UInt8) (k : Nat) (x : UInt8) (h : l[k]? = some x) :
    (Instr.index 9 (.string ⟨l.toArray⟩) (.int .i64 (k : Int))).run Try.prog w = .ok (.int .u8 (x.toNat : Int)) w := by
  have hk : k < l.length := by
    rcases Nat.lt_or_ge k l.length with h1 | h1
    · exact h1
    · rw [List.getElem?_eq_none h1] at h; cases h
  have hx : l[k] = x := by rw [List.getElem?_eq_getElem hk] at h; exact Option.some.inj h
  rw [run_index_string w 9 _ .i64 k (by kernel_rfl), dif_pos ⟨by omega, by rw [str_size]; omega⟩]
  congr 3
  show ((ByteArray.mk l.toArray)[(k : Int).toNat]'_).toNat = x.toNat
  rw [← hx]
  simp only [Int.toNat_natCast]
  rfl
theorem str_from (w : World) (x : UInt8) (t : List UInt8) :
    (Instr.slice 9 (.string ⟨(x :: t).toArray⟩) (some (.int .i64 1)) none none).run Try.prog w = .ok (.string ⟨t.toArray⟩) w := by
  rw [run_slice_string_from_if w 9 _ .i64 1 (by kernel_rfl), if_pos ⟨by omega, by rw [str_size, List.length_cons]; omega⟩, ByteArray.extract_mk]
  congr 3
  rw [str_size, List.length_cons]
  simp
theorem str_to (w : World) (x : UInt8) (t : List UInt8) :
    (Instr.slice 9 (.string ⟨(x :: t).toArray⟩) none (some (.int .i64 1)) none).run Try.prog w = .ok (.string ⟨#[x]⟩) w := by
  rw [run_slice_string_to_if w 9 _ .i64 1 (by kernel_rfl), if_pos ⟨by omega, by rw [str_size, List.length_cons]; omega⟩, ByteArray.extract_mk]
  rfl
set_option maxRecDepth 20000 in
theorem prefix_any (w : World) (l : List UInt8) (hl : l.length ≤ 9223372036854775807) :
    Calls Try.prog 49 #[.string ⟨l.toArray⟩, .string { data := #[45] }] w fun e w' => e = .returned (.bool (negL l)) ∧ w' = w := by
  cases l with
  | nil =>
    go_enter Try.func49, Try.ntmps49
    go_wp2_with fail
    go_ret
    exact ⟨rfl, rfl⟩
  | cons x t =>
    have h1 := str_to w x t
    have h2 : negL (x :: t) = (x == (45 : UInt8)) := by
      unfold negL
      rw [Bool.eq_iff_iff, decide_eq_true_eq]
      simp [← UInt8.toNat_inj]
    rw [h2]
    have hs := str_size (x :: t)
    rw [List.length_cons] at hs hl
    generalize (⟨(x :: t).toArray⟩ : ByteArray) = B at h1 hs ⊢
    clear h2
    go_enter Try.func49, Try.ntmps49
    go_wp2_with fail
    go_ret
    exact ⟨rfl, rfl⟩
set_option maxRecDepth 20000 in
theorem trims_any (w : World) (l : List UInt8) (hl : l.length ≤ 9223372036854775807) :
    Calls Try.prog 46 #[.string ⟨l.toArray⟩, .string { data := #[45] }] w fun e w' => e = .returned (.string ⟨(dig l).toArray⟩) ∧ w' = w := by
  have HC := Lib.hid (prefix_any w l hl)
  by_cases hq : negL l = true
  · obtain ⟨x, t, rfl⟩ : ∃ x t, l = x :: t := by
      cases l with
      | nil => cases hq
      | cons x t => exact ⟨x, t, rfl⟩
    have e : dig (x :: t) = t := by rw [dig_cons, if_pos (of_decide_eq_true hq)]
    have h1 := str_from w x t
    rw [e]
    rw [hq] at HC
    generalize (⟨(x :: t).toArray⟩ : ByteArray) = B at h1 HC ⊢
    generalize (⟨t.toArray⟩ : ByteArray) = D at h1 ⊢
    go_enter Try.func46, Try.ntmps46
    go_wp2_with fail
    refine HC.out.mono ?_
    rintro e1 w1 ⟨rfl, rfl⟩
    go_wp2_with fail
    go_ret
    exact ⟨rfl, rfl⟩
  · have hq' : negL l = false := by simpa using hq
    have e : dig l = l := by
      cases l with
      | nil => rfl
      | cons x t => rw [dig_cons, if_neg (of_decide_eq_false hq')]
    rw [e]
    rw [hq'] at HC
    generalize (⟨l.toArray⟩ : ByteArray) = B at HC ⊢
    go_enter Try.func46, Try.ntmps46
    go_wp2_with fail
    refine HC.out.mono ?_
    rintro e1 w1 ⟨rfl, rfl⟩
    go_wp2_with fail
    go_ret
    exact ⟨rfl, rfl⟩
set_option maxRecDepth 20000 in
theorem trim_any (w : World) (l : List UInt8) (hl : l.length ≤ 9223372036854775807) :
    Calls Try.prog 40 #[.string ⟨l.toArray⟩, .string { data := #[45] }] w fun e w' => e = .returned (.string ⟨(dig l).toArray⟩) ∧ w' = w := by
  have HC := Lib.hid (trims_any w l hl)
  generalize (⟨(dig l).toArray⟩ : ByteArray) = D at HC ⊢
  generalize (⟨l.toArray⟩ : ByteArray) = B at HC ⊢
  go_enter Try.func40, Try.ntmps40
  go_wp2_with fail
  refine HC.out.mono ?_
  rintro e1 w1 ⟨rfl, rfl⟩
  go_wp2_with fail
  go_ret
  exact ⟨rfl, rfl⟩
end Go.Proofs.Ytakaclkhnajpeaa
