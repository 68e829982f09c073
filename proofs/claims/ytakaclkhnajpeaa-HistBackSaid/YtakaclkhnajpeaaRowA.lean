import Derived.Test.YtakaclkhnajpeaaNumC
import Derived.Test.YtakaclkhnajpeaaShelf
namespace Go.Proofs.Ytakaclkhnajpeaa
open Go.ChangeShapes Go.WideShapes Go.ChangeAt Go.RowKit
set_option linter.unusedVariables false
set_option linter.unusedSimpArgs false
/-- A text cut at the first byte c: what is ahead of it, what is behind it. -/
def cutAt (c : UInt8) : List UInt8 → List UInt8 × List UInt8
  | [] => ([], [])
  | x :: t => if x = c then ([], t) else (x :: (cutAt c t).1, (cutAt c t).2)
theorem cutAt_cases (c : UInt8) : ∀ l : List UInt8, (Lib.indexByte l c = -1 ∧ cutAt c l = (l, []) ∧ c ∉ l) ∨ (∃ p q, l = p ++ c :: q ∧ Lib.indexByte l c = (p.length : Int) ∧ cutAt c l = (p, q) ∧ c ∉ p)
  | [] => .inl ⟨rfl, rfl, by simp⟩
  | x :: t => by
    by_cases h : x = c
    · subst h
      refine .inr ⟨[], t, rfl, ?_, ?_, by simp⟩
      · unfold Lib.indexByte; simp
      · unfold cutAt; simp
    · have hb : (x == c) = false := by simpa using h
      rcases cutAt_cases c t with ⟨h1, h2, h3⟩ | ⟨p, q, h1, h2, h3, h4⟩
      · refine .inl ⟨?_, ?_, ?_⟩
        · unfold Lib.indexByte; rw [hb, h1]; rfl
        · unfold cutAt; rw [if_neg h, h2]
        · intro hm
          rcases List.mem_cons.1 hm with hm | hm
          · exact h hm.symm
          · exact h3 hm
      · refine .inr ⟨x :: p, q, by rw [h1]; rfl, ?_, ?_, ?_⟩
        · unfold Lib.indexByte
          rw [hb, h2]
          have : ((p.length : Int) == -1) = false := by rw [beq_eq_false_iff_ne]; omega
          simp [this]
        · unfold cutAt; rw [if_neg h, h3]
        · intro hm
          rcases List.mem_cons.1 hm with hm | hm
          · exact h hm.symm
          · exact h4 hm
theorem str_to_n (w : World) (p t : List UInt8) :
    (Instr.slice 9 (.string ⟨(p ++ t).toArray⟩) none (some (.int .i64 (p.length : Int))) none).run Try.prog w = .ok (.string ⟨p.toArray⟩) w := by
  rw [run_slice_string_to_if w 9 _ .i64 _ (by kernel_rfl), if_pos ⟨by omega, by rw [str_size, List.length_append]; omega⟩, ByteArray.extract_mk]
  congr 4
  simp
theorem str_from_n (w : World) (p t : List UInt8) (c : UInt8) :
    (Instr.slice 9 (.string ⟨(p ++ c :: t).toArray⟩) (some (.int .i64 ((p.length : Int) + 1))) none none).run Try.prog w = .ok (.string ⟨t.toArray⟩) w := by
  rw [run_slice_string_from_if w 9 _ .i64 _ (by kernel_rfl), if_pos ⟨by omega, by rw [str_size, List.length_append, List.length_cons]; omega⟩, ByteArray.extract_mk, str_size]
  congr 4
  rw [show ((p.length : Int) + 1).toNat = (p ++ [c]).length by rw [List.length_append]; simp, show p ++ c :: t = (p ++ [c]) ++ t by simp, List.drop_left, List.take_of_length_le]
  simp only [List.length_append]
  omega
set_option maxRecDepth 20000 in
theorem cuts_any (w : World) (l : List UInt8) (c : UInt8) (hl : l.length < 9223372036854775807) :
    Calls Try.prog 34 #[.string ⟨l.toArray⟩, .string ⟨#[c]⟩] w fun e w' => ∃ b, e = .returned (.tuple #[.string ⟨(cutAt c l).1.toArray⟩, .string ⟨(cutAt c l).2.toArray⟩, .bool b]) ∧ ∃ n, w' = w.drewN n := by
  have HI := Lib.hid (Try.stringslite_Index_one ⟨l.toArray⟩ c w)
  have hBs := str_size l
  have hTz : (ByteArray.mk #[c]).size = 1 := rfl
  rcases cutAt_cases c l with ⟨h1, h2, _⟩ | ⟨p, q, h1, h2, h3, _⟩
  · rw [h2]
    rw [show (ByteArray.mk l.toArray).data.toList = l from rfl, h1] at HI
    clear h1 h2
    generalize (⟨l.toArray⟩ : ByteArray) = B at *
    generalize (⟨#[c]⟩ : ByteArray) = T at *
    go_enter Try.func34, Try.ntmps34
    go_wp2_with fail
    refine HI.out.mono ?_
    rintro e1 w1 ⟨rfl, rfl⟩
    go_wp2_with fail
    refine bodyPost_ret (v := .tuple #[.string B, .string ⟨#[]⟩, .bool false]) (by simp [results, Try.results34, go_sem]) rfl ?_
    exact ⟨_, rfl, 0, rfl⟩
  · rw [h3]
    rw [show (ByteArray.mk l.toArray).data.toList = l from rfl, h2] at HI
    subst h1
    have hs1 := fun w => str_to_n w p (c :: q)
    have hs2 := fun w => str_from_n w p q c
    have hpl : p.length < 9223372036854775806 := by simp at hl; omega
    rw [show (p ++ c :: q).length = p.length + (q.length + 1) by simp] at hBs
    clear h2 h3
    generalize (⟨(p ++ c :: q).toArray⟩ : ByteArray) = B at *
    generalize (⟨#[c]⟩ : ByteArray) = T at *
    generalize (⟨p.toArray⟩ : ByteArray) = X at *
    generalize (⟨q.toArray⟩ : ByteArray) = Y at *
    have hwr : IntKind.i64.wrap ((p.length : Int) + 1) = (p.length : Int) + 1 := by rw [IntKind.wrap_i64]; omega
    go_enter Try.func34, Try.ntmps34
    go_wp2_with fail
    refine HI.out.mono ?_
    rintro e1 w1 ⟨rfl, rfl⟩
    go_wp2_with fail
    go_quiet (fail)
    go_wp2_with fail
    refine bodyPost_ret (v := .tuple #[.string X, .string Y, .bool true]) (by simp [results, Try.results34, go_sem]) rfl ?_
    exact ⟨_, rfl, _, rfl⟩
set_option maxRecDepth 20000 in
theorem cut_any (w : World) (l : List UInt8) (c : UInt8) (hl : l.length < 9223372036854775807) :
    Calls Try.prog 28 #[.string ⟨l.toArray⟩, .string ⟨#[c]⟩] w fun e w' => ∃ b, e = .returned (.tuple #[.string ⟨(cutAt c l).1.toArray⟩, .string ⟨(cutAt c l).2.toArray⟩, .bool b]) ∧ ∃ n, w' = w.drewN n := by
  have HI := Lib.hid (cuts_any w l c hl)
  generalize (⟨l.toArray⟩ : ByteArray) = B at *
  generalize (⟨(cutAt c l).1.toArray⟩ : ByteArray) = X at *
  generalize (⟨(cutAt c l).2.toArray⟩ : ByteArray) = Y at *
  generalize (⟨#[c]⟩ : ByteArray) = T at *
  go_enter Try.func28, Try.ntmps28
  go_wp2_with fail
  refine HI.out.mono ?_
  rintro e1 w1 ⟨b, rfl, n, rfl⟩
  go_wp2_with fail
  refine bodyPost_ret (v := .tuple #[.string X, .string Y, .bool b]) (by simp [results, Try.results28, go_sem]) rfl ?_
  exact ⟨b, rfl, n, rfl⟩
theorem cutAt_len (c : UInt8) (l : List UInt8) : (cutAt c l).1.length ≤ l.length ∧ (cutAt c l).2.length ≤ l.length ∧ (l ≠ [] → (cutAt c l).2.length < l.length) := by
  rcases cutAt_cases c l with ⟨_, h2, _⟩ | ⟨p, q, h1, _, h3, _⟩
  · rw [h2]
    exact ⟨Nat.le_refl _, Nat.zero_le _, fun h => List.length_pos_iff.2 h⟩
  · rw [h3, h1]
    simp only [List.length_append, List.length_cons]
    exact ⟨by omega, by omega, fun _ => by omega⟩
end Go.Proofs.Ytakaclkhnajpeaa
