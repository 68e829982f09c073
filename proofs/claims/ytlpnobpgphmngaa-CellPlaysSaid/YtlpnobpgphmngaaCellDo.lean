import Derived.Test.YtlpnobpgphmngaaCellMore
import Derived.Test.YtlpnobpgphmngaaOpen
namespace Go.Proofs.Ytlpnobpgphmngaa
open Go.ChangeShapes Go.WideShapes Go.ChangeAt Go.RowKit
set_option linter.unusedVariables false

/-- What may have become of the memory: all words but one are as they were. -/
def Did (w w' : World) (b q n : Nat) (N : Nat → Nat) (i : Int) : Prop :=
  ∃ N' : Nat → Nat, IsMem w' b q n N' ∧ (∀ k : Nat, (k : Int) ≠ i → N' k = N k) ∧ (∀ k, k < n → N' k < 4294967296) ∧ Keeps (fun k => k = b ∨ k = q) w w'
theorem did_same {w w' : World} {b q n : Nat} {N : Nat → Nat} {i : Int} (h : IsMem w b q n N) (hN : ∀ k, k < n → N k < 4294967296) (hk : Keeps (fun _ => False) w w') : Did w w' b q n N i :=
  ⟨N, h.keeps hk (fun h => h) (fun h => h), fun _ _ => rfl, hN, hk.mono fun _ _ h => h.elim⟩
theorem did_set {w w' : World} {b q n : Nat} {N : Nat → Nat} (i v : Nat) (h : IsMem w' b q n (fun k => if k = i then v else N k)) (hN : ∀ k, k < n → N k < 4294967296) (hv : v < 4294967296) (hk : Keeps (fun k => k = b ∨ k = q) w w') : Did w w' b q n N i :=
  ⟨_, h, fun k hki => if_neg (by omega), fun k hkn => by show (if k = i then v else N k) < _; split; exact hv; exact hN k hkn, hk⟩

theorem load_did (b q n : Nat) (N : Nat → Nat) (i : Int) (w : World) (h : IsMem w b q n N) (hN : ∀ k, k < n → N k < 4294967296) :
    Calls Try.prog 76 #[.pointer (some ⟨b, 0, none⟩), .int .i64 i] w fun e w' => ∃ x r, e = .returned (.tuple #[.int .u32 x, .bool r]) ∧ Did w w' b q n N i := by
  by_cases hi : 0 ≤ i ∧ i < n
  · obtain ⟨j, rfl⟩ := Int.eq_ofNat_of_zero_le hi.1
    exact (load_yes b q n N j w h (by omega)).mono fun e w' ⟨h1, h2, h3⟩ => ⟨_, _, h1, N, h2, fun _ _ => rfl, hN, h3.mono fun _ _ h => .inl h⟩
  · exact (load_no b q n N i w h hi).mono fun e w' ⟨h1, h2⟩ => ⟨_, _, h1, h2 ▸ did_same h hN (Keeps.refl _ _)⟩
theorem store_did (b q n : Nat) (N : Nat → Nat) (i : Int) (v : Nat) (w : World) (h : IsMem w b q n N) (hN : ∀ k, k < n → N k < 4294967296) (hv : v < 4294967296) :
    Calls Try.prog 77 #[.pointer (some ⟨b, 0, none⟩), .int .i64 i, .int .u32 v] w fun e w' => ∃ r, e = .returned (.bool r) ∧ Did w w' b q n N i := by
  by_cases hi : 0 ≤ i ∧ i < n
  · obtain ⟨j, rfl⟩ := Int.eq_ofNat_of_zero_le hi.1
    exact (store_yes b q n N j v w h (by omega)).mono fun e w' ⟨h1, h2, h3⟩ => ⟨_, h1, did_set j v h2 hN hv h3⟩
  · exact (store_no b q n N i v w h hi).mono fun e w' ⟨h1, h2⟩ => ⟨_, h1, h2 ▸ did_same h hN (Keeps.refl _ _)⟩
theorem swap_did (b q n : Nat) (N : Nat → Nat) (i : Int) (v : Nat) (w : World) (h : IsMem w b q n N) (hN : ∀ k, k < n → N k < 4294967296) (hv : v < 4294967296) :
    Calls Try.prog 78 #[.pointer (some ⟨b, 0, none⟩), .int .i64 i, .int .u32 v] w fun e w' => ∃ x r, e = .returned (.tuple #[.int .u32 x, .bool r]) ∧ Did w w' b q n N i := by
  by_cases hi : 0 ≤ i ∧ i < n
  · obtain ⟨j, rfl⟩ := Int.eq_ofNat_of_zero_le hi.1
    exact (swap_yes b q n N j v w h (by omega) (hN j (by omega)) hv).mono fun e w' ⟨h1, h2, h3⟩ => ⟨_, _, h1, did_set j _ h2 hN hv h3⟩
  · exact (swap_no b q n N i v w h hi).mono fun e w' ⟨h1, h2⟩ => ⟨_, _, h1, did_same h hN h2⟩
theorem or_did (b q n : Nat) (N : Nat → Nat) (i : Int) (v : Nat) (w : World) (h : IsMem w b q n N) (hN : ∀ k, k < n → N k < 4294967296) (hv : v < 4294967296) :
    Calls Try.prog 74 #[.pointer (some ⟨b, 0, none⟩), .int .i64 i, .int .u32 v] w fun e w' => ∃ x r, e = .returned (.tuple #[.int .u32 x, .bool r]) ∧ Did w w' b q n N i := by
  by_cases hi : 0 ≤ i ∧ i < n
  · obtain ⟨j, rfl⟩ := Int.eq_ofNat_of_zero_le hi.1
    exact (or_yes b q n N j v w h (by omega) (hN j (by omega)) hv).mono fun e w' ⟨h1, h2, h3⟩ => ⟨_, _, h1, did_set j _ h2 hN (Nat.or_lt_two_pow (n := 32) (hN j (by omega)) hv) h3⟩
  · exact (or_no b q n N i v w h hi).mono fun e w' ⟨h1, h2⟩ => ⟨_, _, h1, did_same h hN h2⟩
theorem and_did (b q n : Nat) (N : Nat → Nat) (i : Int) (v : Nat) (w : World) (h : IsMem w b q n N) (hN : ∀ k, k < n → N k < 4294967296) (hv : v < 4294967296) :
    Calls Try.prog 75 #[.pointer (some ⟨b, 0, none⟩), .int .i64 i, .int .u32 v] w fun e w' => ∃ x r, e = .returned (.tuple #[.int .u32 x, .bool r]) ∧ Did w w' b q n N i := by
  by_cases hi : 0 ≤ i ∧ i < n
  · obtain ⟨j, rfl⟩ := Int.eq_ofNat_of_zero_le hi.1
    exact (and_yes b q n N j v w h (by omega) (hN j (by omega)) hv).mono fun e w' ⟨h1, h2, h3⟩ => ⟨_, _, h1, did_set j _ h2 hN (Nat.lt_of_le_of_lt Nat.and_le_right hv) h3⟩
  · exact (and_no b q n N i v w h hi).mono fun e w' ⟨h1, h2⟩ => ⟨_, _, h1, did_same h hN h2⟩

/-- The law's own do: one act, whatever it is. -/
theorem do_any (b q n : Nat) (N : Nat → Nat) (kind i : Int) (v : Nat) (w : World) (h : IsMem w b q n N) (hN : ∀ k, k < n → N k < 4294967296) (hv : v < 4294967296) :
    Calls Try.prog 52 #[.pointer (some ⟨b, 0, none⟩), .agg #[.int .i64 kind, .int .i64 i, .int .u32 v]] w fun e w' => ∃ x r, e = .returned (.tuple #[.int .u32 x, .bool r]) ∧ Did w w' b q n N i := by
  have ka : Keeps (fun _ => False) w (w.alloc (.cells #[.int .i64 kind, .int .i64 i, .int .u32 v] 86)) := (Keeps.refl _ _).alloc _
  have HM := Lib.hid (h.none ka)
  have HN := Lib.hid hN
  have HK := Lib.hid ka
  have HH := Lib.hid h
  clear h hN ka
  have fin : ∀ (w' : World), Did (w.alloc (.cells #[.int .i64 kind, .int .i64 i, .int .u32 v] 86)) w' b q n N i → Did w w' b q n N i := fun w' ⟨N', h1, h2, h3, h4⟩ => ⟨N', h1, h2, h3, (HK.out.mono fun _ _ h => h.elim).trans h4⟩
  have FIN := Lib.hid fin
  clear fin
  by_cases k1 : kind = 1
  · subst k1
    go_enter Try.func52, Try.ntmps52
    go_wp2_with fail
    refine (load_did _ _ _ _ _ _ HM.out HN.out).mono ?_
    rintro e w1 ⟨x, r, rfl, hd⟩
    go_wp2
    exact bodyPost_ret (v := .tuple #[.int .u32 x, .bool r]) (by simp [results, Try.results52, go_sem]) rfl ⟨_, _, rfl, FIN.out _ hd⟩
  by_cases k2 : kind = 2
  · subst k2
    go_enter Try.func52, Try.ntmps52
    go_wp2_with fail
    refine (store_did _ _ _ _ _ _ _ HM.out HN.out hv).mono ?_
    rintro e w1 ⟨r, rfl, hd⟩
    go_wp2
    exact bodyPost_ret (v := .tuple #[.int .u32 0, .bool r]) (by simp [results, Try.results52, go_sem]) rfl ⟨_, _, rfl, FIN.out _ hd⟩
  by_cases k3 : kind = 3
  · subst k3
    go_enter Try.func52, Try.ntmps52
    go_wp2_with fail
    refine (swap_did _ _ _ _ _ _ _ HM.out HN.out hv).mono ?_
    rintro e w1 ⟨x, r, rfl, hd⟩
    go_wp2
    exact bodyPost_ret (v := .tuple #[.int .u32 x, .bool r]) (by simp [results, Try.results52, go_sem]) rfl ⟨_, _, rfl, FIN.out _ hd⟩
  by_cases k4 : kind = 4
  · subst k4
    go_enter Try.func52, Try.ntmps52
    go_wp2_with fail
    refine (or_did _ _ _ _ _ _ _ HM.out HN.out hv).mono ?_
    rintro e w1 ⟨x, r, rfl, hd⟩
    go_wp2
    exact bodyPost_ret (v := .tuple #[.int .u32 x, .bool r]) (by simp [results, Try.results52, go_sem]) rfl ⟨_, _, rfl, FIN.out _ hd⟩
  by_cases k5 : kind = 5
  · subst k5
    go_enter Try.func52, Try.ntmps52
    go_wp2_with fail
    refine (and_did _ _ _ _ _ _ _ HM.out HN.out hv).mono ?_
    rintro e w1 ⟨x, r, rfl, hd⟩
    go_wp2
    exact bodyPost_ret (v := .tuple #[.int .u32 x, .bool r]) (by simp [results, Try.results52, go_sem]) rfl ⟨_, _, rfl, FIN.out _ hd⟩
  have e1 : decide (kind = 1) = false := by simp [k1]
  have e2 : decide (kind = 2) = false := by simp [k2]
  have e3 : decide (kind = 3) = false := by simp [k3]
  have e4 : decide (kind = 4) = false := by simp [k4]
  have e5 : decide (kind = 5) = false := by simp [k5]
  go_enter Try.func52, Try.ntmps52
  go_wp2
  exact bodyPost_ret (v := .tuple #[.int .u32 0, .bool false]) (by simp [results, Try.results52, go_sem]) rfl ⟨_, _, rfl, did_same HH.out HN.out HK.out⟩

theorem alive06_any (w : World) : Calls Try.prog 49 #[] w fun e w' => e = .returned (.bool true) ∧ Below w.heap.size w w' := by
  have HN := Lib.hid (new_any 2 (by omega) w)
  go_enter Try.func49, Try.ntmps49
  go_wp2_with fail
  refine HN.out.mono ?_
  rintro e w1 ⟨rfl, h1, k1⟩
  have H1 := Lib.hid h1
  clear h1 HN
  go_wp2_with fail
  refine (or_yes _ _ _ _ 1 5 _ H1.out (by omega) (by omega) (by omega)).mono ?_
  rintro e w2 ⟨rfl, h2, k2⟩
  have H2 := Lib.hid h2
  clear h2 H1
  go_wp2_with fail
  refine (and_yes _ _ _ _ 1 4 _ H2.out (by omega) (by decide) (by omega)).mono ?_
  rintro e w3 ⟨rfl, h3, k3⟩
  have H3 := Lib.hid h3
  clear h3 H2
  go_wp2_with fail
  refine (load_yes _ _ _ _ 1 _ H3.out (by omega)).mono ?_
  rintro e w4 ⟨rfl, h4, k4⟩
  have H4 := Lib.hid h4
  clear h4 H3
  go_wp2_with fail
  refine (len_any _ _ _ _ _ H4.out).mono ?_
  rintro e w5 ⟨rfl, rfl⟩
  go_wp2
  go_ret
  have g : Keeps (fun k => k = w.heap.size + 1 ∨ k = w.heap.size) w w4 := (((k1.mono fun _ _ h => h.elim).trans k2).trans k3).trans (k4.mono fun _ _ h => .inl h)
  exact ⟨rfl, g.below (Nat.le_refl _) fun k _ h => by omega⟩
end Go.Proofs.Ytlpnobpgphmngaa
