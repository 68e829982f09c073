import Derived.Test.YtakaclkhnajpeaaNumD
namespace Go.Proofs.Ytakaclkhnajpeaa
open Go.ChangeShapes Go.WideShapes Go.ChangeAt Go.RowKit
set_option linter.unusedVariables false
set_option linter.unusedSimpArgs false
theorem outside_any (w : World) (n a b : Int) (p q : Nat) (hp : w.cell? ⟨p, 0, none⟩ = some (.int .i64 a)) (hq : w.cell? ⟨q, 0, none⟩ = some (.int .i64 b)) :
    Calls Try.prog 35 #[.int .i64 n, .pointer (some ⟨p, 0, none⟩), .pointer (some ⟨q, 0, none⟩)] w fun e w' => e = .returned (.bool (decide (n < a ∨ b < n))) ∧ w' = w := by
  by_cases h1 : n < a
  · have g1 : decide (n < a) = true := decide_eq_true h1
    go_enter Try.func35, Try.ntmps35
    go_wp2_with fail
    go_ret
    exact ⟨by first | rfl | (rw [decide_eq_true (Or.inl h1)]; rfl), rfl⟩
  · have g1 : decide (n < a) = false := decide_eq_false h1
    by_cases h2 : b < n
    · have g2 : decide (b < n) = true := decide_eq_true h2
      go_enter Try.func35, Try.ntmps35
      go_wp2_with fail
      go_ret
      exact ⟨by first | rfl | (rw [decide_eq_true (Or.inr h2)]; rfl), rfl⟩
    · have g2 : decide (b < n) = false := decide_eq_false h2
      go_enter Try.func35, Try.ntmps35
      go_wp2_with fail
      go_ret
      exact ⟨by first | rfl | (rw [decide_eq_false (by omega : ¬ (n < a ∨ b < n))]; rfl), rfl⟩
set_option maxRecDepth 20000 in
theorem parse_big (w : World) (l : List UInt8) (hl : l.length ≤ 9223372036854775807) (a b : Int) (ha : -9223372036854775808 ≤ a ∧ a ≤ 9223372036854775807) (hb : -9223372036854775808 ≤ b ∧ b ≤ 9223372036854775807) :
    Calls Try.prog 31 #[.string ⟨l.toArray⟩, .int .i64 a, .int .i64 b] w fun e w' => e = .returned (.tuple #[.int .i64 (parP l a b).1, .int .i64 (parP l a b).2]) ∧ Keeps (fun _ => False) w w' := by
  have HV := Lib.hid (fun w => value_any w l hl)
  have HP := Lib.hid (show parP l a b = match valP l with
    | none => (0, 3)
    | some n => if n < a ∨ b < n then (0, 2) else (n, 0) from rfl)
  have HQ := Lib.hid (show valP l = if okL l then some (sgn l) else none from rfl)
  generalize (⟨l.toArray⟩ : ByteArray) = B at HV ⊢
  go_enter Try.func31, Try.ntmps31
  go_wp2_with fail
  refine (HV.out _).mono ?_
  rintro e2 w2 ⟨v, rfl, hv, k2⟩
  have b1 := k2.at (heap_old (heap_new w (Obj.cells #[Value.int IntKind.i64 a] 3)) (Obj.cells #[Value.int IntKind.i64 b] 3)) (fun h => h)
  have b2 := k2.at (heap_new (w.alloc (Obj.cells #[Value.int IntKind.i64 a] 3)) (Obj.cells #[Value.int IntKind.i64 b] 3)) (fun h => h)
  have hz : (w.alloc (Obj.cells #[Value.int IntKind.i64 a] 3)).heap.size = w.heap.size + 1 := by simp
  rw [hz] at b2
  have HK := Lib.hid ((((Keeps.refl (fun _ => False) w).alloc (Obj.cells #[Value.int IntKind.i64 a] 3)).alloc (Obj.cells #[Value.int IntKind.i64 b] 3)).trans k2)
  have HC := Lib.hid (And.intro b1 b2)
  clear b1 b2 hz k2
  cases ho : okL l with
  | false =>
    have HE := Lib.hid (show parP l a b = (0, 3) from by rw [HP.out, HQ.out, ho]; rfl)
    clear ho hv
    go_wp2_with fail
    refine bodyPost_ret (v := .tuple #[.int .i64 0, .int .i64 3]) (by simp [results, Try.results31, go_sem]) rfl ?_
    exact ⟨by rw [HE.out], HK.out⟩
  | true =>
    have HE := Lib.hid (show parP l a b = if v < a ∨ b < v then (0, 2) else (v, 0) from by rw [HP.out, HQ.out, ho, hv ho]; rfl)
    clear ho hv
    go_wp2_with fail
    refine (outside_any w2 v a b _ _ (cell_of HC.out.1 0) (cell_of HC.out.2 0)).mono ?_
    rintro e3 w3 ⟨rfl, rfl⟩
    by_cases hc : v < a ∨ b < v
    · have HE2 := Lib.hid (show parP l a b = (0, 2) from by rw [HE.out, if_pos hc])
      rw [decide_eq_true hc]
      clear hc
      go_wp2_with fail
      refine bodyPost_ret (v := .tuple #[.int .i64 0, .int .i64 2]) (by simp [results, Try.results31, go_sem]) rfl ?_
      exact ⟨by rw [HE2.out], HK.out⟩
    · have HE2 := Lib.hid (show parP l a b = (v, 0) from by rw [HE.out, if_neg hc])
      rw [decide_eq_false hc]
      clear hc
      go_wp2_with fail
      refine bodyPost_ret (v := .tuple #[.int .i64 v, .int .i64 0]) (by simp [results, Try.results31, go_sem]) rfl ?_
      exact ⟨by rw [HE2.out], HK.out⟩
theorem parse_any (w : World) (l : List UInt8) (hl : l.length < 1000000) (a b : Int) (ha : -9223372036854775808 ≤ a ∧ a ≤ 9223372036854775807) (hb : -9223372036854775808 ≤ b ∧ b ≤ 9223372036854775807) :
    Calls Try.prog 31 #[.string ⟨l.toArray⟩, .int .i64 a, .int .i64 b] w fun e w' => e = .returned (.tuple #[.int .i64 (parP l a b).1, .int .i64 (parP l a b).2]) ∧ Keeps (fun _ => False) w w' := parse_big w l (by omega) a b ha hb
end Go.Proofs.Ytakaclkhnajpeaa
