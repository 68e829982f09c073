import Derived.Test.YtdjfelabdofaaaaRowAz
import Derived.Test.YtdjfelabdofaaaaNumAz
import Derived.Test.YtdjfelabdofaaaaOpen
import Derived.Test.YtdjfelabdofaaaaRow
namespace Go.Proofs.Ytdjfelabdofaaaa
open Go.ChangeShapes Go.WideShapes Go.ChangeAt Go.RowKit
set_option linter.unusedVariables false
set_option linter.unusedSimpArgs false
/-- A slice of n strings, of which F tells. -/
def StrRow (w : World) (a : Option Addr) (n : Nat) (F : Nat → List UInt8) : Prop := 0 < n → ∃ b off, a = some ⟨b, off, none⟩ ∧ b < w.heap.size ∧ ∀ i, i < n → w.cell? ⟨b, off + i, none⟩ = some (.string ⟨(F i).toArray⟩)
theorem StrRow.below {w w' : World} {a : Option Addr} {n : Nat} {F : Nat → List UInt8} (h : StrRow w a n F) (hk : Below w.heap.size w w') : StrRow w' a n F := by
  intro hn
  obtain ⟨b, off, ha, hb, hc⟩ := h hn
  exact ⟨b, off, ha, Nat.lt_of_lt_of_le hb hk.size, fun i hi => (hk.cell (p := ⟨b, off + i, none⟩) hb).trans (hc i hi)⟩
/-- What Take gives. -/
def takP (F : Nat → List UInt8) (n : Nat) (at' a b : Int) : Int × Int := if at' < 0 ∨ (n : Int) ≤ at' then (0, 4) else parP (F at'.toNat) a b
set_option maxRecDepth 20000 in
set_option maxHeartbeats 1000000 in
theorem take_any (w : World) (N : Int) (A : Option Addr) (n c : Nat) (F : Nat → List UInt8) (at' a b : Int) (hn : n ≤ maxLen) (hr : StrRow w A n F) (hF : ∀ i, i < n → (F i).length ≤ 9223372036854775807) (hat0 : -9223372036854775808 ≤ at' ∧ at' ≤ 9223372036854775807)
    (ha : -9223372036854775808 ≤ a ∧ a ≤ 9223372036854775807) (hb : -9223372036854775808 ≤ b ∧ b ≤ 9223372036854775807) :
    Calls Try.prog 56 #[.agg #[.int .i64 N, .slice A n c], .int .i64 at', .int .i64 a, .int .i64 b] w fun e w' => e = .returned (.tuple #[.int .i64 (takP F n at' a b).1, .int .i64 (takP F n at' a b).2]) ∧ Keeps (fun _ => False) w w' := by
  unfold maxLen at hn
  by_cases h1 : at' < 0
  · have e : takP F n at' a b = (0, 4) := if_pos (.inl h1)
    rw [e]
    have d1 : decide (at' < 0) = true := decide_eq_true h1
    clear hr hF e
    go_enter Try.func56, Try.ntmps56
    go_wp2_with fail
    refine bodyPost_ret (v := .tuple #[.int .i64 0, .int .i64 4]) (by simp [results, Try.results56, go_sem]) rfl ?_
    exact ⟨rfl, (Keeps.refl _ w).alloc _⟩
  have d1 : decide (at' < 0) = false := decide_eq_false h1
  by_cases h2 : (n : Int) ≤ at'
  · have e : takP F n at' a b = (0, 4) := if_pos (.inr h2)
    rw [e]
    have d2 : decide ((n : Int) ≤ at') = true := decide_eq_true h2
    clear hr hF e h1
    go_enter Try.func56, Try.ntmps56
    go_wp2_with fail
    refine bodyPost_ret (v := .tuple #[.int .i64 0, .int .i64 4]) (by simp [results, Try.results56, go_sem]) rfl ?_
    exact ⟨rfl, (Keeps.refl _ w).alloc _⟩
  obtain ⟨k, rfl⟩ : ∃ k : Nat, at' = (k : Int) := ⟨at'.toNat, by omega⟩
  have hat : k < n := by omega
  obtain ⟨g, o, rfl, hg, hc⟩ := hr (by omega)
  have e : takP F n (k : Int) a b = parP (F k) a b := if_neg (by omega)
  rw [e]
  have d2 : decide ((n : Int) ≤ (k : Int)) = false := decide_eq_false h2
  have d3 : decide (n ≤ k) = false := decide_eq_false (by omega)
  have c0 : ∀ x, (w.alloc x).cell? ⟨g, o + k, none⟩ = some (.string ⟨(F k).toArray⟩) := fun x => by
    unfold World.cell?
    rw [Below.heap_alloc _ _ _ hg]
    exact hc k hat
  have HP := Lib.hid (fun w => parse_big w _ (hF _ hat) a b ha hb)
  clear e h1 h2 hc hr hF d1
  generalize (parP (F k) a b).1 = x at *
  generalize (parP (F k) a b).2 = y at *
  generalize (⟨(F k).toArray⟩ : ByteArray) = B at *
  go_enter Try.func56, Try.ntmps56
  go_wp2_with fail
  refine (HP.out _).mono ?_
  rintro e1 w1 ⟨rfl, k1⟩
  have HK := Lib.hid (((Keeps.refl (fun _ => False) w).alloc _).trans k1)
  clear k1
  go_wp2_with fail
  refine bodyPost_ret (v := .tuple #[.int .i64 x, .int .i64 y]) (by simp [results, Try.results56, go_sem]) rfl ?_
  exact ⟨rfl, HK.out⟩
end Go.Proofs.Ytdjfelabdofaaaa
