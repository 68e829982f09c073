import Derived.Test.YtpmcjajgdfmaoaaCodeG
namespace Go.Proofs.Ytpmcjajgdfmaoaa
open Go.ChangeShapes Go.WideShapes Go.ChangeAt Go.RowKit
set_option linter.unusedVariables false
set_option linter.unusedSimpArgs false
def opP (F : Nat → List UInt8) (i : Nat) : Int × Int := parP (F i) (if i = 1 then -2147483648 else 0) (if i = 1 then 2147483647 else 4294967295)
/-- The first fault of so many operands from i on. -/
def opsF (F : Nat → List UInt8) : Nat → Nat → Int
  | 0, _ => 0
  | f + 1, i => if (opP F i).2 = 0 then opsF F f (i + 1) else (opP F i).2
def valO (F : Nat → List UInt8) (n i : Nat) : Int := if i < n then (opP F i).1 else 0
/-- The call of the operands ahead of n. -/
def callO (F : Nat → List UInt8) (n : Nat) : CallD := ⟨(kindP (F 0)).1, valO F n 1, valO F n 2, valO F n 3, valO F n 4, valO F n 5, valO F n 6⟩
def zeroC : CallD := ⟨0, 0, 0, 0, 0, 0, 0⟩
/-- The call of a row of words, and the fault. -/
def parseC (n : Nat) (F : Nat → List UInt8) : CallD × Int :=
  if n = 0 then (zeroC, 4) else if 7 < n then (zeroC, 3) else if (kindP (F 0)).2 = false then (zeroC, 3)
  else if opsF F (n - 1) 1 = 0 then (callO F n, 0) else (zeroC, opsF F (n - 1) 1)
theorem opP_bound (F : Nat → List UInt8) (i : Nat) : (i = 1 → -2147483648 ≤ (opP F i).1 ∧ (opP F i).1 ≤ 2147483647) ∧ (i ≠ 1 → 0 ≤ (opP F i).1 ∧ (opP F i).1 ≤ 4294967295) := by
  unfold opP parP
  constructor
  · intro h
    subst h
    simp only [if_true]
    cases valP (F 1) with
    | none => simp
    | some n => by_cases h : n < -2147483648 ∨ 2147483647 < n <;> simp [h] <;> omega
  · intro h
    simp only [if_neg h]
    cases valP (F i) with
    | none => simp
    | some n => by_cases h : n < 0 ∨ 4294967295 < n <;> simp [h] <;> omega
theorem callO_one (F : Nat → List UInt8) : callO F 1 = ⟨(kindP (F 0)).1, 0, 0, 0, 0, 0, 0⟩ := by
  unfold callO valO
  simp
/-- The next operand goes into the next cell. -/
theorem callO_step (F : Nat → List UInt8) (i : Nat) (h1 : 1 ≤ i) (h2 : i ≤ 6) : callC (callO F (i + 1)) = (callC (callO F i)).setIfInBounds i (if i = 1 then .int .i64 (opP F i).1 else .int .u32 (opP F i).1) := by
  rcases (show i = 1 ∨ i = 2 ∨ i = 3 ∨ i = 4 ∨ i = 5 ∨ i = 6 by omega) with rfl | rfl | rfl | rfl | rfl | rfl <;> simp [callC, callO, valO]
theorem put1_any (w : World) (b X : Nat) (n : Int) (cs : Array Value) (hb : w.heap[b]? = some (.cells #[.pointer (some ⟨X, 0, none⟩)] 80 (0, 0))) (hx : w.heap[X]? = some (.cells cs 26 (0, 0))) (hc : cs.size = 7) :
    Calls Try.prog 47 #[.int .i64 n, .pointer (some ⟨b, 0, none⟩)] w fun e w' => e = .returned (.tuple #[]) ∧ w' = w.setCell ⟨X, 1, none⟩ (.int .i64 n) := by
  have c0 : w.cell? ⟨b, 0, none⟩ = some (.pointer (some ⟨X, 0, none⟩)) := by rw [cell_of hb 0]; rfl
  obtain ⟨v, hv⟩ : ∃ v, w.cell? ⟨X, 1, none⟩ = some v := ⟨_, (cell_of hx 1).trans (Array.getElem?_eq_getElem (by omega))⟩
  have f0 := free_of hx 1
  go_enter Try.func47, Try.ntmps47
  go_wp2_with fail
  go_end0
  exact ⟨rfl, rfl⟩
theorem put2_any (w : World) (b X o : Nat) (n : Int) (hn : 0 ≤ n ∧ n ≤ 4294967295) (cs : Array Value) (ho : o < 7) (hb : w.heap[b]? = some (.cells #[.pointer (some ⟨X, o, none⟩)] 92 (0, 0))) (hx : w.heap[X]? = some (.cells cs 26 (0, 0))) (hc : cs.size = 7) :
    Calls Try.prog 48 #[.int .i64 n, .pointer (some ⟨b, 0, none⟩)] w fun e w' => e = .returned (.tuple #[]) ∧ w' = w.setCell ⟨X, o, none⟩ (.int .u32 n) := by
  have c0 : w.cell? ⟨b, 0, none⟩ = some (.pointer (some ⟨X, o, none⟩)) := by rw [cell_of hb 0]; rfl
  obtain ⟨v, hv⟩ : ∃ v, w.cell? ⟨X, o, none⟩ = some v := ⟨_, (cell_of hx o).trans (Array.getElem?_eq_getElem (by omega))⟩
  have f0 := free_of hx o
  go_enter Try.func48, Try.ntmps48
  go_wp2_with fail
  go_end0
  exact ⟨rfl, rfl⟩
theorem put3_any (w : World) (b X : Nat) (n : Int) (hn : 0 ≤ n ∧ n ≤ 4294967295) (cs : Array Value) (hb : w.heap[b]? = some (.cells #[.pointer (some ⟨X, 0, none⟩)] 80 (0, 0))) (hx : w.heap[X]? = some (.cells cs 26 (0, 0))) (hc : cs.size = 7) :
    Calls Try.prog 49 #[.int .i64 n, .pointer (some ⟨b, 0, none⟩)] w fun e w' => e = .returned (.tuple #[]) ∧ w' = w.setCell ⟨X, 6, none⟩ (.int .u32 n) := by
  have c0 : w.cell? ⟨b, 0, none⟩ = some (.pointer (some ⟨X, 0, none⟩)) := by rw [cell_of hb 0]; rfl
  obtain ⟨v, hv⟩ : ∃ v, w.cell? ⟨X, 6, none⟩ = some v := ⟨_, (cell_of hx 6).trans (Array.getElem?_eq_getElem (by omega))⟩
  have f0 := free_of hx 6
  go_enter Try.func49, Try.ntmps49
  go_wp2_with fail
  go_end0
  exact ⟨rfl, rfl⟩
end Go.Proofs.Ytpmcjajgdfmaoaa
