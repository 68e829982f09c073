import Derived.Test.YtdjfelabdofaaaaTextR
import Derived.Test.YtdjfelabdofaaaaRowGa
namespace Go.Proofs.Ytdjfelabdofaaaa
open Go.ChangeShapes Go.WideShapes Go.ChangeAt Go.RowKit
set_option linter.unusedVariables false
set_option linter.unusedSimpArgs false
/-- A row of words, as a value. -/
@[reducible] def rowV (N : Int) (A : Option Addr) (n c : Nat) : Value := .agg #[.int .i64 N, .slice A n c]
/-- No fault. -/
theorem check_ok (w : World) : Calls Try.prog 42 #[.int .i64 0] w fun e w' => e = .returned (.tuple #[]) ∧ w' = w := by
  go_enter Try.func42, Try.ntmps42
  go_wp2_with fail
  go_end0
  exact ⟨rfl, rfl⟩
theorem counted_ok (w : World) (N : Int) (A : Option Addr) (n c k : Nat) (hn : n = k + 1) (hk : k ≤ 1000) :
    Calls Try.prog 48 #[rowV N A n c, .int .i64 (k : Int)] w fun e w' => e = .returned (.tuple #[]) ∧ Keeps (fun _ => False) w w' := by
  have d0 : wrap64 ((n : Int) - 1) = (k : Int) := by rw [IntWalk.wrap64_in _ ⟨by omega, by omega⟩]; omega
  have d1 : ((n : Int) - 1 == (k : Int)) = true := by rw [beq_iff_eq]; omega
  subst hn
  go_enter Try.func48, Try.ntmps48
  go_wp2_with fail
  go_end0
  exact ⟨rfl, (Keeps.refl _ _).alloc _⟩
/-- A row's number, where it is one. -/
structure NumAt (F : Nat → List UInt8) (n : Nat) (i : Nat) (a b x : Int) : Prop where
  lt : i < n
  par : takP F n i a b = (x, 0)
set_option maxRecDepth 100000 in
set_option maxHeartbeats 1000000 in
theorem number_ok (w : World) (N : Int) (A : Option Addr) (n c i : Nat) (F : Nat → List UInt8) (a b x : Int) (hn : n ≤ 1000) (hr : StrRow w A n F) (hF : ∀ i, i < n → (F i).length ≤ 1000) (h : takP F n i a b = (x, 0))
    (hi : i < n) (ha : -9223372036854775808 ≤ a ∧ a ≤ 9223372036854775807) (hb : -9223372036854775808 ≤ b ∧ b ≤ 9223372036854775807) :
    Calls Try.prog 49 #[rowV N A n c, .int .i64 (i : Int), .int .i64 a, .int .i64 b] w fun e w' => e = .returned (.int .i64 x) ∧ Keeps (fun _ => False) w w' := by
  have k0 := (Keeps.refl (fun _ => False) w).alloc (.cells #[.int .i64 N, .slice A n c] 78)
  have HT := Lib.hid (fun (W : World) (hk : Below w.heap.size w W) => take_any W N A n c F i a b (by unfold maxLen; omega) (hr.below hk) (fun i hi => by have := hF i hi; omega))
  have HK := Lib.hid k0
  have HH := Lib.hid h
  clear hr hF k0 h
  go_enter Try.func49, Try.ntmps49
  go_wp2_with fail
  refine (HT.out _ HK.out.none ⟨by omega, by omega⟩ ha hb).mono ?_
  rintro e1 w1 ⟨rfl, k1⟩
  rw [HH.out]
  have HK1 := Lib.hid (HK.out.trans k1)
  clear k1
  go_wp2_with fail
  refine (check_ok _).mono ?_
  rintro e2 w2 ⟨rfl, rfl⟩
  go_wp2_with fail
  go_ret
  exact ⟨rfl, HK1.out⟩
theorem two_cellsV {w : World} {g : Nat} {x y : Value} {E : TypeId} (h : w.heap[g]? = some (.cells #[x, y] E (0, 0))) :
    w.cell? ⟨g, 0, none⟩ = some x ∧ w.cell? ⟨g, 1, none⟩ = some y := ⟨cell_of h 0, cell_of h 1⟩
/-- What was parsed so far: the parser's seven cells. -/
@[reducible] def parC (t l o : Value) (tk : Int) (ch : Value) (b : Bool) (ow : Value) : Array Value := #[t, l, o, .int .i64 tk, ch, .bool b, ow]
set_option maxRecDepth 100000 in
set_option maxHeartbeats 2000000 in
/-- The ticker's row. -/
theorem ticker_ok (w : World) (p : Nat) (N : Int) (A : Option Addr) (c : Nat) (F : Nat → List UInt8) (x tk : Int) (t l o ch ow : Value) (hp : w.heap[p]? = some (.cells (parC t l o tk ch false ow) 69 (0, 0)))
    (hr : StrRow w A 2 F) (hF : ∀ i, i < 2 → (F i).length ≤ 1000) (h : takP F 2 (1 : Nat) (-2147483648) 2147483647 = (x, 0)) :
    Calls Try.prog 36 #[.pointer (some ⟨p, 0, none⟩), rowV N A 2 c] w fun e w' => e = .returned (.tuple #[]) ∧ w'.heap[p]? = some (.cells (parC t l o x ch true ow) 69 (0, 0)) ∧ Keeps (fun k => k = p) w w' := by
  have hlp := lt_of hp
  have k0 := (Keeps.refl (fun _ => False) w).alloc (.cells #[.int .i64 N, .slice A 2 c] 78)
  have HK := Lib.hid k0
  have HB := Lib.hid (heap_new w (.cells #[.int .i64 N, .slice A 2 c] 78))
  have HN := Lib.hid (fun (W : World) (hk : Below w.heap.size w W) => number_ok W N A 2 c 1 F (-2147483648) 2147483647 x (by omega) (hr.below hk) hF h (by omega) ⟨by omega, by omega⟩ ⟨by omega, by omega⟩)
  have HP := Lib.hid hp
  clear hr hF k0 h hp
  go_enter Try.func36, Try.ntmps36
  go_wp2_with fail
  refine (counted_ok _ N A 2 c 1 rfl (by omega)).mono ?_
  rintro e1 w1 ⟨rfl, k1⟩
  have HK1 := Lib.hid (HK.out.trans k1)
  have HB1 := Lib.hid (k1.at HB.out fun h => h)
  obtain ⟨r0, r1⟩ := two_cellsV HB1.out
  clear k1
  go_wp2_with fail
  refine (HN.out _ HK1.out.none).mono ?_
  rintro e2 w2 ⟨rfl, k2⟩
  have HK2 := Lib.hid (HK1.out.trans k2)
  have hp2 := HK2.out.at HP.out fun h => h
  have q5 : w2.cell? ⟨p, 5, none⟩ = some (.bool false) := cell_of hp2 5
  have q3 : w2.cell? ⟨p, 3, none⟩ = some (.int .i64 tk) := cell_of hp2 3
  have f3 := free_of hp2 3
  have f5 := free_of hp2 5
  have HP2 := Lib.hid hp2
  clear k2 r0 r1 hp2
  go_wp2_with fail
  go_end0
  exact ⟨rfl, heap_set (heap_set HP2.out 3 _) 5 _, ((HK2.out.mono (T := fun k => k = p) fun _ _ h => h.elim).setCell (p := ⟨p, 3, none⟩) (.inl rfl) _).setCell (p := ⟨p, 5, none⟩) (.inl rfl) _⟩
end Go.Proofs.Ytdjfelabdofaaaa
