import Derived.Test.YtlpnobpgphmngabDoorGateB
import Derived.Test.YtlpnobpgphmngabDoorPop
namespace Go.Proofs.YtlpnobpgphmngabDoor
open Go.ChangeShapes Go.WideShapes Go.ChangeAt Go.RowKit
set_option linter.unusedVariables false
/-- A gate at which nothing is wrong. -/
structure Good (s : GS) : Prop where
  x : s.x < 4294967296
  mo : s.mo ≤ 31
  up : ∀ j : Nat, s.mo < j → s.x.testBit j = false
  rises : Rises s.L s.d
  t : s.t < 4611686018427387904
  m : s.m < 4611686018427387904
  en : s.en < 4611686018427387904
/-- A new gate's cells. -/
def newCells (k : Int) : Array Value := #[.int .u32 0, .int .i64 0, .int .i64 0, .int .i64 0, .int .i64 0, .int .i64 0, .int .i64 0, .int .i64 0, .int .i64 0, .int .i64 0, .int .i64 0, .int .i64 0, .int .i64 0, .int .i64 0, .int .i64 0, .int .i64 0, .int .i64 0, .int .i64 0, .int .i64 0, .int .i64 0, .int .i64 0, .int .i64 0, .int .i64 0, .int .i64 0, .int .i64 0, .int .i64 0, .int .i64 0, .int .i64 0, .int .i64 0, .int .i64 0, .int .i64 0, .int .i64 0, .int .i64 0, .int .i64 0, .int .i64 0, .int .i64 0, .int .i64 0, .int .i64 k, .int .i64 0]
theorem newCells_l (k : Int) (i : Nat) (hi : i < 32) : (newCells k)[3 + i]? = some (.int .i64 0) := by
  match i, hi with
  | 0, _ => rfl
  | 1, _ => rfl
  | 2, _ => rfl
  | 3, _ => rfl
  | 4, _ => rfl
  | 5, _ => rfl
  | 6, _ => rfl
  | 7, _ => rfl
  | 8, _ => rfl
  | 9, _ => rfl
  | 10, _ => rfl
  | 11, _ => rfl
  | 12, _ => rfl
  | 13, _ => rfl
  | 14, _ => rfl
  | 15, _ => rfl
  | 16, _ => rfl
  | 17, _ => rfl
  | 18, _ => rfl
  | 19, _ => rfl
  | 20, _ => rfl
  | 21, _ => rfl
  | 22, _ => rfl
  | 23, _ => rfl
  | 24, _ => rfl
  | 25, _ => rfl
  | 26, _ => rfl
  | 27, _ => rfl
  | 28, _ => rfl
  | 29, _ => rfl
  | 30, _ => rfl
  | 31, _ => rfl
  | n + 32, h => omega
def GS.zero (k : Nat) : GS := ⟨0, 0, 0, fun _ => 0, 0, 0, k, 0⟩
theorem gate_made (w : World) (k : Nat) : IsGate (w.alloc (.cells (newCells k) 58)) w.heap.size (GS.zero k) :=
  ⟨_, heap_new _ _, rfl, rfl, rfl, rfl, newCells_l k, rfl, rfl, rfl, rfl⟩
theorem good_zero (k : Nat) (h : k ≤ 31) : Good (GS.zero k) :=
  ⟨by show 0 < _; omega, h, fun j _ => Nat.zero_testBit j, ⟨fun i h => absurd h (Nat.not_lt_zero i), fun i h => absurd h (Nat.not_lt_zero i), fun i h => absurd h (Nat.not_lt_zero _)⟩, by show 0 < _; omega, by show 0 < _; omega, by show 0 < _; omega⟩
theorem gnew (k : Int) (w : World) : Calls Tryd.prog 19 #[.int .i64 k] w fun e w' => e = .returned (.pointer (some ⟨w.heap.size, 0, none⟩)) ∧ IsGate w' w.heap.size (GS.zero (min (max k 0) 31).toNat) ∧ Keeps (fun _ => False) w w' := by
  have hg := gate_made w (min (max k 0) 31).toNat
  rw [show (((min (max k 0) 31).toNat : Nat) : Int) = min (max k 0) 31 by omega] at hg
  unfold newCells at hg
  have H := Lib.hid hg
  clear hg
  go_enter Tryd.func19, Tryd.ntmps19
  go_wp2
  go_ret
  exact ⟨rfl, H.out, (Keeps.refl _ _).alloc _⟩
theorem glevel (b : Nat) (s : GS) (w : World) (hd32 : s.d ≤ 32) (h : IsGate w b s) :
    Calls Tryd.prog 23 #[.pointer (some ⟨b, 0, none⟩)] w fun e w' => e = .returned (.int .i64 (topV s.L s.d)) ∧ ∃ n, w' = w.drewN n := by
  have H := Lib.hid h
  clear h
  go_enter Tryd.func23, Tryd.ntmps23
  go_wp2_with fail
  refine (gtop _ _ _ hd32 H.out).mono ?_
  rintro e w' ⟨rfl, n, rfl⟩
  go_wp2
  go_ret
  exact ⟨rfl, n, rfl⟩
theorem gpending (b : Nat) (s : GS) (w : World) (h : IsGate w b s) :
    Calls Tryd.prog 22 #[.pointer (some ⟨b, 0, none⟩)] w fun e w' => e = .returned (.int .u32 (s.x : Int)) ∧ w = w' := by
  have H := Lib.hid h
  clear h
  go_enter Tryd.func22, Tryd.ntmps22
  go_wp2_with fail
  refine (gbits _ _ _ H.out).mono ?_
  rintro e w' ⟨rfl, rfl⟩
  go_wp2
  go_ret
  exact ⟨rfl, rfl⟩
theorem gmask (v : Value) (w : World) : Calls Tryd.prog 26 #[v] w fun e w' => e = .returned (.int .u32 0) ∧ w = w' := by
  go_enter Tryd.func26, Tryd.ntmps26
  go_wp2
  go_ret
  exact ⟨rfl, rfl⟩
theorem gleave_no (b : Nat) (s : GS) (w : World) (hd : s.d = 0) (h : IsGate w b s) :
    Calls Tryd.prog 21 #[.pointer (some ⟨b, 0, none⟩)] w fun e w' => e = .returned (.tuple #[.int .i64 0, .bool false]) ∧ w = w' := by
  have H := Lib.hid h
  have HD := Lib.hid hd
  clear h hd
  go_enter Tryd.func21, Tryd.ntmps21
  go_wp2_with fail
  refine (gleave_none _ _ _ HD.out H.out).mono ?_
  rintro e w' ⟨rfl, rfl⟩
  go_wp2
  exact bodyPost_ret (v := .tuple #[.int .i64 0, .bool false]) (by simp [results, Tryd.results21, go_sem]) rfl ⟨rfl, rfl⟩
theorem gleave_yes (b d : Nat) (s : GS) (w : World) (hd32 : d + 1 ≤ 32) (hd : s.d = d + 1) (h : IsGate w b s) :
    Calls Tryd.prog 21 #[.pointer (some ⟨b, 0, none⟩)] w fun e w' => e = .returned (.tuple #[.int .i64 (s.L d), .bool true]) ∧ IsGate w' b { s with d := d } ∧ Keeps (fun k => k = b) w w' := by
  have H := Lib.hid h
  have HD := Lib.hid hd
  clear h hd
  go_enter Tryd.func21, Tryd.ntmps21
  go_wp2_with fail
  refine (gleave_some _ d _ _ hd32 HD.out H.out).mono ?_
  rintro e w' ⟨rfl, h1, h2⟩
  go_wp2
  exact bodyPost_ret (v := .tuple #[.int .i64 (s.L d), .bool true]) (by simp [results, Tryd.results21, go_sem]) rfl ⟨rfl, h1, h2⟩
theorem graise_far (b : Nat) (s : GS) (i : Int) (w : World) (h : IsGate w b s) (hi : (s.mo : Int) < i) :
    Calls Tryd.prog 20 #[.pointer (some ⟨b, 0, none⟩), .int .i64 i] w fun e w' => e = .returned (.bool false) ∧ w = w' := by
  have c := h.c37
  clear h
  go_enter Tryd.func20, Tryd.ntmps20
  go_wp2
  go_ret
  exact ⟨rfl, rfl⟩
theorem graise_near (b : Nat) (s : GS) (i : Int) (w : World) (h : IsGate w b s) (hi : i ≤ s.mo) {Q : Ending → World → Prop} (r : Bool)
    (hc : Calls Tryd.prog 7 #[.pointer (some ⟨b, 0, none⟩), .int .i64 i] w fun e w' => e = .returned (.bool r) ∧ Q e w') :
    Calls Tryd.prog 20 #[.pointer (some ⟨b, 0, none⟩), .int .i64 i] w fun e w' => e = .returned (.bool r) ∧ Q (.returned (.bool r)) w' := by
  have c := h.c37
  have hd : decide ((s.mo : Int) < i) = false := by simp; omega
  have H := Lib.hid hc
  clear h hc
  go_enter Tryd.func20, Tryd.ntmps20
  go_wp2_with fail
  refine H.out.mono ?_
  rintro e w' ⟨rfl, hq⟩
  go_wp2
  go_ret
  exact ⟨rfl, hq⟩
end Go.Proofs.YtlpnobpgphmngabDoor
