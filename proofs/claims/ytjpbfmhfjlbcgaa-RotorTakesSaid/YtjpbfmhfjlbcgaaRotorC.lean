import Derived.Test.YtjpbfmhfjlbcgaaRotorB
namespace Go.Proofs.Ytjpbfmhfjlbcgaa
open Go.ChangeShapes Go.WideShapes Go.ChangeAt Go.RowKit
set_option linter.unusedVariables false
set_option linter.unusedSimpArgs false
/-- The six parts of a rotor. -/
def six (x y a b c d : Int) : Nat → Int
  | 0 => x
  | 1 => y
  | 2 => a
  | 3 => b
  | 4 => c
  | _ => d
abbrev rCells (x y a b c d p : Int) : Array Value := #[.int .i64 x, .int .i64 y, .int .i64 a, .int .i64 b, .int .i64 c, .int .i64 d, .int .i64 p]
theorem seven_cells {w : World} {g : Nat} {x y a b c d p : Value} {E : TypeId} (h : w.heap[g]? = some (.cells #[x, y, a, b, c, d, p] E (0, 0))) :
    w.cell? ⟨g, 0, none⟩ = some x ∧ w.cell? ⟨g, 1, none⟩ = some y ∧ w.cell? ⟨g, 2, none⟩ = some a ∧ w.cell? ⟨g, 3, none⟩ = some b ∧ w.cell? ⟨g, 4, none⟩ = some c ∧ w.cell? ⟨g, 5, none⟩ = some d ∧ w.cell? ⟨g, 6, none⟩ = some p :=
  ⟨cell_of h 0, cell_of h 1, cell_of h 2, cell_of h 3, cell_of h 4, cell_of h 5, cell_of h 6⟩
theorem six_at (x y a b c d : Int) (k : Nat) (hk : k < 6) : (#[Value.int .i64 x, .int .i64 y, .int .i64 a, .int .i64 b, .int .i64 c, .int .i64 d])[k]? = some (.int .i64 (six x y a b c d k)) := by
  match k, hk with
  | 0, _ => rfl
  | 1, _ => rfl
  | 2, _ => rfl
  | 3, _ => rfl
  | 4, _ => rfl
  | 5, _ => rfl
theorem rightR_all {x y a b c d p : Int} (hp : 2 ≤ p ∧ p ≤ 1000) (h : ∀ k, k < 6 → 0 ≤ six x y a b c d k ∧ six x y a b c d k < p) : rightR x y a b c d p = true :=
  decide_eq_true ⟨hp, h 0 (by omega), h 1 (by omega), h 2 (by omega), h 3 (by omega), h 4 (by omega), h 5 (by omega)⟩
theorem rightR_out {x y a b c d p : Int} (k : Nat) (hk : k < 6) (h : ¬ (0 ≤ six x y a b c d k ∧ six x y a b c d k < p)) : rightR x y a b c d p = false := by
  refine decide_eq_false fun hh => h ?_
  obtain ⟨_, h0, h1, h2, h3, h4, h5⟩ := hh
  match k, hk with
  | 0, _ => exact h0
  | 1, _ => exact h1
  | 2, _ => exact h2
  | 3, _ => exact h3
  | 4, _ => exact h4
  | 5, _ => exact h5
theorem pright_any (x y a b c d p : Int) (w : World) :
    Calls Try.prog 12 #[.agg (rCells x y a b c d p)] w fun e w' => e = .returned (.bool (rightR x y a b c d p)) ∧ Keeps (fun _ => False) w w' := by
  by_cases hp : 2 ≤ p ∧ p ≤ 1000
  · have d0 : decide (p < 2) = false := decide_eq_false (by omega)
    have d1 : decide (1000 < p) = false := decide_eq_false (by omega)
    have HP := Lib.hid hp
    clear hp
    go_enter Try.func12, Try.ntmps12
    go_wp2_with fail
    have HC := Lib.hid (fun k hk => (cell_of (heap_new (w.alloc (.cells (rCells x y a b c d p) 29)) (.cells #[Value.int .i64 x, .int .i64 y, .int .i64 a, .int .i64 b, .int .i64 c, .int .i64 d] 3)) k).trans (six_at x y a b c d k hk))
    rw [show (w.alloc (.cells (rCells x y a b c d p) 29)).heap.size = w.heap.size + 1 by simp] at HC
    have HV := Lib.hid (fun k (hk : k < 6) h => rightR_out (x := x) (y := y) (a := a) (b := b) (c := c) (d := d) (p := p) k hk h)
    have HA := Lib.hid (fun h => rightR_all (x := x) (y := y) (a := a) (b := b) (c := c) (d := d) HP.out h)
    obtain ⟨F, hF⟩ : ∃ F, F = six x y a b c d := ⟨_, rfl⟩
    rw [← hF] at HC HV HA
    clear hF
    go_loop [33] (fun i => ∃ k : Nat, k ≤ 6 ∧ i = .int .i64 k ∧ ∀ j, j < k → 0 ≤ F j ∧ F j < p) (fun i => 6 - (intOf i).toNat)
    case atStart => exact ⟨0, by omega, rfl, fun j hj => by omega⟩
    case round =>
      obtain ⟨k, hk, rfl, hall⟩ := hrel
      have HL := Lib.hid hall
      clear hall
      by_cases hlt : k < 6
      · have hc := HC.out k hlt
        by_cases h0 : 0 ≤ F k
        · have e0 : decide (F k < 0) = false := decide_eq_false (by omega)
          by_cases h1 : F k < p
          · have e1 : decide (p ≤ F k) = false := decide_eq_false (by omega)
            have HK := Lib.hid (And.intro h0 h1)
            clear h0 h1
            go_wp2
            go_round
            case rel =>
              exact ⟨k + 1, by omega, by go_num, fun j hj => by
                rcases Nat.lt_or_ge j k with c | c
                · exact HL.out j c
                · rw [show j = k by omega]; exact HK.out⟩
            case measure => simp [intOf]; omega
          · have e1 : decide (p ≤ F k) = true := decide_eq_true (by omega)
            have HK := Lib.hid (HV.out k hlt (fun h => h1 h.2))
            clear h0 h1
            go_wp2
            go_ret
            exact ⟨ret_bool HK.out.symm, ((Keeps.refl _ _).alloc _).alloc _⟩
        · have e0 : decide (F k < 0) = true := decide_eq_true (by omega)
          have HK := Lib.hid (HV.out k hlt (fun h => h0 h.1))
          clear h0
          go_wp2
          go_ret
          exact ⟨ret_bool HK.out.symm, ((Keeps.refl _ _).alloc _).alloc _⟩
      · obtain rfl : k = 6 := by omega
        go_wp2
        go_ret
        exact ⟨ret_bool (HA.out HL.out).symm, ((Keeps.refl _ _).alloc _).alloc _⟩
  · have HV := Lib.hid (show rightR x y a b c d p = false from decide_eq_false fun h => hp h.1)
    by_cases h2 : p < 2
    · have d0 : decide (p < 2) = true := decide_eq_true h2
      clear h2 hp
      go_enter Try.func12, Try.ntmps12
      go_wp2
      go_ret
      exact ⟨ret_bool HV.out.symm, (Keeps.refl _ _).alloc _⟩
    · have d0 : decide (p < 2) = false := decide_eq_false h2
      have d1 : decide (1000 < p) = true := decide_eq_true (by omega)
      clear h2 hp
      go_enter Try.func12, Try.ntmps12
      go_wp2
      go_ret
      exact ⟨ret_bool HV.out.symm, (Keeps.refl _ _).alloc _⟩
end Go.Proofs.Ytjpbfmhfjlbcgaa
