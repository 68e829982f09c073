import Derived.Test.YtffhmlngnnfaeacRows
import Derived.Test.YtffhmlngnnfaeacKeep
import Derived.WalkKit
import Derived.ProofKit
import Derived.OpenShut
import Derived.WalkLawsBesides
import Derived.WalkSpells
import Derived.Lib.Hide
import Derived.Laws.BitsAllLaws
import Derived.Deep.QuietTactic
import Derived.BigQuiet
import Derived.BigRegion
import Derived.Laws.StructEq
namespace Go.Proofs.Ytffhmlngnnfaeac
open Go.ChangeShapes Go.WideShapes Go.ChangeAt Go.RowKit
set_option linter.unusedVariables false

theorem ret_bool {a b : Bool} (h : a = b) : Ending.returned (.bool a) = .returned (.bool b) := by rw [h]
/-- Block b is a nest: d levels, of which L tells, and so many at most. -/
def IsNest (w : World) (b : Nat) (L : Nat → Int) (d m : Nat) : Prop :=
  ∃ cs, w.heap[b]? = some (.cells cs 46 (0, 0)) ∧ cs.size = 34 ∧ (∀ i, i < 32 → cs[i]? = some (.int .i64 (L i))) ∧ cs[32]? = some (.int .i64 d) ∧ cs[33]? = some (.int .i64 m)
/-- The levels rise. -/
structure Rises (L : Nat → Int) (d : Nat) : Prop where
  lo : ∀ i, i < d → (i : Int) ≤ L i
  hi : ∀ i, i < d → L i ≤ 31
  up : ∀ i, i + 1 < d → L i < L (i + 1)
theorem Rises.le {L : Nat → Int} {d : Nat} (h : Rises L d) : d ≤ 32 := by
  rcases Nat.eq_zero_or_pos d with h0 | h0
  · omega
  · have := h.lo (d - 1) (by omega); have := h.hi (d - 1) (by omega); omega

theorem deep_any (b : Nat) (L : Nat → Int) (d m : Nat) (w : World) (h : IsNest w b L d m) :
    Calls Try.prog 25 #[.pointer (some ⟨b, 0, none⟩)] w fun e w' => e = .returned (.int .i64 d) ∧ w = w' := by
  obtain ⟨cs, hb, hs, hl, hd, hm⟩ := h
  have c0 : w.cell? ⟨b, 32, none⟩ = some (.int .i64 d) := (cell_of hb 32).trans hd
  clear hb hl hd hm hs
  go_enter Try.func25, Try.ntmps25
  go_wp2
  go_ret
  exact ⟨rfl, rfl⟩
theorem top_zero (b : Nat) (L : Nat → Int) (m : Nat) (w : World) (h : IsNest w b L 0 m) :
    Calls Try.prog 23 #[.pointer (some ⟨b, 0, none⟩)] w fun e w' => e = .returned (.int .i64 (-1)) ∧ w = w' := by
  have H := Lib.hid h
  clear h
  go_enter Try.func23, Try.ntmps23
  go_wp2_with (go_at_call 25; refine (deep_any _ _ _ _ _ H.out).mono ?_; rintro e w' ⟨rfl, rfl⟩)
  go_ret
  exact ⟨rfl, rfl⟩
theorem top_some (b : Nat) (L : Nat → Int) (d m : Nat) (w : World) (hd32 : d + 1 ≤ 32) (h : IsNest w b L (d + 1) m) :
    Calls Try.prog 23 #[.pointer (some ⟨b, 0, none⟩)] w fun e w' => e = .returned (.int .i64 (L d)) ∧ ∃ n, w' = w.drewN n := by
  have H := Lib.hid h
  obtain ⟨cs, hb, hs, hl, hd, hm⟩ := h
  have c0 : w.cell? ⟨b, 32, none⟩ = some (.int .i64 ((d + 1 : Nat) : Int)) := (cell_of hb 32).trans hd
  have cd : w.cell? ⟨b, d, none⟩ = some (.int .i64 (L d)) := (cell_of hb d).trans (hl d (by omega))
  have z : (((d + 1 : Nat) : Int) == 0) = false := by simp; omega
  clear hb hl hd hm hs
  go_enter Try.func23, Try.ntmps23
  go_wp2_with (go_at_call 25; refine (deep_any _ _ _ _ _ H.out).mono ?_; rintro e w' ⟨rfl, rfl⟩)
  go_quiet (fail)
  go_wp2
  go_ret
  exact ⟨rfl, _, rfl⟩

def topV (L : Nat → Int) : Nat → Int
  | 0 => -1
  | d + 1 => L d
theorem IsNest.none {w w' : World} {b : Nat} {L : Nat → Int} {d m : Nat} (h : IsNest w b L d m) (hk : Keeps (fun _ => False) w w') : IsNest w' b L d m := by
  obtain ⟨cs, hb, h⟩ := h
  exact ⟨cs, hk.at hb fun h => h, h⟩
theorem IsNest.lt {w : World} {b : Nat} {L : Nat → Int} {d m : Nat} (h : IsNest w b L d m) : b < w.heap.size := lt_of h.choose_spec.1
theorem top_any (b : Nat) (L : Nat → Int) (d m : Nat) (w : World) (hd32 : d ≤ 32) (h : IsNest w b L d m) :
    Calls Try.prog 23 #[.pointer (some ⟨b, 0, none⟩)] w fun e w' => e = .returned (.int .i64 (topV L d)) ∧ Keeps (fun _ => False) w w' := by
  match d, h with
  | 0, h => exact (top_zero b L m w h).mono fun e w' ⟨he, hw⟩ => ⟨he, hw ▸ Keeps.refl _ _⟩
  | d + 1, h => exact (top_some b L d m w hd32 h).mono fun e w' ⟨he, n, hw⟩ => ⟨he, hw ▸ (Keeps.refl _ _).drewN n⟩

theorem enterf_any (b pb : Nat) (E : TypeId) (L : Nat → Int) (d m : Nat) (k : Int) (w : World) (hd32 : d ≤ 32) (h : IsNest w b L d m) (hp : w.heap[pb]? = some (.cells #[.pointer (some ⟨b, 0, none⟩)] E (0, 0))) :
    Calls Try.prog 42 #[.int .i64 k, .pointer (some ⟨pb, 0, none⟩)] w fun e w' => e = .returned (.bool (decide (topV L d < k ∧ 0 ≤ k ∧ k ≤ 31))) ∧ Keeps (fun _ => False) w w' := by
  have H := Lib.hid h
  have cp : w.cell? ⟨pb, 0, none⟩ = some (.pointer (some ⟨b, 0, none⟩)) := cell_of hp 0
  clear h hp
  go_enter Try.func42, Try.ntmps42
  go_wp2_with fail
  refine (top_any _ _ _ _ _ hd32 H.out).mono ?_
  rintro e w' ⟨rfl, hk⟩
  go_wp2
  all_goals
    go_ret
    refine ⟨ret_bool ?_, hk⟩
    rw [Bool.eq_iff_iff]
    simp only [decide_eq_true_eq, Bool.and_eq_true, Bool.false_eq_true, false_iff]
    omega

theorem enter_no (b : Nat) (L : Nat → Int) (d m : Nat) (k : Int) (w : World) (hd32 : d ≤ 32) (h : IsNest w b L d m) (hn : ¬ (topV L d < k ∧ 0 ≤ k ∧ k ≤ 31)) :
    Calls Try.prog 19 #[.pointer (some ⟨b, 0, none⟩), .int .i64 k] w fun e w' => e = .returned (.bool false) ∧ Keeps (fun _ => False) w w' := by
  have hmf : ∀ (fn : Fn) (first cap : Array Value) (w : World), (Instr.makeFunc fn first cap).run Try.prog w = .ok (.func fn first cap) w := fun _ _ _ _ => rfl
  have ka : Keeps (fun _ => False) w (w.alloc (.cells #[.pointer (some ⟨b, 0, none⟩)] 43)) := (Keeps.refl _ _).alloc _
  have H := Lib.hid (And.intro ka (And.intro (h.none ka) (heap_new w (.cells #[.pointer (some ⟨b, 0, none⟩)] 43))))
  clear h ka
  have hN := Lib.hid hn
  clear hn
  go_enter Try.func19, Try.ntmps19
  go_wp2_with fail
  refine (enterf_any _ _ _ _ _ _ _ _ hd32 H.out.2.1 H.out.2.2).mono ?_
  rintro e w' ⟨rfl, hk⟩
  rw [decide_eq_false hN.out]
  go_wp2
  go_ret
  exact ⟨rfl, H.out.1.trans hk⟩
theorem enter_yes (b : Nat) (L : Nat → Int) (d m : Nat) (k : Int) (w : World) (hd32 : d < 32) (h : IsNest w b L d m) (hy : topV L d < k ∧ 0 ≤ k ∧ k ≤ 31) :
    Calls Try.prog 19 #[.pointer (some ⟨b, 0, none⟩), .int .i64 k] w fun e w' => e = .returned (.bool true) ∧ IsNest w' b (fun i => if i = d then k else L i) (d + 1) (max m (d + 1)) ∧ Keeps (fun k => k = b) w w' := by
  have hmf : ∀ (fn : Fn) (first cap : Array Value) (w : World), (Instr.makeFunc fn first cap).run Try.prog w = .ok (.func fn first cap) w := fun _ _ _ _ => rfl
  have ka : Keeps (fun _ => False) w (w.alloc (.cells #[.pointer (some ⟨b, 0, none⟩)] 43)) := (Keeps.refl _ _).alloc _
  have hblt := h.lt
  have H := Lib.hid (And.intro ka (And.intro (h.none ka) (heap_new w (.cells #[.pointer (some ⟨b, 0, none⟩)] 43))))
  clear h ka
  have hN := Lib.hid hy
  clear hy
  go_enter Try.func19, Try.ntmps19
  go_wp2_with fail
  refine (enterf_any _ _ _ _ _ _ _ _ (by omega) H.out.2.1 H.out.2.2).mono ?_
  rintro e w1 ⟨rfl, hk⟩
  rw [decide_eq_true hN.out]
  have hk1 := H.out.1.trans hk
  obtain ⟨cs, hb, hs, hl, hd, hm⟩ := H.out.2.1.none hk
  have hp := hk.at H.out.2.2 fun h => h
  have l1 := lt_of hb
  have l2 := lt_of hp
  have cp : w1.cell? ⟨w.heap.size, 0, none⟩ = some (.pointer (some ⟨b, 0, none⟩)) := cell_of hp 0
  have cd : w1.cell? ⟨b, 32, none⟩ = some (.int .i64 d) := (cell_of hb 32).trans hd
  have cm : w1.cell? ⟨b, 33, none⟩ = some (.int .i64 m) := (cell_of hb 33).trans hm
  have fd : w1.frozen? ⟨b, d, none⟩ = false := free_of hb d
  have f2 : w1.frozen? ⟨b, 32, none⟩ = false := free_of hb 32
  have f3 : w1.frozen? ⟨b, 33, none⟩ = false := free_of hb 33
  have cx : w1.cell? ⟨b, d, none⟩ = some (.int .i64 (L d)) := (cell_of hb d).trans (hl d (by omega))
  have HB := Lib.hid (And.intro hb (And.intro hs (And.intro hl (And.intro hd hm))))
  clear hb hs hl hd hm hp
  go_wp2_with fail
  go_region
  go_wp2_with fail
  go_region
  go_wp2_with fail
  all_goals
    go_ret
    obtain ⟨hb, hs, hl, hd, hm⟩ := HB.out
    refine ⟨rfl, ⟨_, heap_drew (heap_drew (heap_set (heap_set (heap_set hb _ _) _ _) _ _)), by simp [hs], ?_, ?_, ?_⟩, ?_⟩
    · intro i hi
      rw [Array.getElem?_setIfInBounds_ne (by omega), Array.getElem?_setIfInBounds_ne (by omega)]
      show _ = some (Value.int .i64 (if i = d then k else L i))
      by_cases hid : i = d
      · rw [if_pos hid, Array.getElem?_setIfInBounds, if_pos hid.symm, if_pos (by omega)]
      · rw [Array.getElem?_setIfInBounds_ne (by omega), hl i hi, if_neg hid]
    · rw [Array.getElem?_setIfInBounds_ne (by omega)]
      simp [hs]
    · simp [hs]
      omega
    · have g0 : Keeps (fun k => k = b) w w1 := hk1.mono fun _ _ h => h.elim
      have g1 := g0.setCell (p := ⟨b, d, none⟩) (.inl rfl) (.int .i64 k)
      have g2 := g1.setCell (p := ⟨b, 32, none⟩) (.inl rfl) (.int .i64 ((d : Int) + 1))
      exact ((g2.setCell (p := ⟨b, 33, none⟩) (.inl rfl) _).drew).drew
theorem leave_none (b : Nat) (L : Nat → Int) (m : Nat) (w : World) (h : IsNest w b L 0 m) :
    Calls Try.prog 21 #[.pointer (some ⟨b, 0, none⟩)] w fun e w' => e = .returned (.tuple #[.int .i64 0, .bool false]) ∧ w = w' := by
  have H := Lib.hid h
  clear h
  go_enter Try.func21, Try.ntmps21
  go_wp2_with (go_at_call 25; refine (deep_any _ _ _ _ _ H.out).mono ?_; rintro e w' ⟨rfl, rfl⟩)
  exact bodyPost_ret (v := .tuple #[.int .i64 0, .bool false]) (by simp [results, Try.results21, go_sem]) rfl ⟨rfl, rfl⟩
theorem leave_some (b : Nat) (L : Nat → Int) (d m : Nat) (w : World) (hd32 : d + 1 ≤ 32) (h : IsNest w b L (d + 1) m) :
    Calls Try.prog 21 #[.pointer (some ⟨b, 0, none⟩)] w fun e w' => e = .returned (.tuple #[.int .i64 (L d), .bool true]) ∧ IsNest w' b L d m ∧ Keeps (fun k => k = b) w w' := by
  have H := Lib.hid h
  obtain ⟨cs, hb, hs, hl, hd, hm⟩ := h
  have l1 := lt_of hb
  have c0 : w.cell? ⟨b, 32, none⟩ = some (.int .i64 ((d + 1 : Nat) : Int)) := (cell_of hb 32).trans hd
  have cd : w.cell? ⟨b, d, none⟩ = some (.int .i64 (L d)) := (cell_of hb d).trans (hl d (by omega))
  have f2 : w.frozen? ⟨b, 32, none⟩ = false := free_of hb 32
  have z : (((d + 1 : Nat) : Int) == 0) = false := by simp; omega
  have HB := Lib.hid (And.intro hb (And.intro hs (And.intro hl (And.intro hd hm))))
  clear hb hl hd hm hs
  go_enter Try.func21, Try.ntmps21
  go_wp2_with (go_at_call 25; refine (deep_any _ _ _ _ _ H.out).mono ?_; rintro e w' ⟨rfl, rfl⟩)
  go_quiet (fail)
  go_wp2
  obtain ⟨hb, hs, hl, hd, hm⟩ := HB.out
  refine bodyPost_ret (v := .tuple #[.int .i64 (L d), .bool true]) (by simp [results, Try.results21, go_sem]) rfl ⟨rfl, ⟨_, heap_drewN (heap_set hb _ _) nq, by simp [hs], ?_, ?_, ?_⟩, ?_⟩
  · intro i hi
    rw [Array.getElem?_setIfInBounds_ne (by omega), hl i hi]
  · simp [hs]
  · rw [Array.getElem?_setIfInBounds_ne (by omega), hm]
  · exact (Keeps.setCell (S := fun k => k = b) (Keeps.refl _ w) (p := ⟨b, 32, none⟩) (.inl rfl) _).drewN nq
end Go.Proofs.Ytffhmlngnnfaeac
