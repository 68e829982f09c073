import Derived.Test.YtlpnobpgphmngabDoorGateA
namespace Go.Proofs.YtlpnobpgphmngabDoor
open Go.ChangeShapes Go.WideShapes Go.ChangeAt Go.RowKit
set_option linter.unusedVariables false
/-- The levels rise. -/
structure Rises (L : Nat → Int) (d : Nat) : Prop where
  lo : ∀ i, i < d → (i : Int) ≤ L i
  hi : ∀ i, i < d → L i ≤ 31
  up : ∀ i, i + 1 < d → L i < L (i + 1)
theorem Rises.le {L : Nat → Int} {d : Nat} (h : Rises L d) : d ≤ 32 := by
  rcases Nat.eq_zero_or_pos d with h0 | h0
  · omega
  · have := h.lo (d - 1) (by omega); have := h.hi (d - 1) (by omega); omega
def topV (L : Nat → Int) : Nat → Int
  | 0 => -1
  | d + 1 => L d
theorem Rises.top {L : Nat → Int} {d : Nat} (h : Rises L d) : (d : Int) - 1 ≤ topV L d ∧ topV L d ≤ 31 := by
  match d, h with
  | 0, h => exact ⟨by show (0 : Int) - 1 ≤ -1; omega, by show (-1 : Int) ≤ 31; omega⟩
  | d + 1, h => exact ⟨by have := h.lo d (by omega); show ((d + 1 : Nat) : Int) - 1 ≤ L d; omega, h.hi d (by omega)⟩
theorem rises_enter {L : Nat → Int} {d : Nat} (h : Rises L d) {k : Int} (hy : topV L d < k ∧ 0 ≤ k ∧ k ≤ 31) : d < 32 ∧ Rises (fun i => if i = d then k else L i) (d + 1) := by
  have ht := h.top
  refine ⟨by omega, ⟨?_, ?_, ?_⟩⟩
  · intro i hi
    show (i : Int) ≤ if i = d then k else L i
    by_cases e : i = d
    · rw [if_pos e]; omega
    · rw [if_neg e]; exact h.lo i (by omega)
  · intro i hi
    show (if i = d then k else L i) ≤ 31
    by_cases e : i = d
    · rw [if_pos e]; omega
    · rw [if_neg e]; exact h.hi i (by omega)
  · intro i hi
    show (if i = d then k else L i) < (if i + 1 = d then k else L (i + 1))
    rw [if_neg (by omega)]
    by_cases e : i + 1 = d
    · rw [if_pos e]
      subst e
      exact hy.1
    · rw [if_neg e]; exact h.up i (by omega)
theorem rises_leave {L : Nat → Int} {d : Nat} (h : Rises L (d + 1)) : Rises L d :=
  ⟨fun i hi => h.lo i (by omega), fun i hi => h.hi i (by omega), fun i hi => h.up i (by omega)⟩

theorem gdeep (b : Nat) (s : GS) (w : World) (h : IsGate w b s) :
    Calls Tryd.prog 45 #[.pointer (some ⟨b, 3, none⟩)] w fun e w' => e = .returned (.int .i64 s.d) ∧ w = w' := by
  have c0 := h.c35
  clear h
  go_enter Tryd.func45, Tryd.ntmps45
  go_wp2
  go_ret
  exact ⟨rfl, rfl⟩
theorem gtop_zero (b : Nat) (s : GS) (w : World) (hd : s.d = 0) (h : IsGate w b s) :
    Calls Tryd.prog 37 #[.pointer (some ⟨b, 3, none⟩)] w fun e w' => e = .returned (.int .i64 (-1)) ∧ w = w' := by
  have H := Lib.hid h
  have HD := Lib.hid hd
  clear h hd
  go_enter Tryd.func37, Tryd.ntmps37
  go_wp2_with fail
  refine (gdeep _ _ _ H.out).mono ?_
  rintro e w' ⟨rfl, rfl⟩
  rw [HD.out]
  go_wp2
  go_ret
  exact ⟨rfl, rfl⟩
theorem gtop_some (b d : Nat) (s : GS) (w : World) (hd32 : d + 1 ≤ 32) (hd : s.d = d + 1) (h : IsGate w b s) :
    Calls Tryd.prog 37 #[.pointer (some ⟨b, 3, none⟩)] w fun e w' => e = .returned (.int .i64 (s.L d)) ∧ ∃ n, w' = w.drewN n := by
  have H := Lib.hid h
  have c0 : w.cell? ⟨b, 35, none⟩ = some (.int .i64 ((d + 1 : Nat) : Int)) := by rw [← hd]; exact h.c35
  have cd : w.cell? ⟨b, 3 + d, none⟩ = some (.int .i64 (s.L d)) := h.cl d (by omega)
  have z : (((d + 1 : Nat) : Int) == 0) = false := by simp; omega
  have HD := Lib.hid hd
  clear h hd
  go_enter Tryd.func37, Tryd.ntmps37
  go_wp2_with fail
  refine (gdeep _ _ _ H.out).mono ?_
  rintro e w' ⟨rfl, rfl⟩
  rw [HD.out]
  go_wp2_with fail
  go_quiet (fail)
  go_wp2
  go_ret
  exact ⟨rfl, _, rfl⟩
theorem gtop (b : Nat) (s : GS) (w : World) (hd32 : s.d ≤ 32) (h : IsGate w b s) :
    Calls Tryd.prog 37 #[.pointer (some ⟨b, 3, none⟩)] w fun e w' => e = .returned (.int .i64 (topV s.L s.d)) ∧ ∃ n, w' = w.drewN n := by
  cases hd : s.d with
  | zero => exact (gtop_zero b s w hd h).mono fun e w' ⟨he, hw⟩ => ⟨he, 0, hw ▸ rfl⟩
  | succ d => exact gtop_some b d s w (by omega) hd h
theorem genterf (b pb : Nat) (E : TypeId) (s : GS) (k : Int) (w : World) (hd32 : s.d ≤ 32) (h : IsGate w b s) (hp : w.heap[pb]? = some (.cells #[.pointer (some ⟨b, 3, none⟩)] E (0, 0))) :
    Calls Tryd.prog 46 #[.int .i64 k, .pointer (some ⟨pb, 0, none⟩)] w fun e w' => e = .returned (.bool (decide (topV s.L s.d < k ∧ 0 ≤ k ∧ k ≤ 31))) ∧ Keeps (fun _ => False) w w' := by
  have H := Lib.hid h
  have cp : w.cell? ⟨pb, 0, none⟩ = some (.pointer (some ⟨b, 3, none⟩)) := cell_of hp 0
  clear h hp
  go_enter Tryd.func46, Tryd.ntmps46
  go_wp2_with fail
  refine (gtop _ _ _ hd32 H.out).mono ?_
  rintro e w' ⟨rfl, n, rfl⟩
  go_wp2
  all_goals
    go_ret
    refine ⟨ret_bool ?_, (Keeps.refl _ _).drewN n⟩
    rw [Bool.eq_iff_iff]
    simp only [decide_eq_true_eq, Bool.and_eq_true, Bool.false_eq_true, false_iff]
    omega
theorem genter_no (b : Nat) (s : GS) (k : Int) (w : World) (hd32 : s.d ≤ 32) (h : IsGate w b s) (hn : ¬ (topV s.L s.d < k ∧ 0 ≤ k ∧ k ≤ 31)) :
    Calls Tryd.prog 38 #[.pointer (some ⟨b, 3, none⟩), .int .i64 k] w fun e w' => e = .returned (.bool false) ∧ Keeps (fun _ => False) w w' := by
  have hmf : ∀ (fn : Fn) (first cap : Array Value) (w : World), (Instr.makeFunc fn first cap).run Tryd.prog w = .ok (.func fn first cap) w := fun _ _ _ _ => rfl
  have ka : Keeps (fun _ => False) w (w.alloc (.cells #[.pointer (some ⟨b, 3, none⟩)] 62)) := (Keeps.refl _ _).alloc _
  have H := Lib.hid (And.intro ka (And.intro (h.none ka) (heap_new w (.cells #[.pointer (some ⟨b, 3, none⟩)] 62))))
  clear h ka
  have hN := Lib.hid hn
  clear hn
  go_enter Tryd.func38, Tryd.ntmps38
  go_wp2_with fail
  refine (genterf _ _ _ _ _ _ hd32 H.out.2.1 H.out.2.2).mono ?_
  rintro e w' ⟨rfl, hk⟩
  rw [decide_eq_false hN.out]
  go_wp2
  go_ret
  exact ⟨rfl, H.out.1.trans hk⟩
theorem genter_yes (b : Nat) (s : GS) (k : Int) (w : World) (hd32 : s.d < 32) (h : IsGate w b s) (hy : topV s.L s.d < k ∧ 0 ≤ k ∧ k ≤ 31) :
    Calls Tryd.prog 38 #[.pointer (some ⟨b, 3, none⟩), .int .i64 k] w fun e w' => e = .returned (.bool true) ∧ (∃ q', IsGate w' b { s with L := fun i => if i = s.d then k else s.L i, d := s.d + 1, q := q' }) ∧ Keeps (fun k => k = b) w w' := by
  have hmf : ∀ (fn : Fn) (first cap : Array Value) (w : World), (Instr.makeFunc fn first cap).run Tryd.prog w = .ok (.func fn first cap) w := fun _ _ _ _ => rfl
  have ka : Keeps (fun _ => False) w (w.alloc (.cells #[.pointer (some ⟨b, 3, none⟩)] 62)) := (Keeps.refl _ _).alloc _
  have hblt := h.lt
  have H := Lib.hid (And.intro ka (And.intro (h.none ka) (heap_new w (.cells #[.pointer (some ⟨b, 3, none⟩)] 62))))
  clear h ka
  have hN := Lib.hid hy
  clear hy
  go_enter Tryd.func38, Tryd.ntmps38
  go_wp2_with fail
  refine (genterf _ _ _ _ _ _ (by omega) H.out.2.1 H.out.2.2).mono ?_
  rintro e w1 ⟨rfl, hk⟩
  rw [decide_eq_true hN.out]
  have hk1 := H.out.1.trans hk
  have hg := H.out.2.1.none hk
  have hp := hk.at H.out.2.2 fun h => h
  have cp : w1.cell? ⟨w.heap.size, 0, none⟩ = some (.pointer (some ⟨b, 3, none⟩)) := cell_of hp 0
  have l1 := hg.lt
  have l2 := lt_of hp
  have cd := hg.c35
  have cm := hg.c36
  have fd := hg.free (3 + s.d)
  have f2 := hg.free 35
  have f3 := hg.free 36
  have cx := hg.cl s.d hd32
  have HB := Lib.hid hg
  clear hg hp
  go_wp2_with fail
  go_region
  go_wp2_with fail
  go_region
  go_wp2_with fail
  all_goals
    go_ret
    have hq := ((HB.out.setL s.d k hd32).setD (s.d + 1)).setQ (max s.q (s.d + 1))
    rw [show ((max s.q (s.d + 1) : Nat) : Int) = max (s.q : Int) ((s.d : Int) + 1) by omega, show ((s.d + 1 : Nat) : Int) = (s.d : Int) + 1 by omega] at hq
    refine ⟨rfl, ⟨_, hq.drew.drew⟩, ?_⟩
    have g0 : Keeps (fun k => k = b) w w1 := hk1.mono fun _ _ h => h.elim
    exact ((((g0.setB _ _).setB _ _).setB _ _).drew).drew
theorem gleave_none (b : Nat) (s : GS) (w : World) (hd : s.d = 0) (h : IsGate w b s) :
    Calls Tryd.prog 36 #[.pointer (some ⟨b, 3, none⟩)] w fun e w' => e = .returned (.tuple #[.int .i64 0, .bool false]) ∧ w = w' := by
  have H := Lib.hid h
  have HD := Lib.hid hd
  clear h hd
  go_enter Tryd.func36, Tryd.ntmps36
  go_wp2_with fail
  refine (gdeep _ _ _ H.out).mono ?_
  rintro e w' ⟨rfl, rfl⟩
  rw [HD.out]
  go_wp2
  exact bodyPost_ret (v := .tuple #[.int .i64 0, .bool false]) (by simp [results, Tryd.results36, go_sem]) rfl ⟨rfl, rfl⟩
theorem gleave_some (b d : Nat) (s : GS) (w : World) (hd32 : d + 1 ≤ 32) (hd : s.d = d + 1) (h : IsGate w b s) :
    Calls Tryd.prog 36 #[.pointer (some ⟨b, 3, none⟩)] w fun e w' => e = .returned (.tuple #[.int .i64 (s.L d), .bool true]) ∧ IsGate w' b { s with d := d } ∧ Keeps (fun k => k = b) w w' := by
  have H := Lib.hid h
  have l1 := h.lt
  have c0 : w.cell? ⟨b, 35, none⟩ = some (.int .i64 ((d + 1 : Nat) : Int)) := by rw [← hd]; exact h.c35
  have cd : w.cell? ⟨b, 3 + d, none⟩ = some (.int .i64 (s.L d)) := h.cl d (by omega)
  have f2 := h.free 35
  have z : (((d + 1 : Nat) : Int) == 0) = false := by simp; omega
  have HD := Lib.hid hd
  clear h hd
  go_enter Tryd.func36, Tryd.ntmps36
  go_wp2_with fail
  refine (gdeep _ _ _ H.out).mono ?_
  rintro e w' ⟨rfl, rfl⟩
  rw [HD.out]
  go_wp2_with fail
  go_quiet (fail)
  go_wp2
  refine bodyPost_ret (v := .tuple #[.int .i64 (s.L d), .bool true]) (by simp [results, Tryd.results36, go_sem]) rfl ⟨rfl, (H.out.setD d).drewN nq, ?_⟩
  exact ((Keeps.refl (fun k => k = b) w).setB 35 _).drewN nq
end Go.Proofs.YtlpnobpgphmngabDoor
