import Derived.Test.YthnmlklgbggmbaaGreatConfAq
import Derived.Test.YthnmlklgbggmbaaGreatObjq
import Derived.LoopN
namespace Go.Proofs.YthnmlklgbggmbaaGreat
open Go.ChangeShapes Go.WideShapes Go.ChangeAt Go.RowKit
set_option linter.unusedVariables false
set_option linter.unusedSimpArgs false
def firstN (f : Nat → Int) : Nat → Option Nat
  | 0 => none
  | n + 1 => match firstN f n with
    | some i => some i
    | none => if f n = 0 then none else some n
theorem firstN_nof {f : Nat → Int} : ∀ {n : Nat}, (∀ i, i < n → f i = 0) → firstN f n = none
  | 0, _ => rfl
  | n + 1, h => by
    unfold firstN
    rw [firstN_nof fun i hi => h i (Nat.lt_succ_of_lt hi), if_pos (h n (Nat.lt_succ_self n))]
theorem firstN_of {f : Nat → Int} {i : Nat} (h0 : ∀ j, j < i → f j = 0) (h1 : f i ≠ 0) : ∀ {n : Nat}, i < n → firstN f n = some i
  | 0, h => by omega
  | n + 1, h => by
    unfold firstN
    by_cases e : i = n
    · subst e
      rw [firstN_nof h0, if_neg h1]
    · rw [firstN_of h0 h1 (by omega)]
theorem firstN_none {f : Nat → Int} : ∀ {n : Nat}, firstN f n = none → ∀ i, i < n → f i = 0
  | 0, _, i, hi => by omega
  | n + 1, h, i, hi => by
    unfold firstN at h
    cases h1 : firstN f n with
    | some k => rw [h1] at h; cases h
    | none =>
      rw [h1] at h
      by_cases e : f n = 0
      · by_cases e2 : i = n
        · rw [e2]; exact e
        · exact firstN_none h1 i (by omega)
      · simp [e] at h
theorem firstN_some {f : Nat → Int} : ∀ {n i : Nat}, firstN f n = some i → i < n ∧ f i ≠ 0 ∧ ∀ j, j < i → f j = 0
  | 0, i, h => by cases h
  | n + 1, i, h => by
    unfold firstN at h
    cases h1 : firstN f n with
    | some k =>
      rw [h1] at h
      injection h with h
      subst h
      have := firstN_some h1
      exact ⟨by omega, this.2⟩
    | none =>
      rw [h1] at h
      by_cases e : f n = 0
      · simp [e] at h
      · simp [e] at h
        subst h
        exact ⟨Nat.lt_succ_self _, e, firstN_none h1⟩
def eachV (part : Int) (f : Nat → Int) (n : Nat) : Int × Int × Int := match firstN f n with
  | none => (0, 0, 0)
  | some i => (f i, part, (i : Int))
theorem eachV_none {part : Int} {f : Nat → Int} {n : Nat} (h : ∀ i, i < n → f i = 0) : eachV part f n = (0, 0, 0) := by unfold eachV; rw [firstN_nof h]
theorem eachV_some {part : Int} {f : Nat → Int} {n i : Nat} (hi : i < n) (h0 : ∀ j, j < i → f j = 0) (h1 : f i ≠ 0) : eachV part f n = (f i, part, (i : Int)) := by unfold eachV; rw [firstN_of h0 h1 hi]
@[reducible] def badC (b : Int × Int × Int) : Array Value := #[.int .i64 b.1, .int .i64 b.2.1, .int .i64 b.2.2]
theorem each1_any (f part at_ : Int) (G : Nat) (w : World) (h : w.cell? ⟨G, 0, none⟩ = some (.int .i64 part)) (hl : G < w.heap.size) :
    Calls Tryz.prog 150 #[.int .i64 f, .int .i64 at_, .pointer (some ⟨G, 0, none⟩)] w fun e w' => e = .returned (.agg #[.int .i64 f, .int .i64 part, .int .i64 at_]) ∧ Keeps (fun _ => False) w w' := by
  go_enter Tryz.func150, Tryz.ntmps150
  go_wp2
  refine bodyPost_ret (v := .agg #[.int .i64 f, .int .i64 part, .int .i64 at_]) (by simp [results, Tryz.results150, go_sem, *]) rfl ⟨rfl, ?_⟩
  exact (Keeps.refl _ _).alloc _
theorem three_cells {w : World} {g : Nat} {x y z : Value} {E : TypeId} (h : w.heap[g]? = some (.cells #[x, y, z] E (0, 0))) :
    (w.cell? ⟨g, 0, none⟩ = some x ∧ w.cell? ⟨g, 1, none⟩ = some y ∧ w.cell? ⟨g, 2, none⟩ = some z) ∧ w.frozen? ⟨g, 0, none⟩ = false ∧ w.frozen? ⟨g, 1, none⟩ = false ∧ w.frozen? ⟨g, 2, none⟩ = false ∧ g < w.heap.size := ⟨⟨cell_of h 0, cell_of h 1, cell_of h 2⟩, free_of h 0, free_of h 1, free_of h 2, lt_of h⟩
set_option maxHeartbeats 1000000 in
theorem each_counts (part N : Int) (n Q : Nat) (f : Nat → Int) (w : World) (hN : N = n) (hn : n ≤ maxLen)
    (hf : ∀ i, i < n → ∀ w', Keeps (fun _ => False) w w' → Calls Tryz.prog 97 #[.int .i64 (i : Int), .pointer (some ⟨Q, 0, none⟩)] w' fun e w2 => e = .returned (.int .i64 (f i)) ∧ Keeps (fun _ => False) w' w2) :
    Calls Tryz.prog 96 #[.int .i64 part, .int .i64 N, .func (.func 97) #[] #[.pointer (some ⟨Q, 0, none⟩)]] w fun e w' => e = .returned (.agg (badC (eachV part f n))) ∧ Keeps (fun _ => False) w w' := by
  subst hN
  unfold maxLen at hn
  have HF := Lib.hid hf
  have HB := Lib.hid (((Has.start w).alloc (.cells #[.int .i64 part] 3)).alloc (.cells #[.int .i64 0, .int .i64 0, .int .i64 0] 30))
  clear hf
  go_enter Tryz.func96, Tryz.ntmps96
  go_wp2_with fail
  obtain ⟨wo, rfl⟩ : ∃ wo : World, wo = w := ⟨_, rfl⟩
  go_loopw [12] (fun i wr => ∃ j : Nat, j ≤ n ∧ i = .int .i64 j ∧ (∀ k, k < j → f k = 0) ∧ Has wo wr [(wo.heap.size + 1, .cells #[.int .i64 0, .int .i64 0, .int .i64 0] 30 (0, 0)), (wo.heap.size, .cells #[.int .i64 part] 3 (0, 0))]) (fun i _ => n - (intOf i).toNat)
  case atStart => exact ⟨0, by omega, rfl, fun k hk => by omega, HB.out.eq (by simp)⟩
  case round =>
    obtain ⟨j, hj, rfl, hz, hB⟩ := hrel
    replace HB := Lib.hid hB
    have HZ := Lib.hid hz
    clear hB hz
    by_cases hlt : j < n
    · go_wp2_with fail
      refine (HF.out j hlt _ HB.out.keeps).mono ?_
      rintro e w2 ⟨rfl, k2⟩
      replace HB := Lib.hid (HB.out.none k2)
      clear k2
      by_cases hfz : f j = 0
      · have HZ2 := Lib.hid (show ∀ k, k < j + 1 → f k = 0 from fun k hk => by
          by_cases e : k = j
          · rw [e]; exact hfz
          · exact HZ.out k (by omega))
        rw [hfz]
        clear hfz
        go_wp2
        go_roundw
        case rel => exact ⟨j + 1, by omega, by go_num, HZ2.out, HB.out⟩
        case measure => simp [intOf]; omega
      · have HE := Lib.hid (eachV_some (part := part) hlt HZ.out hfz)
        have dz : (f j == 0) = false := beq_eq_false_iff_ne.mpr hfz
        obtain ⟨⟨r0, r1, r2⟩, g0, g1, g2, lr⟩ := three_cells (HB.out.at 0 rfl)
        have lp := lt_of (HB.out.at 1 rfl)
        have p0 : w2.cell? ⟨wo.heap.size, 0, none⟩ = some (.int .i64 part) := cell_of (HB.out.at 1 rfl) 0
        go_wp2_with fail
        refine (each1_any _ part _ _ _ p0 lp).mono ?_
        rintro e w3 ⟨rfl, k3⟩
        replace HB := Lib.hid (HB.out.none k3)
        clear k3 r0 r1 r2 g0 g1 g2 lr p0 lp
        obtain ⟨⟨r0, r1, r2⟩, g0, g1, g2, lr⟩ := three_cells (HB.out.at 0 rfl)
        have hle : wo.heap.size ≤ wo.heap.size + 1 := Nat.le_succ _
        go_wp2
        refine bodyPost_ret (v := .agg #[.int .i64 (f j), .int .i64 part, .int .i64 (j : Int)]) (by simp [results, Tryz.results96, go_sem, *]) rfl ⟨by rw [HE.out], ?_⟩
        exact ((HB.out.keeps.setCell (p := ⟨wo.heap.size + 1, 0, none⟩) (.inr hle) _).setCell (p := ⟨wo.heap.size + 1, 1, none⟩) (.inr hle) _).setCell (p := ⟨wo.heap.size + 1, 2, none⟩) (.inr hle) _
    · obtain rfl : j = n := by omega
      obtain ⟨⟨r0, r1, r2⟩, g0, g1, g2, lr⟩ := three_cells (HB.out.at 0 rfl)
      have hle : wo.heap.size ≤ wo.heap.size + 1 := Nat.le_succ _
      go_wp2
      refine bodyPost_ret (v := .agg #[.int .i64 0, .int .i64 0, .int .i64 0]) (by simp [results, Tryz.results96, go_sem, *]) rfl ⟨by rw [eachV_none HZ.out], ?_⟩
      exact ((HB.out.keeps.setCell (p := ⟨wo.heap.size + 1, 0, none⟩) (.inr hle) _).setCell (p := ⟨wo.heap.size + 1, 1, none⟩) (.inr hle) _).setCell (p := ⟨wo.heap.size + 1, 2, none⟩) (.inr hle) _
set_option maxHeartbeats 1000000 in
theorem each_tasks (part N : Int) (n Q : Nat) (f : Nat → Int) (w : World) (hN : N = n) (hn : n ≤ maxLen)
    (hf : ∀ i, i < n → ∀ w', Keeps (fun _ => False) w w' → Calls Tryz.prog 98 #[.int .i64 (i : Int), .pointer (some ⟨Q, 0, none⟩)] w' fun e w2 => e = .returned (.int .i64 (f i)) ∧ Keeps (fun _ => False) w' w2) :
    Calls Tryz.prog 96 #[.int .i64 part, .int .i64 N, .func (.func 98) #[] #[.pointer (some ⟨Q, 0, none⟩)]] w fun e w' => e = .returned (.agg (badC (eachV part f n))) ∧ Keeps (fun _ => False) w w' := by
  subst hN
  unfold maxLen at hn
  have HF := Lib.hid hf
  have HB := Lib.hid (((Has.start w).alloc (.cells #[.int .i64 part] 3)).alloc (.cells #[.int .i64 0, .int .i64 0, .int .i64 0] 30))
  clear hf
  go_enter Tryz.func96, Tryz.ntmps96
  go_wp2_with fail
  obtain ⟨wo, rfl⟩ : ∃ wo : World, wo = w := ⟨_, rfl⟩
  go_loopw [12] (fun i wr => ∃ j : Nat, j ≤ n ∧ i = .int .i64 j ∧ (∀ k, k < j → f k = 0) ∧ Has wo wr [(wo.heap.size + 1, .cells #[.int .i64 0, .int .i64 0, .int .i64 0] 30 (0, 0)), (wo.heap.size, .cells #[.int .i64 part] 3 (0, 0))]) (fun i _ => n - (intOf i).toNat)
  case atStart => exact ⟨0, by omega, rfl, fun k hk => by omega, HB.out.eq (by simp)⟩
  case round =>
    obtain ⟨j, hj, rfl, hz, hB⟩ := hrel
    replace HB := Lib.hid hB
    have HZ := Lib.hid hz
    clear hB hz
    by_cases hlt : j < n
    · go_wp2_with fail
      refine (HF.out j hlt _ HB.out.keeps).mono ?_
      rintro e w2 ⟨rfl, k2⟩
      replace HB := Lib.hid (HB.out.none k2)
      clear k2
      by_cases hfz : f j = 0
      · have HZ2 := Lib.hid (show ∀ k, k < j + 1 → f k = 0 from fun k hk => by
          by_cases e : k = j
          · rw [e]; exact hfz
          · exact HZ.out k (by omega))
        rw [hfz]
        clear hfz
        go_wp2
        go_roundw
        case rel => exact ⟨j + 1, by omega, by go_num, HZ2.out, HB.out⟩
        case measure => simp [intOf]; omega
      · have HE := Lib.hid (eachV_some (part := part) hlt HZ.out hfz)
        have dz : (f j == 0) = false := beq_eq_false_iff_ne.mpr hfz
        obtain ⟨⟨r0, r1, r2⟩, g0, g1, g2, lr⟩ := three_cells (HB.out.at 0 rfl)
        have lp := lt_of (HB.out.at 1 rfl)
        have p0 : w2.cell? ⟨wo.heap.size, 0, none⟩ = some (.int .i64 part) := cell_of (HB.out.at 1 rfl) 0
        go_wp2_with fail
        refine (each1_any _ part _ _ _ p0 lp).mono ?_
        rintro e w3 ⟨rfl, k3⟩
        replace HB := Lib.hid (HB.out.none k3)
        clear k3 r0 r1 r2 g0 g1 g2 lr p0 lp
        obtain ⟨⟨r0, r1, r2⟩, g0, g1, g2, lr⟩ := three_cells (HB.out.at 0 rfl)
        have hle : wo.heap.size ≤ wo.heap.size + 1 := Nat.le_succ _
        go_wp2
        refine bodyPost_ret (v := .agg #[.int .i64 (f j), .int .i64 part, .int .i64 (j : Int)]) (by simp [results, Tryz.results96, go_sem, *]) rfl ⟨by rw [HE.out], ?_⟩
        exact ((HB.out.keeps.setCell (p := ⟨wo.heap.size + 1, 0, none⟩) (.inr hle) _).setCell (p := ⟨wo.heap.size + 1, 1, none⟩) (.inr hle) _).setCell (p := ⟨wo.heap.size + 1, 2, none⟩) (.inr hle) _
    · obtain rfl : j = n := by omega
      obtain ⟨⟨r0, r1, r2⟩, g0, g1, g2, lr⟩ := three_cells (HB.out.at 0 rfl)
      have hle : wo.heap.size ≤ wo.heap.size + 1 := Nat.le_succ _
      go_wp2
      refine bodyPost_ret (v := .agg #[.int .i64 0, .int .i64 0, .int .i64 0]) (by simp [results, Tryz.results96, go_sem, *]) rfl ⟨by rw [eachV_none HZ.out], ?_⟩
      exact ((HB.out.keeps.setCell (p := ⟨wo.heap.size + 1, 0, none⟩) (.inr hle) _).setCell (p := ⟨wo.heap.size + 1, 1, none⟩) (.inr hle) _).setCell (p := ⟨wo.heap.size + 1, 2, none⟩) (.inr hle) _
set_option maxHeartbeats 1000000 in
theorem each_levels (part N : Int) (n Q : Nat) (f : Nat → Int) (w : World) (hN : N = n) (hn : n ≤ maxLen)
    (hf : ∀ i, i < n → ∀ w', Keeps (fun _ => False) w w' → Calls Tryz.prog 100 #[.int .i64 (i : Int), .pointer (some ⟨Q, 0, none⟩)] w' fun e w2 => e = .returned (.int .i64 (f i)) ∧ Keeps (fun _ => False) w' w2) :
    Calls Tryz.prog 96 #[.int .i64 part, .int .i64 N, .func (.func 100) #[] #[.pointer (some ⟨Q, 0, none⟩)]] w fun e w' => e = .returned (.agg (badC (eachV part f n))) ∧ Keeps (fun _ => False) w w' := by
  subst hN
  unfold maxLen at hn
  have HF := Lib.hid hf
  have HB := Lib.hid (((Has.start w).alloc (.cells #[.int .i64 part] 3)).alloc (.cells #[.int .i64 0, .int .i64 0, .int .i64 0] 30))
  clear hf
  go_enter Tryz.func96, Tryz.ntmps96
  go_wp2_with fail
  obtain ⟨wo, rfl⟩ : ∃ wo : World, wo = w := ⟨_, rfl⟩
  go_loopw [12] (fun i wr => ∃ j : Nat, j ≤ n ∧ i = .int .i64 j ∧ (∀ k, k < j → f k = 0) ∧ Has wo wr [(wo.heap.size + 1, .cells #[.int .i64 0, .int .i64 0, .int .i64 0] 30 (0, 0)), (wo.heap.size, .cells #[.int .i64 part] 3 (0, 0))]) (fun i _ => n - (intOf i).toNat)
  case atStart => exact ⟨0, by omega, rfl, fun k hk => by omega, HB.out.eq (by simp)⟩
  case round =>
    obtain ⟨j, hj, rfl, hz, hB⟩ := hrel
    replace HB := Lib.hid hB
    have HZ := Lib.hid hz
    clear hB hz
    by_cases hlt : j < n
    · go_wp2_with fail
      refine (HF.out j hlt _ HB.out.keeps).mono ?_
      rintro e w2 ⟨rfl, k2⟩
      replace HB := Lib.hid (HB.out.none k2)
      clear k2
      by_cases hfz : f j = 0
      · have HZ2 := Lib.hid (show ∀ k, k < j + 1 → f k = 0 from fun k hk => by
          by_cases e : k = j
          · rw [e]; exact hfz
          · exact HZ.out k (by omega))
        rw [hfz]
        clear hfz
        go_wp2
        go_roundw
        case rel => exact ⟨j + 1, by omega, by go_num, HZ2.out, HB.out⟩
        case measure => simp [intOf]; omega
      · have HE := Lib.hid (eachV_some (part := part) hlt HZ.out hfz)
        have dz : (f j == 0) = false := beq_eq_false_iff_ne.mpr hfz
        obtain ⟨⟨r0, r1, r2⟩, g0, g1, g2, lr⟩ := three_cells (HB.out.at 0 rfl)
        have lp := lt_of (HB.out.at 1 rfl)
        have p0 : w2.cell? ⟨wo.heap.size, 0, none⟩ = some (.int .i64 part) := cell_of (HB.out.at 1 rfl) 0
        go_wp2_with fail
        refine (each1_any _ part _ _ _ p0 lp).mono ?_
        rintro e w3 ⟨rfl, k3⟩
        replace HB := Lib.hid (HB.out.none k3)
        clear k3 r0 r1 r2 g0 g1 g2 lr p0 lp
        obtain ⟨⟨r0, r1, r2⟩, g0, g1, g2, lr⟩ := three_cells (HB.out.at 0 rfl)
        have hle : wo.heap.size ≤ wo.heap.size + 1 := Nat.le_succ _
        go_wp2
        refine bodyPost_ret (v := .agg #[.int .i64 (f j), .int .i64 part, .int .i64 (j : Int)]) (by simp [results, Tryz.results96, go_sem, *]) rfl ⟨by rw [HE.out], ?_⟩
        exact ((HB.out.keeps.setCell (p := ⟨wo.heap.size + 1, 0, none⟩) (.inr hle) _).setCell (p := ⟨wo.heap.size + 1, 1, none⟩) (.inr hle) _).setCell (p := ⟨wo.heap.size + 1, 2, none⟩) (.inr hle) _
    · obtain rfl : j = n := by omega
      obtain ⟨⟨r0, r1, r2⟩, g0, g1, g2, lr⟩ := three_cells (HB.out.at 0 rfl)
      have hle : wo.heap.size ≤ wo.heap.size + 1 := Nat.le_succ _
      go_wp2
      refine bodyPost_ret (v := .agg #[.int .i64 0, .int .i64 0, .int .i64 0]) (by simp [results, Tryz.results96, go_sem, *]) rfl ⟨by rw [eachV_none HZ.out], ?_⟩
      exact ((HB.out.keeps.setCell (p := ⟨wo.heap.size + 1, 0, none⟩) (.inr hle) _).setCell (p := ⟨wo.heap.size + 1, 1, none⟩) (.inr hle) _).setCell (p := ⟨wo.heap.size + 1, 2, none⟩) (.inr hle) _
set_option maxHeartbeats 1000000 in
theorem each_objects (part N : Int) (n Q : Nat) (f : Nat → Int) (w : World) (hN : N = n) (hn : n ≤ maxLen)
    (hf : ∀ i, i < n → ∀ w', Keeps (fun _ => False) w w' → Calls Tryz.prog 102 #[.int .i64 (i : Int), .pointer (some ⟨Q, 0, none⟩)] w' fun e w2 => e = .returned (.int .i64 (f i)) ∧ Keeps (fun _ => False) w' w2) :
    Calls Tryz.prog 96 #[.int .i64 part, .int .i64 N, .func (.func 102) #[] #[.pointer (some ⟨Q, 0, none⟩)]] w fun e w' => e = .returned (.agg (badC (eachV part f n))) ∧ Keeps (fun _ => False) w w' := by
  subst hN
  unfold maxLen at hn
  have HF := Lib.hid hf
  have HB := Lib.hid (((Has.start w).alloc (.cells #[.int .i64 part] 3)).alloc (.cells #[.int .i64 0, .int .i64 0, .int .i64 0] 30))
  clear hf
  go_enter Tryz.func96, Tryz.ntmps96
  go_wp2_with fail
  obtain ⟨wo, rfl⟩ : ∃ wo : World, wo = w := ⟨_, rfl⟩
  go_loopw [12] (fun i wr => ∃ j : Nat, j ≤ n ∧ i = .int .i64 j ∧ (∀ k, k < j → f k = 0) ∧ Has wo wr [(wo.heap.size + 1, .cells #[.int .i64 0, .int .i64 0, .int .i64 0] 30 (0, 0)), (wo.heap.size, .cells #[.int .i64 part] 3 (0, 0))]) (fun i _ => n - (intOf i).toNat)
  case atStart => exact ⟨0, by omega, rfl, fun k hk => by omega, HB.out.eq (by simp)⟩
  case round =>
    obtain ⟨j, hj, rfl, hz, hB⟩ := hrel
    replace HB := Lib.hid hB
    have HZ := Lib.hid hz
    clear hB hz
    by_cases hlt : j < n
    · go_wp2_with fail
      refine (HF.out j hlt _ HB.out.keeps).mono ?_
      rintro e w2 ⟨rfl, k2⟩
      replace HB := Lib.hid (HB.out.none k2)
      clear k2
      by_cases hfz : f j = 0
      · have HZ2 := Lib.hid (show ∀ k, k < j + 1 → f k = 0 from fun k hk => by
          by_cases e : k = j
          · rw [e]; exact hfz
          · exact HZ.out k (by omega))
        rw [hfz]
        clear hfz
        go_wp2
        go_roundw
        case rel => exact ⟨j + 1, by omega, by go_num, HZ2.out, HB.out⟩
        case measure => simp [intOf]; omega
      · have HE := Lib.hid (eachV_some (part := part) hlt HZ.out hfz)
        have dz : (f j == 0) = false := beq_eq_false_iff_ne.mpr hfz
        obtain ⟨⟨r0, r1, r2⟩, g0, g1, g2, lr⟩ := three_cells (HB.out.at 0 rfl)
        have lp := lt_of (HB.out.at 1 rfl)
        have p0 : w2.cell? ⟨wo.heap.size, 0, none⟩ = some (.int .i64 part) := cell_of (HB.out.at 1 rfl) 0
        go_wp2_with fail
        refine (each1_any _ part _ _ _ p0 lp).mono ?_
        rintro e w3 ⟨rfl, k3⟩
        replace HB := Lib.hid (HB.out.none k3)
        clear k3 r0 r1 r2 g0 g1 g2 lr p0 lp
        obtain ⟨⟨r0, r1, r2⟩, g0, g1, g2, lr⟩ := three_cells (HB.out.at 0 rfl)
        have hle : wo.heap.size ≤ wo.heap.size + 1 := Nat.le_succ _
        go_wp2
        refine bodyPost_ret (v := .agg #[.int .i64 (f j), .int .i64 part, .int .i64 (j : Int)]) (by simp [results, Tryz.results96, go_sem, *]) rfl ⟨by rw [HE.out], ?_⟩
        exact ((HB.out.keeps.setCell (p := ⟨wo.heap.size + 1, 0, none⟩) (.inr hle) _).setCell (p := ⟨wo.heap.size + 1, 1, none⟩) (.inr hle) _).setCell (p := ⟨wo.heap.size + 1, 2, none⟩) (.inr hle) _
    · obtain rfl : j = n := by omega
      obtain ⟨⟨r0, r1, r2⟩, g0, g1, g2, lr⟩ := three_cells (HB.out.at 0 rfl)
      have hle : wo.heap.size ≤ wo.heap.size + 1 := Nat.le_succ _
      go_wp2
      refine bodyPost_ret (v := .agg #[.int .i64 0, .int .i64 0, .int .i64 0]) (by simp [results, Tryz.results96, go_sem, *]) rfl ⟨by rw [eachV_none HZ.out], ?_⟩
      exact ((HB.out.keeps.setCell (p := ⟨wo.heap.size + 1, 0, none⟩) (.inr hle) _).setCell (p := ⟨wo.heap.size + 1, 1, none⟩) (.inr hle) _).setCell (p := ⟨wo.heap.size + 1, 2, none⟩) (.inr hle) _
end Go.Proofs.YthnmlklgbggmbaaGreat
namespace Go.Proofs.YthnmlklgbggmbaaGreat
open Go.ChangeShapes Go.WideShapes Go.ChangeAt Go.RowKit
set_option linter.unusedVariables false
set_option linter.unusedSimpArgs false
def ownF (c : CfD) (o : Nat → Int) : Bool := (if o 0 = 4 then (o 4 == 0) else hasF c (o 4)) && (if o 0 = 1 ∨ o 0 = 2 then hasF c (o 5) else (o 5 == 0))
theorem own_1 (c : CfD) (o oi : Nat → Int) (w : World) (ho : c.Ok) (h : o 0 = 1) :
    Calls Tryz.prog 104 #[.agg c.cells, .agg (objC o oi)] w fun e w' => e = .returned (.bool (ownF c o)) ∧ Keeps (fun _ => False) w w' := by
  have HB := Lib.hid (((Has.start w).alloc (.cells c.cells 112)).alloc (.cells (objC o oi) 74) |>.eq (M := [(w.heap.size + 1, .cells (objC o oi) 74 (0, 0)), (w.heap.size, .cells c.cells 112 (0, 0))]) (by simp))
  have HF := Lib.hid (fun x w => chas_any c x w ho)
  have HV := Lib.hid (show ownF c o = (hasF c (o 4) && hasF c (o 5)) from by unfold ownF; simp [h])
  have k0 := h
  clear h ho
  go_enter Tryz.func104, Tryz.ntmps104
  go_wp2_with fail
  go_quiet (fail)
  replace HB := Lib.hid (HB.out.none ((Keeps.refl _ _).drewN nq))
  obtain ⟨x0, x1, x2, x3, x4, x5, x6, x7, x8, x9⟩ := ten_cells (HB.out.at 0 rfl)
  obtain ⟨e0, e1, e2, e3⟩ := four_cells (HB.out.at 1 rfl)
  go_wp2_with fail
  refine (HF.out _ _).mono ?_
  rintro e w2 ⟨rfl, k2⟩
  replace HB := Lib.hid (HB.out.none k2)
  clear k2 x0 x1 x2 x3 x4 x5 x6 x7 x8 x9 e0 e1 e2 e3
  obtain ⟨x0, x1, x2, x3, x4, x5, x6, x7, x8, x9⟩ := ten_cells (HB.out.at 0 rfl)
  obtain ⟨e0, e1, e2, e3⟩ := four_cells (HB.out.at 1 rfl)
  go_wp2_with fail
  refine (HF.out _ _).mono ?_
  rintro e w3 ⟨rfl, k3⟩
  replace HB := Lib.hid (HB.out.none k3)
  clear k3 x0 x1 x2 x3 x4 x5 x6 x7 x8 x9 e0 e1 e2 e3
  obtain ⟨x0, x1, x2, x3, x4, x5, x6, x7, x8, x9⟩ := ten_cells (HB.out.at 0 rfl)
  obtain ⟨e0, e1, e2, e3⟩ := four_cells (HB.out.at 1 rfl)
  go_wp2
  all_goals
    go_ret
    exact ⟨ret_bool (by rw [HV.out]; simp [*]), HB.out.keeps⟩
theorem own_2 (c : CfD) (o oi : Nat → Int) (w : World) (ho : c.Ok) (h : o 0 = 2) :
    Calls Tryz.prog 104 #[.agg c.cells, .agg (objC o oi)] w fun e w' => e = .returned (.bool (ownF c o)) ∧ Keeps (fun _ => False) w w' := by
  have HB := Lib.hid (((Has.start w).alloc (.cells c.cells 112)).alloc (.cells (objC o oi) 74) |>.eq (M := [(w.heap.size + 1, .cells (objC o oi) 74 (0, 0)), (w.heap.size, .cells c.cells 112 (0, 0))]) (by simp))
  have HF := Lib.hid (fun x w => chas_any c x w ho)
  have HV := Lib.hid (show ownF c o = (hasF c (o 4) && hasF c (o 5)) from by unfold ownF; simp [h])
  have k0 := h
  clear h ho
  go_enter Tryz.func104, Tryz.ntmps104
  go_wp2_with fail
  go_quiet (fail)
  replace HB := Lib.hid (HB.out.none ((Keeps.refl _ _).drewN nq))
  obtain ⟨x0, x1, x2, x3, x4, x5, x6, x7, x8, x9⟩ := ten_cells (HB.out.at 0 rfl)
  obtain ⟨e0, e1, e2, e3⟩ := four_cells (HB.out.at 1 rfl)
  go_wp2_with fail
  refine (HF.out _ _).mono ?_
  rintro e w2 ⟨rfl, k2⟩
  replace HB := Lib.hid (HB.out.none k2)
  clear k2 x0 x1 x2 x3 x4 x5 x6 x7 x8 x9 e0 e1 e2 e3
  obtain ⟨x0, x1, x2, x3, x4, x5, x6, x7, x8, x9⟩ := ten_cells (HB.out.at 0 rfl)
  obtain ⟨e0, e1, e2, e3⟩ := four_cells (HB.out.at 1 rfl)
  go_wp2_with fail
  refine (HF.out _ _).mono ?_
  rintro e w3 ⟨rfl, k3⟩
  replace HB := Lib.hid (HB.out.none k3)
  clear k3 x0 x1 x2 x3 x4 x5 x6 x7 x8 x9 e0 e1 e2 e3
  obtain ⟨x0, x1, x2, x3, x4, x5, x6, x7, x8, x9⟩ := ten_cells (HB.out.at 0 rfl)
  obtain ⟨e0, e1, e2, e3⟩ := four_cells (HB.out.at 1 rfl)
  go_wp2
  all_goals
    go_ret
    exact ⟨ret_bool (by rw [HV.out]; simp [*]), HB.out.keeps⟩
theorem own_4 (c : CfD) (o oi : Nat → Int) (w : World) (ho : c.Ok) (h : o 0 = 4) :
    Calls Tryz.prog 104 #[.agg c.cells, .agg (objC o oi)] w fun e w' => e = .returned (.bool (ownF c o)) ∧ Keeps (fun _ => False) w w' := by
  have HB := Lib.hid (((Has.start w).alloc (.cells c.cells 112)).alloc (.cells (objC o oi) 74) |>.eq (M := [(w.heap.size + 1, .cells (objC o oi) 74 (0, 0)), (w.heap.size, .cells c.cells 112 (0, 0))]) (by simp))
  have HF := Lib.hid (fun x w => chas_any c x w ho)
  have HV := Lib.hid (show ownF c o = ((o 4 == 0) && (o 5 == 0)) from by unfold ownF; simp [h])
  have k0 := h
  clear h ho
  go_enter Tryz.func104, Tryz.ntmps104
  go_wp2_with fail
  go_quiet (fail)
  replace HB := Lib.hid (HB.out.none ((Keeps.refl _ _).drewN nq))
  obtain ⟨x0, x1, x2, x3, x4, x5, x6, x7, x8, x9⟩ := ten_cells (HB.out.at 0 rfl)
  obtain ⟨e0, e1, e2, e3⟩ := four_cells (HB.out.at 1 rfl)
  go_wp2
  all_goals
    go_ret
    exact ⟨ret_bool (by rw [HV.out]; simp [*]), HB.out.keeps⟩
theorem own_x (c : CfD) (o oi : Nat → Int) (w : World) (ho : c.Ok) (h : o 0 ≠ 1 ∧ o 0 ≠ 2 ∧ o 0 ≠ 4) :
    Calls Tryz.prog 104 #[.agg c.cells, .agg (objC o oi)] w fun e w' => e = .returned (.bool (ownF c o)) ∧ Keeps (fun _ => False) w w' := by
  have HB := Lib.hid (((Has.start w).alloc (.cells c.cells 112)).alloc (.cells (objC o oi) 74) |>.eq (M := [(w.heap.size + 1, .cells (objC o oi) 74 (0, 0)), (w.heap.size, .cells c.cells 112 (0, 0))]) (by simp))
  have HF := Lib.hid (fun x w => chas_any c x w ho)
  have HV := Lib.hid (show ownF c o = (hasF c (o 4) && (o 5 == 0)) from by unfold ownF; simp [h])
  have n1 : (o 0 == 1) = false := beq_eq_false_iff_ne.mpr h.1
  have n2 : (o 0 == 2) = false := beq_eq_false_iff_ne.mpr h.2.1
  have n4 : (o 0 == 4) = false := beq_eq_false_iff_ne.mpr h.2.2
  have m4 : ¬ o 0 = 4 := h.2.2
  clear h ho
  go_enter Tryz.func104, Tryz.ntmps104
  go_wp2_with fail
  go_quiet (fail)
  replace HB := Lib.hid (HB.out.none ((Keeps.refl _ _).drewN nq))
  obtain ⟨x0, x1, x2, x3, x4, x5, x6, x7, x8, x9⟩ := ten_cells (HB.out.at 0 rfl)
  obtain ⟨e0, e1, e2, e3⟩ := four_cells (HB.out.at 1 rfl)
  go_wp2_with fail
  refine (HF.out _ _).mono ?_
  rintro e w2 ⟨rfl, k2⟩
  replace HB := Lib.hid (HB.out.none k2)
  clear k2 x0 x1 x2 x3 x4 x5 x6 x7 x8 x9 e0 e1 e2 e3
  obtain ⟨x0, x1, x2, x3, x4, x5, x6, x7, x8, x9⟩ := ten_cells (HB.out.at 0 rfl)
  obtain ⟨e0, e1, e2, e3⟩ := four_cells (HB.out.at 1 rfl)
  go_wp2
  all_goals
    go_ret
    exact ⟨ret_bool (by rw [HV.out]; simp [*]), HB.out.keeps⟩
theorem own_any (c : CfD) (o oi : Nat → Int) (w : World) (ho : c.Ok) :
    Calls Tryz.prog 104 #[.agg c.cells, .agg (objC o oi)] w fun e w' => e = .returned (.bool (ownF c o)) ∧ Keeps (fun _ => False) w w' := by
  by_cases h1 : o 0 = 1
  · exact own_1 c o oi w ho h1
  by_cases h2 : o 0 = 2
  · exact own_2 c o oi w ho h2
  by_cases h4 : o 0 = 4
  · exact own_4 c o oi w ho h4
  exact own_x c o oi w ho ⟨h1, h2, h4⟩
end Go.Proofs.YthnmlklgbggmbaaGreat
