import Derived.Test.YthnmlklgbggmbaaGreatPlAz
import Derived.Deep.RegionHeld3
namespace Go.Proofs.YthnmlklgbggmbaaGreat
open Go.ChangeShapes Go.WideShapes Go.ChangeAt Go.RowKit
set_option linter.unusedVariables false
set_option linter.unusedSimpArgs false
/-- How far a part lies behind the beginning; -1: such objects have none. -/
def offP (part : Int) : Int × Int := if part = 1 then (0, 1) else if part = 2 then (1, 1) else if part = 4 then (0, 2) else if part = 5 then (1, 2) else if part = 6 then (2, 2) else if part = 7 then (0, 3) else (0, 4)
def singP (k part : Int) : Int := if (offP part).2 = k then (offP part).1 else -1
theorem single_any (k part : Int) (w : World) (hp : 1 ≤ part ∧ part ≤ 8) (h3 : part ≠ 3) : Calls Tryz.prog 178 #[.int .i64 k, .int .i64 part] w fun e w' => e = .returned (.int .i64 (singP k part)) ∧ w' = w := by
  unfold singP
  rcases (by omega : part = 1 ∨ part = 2 ∨ part = 4 ∨ part = 5 ∨ part = 6 ∨ part = 7 ∨ part = 8) with rfl | rfl | rfl | rfl | rfl | rfl | rfl
  · rw [show offP 1 = (0, 1) from rfl]
    dsimp only
    by_cases hk : (1 : Int) = k
    · rw [if_pos hk]
      subst hk
      go_enter Tryz.func178, Tryz.ntmps178
      go_wp2_with fail
      go_ret
      exact ⟨rfl, rfl⟩
    · rw [if_neg hk]
      have hk2 : ((1 : Int) == k) = false := by rw [beq_eq_false_iff_ne]; exact hk
      go_enter Tryz.func178, Tryz.ntmps178
      go_wp2_with fail
      go_ret
      exact ⟨rfl, rfl⟩
  · rw [show offP 2 = (1, 1) from rfl]
    dsimp only
    by_cases hk : (1 : Int) = k
    · rw [if_pos hk]
      subst hk
      go_enter Tryz.func178, Tryz.ntmps178
      go_wp2_with fail
      go_ret
      exact ⟨rfl, rfl⟩
    · rw [if_neg hk]
      have hk2 : ((1 : Int) == k) = false := by rw [beq_eq_false_iff_ne]; exact hk
      go_enter Tryz.func178, Tryz.ntmps178
      go_wp2_with fail
      go_ret
      exact ⟨rfl, rfl⟩
  · rw [show offP 4 = (0, 2) from rfl]
    dsimp only
    by_cases hk : (2 : Int) = k
    · rw [if_pos hk]
      subst hk
      go_enter Tryz.func178, Tryz.ntmps178
      go_wp2_with fail
      go_ret
      exact ⟨rfl, rfl⟩
    · rw [if_neg hk]
      have hk2 : ((2 : Int) == k) = false := by rw [beq_eq_false_iff_ne]; exact hk
      go_enter Tryz.func178, Tryz.ntmps178
      go_wp2_with fail
      go_ret
      exact ⟨rfl, rfl⟩
  · rw [show offP 5 = (1, 2) from rfl]
    dsimp only
    by_cases hk : (2 : Int) = k
    · rw [if_pos hk]
      subst hk
      go_enter Tryz.func178, Tryz.ntmps178
      go_wp2_with fail
      go_ret
      exact ⟨rfl, rfl⟩
    · rw [if_neg hk]
      have hk2 : ((2 : Int) == k) = false := by rw [beq_eq_false_iff_ne]; exact hk
      go_enter Tryz.func178, Tryz.ntmps178
      go_wp2_with fail
      go_ret
      exact ⟨rfl, rfl⟩
  · rw [show offP 6 = (2, 2) from rfl]
    dsimp only
    by_cases hk : (2 : Int) = k
    · rw [if_pos hk]
      subst hk
      go_enter Tryz.func178, Tryz.ntmps178
      go_wp2_with fail
      go_ret
      exact ⟨rfl, rfl⟩
    · rw [if_neg hk]
      have hk2 : ((2 : Int) == k) = false := by rw [beq_eq_false_iff_ne]; exact hk
      go_enter Tryz.func178, Tryz.ntmps178
      go_wp2_with fail
      go_ret
      exact ⟨rfl, rfl⟩
  · rw [show offP 7 = (0, 3) from rfl]
    dsimp only
    by_cases hk : (3 : Int) = k
    · rw [if_pos hk]
      subst hk
      go_enter Tryz.func178, Tryz.ntmps178
      go_wp2_with fail
      go_ret
      exact ⟨rfl, rfl⟩
    · rw [if_neg hk]
      have hk2 : ((3 : Int) == k) = false := by rw [beq_eq_false_iff_ne]; exact hk
      go_enter Tryz.func178, Tryz.ntmps178
      go_wp2_with fail
      go_ret
      exact ⟨rfl, rfl⟩
  · rw [show offP 8 = (0, 4) from rfl]
    dsimp only
    by_cases hk : (4 : Int) = k
    · rw [if_pos hk]
      subst hk
      go_enter Tryz.func178, Tryz.ntmps178
      go_wp2_with fail
      go_ret
      exact ⟨rfl, rfl⟩
    · rw [if_neg hk]
      have hk2 : ((4 : Int) == k) = false := by rw [beq_eq_false_iff_ne]; exact hk
      go_enter Tryz.func178, Tryz.ntmps178
      go_wp2_with fail
      go_ret
      exact ⟨rfl, rfl⟩
end Go.Proofs.YthnmlklgbggmbaaGreat
namespace Go.Proofs.YthnmlklgbggmbaaGreat
open Go.ChangeShapes Go.WideShapes Go.ChangeAt Go.RowKit
set_option linter.unusedVariables false
set_option linter.unusedSimpArgs false
theorem entry_some (p : Nat → Int) (i : Int) (w : World) : Calls Tryz.prog 177 #[.agg (plC p), .int .i64 i] w fun e w' => (∃ x, e = .returned (.int .i64 x)) ∧ Keeps (fun _ => False) w w' := by
  have HB := Lib.hid (((Keeps.refl (fun _ => False) w).alloc (.cells (plC p) 145)))
  cases e : (p 0 == 3)
  all_goals
    go_enter Tryz.func177, Tryz.ntmps177
    go_wp2
    go_ret
    exact ⟨⟨_, rfl⟩, HB.out⟩
set_option maxHeartbeats 4000000 in
theorem data_some (p : Nat → Int) (i j : Int) (w : World) : Calls Tryz.prog 176 #[.agg (plC p), .int .i64 i, .int .i64 j] w fun e w' => (∃ x, e = .returned (.int .i64 x)) ∧ Keeps (fun _ => False) w w' := by
  have HB := Lib.hid ((Has.start w).alloc (.cells (plC p) 145))
  have HO := Lib.hid (fun W => object_any p W)
  have HE := Lib.hid (fun W => entries_any (oOf p) (fun _ => 0) W)
  have HA := Lib.hid (fun W => ahead_any (p 0) W)
  generalize aheadP (p 0) = q1 at *
  generalize entP (oOf p) = q2 at *
  by_cases hi : i < 0
  · have d0 : decide (i < 0) = true := decide_eq_true hi
    go_enter Tryz.func176, Tryz.ntmps176
    go_wp2_with fail
    go_ret
    exact ⟨⟨_, rfl⟩, HB.out.keeps⟩
  have d0 : decide (i < 0) = false := decide_eq_false hi
  clear hi
  go_enter Tryz.func176, Tryz.ntmps176
  go_wp2_with fail
  refine (HO.out _).mono ?_
  rintro e w1 ⟨rfl, k1⟩
  replace HB := Lib.hid (HB.out.none k1)
  clear k1
  go_wp2_with fail
  refine (HE.out _).mono ?_
  rintro e w2 ⟨rfl, k2⟩
  replace HB := Lib.hid (HB.out.none k2)
  clear k2
  by_cases hq : q2 ≤ i
  · have d1 : decide (q2 ≤ i) = true := decide_eq_true hq
    go_wp2_with fail
    go_ret
    exact ⟨⟨_, rfl⟩, HB.out.keeps⟩
  have d1 : decide (q2 ≤ i) = false := decide_eq_false hq
  clear hq
  by_cases hj : j < 0
  · have d2 : decide (j < 0) = true := decide_eq_true hj
    go_wp2_with fail
    go_ret
    exact ⟨⟨_, rfl⟩, HB.out.keeps⟩
  have d2 : decide (j < 0) = false := decide_eq_false hj
  clear hj
  obtain ⟨c0, c1, c2, c3, c4⟩ := five_cells (HB.out.at 0 rfl)
  have lx := lt_of (HB.out.at 0 rfl)
  by_cases hw : p 3 ≤ j
  · have d3 : decide (p 3 ≤ j) = true := decide_eq_true hw
    go_wp2_with fail
    go_ret
    exact ⟨⟨_, rfl⟩, HB.out.keeps⟩
  have d3 : decide (p 3 ≤ j) = false := decide_eq_false hw
  clear hw
  replace HB := Lib.hid HB.out.drew
  go_wp2_with fail
  have HC := Lib.hid (five_cells (HB.out.at 0 rfl))
  clear c0 c1 c2 c3 c4 lx
  go_region_held3 (fun w' => w'.cell? ⟨w.heap.size, 0, none⟩ = some (.int .i64 (p 0)) ∧ w'.cell? ⟨w.heap.size, 1, none⟩ = some (.int .i64 (p 1)) ∧ w'.cell? ⟨w.heap.size, 2, none⟩ = some (.int .i64 (p 2)) ∧ w'.cell? ⟨w.heap.size, 3, none⟩ = some (.int .i64 (p 3)) ∧ w'.cell? ⟨w.heap.size, 4, none⟩ = some (.int .i64 (p 4)))
    (first
      | exact HC.out
      | go_keep)
    (first
      | (go_at_call 167; refine (HA.out _).mono ?_; rintro e9 w9 ⟨rfl, k9⟩; replace HB := Lib.hid (HB.out.none k9); replace HC := Lib.hid (five_cells (HB.out.at 0 rfl)); clear k9)
      | fail)
  all_goals
    go_wp2_with fail
    go_ret
    exact ⟨⟨_, rfl⟩, HB.out.keeps⟩
end Go.Proofs.YthnmlklgbggmbaaGreat
namespace Go.Proofs.YthnmlklgbggmbaaGreat
open Go.ChangeShapes Go.WideShapes Go.ChangeAt Go.RowKit
set_option linter.unusedVariables false
set_option linter.unusedSimpArgs false
theorem singP_le (k part : Int) : -1 ≤ singP k part ∧ singP k part ≤ 2 := by
  unfold singP offP
  repeat' split
  all_goals omega
def CellQ (w : World) (p : Nat → Int) (part i : Int) (e : Ending) (w' : World) : Prop := (∃ x, e = .returned (.int .i64 x) ∧ (i = 0 → part ≠ 3 → 0 ≤ singP (p 0) part → 0 ≤ x)) ∧ Keeps (fun _ => False) w w'
set_option maxHeartbeats 4000000 in
theorem cell_some (p : Nat → Int) (part i j : Int) (w : World) (h : rightS (oOf p) = true) (hp : 0 ≤ p 1 ∧ p 1 ≤ 1000000) (hpart : 1 ≤ part ∧ part ≤ 8) :
    Calls Tryz.prog 140 #[.agg (plC p), .int .i64 part, .int .i64 i, .int .i64 j] w (CellQ w p part i) := by
  have HB := Lib.hid ((Has.start w).alloc (.cells (plC p) 145))
  have HO := Lib.hid (fun W => object_any p W)
  have hb : -9223372036854775808 ≤ oOf p 1 ∧ oOf p 1 ≤ 9223372036854775807 := by
    by_cases e : oOf p 0 = 1
    · have := (right_nums h).2.2.1 e; omega
    · have := (right_nums h).2.2.2.1 e; omega
  have hr := fun W => right_any (oOf p) (fun _ => 0) W hb
  rw [h] at hr
  have HR := Lib.hid hr
  have HE := Lib.hid (fun W => entry_some p i W)
  have HD := Lib.hid (fun x W => data_some p x j W)
  have d1 : decide (part < 1) = false := decide_eq_false (by omega)
  have d8 : decide (8 < part) = false := decide_eq_false (by omega)
  clear hr hb h
  by_cases h3 : part = 3
  · have e3 : (part == 3) = true := by rw [h3]; rfl
    have HN := Lib.hid h3
    clear h3 hpart
    go_enter Tryz.func140, Tryz.ntmps140
    go_wp2_with fail
    refine (HO.out _).mono ?_
    rintro e w1 ⟨rfl, k1⟩
    replace HB := Lib.hid ((HB.out.none k1).alloc (.cells (objC (oOf p) fun _ => 0) 74))
    clear k1
    go_wp2_with fail
    refine (HR.out _).mono ?_
    rintro e w2 ⟨rfl, k2⟩
    replace HB := Lib.hid ((HB.out.none k2).drew)
    clear k2
    have HC := Lib.hid (five_cells (HB.out.at 1 rfl))
    go_wp2_with fail
    go_region_held3 (fun w' => w'.cell? ⟨w.heap.size, 0, none⟩ = some (.int .i64 (p 0)) ∧ w'.cell? ⟨w.heap.size, 1, none⟩ = some (.int .i64 (p 1)) ∧ w'.cell? ⟨w.heap.size, 2, none⟩ = some (.int .i64 (p 2)) ∧ w'.cell? ⟨w.heap.size, 3, none⟩ = some (.int .i64 (p 3)) ∧ w'.cell? ⟨w.heap.size, 4, none⟩ = some (.int .i64 (p 4)))
      (first
        | exact HC.out
        | go_keep)
      (first
        | (go_at_call 177; refine (HE.out _).mono ?_; rintro e9 w9 ⟨⟨x9, rfl⟩, k9⟩; replace HB := Lib.hid (HB.out.none k9); replace HC := Lib.hid (five_cells (HB.out.at 1 rfl)); clear k9)
        | (go_at_call 176; refine (HD.out _ _).mono ?_; rintro e9 w9 ⟨⟨x8, rfl⟩, k9⟩; replace HB := Lib.hid (HB.out.none k9); replace HC := Lib.hid (five_cells (HB.out.at 1 rfl)); clear k9)
        | fail)
    all_goals
      go_wp2_with fail
      go_ret
      exact ⟨⟨_, rfl, fun _ hn => absurd HN.out hn⟩, HB.out.keeps⟩
  · have e3 : (part == 3) = false := by rw [beq_eq_false_iff_ne]; exact h3
    have HS := Lib.hid (fun W => single_any (p 0) part W hpart h3)
    have hs := singP_le (p 0) part
    clear h3 hpart
    generalize hz : singP (p 0) part = z at *
    have HZ := Lib.hid hz
    clear hz
    go_enter Tryz.func140, Tryz.ntmps140
    go_wp2_with fail
    refine (HO.out _).mono ?_
    rintro e w1 ⟨rfl, k1⟩
    replace HB := Lib.hid ((HB.out.none k1).alloc (.cells (objC (oOf p) fun _ => 0) 74))
    clear k1
    go_wp2_with fail
    refine (HR.out _).mono ?_
    rintro e w2 ⟨rfl, k2⟩
    replace HB := Lib.hid (HB.out.none k2)
    clear k2
    obtain ⟨c0, c1, c2, c3, c4⟩ := five_cells (HB.out.at 1 rfl)
    have lx := lt_of (HB.out.at 1 rfl)
    go_wp2_with fail
    refine (HS.out _).mono ?_
    rintro e9 w9 ⟨rfl, rfl⟩
    by_cases hneg : z < 0
    · have d2 : decide (z < 0) = true := decide_eq_true hneg
      have HNG := Lib.hid hneg
      clear hneg
      go_wp2_with fail
      go_ret
      exact ⟨⟨_, rfl, fun _ _ h => by rw [HZ.out] at h; have := HNG.out; omega⟩, HB.out.keeps⟩
    · have d2 : decide (z < 0) = false := decide_eq_false hneg
      have w0 : wrap64 (p 1 + z) = p 1 + z := IntWalk.wrap64_in _ ⟨by omega, by omega⟩
      have HOK := Lib.hid (show 0 ≤ p 1 + z from by omega)
      by_cases h6 : part = 6
      · have e6 : (part == 6) = true := by rw [h6]; rfl
        clear h6
        by_cases hi0 : i < 0
        · have d3 : decide (i < 0) = true := decide_eq_true hi0
          have HI := Lib.hid hi0
          clear hi0 hneg
          go_wp2_with fail
          go_ret
          exact ⟨⟨_, rfl, fun h => by have := HI.out; omega⟩, HB.out.keeps⟩
        · have d3 : decide (i < 0) = false := decide_eq_false hi0
          by_cases hi2 : 2 ≤ i
          · have d4 : decide (2 ≤ i) = true := decide_eq_true hi2
            have HI := Lib.hid hi2
            clear hi0 hi2 hneg
            go_wp2_with fail
            go_ret
            exact ⟨⟨_, rfl, fun h => by have := HI.out; omega⟩, HB.out.keeps⟩
          · have d4 : decide (2 ≤ i) = false := decide_eq_false hi2
            have w1 : wrap64 (z + i) = z + i := IntWalk.wrap64_in _ ⟨by omega, by omega⟩
            have w2 : wrap64 (p 1 + (z + i)) = p 1 + (z + i) := IntWalk.wrap64_in _ ⟨by omega, by omega⟩
            have HI := Lib.hid (show 0 ≤ wrap64 (p 1 + (z + i)) from by rw [w2]; omega)
            clear w2
            clear hi0 hi2 hneg w0
            go_wp2_with fail
            go_ret
            exact ⟨⟨_, rfl, fun _ _ _ => HI.out⟩, HB.out.keeps⟩
      · have e6 : (part == 6) = false := by rw [beq_eq_false_iff_ne]; exact h6
        clear h6 hneg
        go_wp2_with fail
        go_ret
        exact ⟨⟨_, rfl, fun _ _ _ => HOK.out⟩, HB.out.keeps⟩
end Go.Proofs.YthnmlklgbggmbaaGreat
