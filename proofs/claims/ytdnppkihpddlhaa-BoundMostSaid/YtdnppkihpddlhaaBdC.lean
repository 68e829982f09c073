import Derived.Test.YtdnppkihpddlhaaBdB
namespace Go.Proofs.Ytdnppkihpddlhaa
open Go.ChangeShapes Go.WideShapes Go.ChangeAt Go.RowKit
set_option linter.unusedVariables false
set_option linter.unusedSimpArgs false
theorem singP_le (k part : Int) : -1 ≤ singP k part ∧ singP k part ≤ 2 := by
  unfold singP offP
  repeat' split
  all_goals omega
def CellQ (w : World) (p : Nat → Int) (part i : Int) (e : Ending) (w' : World) : Prop := (∃ x, e = .returned (.int .i64 x) ∧ (i = 0 → part ≠ 3 → 0 ≤ singP (p 0) part → 0 ≤ x)) ∧ Keeps (fun _ => False) w w'
set_option maxHeartbeats 4000000 in
theorem cell_some (p : Nat → Int) (part i j : Int) (w : World) (h : rightS (oOf p) = true) (hp : 0 ≤ p 1 ∧ p 1 ≤ 1000000) (hpart : 1 ≤ part ∧ part ≤ 8) :
    Calls Try.prog 36 #[.agg (plC p), .int .i64 part, .int .i64 i, .int .i64 j] w (CellQ w p part i) := by
  have HB := Lib.hid ((Has.start w).alloc (.cells (plC p) 41))
  have HO := Lib.hid (fun W => object_any p W)
  have hb : -9223372036854775808 ≤ oOf p 1 ∧ oOf p 1 ≤ 9223372036854775807 := by
    by_cases e : oOf p 0 = 1
    · have := (right_nums h).2.2.1 e; omega
    · have := (right_nums h).2.2.2.1 e; omega
  have hr := fun W => right_any (oOf p) (fun _ => 0) W hb
  rw [h] at hr
  have HR := Lib.hid hr
  have HE := Lib.hid (fun W => entry_some p i W)
  have HD := Lib.hid (fun x W => data_some p x j W)
  have d1 : decide (part < 1) = false := decide_eq_false (by omega)
  have d8 : decide (8 < part) = false := decide_eq_false (by omega)
  clear hr hb h
  by_cases h3 : part = 3
  · have e3 : (part == 3) = true := by rw [h3]; rfl
    have HN := Lib.hid h3
    clear h3 hpart
    go_enter Try.func36, Try.ntmps36
    go_wp2_with fail
    refine (HO.out _).mono ?_
    rintro e w1 ⟨rfl, k1⟩
    replace HB := Lib.hid ((HB.out.none k1).alloc (.cells (objC (oOf p) fun _ => 0) 26))
    clear k1
    go_wp2_with fail
    refine (HR.out _).mono ?_
    rintro e w2 ⟨rfl, k2⟩
    replace HB := Lib.hid ((HB.out.none k2).drew)
    clear k2
    have HC := Lib.hid (five_cells (HB.out.at 1 rfl))
    go_wp2_with fail
    go_region_held3 (fun w' => w'.cell? ⟨w.heap.size, 0, none⟩ = some (.int .i64 (p 0)) ∧ w'.cell? ⟨w.heap.size, 1, none⟩ = some (.int .i64 (p 1)) ∧ w'.cell? ⟨w.heap.size, 2, none⟩ = some (.int .i64 (p 2)) ∧ w'.cell? ⟨w.heap.size, 3, none⟩ = some (.int .i64 (p 3)) ∧ w'.cell? ⟨w.heap.size, 4, none⟩ = some (.int .i64 (p 4)))
      (first
        | exact HC.out
        | go_keep)
      (first
        | (go_at_call 46; refine (HE.out _).mono ?_; rintro e9 w9 ⟨⟨x9, rfl⟩, k9⟩; replace HB := Lib.hid (HB.out.none k9); replace HC := Lib.hid (five_cells (HB.out.at 1 rfl)); clear k9)
        | (go_at_call 45; refine (HD.out _ _).mono ?_; rintro e9 w9 ⟨⟨x8, rfl⟩, k9⟩; replace HB := Lib.hid (HB.out.none k9); replace HC := Lib.hid (five_cells (HB.out.at 1 rfl)); clear k9)
        | fail)
    all_goals
      go_wp2_with fail
      go_ret
      exact ⟨⟨_, rfl, fun _ hn => absurd HN.out hn⟩, HB.out.keeps⟩
  · have e3 : (part == 3) = false := by rw [beq_eq_false_iff_ne]; exact h3
    have HS := Lib.hid (fun W => single_any (p 0) part W hpart h3)
    have hs := singP_le (p 0) part
    clear h3 hpart
    generalize hz : singP (p 0) part = z at *
    have HZ := Lib.hid hz
    clear hz
    go_enter Try.func36, Try.ntmps36
    go_wp2_with fail
    refine (HO.out _).mono ?_
    rintro e w1 ⟨rfl, k1⟩
    replace HB := Lib.hid ((HB.out.none k1).alloc (.cells (objC (oOf p) fun _ => 0) 26))
    clear k1
    go_wp2_with fail
    refine (HR.out _).mono ?_
    rintro e w2 ⟨rfl, k2⟩
    replace HB := Lib.hid (HB.out.none k2)
    clear k2
    obtain ⟨c0, c1, c2, c3, c4⟩ := five_cells (HB.out.at 1 rfl)
    have lx := lt_of (HB.out.at 1 rfl)
    go_wp2_with fail
    refine (HS.out _).mono ?_
    rintro e9 w9 ⟨rfl, rfl⟩
    by_cases hneg : z < 0
    · have d2 : decide (z < 0) = true := decide_eq_true hneg
      have HNG := Lib.hid hneg
      clear hneg
      go_wp2_with fail
      go_ret
      exact ⟨⟨_, rfl, fun _ _ h => by rw [HZ.out] at h; have := HNG.out; omega⟩, HB.out.keeps⟩
    · have d2 : decide (z < 0) = false := decide_eq_false hneg
      have w0 : wrap64 (p 1 + z) = p 1 + z := IntWalk.wrap64_in _ ⟨by omega, by omega⟩
      have HOK := Lib.hid (show 0 ≤ p 1 + z from by omega)
      by_cases h6 : part = 6
      · have e6 : (part == 6) = true := by rw [h6]; rfl
        clear h6
        by_cases hi0 : i < 0
        · have d3 : decide (i < 0) = true := decide_eq_true hi0
          have HI := Lib.hid hi0
          clear hi0 hneg
          go_wp2_with fail
          go_ret
          exact ⟨⟨_, rfl, fun h => by have := HI.out; omega⟩, HB.out.keeps⟩
        · have d3 : decide (i < 0) = false := decide_eq_false hi0
          by_cases hi2 : 2 ≤ i
          · have d4 : decide (2 ≤ i) = true := decide_eq_true hi2
            have HI := Lib.hid hi2
            clear hi0 hi2 hneg
            go_wp2_with fail
            go_ret
            exact ⟨⟨_, rfl, fun h => by have := HI.out; omega⟩, HB.out.keeps⟩
          · have d4 : decide (2 ≤ i) = false := decide_eq_false hi2
            have w1 : wrap64 (z + i) = z + i := IntWalk.wrap64_in _ ⟨by omega, by omega⟩
            have w2 : wrap64 (p 1 + (z + i)) = p 1 + (z + i) := IntWalk.wrap64_in _ ⟨by omega, by omega⟩
            have HI := Lib.hid (show 0 ≤ wrap64 (p 1 + (z + i)) from by rw [w2]; omega)
            clear w2
            clear hi0 hi2 hneg w0
            go_wp2_with fail
            go_ret
            exact ⟨⟨_, rfl, fun _ _ _ => HI.out⟩, HB.out.keeps⟩
      · have e6 : (part == 6) = false := by rw [beq_eq_false_iff_ne]; exact h6
        clear h6 hneg
        go_wp2_with fail
        go_ret
        exact ⟨⟨_, rfl, fun _ _ _ => HOK.out⟩, HB.out.keeps⟩
end Go.Proofs.Ytdnppkihpddlhaa
