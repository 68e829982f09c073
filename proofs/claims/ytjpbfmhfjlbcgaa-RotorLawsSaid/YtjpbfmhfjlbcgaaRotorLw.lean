import Derived.Test.YtjpbfmhfjlbcgaaRotorL
import Derived.BigRegion
namespace Go.Proofs.Ytjpbfmhfjlbcgaa
open Go.ChangeShapes Go.WideShapes Go.ChangeAt Go.RowKit
set_option linter.unusedVariables false
set_option linter.unusedSimpArgs false
theorem wr_in (e : Int) (h : -8589934592 ≤ e ∧ e ≤ 8589934592) : IntKind.i64.wrap e = e ∧ wrap64 e = e := ⟨wrap_in _ ⟨by omega, by omega⟩, by rw [IntWalk.wrap64_in _ ⟨by omega, by omega⟩]⟩
theorem dec_pos {T : Nat} (h : 0 < T) : decide ((0 : Int) < (T : Int)) = true := decide_eq_true (by omega)
theorem dec_neg {T : Nat} (h : ¬ 0 < T) : decide ((0 : Int) < (T : Int)) = false := decide_eq_false (by omega)
theorem Has.lts {w w1 : World} {L : List (Nat × Obj)} (h : Has w w1 L) : ∀ o, o ∈ L → o.1 < w1.heap.size := fun o ho => lt_of (h.all o ho)
theorem Has.one {w w1 : World} {L : List (Nat × Obj)} (h : Has w w1 L) (k : Nat) {b : Nat} {o : Obj} (e : L[k]? = some (b, o)) : Has w w1 [(b, o)] := h.sub fun x hx => by
  rcases List.mem_singleton.1 hx with rfl
  exact List.mem_of_getElem? e
theorem Has.put7 {w w1 : World} {X : Nat} {E : TypeId} {L : List (Nat × Obj)} {u0 u1 u2 u3 u4 u5 u6 v0 v1 v2 v3 v4 v5 v6 : Value} (h : Has w w1 ((X, .cells #[u0, u1, u2, u3, u4, u5, u6] E (0, 0)) :: L)) (hX : w.heap.size ≤ X) (hL : ∀ o, o ∈ L → o.1 < X) : Has w (((((((w1.setCell ⟨X, 0, Option.none⟩ v0).setCell ⟨X, 1, Option.none⟩ v1).setCell ⟨X, 2, Option.none⟩ v2).setCell ⟨X, 3, Option.none⟩ v3).setCell ⟨X, 4, Option.none⟩ v4).setCell ⟨X, 5, Option.none⟩ v5).setCell ⟨X, 6, Option.none⟩ v6) ((X, .cells #[v0, v1, v2, v3, v4, v5, v6] E (0, 0)) :: L) := by
  have hd := h.hd
  have e0 := heap_set hd 0 v0
  simp only [List.setIfInBounds_toArray, List.set_cons_zero, List.set_cons_succ] at e0
  have e1 := heap_set e0 1 v1
  simp only [List.setIfInBounds_toArray, List.set_cons_zero, List.set_cons_succ] at e1
  have e2 := heap_set e1 2 v2
  simp only [List.setIfInBounds_toArray, List.set_cons_zero, List.set_cons_succ] at e2
  have e3 := heap_set e2 3 v3
  simp only [List.setIfInBounds_toArray, List.set_cons_zero, List.set_cons_succ] at e3
  have e4 := heap_set e3 4 v4
  simp only [List.setIfInBounds_toArray, List.set_cons_zero, List.set_cons_succ] at e4
  have e5 := heap_set e4 5 v5
  simp only [List.setIfInBounds_toArray, List.set_cons_zero, List.set_cons_succ] at e5
  have e6 := heap_set e5 6 v6
  simp only [List.setIfInBounds_toArray, List.set_cons_zero, List.set_cons_succ] at e6
  refine ⟨((((((h.keeps.setCell (p := ⟨X, 0, Option.none⟩) (.inr hX) _).setCell (p := ⟨X, 1, Option.none⟩) (.inr hX) _).setCell (p := ⟨X, 2, Option.none⟩) (.inr hX) _).setCell (p := ⟨X, 3, Option.none⟩) (.inr hX) _).setCell (p := ⟨X, 4, Option.none⟩) (.inr hX) _).setCell (p := ⟨X, 5, Option.none⟩) (.inr hX) _).setCell (p := ⟨X, 6, Option.none⟩) (.inr hX) _, fun o ho => ?_⟩
  rcases List.mem_cons.1 ho with rfl | ho2
  · exact e6
  · have hne : o.1 ≠ X := Nat.ne_of_lt (hL o ho2)
    exact heap_other (heap_other (heap_other (heap_other (heap_other (heap_other (heap_other (h.all o (.tail _ ho2)) hne _) hne _) hne _) hne _) hne _) hne _) hne _
set_option maxRecDepth 20000 in
set_option maxHeartbeats 8000000 in
theorem rlaws_words (a b c d p : Int) (n m T L : Nat) (U V : Nat → Int) (w : World) (hn : n ≤ 1073741824) (hm : m ≤ 1073741824) (hp : 2 ≤ p ∧ p ≤ 60) (hL : 0 < L) (hTL : (T : Int) + (L : Int) ≤ p * p)
    (hs : ∀ (i k j : Nat) (kk : Int) (w : World), kk = (k : Int) → k ≤ 4294967296 → (U (i + k), V (i + k)) = (U j, V j) → Calls Try.prog 10 #[.agg (rCells (U (i)) (V (i)) a b c d p), .int .i64 kk] w fun e w' => e = .returned (.tuple #[.agg (rCells (U (j)) (V (j)) a b c d p), .bool true]) ∧ Keeps (fun _ => False) w w')
    (hnx : ∀ (i : Nat) (w : World), Calls Try.prog 7 #[.agg (rCells (U (i)) (V (i)) a b c d p)] w fun e w' => e = .returned (.tuple #[.agg (rCells (U (i + 1)) (V (i + 1)) a b c d p), .bool true]) ∧ Keeps (fun _ => False) w w')
    (hrt : ∀ (i : Nat) (w : World), Calls Try.prog 12 #[.agg (rCells (U (i)) (V (i)) a b c d p)] w fun e w' => e = .returned (.bool true) ∧ Keeps (fun _ => False) w w')
    (hcy : ∀ (w : World), Calls Try.prog 17 #[.agg (rCells (U (0)) (V (0)) a b c d p)] w fun e w' => e = .returned (.tuple #[.int .i64 (T : Int), .int .i64 (L : Int), .bool true]) ∧ Keeps (fun _ => False) w w')
    (hzl : (U (0 + (T + L)), V (0 + (T + L))) = (U T, V T)) (hzn : (U (0 + (T + n % L)), V (0 + (T + n % L))) = (U (T + n), V (T + n))) (hzt : 0 < T → ¬ (U (T - 1) = U (T + L - 1) ∧ V (T - 1) = V (T + L - 1))) :
    Calls Try.prog 5 #[.agg (rCells (U (0)) (V (0)) a b c d p), .int .i64 (n : Int), .int .i64 (m : Int)] w fun e w' => e = .returned (.bool true) ∧ Keeps (fun _ => False) w w' := by
  have HB := Lib.hid ((Has.start w).alloc (.cells (rCells (U (0)) (V (0)) a b c d p) 25))
  have HNx := Lib.hid hnx
  have HRt := Lib.hid hrt
  have HCy := Lib.hid hcy
  have HZL := Lib.hid hzl
  have HZn := Lib.hid hzn
  have HZt := Lib.hid hzt
  have hpp : p * p ≤ 3600 := by
    have := Int.mul_le_mul hp.2 hp.2 (by omega) (by decide : (0 : Int) ≤ 60)
    omega
  have hpn : 0 ≤ p * p := Int.mul_nonneg (by omega) (by omega)
  have hTL2 : T + L ≤ 3600 := by omega
  have hmod := Nat.mod_lt n hL
  have hmod2 : n % L ≤ 3600 := by omega
  have HS0 := Lib.hid (fun w => hs (0) (n) (n) ((n : Int)) w (rfl) (by omega) (by simp))
  have HS1 := Lib.hid (fun w => hs (n) (m) (n + m) ((m : Int)) w (rfl) (by omega) (by simp))
  have HS2 := Lib.hid (fun w => hs (0) (n + m) (n + m) ((n : Int) + (m : Int)) w (by omega) (by omega) (by simp))
  have HS3 := Lib.hid (fun w => hs (0) (n + 1) (n + 1) ((n : Int) + 1) w (by omega) (by omega) (by simp))
  have HS4 := Lib.hid (fun w => hs (0) (T) (T) ((T : Int)) w (rfl) (by omega) (by simp))
  have HS5 := Lib.hid (fun w => hs (0) (T + L) (T) ((T : Int) + (L : Int)) w (by omega) (by omega) hzl)
  have HSr := Lib.hid (fun w => hs 0 (T + n % L) (T + n) ((T : Int) + (n : Int) % (L : Int)) w (by simp) (by omega) hzn)
  have HSi := Lib.hid (fun w => hs 0 (T + n) (T + n) ((T : Int) + (n : Int)) w (by omega) (by omega) (by simp))
  have HSj := Lib.hid (fun w (h : 0 < T) => hs 0 (T - 1) (T - 1) ((T : Int) - 1) w (by omega) (by omega) (by simp))
  have HSk := Lib.hid (fun w (h : 0 < T) => hs 0 (T + L - 1) (T + L - 1) ((T : Int) + (L : Int) - 1) w (by omega) (by omega) (by simp))
  have d0 : decide ((n : Int) < 0) = false := decide_eq_false (by omega)
  have d1 : decide (1073741824 < (n : Int)) = false := decide_eq_false (by omega)
  have d2 : decide ((m : Int) < 0) = false := decide_eq_false (by omega)
  have d3 : decide (1073741824 < (m : Int)) = false := decide_eq_false (by omega)
  have d4 : decide (60 < p) = false := decide_eq_false (by omega)
  have d5 : decide ((L : Int) < 1) = false := decide_eq_false (by omega)
  have d6 : decide ((T : Int) < 0) = false := decide_eq_false (by omega)
  have d7 : decide (p * p < (T : Int) + (L : Int)) = false := decide_eq_false (by omega)
  have z0 : ¬ L = 0 := by omega
  have z1 : ((L : Int) == 0) = false := beq_eq_false_iff_ne.mpr (by omega)
  have z2 : ((L : Int) = 0) = False := eq_false (by omega)
  have rm : ((n : Int)).tmod (L : Int) = (n : Int) % (L : Int) := Int.tmod_eq_emod_of_nonneg (by omega)
  have hT3 : (T : Int) ≤ 3600 ∧ (L : Int) ≤ 3600 ∧ (T : Int) + (L : Int) ≤ 3600 ∧ (1 : Int) ≤ (L : Int) ∧ (0 : Int) ≤ (T : Int) := by omega
  have hn3 : (n : Int) ≤ 1073741824 ∧ (m : Int) ≤ 1073741824 ∧ (0 : Int) ≤ (n : Int) ∧ (0 : Int) ≤ (m : Int) := by omega
  have hr3 : (n : Int) % (L : Int) < (L : Int) ∧ 0 ≤ (n : Int) % (L : Int) := ⟨Int.emod_lt_of_pos _ (by omega), Int.emod_nonneg _ (by omega)⟩
  generalize hTi : (T : Int) = Ti at hT3
  generalize hLi : (L : Int) = Li at hT3 hr3
  generalize hri : (n : Int) % Li = ri at hr3
  generalize hni : (n : Int) = ni at hn3
  generalize hmi : (m : Int) = mi at hn3
  generalize hPi : p * p = Pi at hpp hpn
  obtain ⟨W1, W1'⟩ := wr_in (ni + mi) ⟨by omega, by omega⟩
  obtain ⟨W2, W2'⟩ := wr_in (ni + 1) ⟨by omega, by omega⟩
  obtain ⟨W3, W3'⟩ := wr_in (Ti + Li) ⟨by omega, by omega⟩
  obtain ⟨W4, W4'⟩ := wr_in (Pi) ⟨by omega, by omega⟩
  obtain ⟨W5, W5'⟩ := wr_in (Ti + ri) ⟨by omega, by omega⟩
  obtain ⟨W6, W6'⟩ := wr_in (Ti + ni) ⟨by omega, by omega⟩
  obtain ⟨W7, W7'⟩ := wr_in (Ti - 1) ⟨by omega, by omega⟩
  obtain ⟨W8, W8'⟩ := wr_in (Ti + Li - 1) ⟨by omega, by omega⟩
  subst hTi
  subst hri
  subst hLi
  subst hni
  subst hmi
  subst hPi
  clear hr3
  clear hs hnx hrt hcy hzl hzn hzt hpp hpn hTL hp hT3 hn3
  go_enter Try.func5, Try.ntmps5
  go_wp2_with fail
  refine (own05_any _ _ _ _ _ _ _ _).mono ?_
  rintro e w1 ⟨rfl, k9⟩
  replace HB := Lib.hid ((HB.out.none k9).alloc (.cells (rCells (U (0)) (V (0)) a b c d p) 29))
  clear k9
  go_wp2_with fail
  refine (HRt.out 0 _).mono ?_
  rintro e w2 ⟨rfl, k9⟩
  replace HB := Lib.hid (HB.out.none k9)
  clear k9
  obtain ⟨x0, x1, x2, x3, x4, x5, x6⟩ := seven_cells (HB.out.at 0 rfl)
  go_wp2_with fail
  refine (HS0.out _).mono ?_
  rintro e w3 ⟨rfl, k9⟩
  replace HB := Lib.hid ((HB.out.none k9).alloc (.cells (rCells (U (n)) (V (n)) a b c d p) 29))
  clear k9
  clear x0 x1 x2 x3 x4 x5 x6
  obtain ⟨x0, x1, x2, x3, x4, x5, x6⟩ := seven_cells (HB.out.at 1 rfl)
  go_wp2_with fail
  refine (HS1.out _).mono ?_
  rintro e w4 ⟨rfl, k9⟩
  replace HB := Lib.hid ((HB.out.none k9).alloc (.cells (rCells (U (n + m)) (V (n + m)) a b c d p) 29))
  clear k9
  clear x0 x1 x2 x3 x4 x5 x6
  obtain ⟨x0, x1, x2, x3, x4, x5, x6⟩ := seven_cells (HB.out.at 2 rfl)
  go_wp2_with fail
  refine (HS2.out _).mono ?_
  rintro e w5 ⟨rfl, k9⟩
  replace HB := Lib.hid ((HB.out.none k9).alloc (.cells (rCells (U (n + m)) (V (n + m)) a b c d p) 29))
  clear k9
  clear x0 x1 x2 x3 x4 x5 x6
  obtain ⟨a0, a1, a2, a3, a4, a5, a6⟩ := seven_cells (HB.out.at 2 rfl)
  go_wp2_with fail
  refine (HNx.out n _).mono ?_
  rintro e w6 ⟨rfl, k9⟩
  replace HB := Lib.hid ((HB.out.none k9).alloc (.cells (rCells (U (n + 1)) (V (n + 1)) a b c d p) 29))
  clear k9
  clear a0 a1 a2 a3 a4 a5 a6
  obtain ⟨x0, x1, x2, x3, x4, x5, x6⟩ := seven_cells (HB.out.at 4 rfl)
  go_wp2_with fail
  refine (HS3.out _).mono ?_
  rintro e w7 ⟨rfl, k9⟩
  replace HB := Lib.hid ((HB.out.none k9).alloc (.cells (rCells (U (n + 1)) (V (n + 1)) a b c d p) 29))
  clear k9
  clear x0 x1 x2 x3 x4 x5 x6
  obtain ⟨e0, e1, e2, e3, e4, e5, e6⟩ := seven_cells (HB.out.at 0 rfl)
  obtain ⟨d0, d1, d2, d3, d4, d5, d6⟩ := seven_cells (HB.out.at 1 rfl)
  obtain ⟨c0, c1, c2, c3, c4, c5, c6⟩ := seven_cells (HB.out.at 2 rfl)
  obtain ⟨b0, b1, b2, b3, b4, b5, b6⟩ := seven_cells (HB.out.at 3 rfl)
  go_wp2_with fail
  refine (HRt.out (n + m) _).mono ?_
  rintro e w8 ⟨rfl, k9⟩
  replace HB := Lib.hid ((HB.out.none k9).one 5 rfl)
  clear k9
  clear e0 e1 e2 e3 e4 e5 e6
  clear d0 d1 d2 d3 d4 d5 d6
  clear c0 c1 c2 c3 c4 c5 c6
  clear b0 b1 b2 b3 b4 b5 b6
  obtain ⟨x0, x1, x2, x3, x4, x5, x6⟩ := seven_cells (HB.out.at 0 rfl)
  go_wp2_with fail
  refine (HCy.out _).mono ?_
  rintro e w9 ⟨rfl, k9⟩
  replace HB := Lib.hid (HB.out.none k9)
  clear k9
  clear x0 x1 x2 x3 x4 x5 x6
  obtain ⟨x0, x1, x2, x3, x4, x5, x6⟩ := seven_cells (HB.out.at 0 rfl)
  go_wp2_with fail
  refine (HS4.out _).mono ?_
  rintro e w10 ⟨rfl, k9⟩
  replace HB := Lib.hid ((HB.out.none k9).alloc (.cells (rCells (U (T)) (V (T)) a b c d p) 29))
  clear k9
  clear x0 x1 x2 x3 x4 x5 x6
  obtain ⟨x0, x1, x2, x3, x4, x5, x6⟩ := seven_cells (HB.out.at 1 rfl)
  go_wp2_with fail
  refine (HS5.out _).mono ?_
  rintro e w11 ⟨rfl, k9⟩
  have HSZ : (w11.alloc (.cells (rCells (U (T)) (V (T)) a b c d p) 29)).drew.heap.size = w11.heap.size + 1 := by simp [World.drew]
  replace HB := Lib.hid ((HB.out.none k9).alloc (.cells (rCells (U (T)) (V (T)) a b c d p) 29))
  clear k9
  replace HB := Lib.hid HB.out.drew
  clear x0 x1 x2 x3 x4 x5 x6
  obtain ⟨x0, x1, x2, x3, x4, x5, x6⟩ := seven_cells (HB.out.at 2 rfl)
  go_wp2_with fail
  have hx7 := seven_cells (HB.out.at 2 rfl)
  go_region_held3 (fun w' => w'.cell? ⟨w1.heap.size, 0, none⟩ = some (.int .i64 (U 0)) ∧ w'.cell? ⟨w1.heap.size, 1, none⟩ = some (.int .i64 (V 0)) ∧ w'.cell? ⟨w1.heap.size, 2, none⟩ = some (.int .i64 (a)) ∧ w'.cell? ⟨w1.heap.size, 3, none⟩ = some (.int .i64 (b)) ∧ w'.cell? ⟨w1.heap.size, 4, none⟩ = some (.int .i64 (c)) ∧ w'.cell? ⟨w1.heap.size, 5, none⟩ = some (.int .i64 (d)) ∧ w'.cell? ⟨w1.heap.size, 6, none⟩ = some (.int .i64 (p)))
    (first
      | with_reducible exact hx7
      | exact seven_cells ((HB.out.put7 lX hlt).at 3 rfl)
      | exact seven_cells (heap_old (HB.out.at 2 rfl) _)
      | go_keep)
    ((go_at_call 10; refine (HSr.out _).mono ?_; rintro e w12 ⟨rfl, k12⟩; (first | (replace HB := Lib.hid (HB.out.none k12); have hx7 := seven_cells (HB.out.at 2 rfl)) | (have lX := HB.out.keeps.size; have hlt := HB.out.lts; replace HB := Lib.hid ((HB.out.alloc _).none k12); (try rw [HSZ] at HB lX hlt); have hx7 := seven_cells (HB.out.at 3 rfl); obtain ⟨z0, z1, z2, z3, z4, z5, z6⟩ := seven_cells (HB.out.at 0 rfl); obtain ⟨f0, f1, f2, f3, f4, f5, f6, lz⟩ := seven_free (HB.out.at 0 rfl))); clear k12))
  all_goals
    clear hx7
    first
      | (replace HB := Lib.hid (HB.out.put7 (v0 := .int .i64 (U (T + n))) (v1 := .int .i64 (V (T + n))) (v2 := .int .i64 a) (v3 := .int .i64 b) (v4 := .int .i64 c) (v5 := .int .i64 d) (v6 := .int .i64 p) lX hlt))
      | (replace HB := Lib.hid (HB.out.alloc (.cells (rCells (U (T + n)) (V (T + n)) a b c d p) 29)))
    clear x0 x1 x2 x3 x4 x5 x6
    obtain ⟨x0, x1, x2, x3, x4, x5, x6⟩ := seven_cells (HB.out.at 3 rfl)
    go_wp2_with fail
    refine (HSi.out _).mono ?_
    rintro e w13 ⟨rfl, k9⟩
    replace HB := Lib.hid ((HB.out.none k9).alloc (.cells (rCells (U (T + n)) (V (T + n)) a b c d p) 29))
    clear k9
    clear x0 x1 x2 x3 x4 x5 x6
    obtain ⟨x0, x1, x2, x3, x4, x5, x6⟩ := seven_cells (HB.out.at 4 rfl)
    obtain ⟨f0, f1, f2, f3, f4, f5, f6⟩ := seven_cells (HB.out.at 3 rfl)
    obtain ⟨g0, g1, g2, g3, g4, g5, g6⟩ := seven_cells (HB.out.at 2 rfl)
    obtain ⟨h0, h1, h2, h3, h4, h5, h6⟩ := seven_cells (HB.out.at 1 rfl)
    obtain ⟨i0, i1, i2, i3, i4, i5, i6⟩ := seven_cells (HB.out.at 0 rfl)
    by_cases ht : 0 < T
    · have dt : decide ((0 : Int) < (T : Int)) = true := dec_pos ht
      have dt2 : decide (0 < T) = true := decide_eq_true ht
      have hJ := fun w => HSj.out w ht
      have hK := fun w => HSk.out w ht
      have hnz := HZt.out ht
      clear ht
      generalize U (T - 1) = u1 at hJ hnz
      generalize V (T - 1) = v1 at hJ hnz
      generalize U (T + L - 1) = u2 at hK hnz
      generalize V (T + L - 1) = v2 at hK hnz
      have HJ := Lib.hid hJ
      have HKK := Lib.hid hK
      clear hJ hK
      by_cases hu : u1 = u2
      · subst hu
        have hv : ¬ v1 = v2 := fun h => hnz ⟨rfl, h⟩
        have q0 : (v1 == v2) = false := beq_eq_false_iff_ne.mpr hv
        have q1 : (v1 = v2) = False := eq_false hv
        clear hnz hv
        go_wp2_with fail
        refine (HJ.out _).mono ?_
        rintro e w14 ⟨rfl, k9⟩
        replace HB := Lib.hid ((HB.out.none k9).alloc (.cells (rCells u1 v1 a b c d p) 29))
        clear k9
        clear x0 x1 x2 x3 x4 x5 x6
        clear f0 f1 f2 f3 f4 f5 f6
        clear g0 g1 g2 g3 g4 g5 g6
        clear h0 h1 h2 h3 h4 h5 h6
        clear i0 i1 i2 i3 i4 i5 i6
        obtain ⟨x0, x1, x2, x3, x4, x5, x6⟩ := seven_cells (HB.out.at 5 rfl)
        go_wp2_with fail
        refine (HKK.out _).mono ?_
        rintro e w15 ⟨rfl, k9⟩
        replace HB := Lib.hid ((HB.out.none k9).alloc (.cells (rCells u1 v2 a b c d p) 29))
        clear k9
        clear x0 x1 x2 x3 x4 x5 x6
        obtain ⟨j0, j1, j2, j3, j4, j5, j6⟩ := seven_cells (HB.out.at 1 rfl)
        obtain ⟨k0, k1, k2, k3, k4, k5, k6⟩ := seven_cells (HB.out.at 0 rfl)
        go_wp2_with fail
        refine (alive05_any _).mono ?_
        rintro e w16 ⟨rfl, k9⟩
        replace HB := Lib.hid (HB.out.none k9)
        clear k9
        go_wp2
        go_ret
        exact ⟨rfl, HB.out.keeps⟩
      · have q0 : (u1 == u2) = false := beq_eq_false_iff_ne.mpr hu
        have q1 : (u1 = u2) = False := eq_false hu
        clear hnz hu
        go_wp2_with fail
        refine (HJ.out _).mono ?_
        rintro e w14 ⟨rfl, k9⟩
        replace HB := Lib.hid ((HB.out.none k9).alloc (.cells (rCells u1 v1 a b c d p) 29))
        clear k9
        clear x0 x1 x2 x3 x4 x5 x6
        clear f0 f1 f2 f3 f4 f5 f6
        clear g0 g1 g2 g3 g4 g5 g6
        clear h0 h1 h2 h3 h4 h5 h6
        clear i0 i1 i2 i3 i4 i5 i6
        obtain ⟨x0, x1, x2, x3, x4, x5, x6⟩ := seven_cells (HB.out.at 5 rfl)
        go_wp2_with fail
        refine (HKK.out _).mono ?_
        rintro e w15 ⟨rfl, k9⟩
        replace HB := Lib.hid ((HB.out.none k9).alloc (.cells (rCells u2 v2 a b c d p) 29))
        clear k9
        clear x0 x1 x2 x3 x4 x5 x6
        obtain ⟨j0, j1, j2, j3, j4, j5, j6⟩ := seven_cells (HB.out.at 1 rfl)
        obtain ⟨k0, k1, k2, k3, k4, k5, k6⟩ := seven_cells (HB.out.at 0 rfl)
        go_wp2_with fail
        refine (alive05_any _).mono ?_
        rintro e w16 ⟨rfl, k9⟩
        replace HB := Lib.hid (HB.out.none k9)
        clear k9
        go_wp2
        go_ret
        exact ⟨rfl, HB.out.keeps⟩
    · have dt : decide ((0 : Int) < (T : Int)) = false := dec_neg ht
      have dt2 : decide (0 < T) = false := decide_eq_false ht
      clear ht
      go_wp2_with fail
      refine (alive05_any _).mono ?_
      rintro e w16 ⟨rfl, k9⟩
      replace HB := Lib.hid (HB.out.none k9)
      clear k9
      go_wp2
      go_ret
      exact ⟨rfl, HB.out.keeps⟩
end Go.Proofs.Ytjpbfmhfjlbcgaa
