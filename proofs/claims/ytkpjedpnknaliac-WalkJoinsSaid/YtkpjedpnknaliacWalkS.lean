import Derived.Test.YtkpjedpnknaliacWalkR
namespace Go.Proofs.Ytkpjedpnknaliac
open Go.ChangeShapes Go.WideShapes Go.ChangeAt Go.RowKit
set_option linter.unusedVariables false
theorem turns_small (t : Nat) (h : t ≤ 3) : turns (t : Int) = t := by
  match t, h with
  | 0, _ => rfl
  | 1, _ => rfl
  | 2, _ => rfl
  | 3, _ => rfl
theorem rThen_no (a b t c d u : Int) (w : World) (h : (rightW a b t && rightW c d u) = false) :
    Calls Try.prog 14 #[.agg #[.int .i64 a, .int .i64 b, .int .i64 t], .agg #[.int .i64 c, .int .i64 d, .int .i64 u]] w fun e w' => e = .returned (.tuple #[.agg #[.int .i64 0, .int .i64 0, .int .i64 0], .bool false]) ∧ Keeps (fun _ => False) w w' := by
  have H0 := Lib.hid (Two.new 50 50 w a b t c d u)
  have H := Lib.hid h
  clear h
  go_enter Try.func14, Try.ntmps14
  go_wp2_with fail
  refine (rrightw_any a b t _).mono ?_
  rintro e w1 ⟨rfl, k1⟩
  have H1 := Lib.hid (H0.out.none k1)
  obtain ⟨x0, x1, x2, _, _, _, l1⟩ := three_cells H1.out.one
  obtain ⟨y0, y1, y2, _, _, _, l2⟩ := three_cells H1.out.two
  obtain ⟨r0, r1, r2, f0, f1, f2, l3⟩ := three_cells H1.out.res
  clear k1 H0
  cases h1 : rightW a b t
  · go_wp2
    refine bodyPost_ret (v := .tuple #[.agg #[.int .i64 0, .int .i64 0, .int .i64 0], .bool false]) (by simp [results, Try.results14, go_sem, *]) rfl ⟨rfl, ?_⟩
    exact ((H1.out.keeps.setCell (.inr (by simp; omega)) _).setCell (.inr (by simp; omega)) _).setCell (.inr (by simp; omega)) _
  · have h2 : rightW c d u = false := by have := H.out; rw [h1] at this; simpa using this
    have HH2 := Lib.hid h2
    clear h1 h2
    go_wp2_with fail
    refine (rrightw_any c d u _).mono ?_
    rintro e w2 ⟨rfl, k2⟩
    rw [HH2.out]
    have H2 := Lib.hid (H1.out.none k2)
    obtain ⟨r0, r1, r2, f0, f1, f2, l3⟩ := three_cells H2.out.res
    clear k2 H1
    go_wp2
    refine bodyPost_ret (v := .tuple #[.agg #[.int .i64 0, .int .i64 0, .int .i64 0], .bool false]) (by simp [results, Try.results14, go_sem, *]) rfl ⟨rfl, ?_⟩
    exact ((H2.out.keeps.setCell (.inr (by simp; omega)) _).setCell (.inr (by simp; omega)) _).setCell (.inr (by simp; omega)) _
set_option maxHeartbeats 1000000 in
theorem rThen_yes (a b c d u : Int) (t : Nat) (w : World) (h1 : rightW a b (t : Int) = true) (h2 : rightW c d u = true) :
    Calls Try.prog 14 #[.agg #[.int .i64 a, .int .i64 b, .int .i64 (t : Int)], .agg #[.int .i64 c, .int .i64 d, .int .i64 u]] w fun e w' => ∃ p q v r, e = .returned (.tuple #[.agg #[.int .i64 p, .int .i64 q, .int .i64 v], .bool r]) ∧ r = rightW (a + (turnN t (c, d)).1) (b + (turnN t (c, d)).2) (((t : Int) + u).tmod 4) ∧ p = (if r then a + (turnN t (c, d)).1 else 0) ∧ q = (if r then b + (turnN t (c, d)).2 else 0) ∧ v = (if r then ((t : Int) + u).tmod 4 else 0) ∧ Keeps (fun _ => False) w w' := by
  have H0 := Lib.hid (Two.new 50 50 w a b (t : Int) c d u)
  have e1 := rightW_bds h1
  have e2 := rightW_bds h2
  have hbd := turnN_bd t (c, d) (M := 1048576) (show c.natAbs ≤ _ by omega) (show d.natAbs ≤ _ by omega)
  have HT := fun w => rturned_any c d (t : Int) w e2.1
  rw [turns_small t (by omega)] at HT
  have H := Lib.hid (And.intro h1 h2)
  generalize (turnN t (c, d)).1 = p at *
  generalize (turnN t (c, d)).2 = q at *
  replace HT := Lib.hid HT
  have V1 : wrap64 (a + p) = a + p := by rw [IntWalk.wrap64_in _ ⟨by omega, by omega⟩]
  have V2 : wrap64 (b + q) = b + q := by rw [IntWalk.wrap64_in _ ⟨by omega, by omega⟩]
  have V3 : wrap64 ((t : Int) + u) = (t : Int) + u := by rw [IntWalk.wrap64_in _ ⟨by omega, by omega⟩]
  have W1 : IntKind.i64.wrap (a + p) = a + p := by rw [IntWalk.i64_in _ ⟨by omega, by omega⟩]
  have W2 : IntKind.i64.wrap (b + q) = b + q := by rw [IntWalk.i64_in _ ⟨by omega, by omega⟩]
  have W3 : IntKind.i64.wrap ((t : Int) + u) = (t : Int) + u := by rw [IntWalk.i64_in _ ⟨by omega, by omega⟩]
  clear h1 h2 e1 e2 hbd
  obtain ⟨ap, hap⟩ : ∃ ap, ap = a + p := ⟨_, rfl⟩
  obtain ⟨bq, hbq⟩ : ∃ bq, bq = b + q := ⟨_, rfl⟩
  go_enter Try.func14, Try.ntmps14
  go_wp2_with fail
  refine (rrightw_any a b _ _).mono ?_
  rintro e w1 ⟨rfl, k1⟩
  rw [H.out.1]
  have H1 := Lib.hid (H0.out.none k1)
  obtain ⟨y0, y1, y2, _, _, _, l2⟩ := three_cells H1.out.two
  clear k1 H0
  go_wp2_with fail
  refine (rrightw_any c d u _).mono ?_
  rintro e w2 ⟨rfl, k2⟩
  rw [H.out.2]
  have H2 := Lib.hid (H1.out.none k2)
  clear k2 H1 y0 y1 y2 l2
  obtain ⟨x0, x1, x2, _, _, _, l1⟩ := three_cells H2.out.one
  obtain ⟨y0, y1, y2, _, _, _, l2⟩ := three_cells H2.out.two
  go_wp2_with fail
  refine (HT.out _).mono ?_
  rintro e w3 ⟨rfl, k3⟩
  have H3 := Lib.hid (H2.out.none k3)
  clear k3 H2 x0 x1 x2 y0 y1 y2 l1 l2
  obtain ⟨x0, x1, x2, _, _, _, l1⟩ := three_cells H3.out.one
  obtain ⟨y0, y1, y2, _, _, _, l2⟩ := three_cells H3.out.two
  cases hr : rightW (a + p) (b + q) (((t : Int) + u).tmod 4)
  · have HR := Lib.hid (fun w => rtoldw_no (a + p) (b + q) (((t : Int) + u).tmod 4) w hr)
    have HRV := Lib.hid hr
    clear hr
    go_wp2_with fail
    refine (HR.out _).mono ?_
    rintro e w4 ⟨rfl, k4⟩
    have H4 := Lib.hid ((H3.out.none ((Keeps.refl _ _).alloc _)).none k4)
    obtain ⟨r0, r1, r2, f0, f1, f2, l3⟩ := three_cells H4.out.res
    clear k4 H3
    go_wp2
    refine bodyPost_ret (v := .tuple #[.agg #[.int .i64 0, .int .i64 0, .int .i64 0], .bool false]) (by simp [results, Try.results14, go_sem, *]) rfl ⟨0, 0, 0, false, rfl, ?_, rfl, rfl, rfl, ?_⟩
    · exact HRV.out.symm
    exact ((H4.out.keeps.setCell (.inr (by simp; omega)) _).setCell (.inr (by simp; omega)) _).setCell (.inr (by simp; omega)) _
  · have HR := Lib.hid (fun w => rtoldw_yes (a + p) (b + q) (((t : Int) + u).tmod 4) w hr)
    have HRV := Lib.hid hr
    clear hr
    go_wp2_with fail
    refine (HR.out _).mono ?_
    rintro e w4 ⟨rfl, k4⟩
    have H4 := Lib.hid ((H3.out.none ((Keeps.refl _ _).alloc _)).none k4)
    obtain ⟨r0, r1, r2, f0, f1, f2, l3⟩ := three_cells H4.out.res
    clear k4 H3
    go_wp2
    refine bodyPost_ret (v := .tuple #[.agg #[.int .i64 (a + p), .int .i64 (b + q), .int .i64 (((t : Int) + u).tmod 4)], .bool true]) (by simp [results, Try.results14, go_sem, *]) rfl ⟨_, _, _, true, rfl, ?_, rfl, rfl, rfl, ?_⟩
    · exact HRV.out.symm
    exact ((H4.out.keeps.setCell (.inr (by simp; omega)) _).setCell (.inr (by simp; omega)) _).setCell (.inr (by simp; omega)) _
theorem rBack_no (a b t : Int) (w : World) (h : rightW a b t = false) :
    Calls Try.prog 16 #[.agg #[.int .i64 a, .int .i64 b, .int .i64 t]] w fun e w' => e = .returned (.tuple #[.agg #[.int .i64 0, .int .i64 0, .int .i64 0], .bool false]) ∧ Keeps (fun _ => False) w w' := by
  have H0 := Lib.hid (One.new 50 50 w a b t)
  have H := Lib.hid h
  clear h
  go_enter Try.func16, Try.ntmps16
  go_wp2_with fail
  refine (rrightw_any a b t _).mono ?_
  rintro e w1 ⟨rfl, k1⟩
  rw [H.out]
  have H1 := Lib.hid (H0.out.none k1)
  obtain ⟨r0, r1, r2, f0, f1, f2, l3⟩ := three_cells H1.out.res
  clear k1 H0
  go_wp2
  refine bodyPost_ret (v := .tuple #[.agg #[.int .i64 0, .int .i64 0, .int .i64 0], .bool false]) (by simp [results, Try.results16, go_sem, *]) rfl ⟨rfl, ?_⟩
  exact ((H1.out.keeps.setCell (.inr (by simp)) _).setCell (.inr (by simp)) _).setCell (.inr (by simp)) _
set_option maxHeartbeats 1000000 in
theorem rBack_yes (a b : Int) (t k : Nat) (w : World) (h1 : rightW a b (t : Int) = true) (hk : (4 - (t : Int)).tmod 4 = (k : Int)) (hk3 : k ≤ 3) (htk : turns (-(t : Int)) = k) :
    Calls Try.prog 16 #[.agg #[.int .i64 a, .int .i64 b, .int .i64 (t : Int)]] w fun e w' => e = .returned (.tuple #[.agg #[.int .i64 (-(turnN k (a, b)).1), .int .i64 (-(turnN k (a, b)).2), .int .i64 (k : Int)], .bool true]) ∧ Keeps (fun _ => False) w w' := by
  have H0 := Lib.hid (One.new 50 50 w a b (t : Int))
  have e1 := rightW_bds h1
  have hbd := turnN_bd k (a, b) (M := 1048576) (show a.natAbs ≤ _ by omega) (show b.natAbs ≤ _ by omega)
  have HT := fun w => rturned_any a b (-(t : Int)) w e1.1
  rw [htk] at HT
  generalize (turnN k (a, b)).1 = p at *
  generalize (turnN k (a, b)).2 = q at *
  replace HT := Lib.hid HT
  have V0 : IntKind.i64.wrap (-(t : Int)) = -(t : Int) := by rw [IntWalk.i64_in _ ⟨by omega, by omega⟩]
  have V1 : IntKind.i64.wrap (-p) = -p := by rw [IntWalk.i64_in _ ⟨by omega, by omega⟩]
  have V2 : IntKind.i64.wrap (-q) = -q := by rw [IntWalk.i64_in _ ⟨by omega, by omega⟩]
  have W1 : wrap64 (4 - (t : Int)) = 4 - (t : Int) := by rw [IntWalk.wrap64_in _ ⟨by omega, by omega⟩]
  have W2 : IntKind.i64.wrap (4 - (t : Int)) = 4 - (t : Int) := by rw [IntWalk.i64_in _ ⟨by omega, by omega⟩]
  have H := Lib.hid h1
  clear h1 e1 hbd htk
  go_enter Try.func16, Try.ntmps16
  go_wp2_with fail
  refine (rrightw_any a b _ _).mono ?_
  rintro e w1 ⟨rfl, k1⟩
  rw [H.out]
  have H1 := Lib.hid (H0.out.none k1)
  obtain ⟨x0, x1, x2, _, _, _, l1⟩ := three_cells H1.out.one
  clear k1 H0
  go_wp2_with fail
  refine (HT.out _).mono ?_
  rintro e w2 ⟨rfl, k2⟩
  have H2 := Lib.hid (H1.out.none k2)
  clear k2 H1 x0 x1 x2 l1
  obtain ⟨x0, x1, x2, _, _, _, l1⟩ := three_cells H2.out.one
  obtain ⟨r0, r1, r2, f0, f1, f2, l3⟩ := three_cells H2.out.res
  go_wp2
  refine bodyPost_ret (v := .tuple #[.agg #[.int .i64 (-p), .int .i64 (-q), .int .i64 (k : Int)], .bool true]) (by simp [results, Try.results16, go_sem, *]) rfl ⟨rfl, ?_⟩
  exact (((H2.out.keeps.setCell (.inr (by simp)) _).setCell (.inr (by simp)) _).setCell (.inr (by simp)) _).alloc _
end Go.Proofs.Ytkpjedpnknaliac
