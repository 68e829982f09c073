import Derived.Test.YtjpbfmhfjlbcgaaRotorTf
import Derived.Test.YtjpbfmhfjlbcgaaRow
import Derived.Laws.AppendOwn
import Derived.Handy
import Derived.BigRegion
namespace Go.Proofs.Ytjpbfmhfjlbcgaa
open Go.ChangeShapes Go.WideShapes Go.ChangeAt Go.RowKit
set_option linter.unusedVariables false
set_option linter.unusedSimpArgs false
theorem new_one_of (W : World) (v : Value) (g : Nat) (hg : W.heap.size = g) : ∀ (k : Nat) (u : Value), [v][k]? = some u → (W.alloc (.cells #[v] 3)).cell? ((⟨g, 0, none⟩ : Addr).add k) = some u := by
  subst hg
  exact new_one _ _ _
set_option maxRecDepth 20000 in
set_option maxHeartbeats 2000000 in
theorem ftake_yes (x y a b c d p levels calm : Int) (n : Nat) (w : World) (h : rightR x y a b c d p = true) (hn : n ≤ 65536) (hl : 0 ≤ levels ∧ levels ≤ 31) (hc : 1 ≤ calm ∧ calm ≤ 1000) :
    Calls Try.prog 16 #[.agg (rCells x y a b c d p), .int .i64 (n : Int), .int .i64 levels, .int .i64 calm] w fun e w' => ∃ v, e = .returned (.tuple #[v, .agg (rCells (Mv.it p ⟨a, b, c, d⟩ n (x, y)).1 (Mv.it p ⟨a, b, c, d⟩ n (x, y)).2 a b c d p), .bool true]) ∧ w'.ownsRow w.heap.size 3 1 v n (nums (fun i => choice p levels calm (Mv.it p ⟨a, b, c, d⟩ (i + 1) (x, y))) n) ∧ Keeps (fun _ => False) w w' := by
  have H0 := Lib.hid (RB.new 25 w x y a b c d p)
  have H := Lib.hid h
  have HI := Lib.hid (fun j => rightR_it h j)
  have d0 : decide ((n : Int) < 0) = false := decide_eq_false (by omega)
  have d1 : decide (65536 < (n : Int)) = false := decide_eq_false (by omega)
  have d2 : decide (levels < 0) = false := decide_eq_false (by omega)
  have d3 : decide (31 < levels) = false := decide_eq_false (by omega)
  have d4 : decide (calm < 1) = false := decide_eq_false (by omega)
  have d5 : decide (1000 < calm) = false := decide_eq_false (by omega)
  obtain ⟨Z, hZ⟩ : ∃ Z : Nat → Int × Int, Z = fun j => Mv.it p ⟨a, b, c, d⟩ j (x, y) := ⟨_, rfl⟩
  have HZ := Lib.hid (show ∀ j, Z (j + 1) = (((Z j).1 * a - (Z j).2 * b + c) % p, ((Z j).1 * b + (Z j).2 * a + d) % p) from fun j => by rw [hZ]; rfl)
  have HZ0 := Lib.hid (show Z 0 = (x, y) by rw [hZ]; rfl)
  have HZn := Lib.hid (show ∀ j, Mv.it p ⟨a, b, c, d⟩ j (x, y) = Z j from fun j => by rw [hZ])
  have HZI := Lib.hid (show ∀ j, rightR (Z j).1 (Z j).2 a b c d p = true from fun j => by rw [hZ]; exact HI.out j)
  have HLC := Lib.hid (And.intro hl hc)
  clear hZ h HI hl hc
  simp only [HZn.out]
  obtain ⟨CH, hCH⟩ : ∃ CH : Nat → Int, CH = fun i => choice p levels calm (Z (i + 1)) := ⟨_, rfl⟩
  rw [← hCH]
  have HCH := Lib.hid (show ∀ i, CH i = choice p levels calm (Z (i + 1)) from fun i => by rw [hCH])
  clear hCH
  go_enter Try.func16, Try.ntmps16
  go_wp2_with fail
  refine (fright_any _ _ _ _ _ _ _ _).mono ?_
  rintro e w1 ⟨rfl, k1⟩
  rw [H.out]
  have H1 := Lib.hid (H0.out.none k1)
  clear k1
  go_wp2_with fail
  obtain ⟨wo, rfl⟩ : ∃ wo : World, wo = w := ⟨_, rfl⟩
  go_loopw [11, 12] (fun out i wr => ∃ j : Nat, j ≤ n ∧ i = .int .i64 j ∧ TF wo wr (Z j).1 (Z j).2 a b c d p out j CH) (fun _ i _ => n - (intOf i).toNat)
  case atStart => exact ⟨0, by omega, rfl, by rw [HZ0.out]; exact H1.out, World.ownsRow_nil _ _ _ _⟩
  case round =>
    obtain ⟨j, hj, rfl, hB⟩ := hrel
    have HB := Lib.hid hB
    have HX := Lib.hid (HZ.out j)
    have HR := Lib.hid (HZI.out j)
    have HE := Lib.hid (show j = n → Z n = Z j from fun h => by rw [h])
    clear hB
    obtain ⟨x0, x1, x2, x3, x4, x5, x6⟩ := seven_cells HB.out.rb.one
    obtain ⟨f0, f1, f2, f3, f4, f5, f6, lx⟩ := seven_free HB.out.rb.one
    by_cases hlt : j < n
    · have hN : ∀ w, Calls Try.prog 9 #[.agg (rCells (Z j).1 (Z j).2 a b c d p)] w fun e w' => e = .returned (.tuple #[.agg (rCells (Z (j + 1)).1 (Z (j + 1)).2 a b c d p), .bool true]) ∧ Keeps (fun _ => False) w w' := fun w => by
        have := fnext_yes (Z j).1 (Z j).2 a b c d p w HR.out
        rw [HX.out]
        exact this
      have HN := Lib.hid hN
      have hbd := rightR_bds (HZI.out (j + 1))
      have har := choice_arith (Z (j + 1)).1 (Z (j + 1)).2 p levels calm (by omega) (by omega) (by omega) HLC.out.1 HLC.out.2
      have hcv := HCH.out j
      unfold choice at hcv
      generalize hu : (Z (j + 1)).1 = u at *
      generalize hv : (Z (j + 1)).2 = v at *
      have HUV := Lib.hid (And.intro hu hv)
      clear hu hv
      obtain ⟨⟨A1, A1'⟩, ⟨A2, A2'⟩, ⟨A3, A3'⟩, A4, hq0, hq1⟩ := har
      have z0 : ¬ calm + levels = 0 := by have := HLC.out; omega
      have z1 : (calm + levels == 0) = false := beq_eq_false_iff_ne.mpr z0
      have hq40 : (u * p + v) % (calm + levels) ≤ 1100 := by have := HLC.out; clear A1 A1' A2 A2' A3 A3'; omega
      have W5 : IntKind.i64.wrap ((u * p + v) % (calm + levels) + 1) = (u * p + v) % (calm + levels) + 1 := by clear A1 A1' A2 A2' A3 A3'; exact wrap_in _ ⟨by omega, by omega⟩
      have W5' : wrap64 ((u * p + v) % (calm + levels) + 1) = (u * p + v) % (calm + levels) + 1 := by clear A1 A1' A2 A2' A3 A3' W5; rw [IntWalk.wrap64_in _ ⟨by omega, by omega⟩]
      have hor : (u * p + v) % (calm + levels) < levels ∨ ¬ (u * p + v) % (calm + levels) < levels := Decidable.em _
      generalize (u * p + v) % (calm + levels) = q at *
      obtain ⟨i0, hi0, hz0, hz1, hz2⟩ := info_parts Try.infoD
      clear hN hbd hq0 hq1 hq40 HX
      go_wp2_with fail
      refine (HN.out _).mono ?_
      rintro e w2 ⟨rfl, k2⟩
      replace HB := Lib.hid (HB.out.none k2)
      clear k2 x0 x1 x2 x3 x4 x5 x6 f0 f1 f2 f3 f4 f5 f6 lx
      obtain ⟨x0, x1, x2, x3, x4, x5, x6⟩ := seven_cells HB.out.rb.one
      obtain ⟨f0, f1, f2, f3, f4, f5, f6, lx⟩ := seven_free HB.out.rb.one
      have HP := Lib.hid (HB.out.put (x' := u) (y' := v) (a' := a) (b' := b) (c' := c) (d' := d) (p' := p))
      rcases hor with hor | hor
      · rw [if_pos hor] at hcv
        have HCV := Lib.hid hcv
        have dq : decide (q < levels) = true := decide_eq_true hor
        clear hcv hor
        go_wp2_with (at_builtin; refine wpList_append_own _ rfl (.tmp 69) (.tmp 72) 41 rfl wo.heap.size 3 i0 (.int .i64 0) 1 8 Try.underlying41 hi0 hz0 hz1 hz2 rfl (by decide) _ _ _ rfl (HP.out.own.alloc _) ⟨w2.heap.size, 0, none⟩ 1 1 [.int .i64 (q + 1)] ?e1 rfl ?e2 ?e3 ?e4 ?e5 ?e6 ?_)
        case e1 => simp [Act.eval]
        case e2 => exact new_one_of _ _ _ (by simp)
        case e3 => simp [Value.oneCell']
        case e4 => unfold maxLen; omega
        case e5 => omega
        case e6 => simp; omega
        intro v2 w5 ho hg _
        have HB2 := Lib.hid (HP.out.more hg (by rw [HCV.out]; exact ho))
        clear ho hg
        go_wp2
        go_roundw
        case rel => exact ⟨j + 1, by omega, by go_num, by rw [HUV.out.1, HUV.out.2]; exact HB2.out⟩
        case measure => simp [intOf]; omega
      · rw [if_neg (Int.not_lt.mpr hor)] at hcv
        have HCV := Lib.hid hcv
        have dq : decide (q < levels) = false := decide_eq_false (Int.not_lt.mpr hor)
        clear hcv hor
        go_wp2_with (at_builtin; refine wpList_append_own _ rfl (.tmp 74) (.tmp 75) 41 rfl wo.heap.size 3 i0 (.int .i64 0) 1 8 Try.underlying41 hi0 hz0 hz1 hz2 rfl (by decide) _ _ _ rfl (HP.out.own.alloc _) ⟨w2.heap.size, 0, none⟩ 1 1 [.int .i64 0] ?e1 rfl ?e2 ?e3 ?e4 ?e5 ?e6 ?_)
        case e1 => simp [Act.eval]
        case e2 => exact new_one_of _ _ _ (by simp)
        case e3 => simp [Value.oneCell']
        case e4 => unfold maxLen; omega
        case e5 => omega
        case e6 => simp; omega
        intro v2 w5 ho hg _
        have HB2 := Lib.hid (HP.out.more hg (by rw [HCV.out]; exact ho))
        clear ho hg
        go_wp2
        go_roundw
        case rel => exact ⟨j + 1, by omega, by go_num, by rw [HUV.out.1, HUV.out.2]; exact HB2.out⟩
        case measure => simp [intOf]; omega
    · obtain rfl : j = n := by omega
      obtain ⟨r0, r1, r2, r3, r4, r5, r6⟩ := seven_cells HB.out.rb.res
      obtain ⟨g0, g1, g2, g3, g4, g5, g6, lr⟩ := seven_free HB.out.rb.res
      go_wp2_with fail
      go_region
      all_goals
        go_wp2
        exact bodyPost_ret (v := .tuple #[u11, .agg (rCells (Z j).1 (Z j).2 a b c d p), .bool true]) (by simp [results, Try.results16, go_sem, *]) rfl ⟨u11, rfl, HB.out.fin.1, HB.out.fin.2⟩
end Go.Proofs.Ytjpbfmhfjlbcgaa
