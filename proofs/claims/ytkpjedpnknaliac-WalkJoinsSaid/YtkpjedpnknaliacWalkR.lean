import Derived.Test.YtkpjedpnknaliacWalk
namespace Go.Proofs.Ytkpjedpnknaliac
open Go.ChangeShapes Go.WideShapes Go.ChangeAt Go.RowKit
set_option linter.unusedVariables false
theorem rrightw_any (a b t : Int) (w : World) :
    Calls Try.prog 19 #[.agg #[.int .i64 a, .int .i64 b, .int .i64 t]] w fun e w' => e = .returned (.bool (rightW a b t)) ∧ Keeps (fun _ => False) w w' := by
  go_enter Try.func19, Try.ntmps19
  go_wp2_with fail
  refine (rright_any a b _).mono ?_
  rintro e w1 ⟨rfl, k1⟩
  obtain ⟨x0, x1, x2, _, _, _, l1⟩ := three_cells (k1.at (heap_new w (.cells #[.int .i64 a, .int .i64 b, .int .i64 t] 50)) fun h => h)
  have K := Lib.hid (((Keeps.refl (fun _ => False) w).alloc (.cells #[.int .i64 a, .int .i64 b, .int .i64 t] 50)).trans k1)
  clear k1
  cases h : rightB a b
  · have H := Lib.hid h
    clear h
    go_wp2
    go_ret
    exact ⟨ret_bool (by unfold rightW; rw [H.out]; rfl), K.out⟩
  · have H := Lib.hid h
    clear h
    by_cases h0 : 0 ≤ t
    · have d0 : decide (0 ≤ t) = true := decide_eq_true h0
      by_cases h3 : t ≤ 3
      · have d1 : decide (t ≤ 3) = true := decide_eq_true (by omega)
        have D := Lib.hid (show decide (0 ≤ t ∧ t ≤ 3) = true from decide_eq_true ⟨h0, h3⟩)
        clear h0 h3
        go_wp2
        go_ret
        exact ⟨ret_bool (by unfold rightW; rw [H.out, D.out]; rfl), K.out⟩
      · have d1 : decide (t ≤ 3) = false := decide_eq_false (by omega)
        have D := Lib.hid (show decide (0 ≤ t ∧ t ≤ 3) = false from decide_eq_false (by omega))
        clear h0 h3
        go_wp2
        go_ret
        exact ⟨ret_bool (by unfold rightW; rw [H.out, D.out]; rfl), K.out⟩
    · have d0 : decide (0 ≤ t) = false := decide_eq_false h0
      have D := Lib.hid (show decide (0 ≤ t ∧ t ≤ 3) = false from decide_eq_false (by omega))
      clear h0
      go_wp2
      go_ret
      exact ⟨ret_bool (by unfold rightW; rw [H.out, D.out]; rfl), K.out⟩
theorem rtoldw_yes (a b t : Int) (w : World) (h : rightW a b t = true) :
    Calls Try.prog 40 #[.agg #[.int .i64 a, .int .i64 b, .int .i64 t], .bool true] w fun e w' => e = .returned (.tuple #[.agg #[.int .i64 a, .int .i64 b, .int .i64 t], .bool true]) ∧ Keeps (fun _ => False) w w' := by
  have H := Lib.hid h
  have H0 := Lib.hid (One.new 50 50 w a b t)
  clear h
  go_enter Try.func40, Try.ntmps40
  go_wp2_with fail
  refine (rrightw_any a b t _).mono ?_
  rintro e w1 ⟨rfl, k1⟩
  rw [H.out]
  have H1 := Lib.hid (H0.out.none k1)
  obtain ⟨x0, x1, x2, _, _, _, l1⟩ := three_cells H1.out.one
  obtain ⟨r0, r1, r2, f0, f1, f2, l2⟩ := three_cells H1.out.res
  clear k1
  go_wp2
  refine bodyPost_ret (v := .tuple #[.agg #[.int .i64 a, .int .i64 b, .int .i64 t], .bool true]) (by simp [results, Try.results40, go_sem, *]) rfl ⟨rfl, ?_⟩
  exact ((H1.out.keeps.setCell (.inr (by simp)) _).setCell (.inr (by simp)) _).setCell (.inr (by simp)) _
theorem rtoldw_no (a b t : Int) (w : World) (h : rightW a b t = false) :
    Calls Try.prog 40 #[.agg #[.int .i64 a, .int .i64 b, .int .i64 t], .bool true] w fun e w' => e = .returned (.tuple #[.agg #[.int .i64 0, .int .i64 0, .int .i64 0], .bool false]) ∧ Keeps (fun _ => False) w w' := by
  have H := Lib.hid h
  have H0 := Lib.hid (One.new 50 50 w a b t)
  clear h
  go_enter Try.func40, Try.ntmps40
  go_wp2_with fail
  refine (rrightw_any a b t _).mono ?_
  rintro e w1 ⟨rfl, k1⟩
  rw [H.out]
  have H1 := Lib.hid (H0.out.none k1)
  obtain ⟨r0, r1, r2, f0, f1, f2, l2⟩ := three_cells H1.out.res
  clear k1
  go_wp2
  refine bodyPost_ret (v := .tuple #[.agg #[.int .i64 0, .int .i64 0, .int .i64 0], .bool false]) (by simp [results, Try.results40, go_sem, *]) rfl ⟨rfl, ?_⟩
  exact ((H1.out.keeps.setCell (.inr (by simp)) _).setCell (.inr (by simp)) _).setCell (.inr (by simp)) _
structure TAt (w wr : World) (p q : Int) : Prop where
  keeps : Keeps (fun _ => False) w wr
  x : wr.heap[w.heap.size]? = some (.cells #[.int .i64 p, .int .i64 q] 48 (0, 0))
  r : wr.heap[w.heap.size + 1]? = some (.cells #[.int .i64 0, .int .i64 0] 48 (0, 0))
theorem TAt.new (w : World) (a b : Int) : TAt w ((w.alloc (.cells #[.int .i64 a, .int .i64 b] 48)).alloc (.cells #[.int .i64 0, .int .i64 0] 48)) a b := by
  obtain ⟨h1, h2, h3⟩ := kept2 (Keeps.refl (fun _ => False) ((w.alloc (.cells #[.int .i64 a, .int .i64 b] 48)).alloc (.cells #[.int .i64 0, .int .i64 0] 48)))
  exact ⟨h3, h1, h2⟩
theorem TAt.set {w w1 : World} {p q p' q' : Int} (h : TAt w w1 p q) : TAt w ((w1.setCell ⟨w.heap.size, 0, Option.none⟩ (.int .i64 p')).setCell ⟨w.heap.size, 1, Option.none⟩ (.int .i64 q')) p' q' :=
  ⟨(h.keeps.setCell (.inr (by simp)) _).setCell (.inr (by simp)) _, heap_set (heap_set h.x 0 _) 1 _, heap_other (heap_other h.r (by simp) _) (by simp) _⟩
theorem turns_eq2 (k : Int) : (IntKind.i64.wrap (k.tmod 4 + 4)).tmod 4 = ((turns k : Nat) : Int) := by
  have h1 := Int.tmod_lt_of_pos k (show (0 : Int) < 4 by omega)
  have h2 := Int.lt_tmod_of_pos k (show (0 : Int) < 4 by omega)
  rw [IntWalk.i64_in _ ⟨by omega, by omega⟩]
  unfold turns
  rw [Int.toNat_of_nonneg (Int.tmod_nonneg _ (by omega))]
set_option maxHeartbeats 1000000 in
theorem rturned_any (a b k : Int) (w : World) (bd : (-1048576 ≤ a ∧ a ≤ 1048576) ∧ (-1048576 ≤ b ∧ b ≤ 1048576)) :
    Calls Try.prog 39 #[.agg #[.int .i64 a, .int .i64 b], .int .i64 k] w fun e w' => e = .returned (.agg #[.int .i64 (turnN (turns k) (a, b)).1, .int .i64 (turnN (turns k) (a, b)).2]) ∧ Keeps (fun _ => False) w w' := by
  have H0 := Lib.hid (TAt.new w a b)
  have hT : ∀ i : Nat, (-1048576 ≤ (turnN i (a, b)).1 ∧ (turnN i (a, b)).1 ≤ 1048576) ∧ (-1048576 ≤ (turnN i (a, b)).2 ∧ (turnN i (a, b)).2 ≤ 1048576) := fun i => by
    have := turnN_bd i (a, b) (M := 1048576) (show a.natAbs ≤ _ by omega) (show b.natAbs ≤ _ by omega)
    omega
  have HT := Lib.hid hT
  have HK := Lib.hid (And.intro (turns_eq k) (turns_eq2 k))
  have ht := turns_le k
  clear hT bd
  go_enter Try.func39, Try.ntmps39
  go_wp2_with fail
  obtain ⟨wo, rfl⟩ : ∃ wo : World, wo = w := ⟨_, rfl⟩
  go_loopw [5] (fun i wr => ∃ j : Nat, j ≤ turns k ∧ i = .int .i64 j ∧ TAt wo wr (turnN j (a, b)).1 (turnN j (a, b)).2) (fun i _ => turns k - (intOf i).toNat)
  case atStart => exact ⟨0, by omega, rfl, H0.out⟩
  case round =>
    obtain ⟨j, hj, rfl, hA⟩ := hrel
    have bdu := HT.out j
    have hnext : turnN (j + 1) (a, b) = (-(turnN j (a, b)).2, (turnN j (a, b)).1) := rfl
    have HN := Lib.hid hnext
    clear hnext
    have hend : j = turns k → turnN (turns k) (a, b) = turnN j (a, b) := fun h => by rw [h]
    have HE := Lib.hid hend
    clear hend
    generalize hu : (turnN j (a, b)).1 = u at *
    generalize hv : (turnN j (a, b)).2 = v at *
    have HUV := Lib.hid (And.intro hu hv)
    have HA := Lib.hid hA
    obtain ⟨x0, x1, g0, g1, lx⟩ := two_cells hA.x
    obtain ⟨r0, r1, f0, f1, lr⟩ := two_cells hA.r
    clear hA hu hv
    have ht1 := HK.out.1
    have ht2 := HK.out.2
    obtain ⟨T, hT⟩ : ∃ T, T = turns k := ⟨_, rfl⟩
    rw [← hT] at ht1 ht2 hj
    have HTT := Lib.hid hT
    clear hT
    by_cases hlt : j < T
    · have hw : IntKind.i64.wrap (-v) = -v := by rw [IntWalk.i64_in _ ⟨by omega, by omega⟩]
      go_wp2
      go_roundw
      case rel =>
        have hTT := HTT.out
        refine ⟨j + 1, by omega, by rw [IntWalk.wrap64_in _ ⟨by omega, by omega⟩]; rfl, ?_⟩
        have := HA.out.set (p' := -v) (q' := u)
        rw [HN.out]
        exact this
      case measure => have hTT := HTT.out; rw [IntWalk.wrap64_in _ ⟨by omega, by omega⟩]; simp [intOf]; omega
    · obtain rfl : j = T := by omega
      go_wp2
      refine bodyPost_ret (v := .agg #[.int .i64 u, .int .i64 v]) (by simp [results, Try.results39, go_sem, *]) rfl ⟨by rw [HE.out HTT.out, HUV.out.1, HUV.out.2], ?_⟩
      exact (HA.out.keeps.setCell (.inr (by simp)) _).setCell (.inr (by simp)) _
end Go.Proofs.Ytkpjedpnknaliac
