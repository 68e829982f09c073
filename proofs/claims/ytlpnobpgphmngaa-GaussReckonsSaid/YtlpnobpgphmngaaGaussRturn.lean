import Derived.Test.YtlpnobpgphmngaaGaussRmul
namespace Go.Proofs.Ytlpnobpgphmngaa
open Go.ChangeShapes Go.WideShapes Go.ChangeAt Go.RowKit
set_option linter.unusedVariables false
structure TurnAt (w wr : World) (p q : Int) : Prop where
  keeps : Keeps (fun _ => False) w wr
  x : wr.heap[w.heap.size]? = some (.cells #[.int .i64 p, .int .i64 q] 53 (0, 0))
  r : wr.heap[w.heap.size + 1]? = some (.cells #[.int .i64 0, .int .i64 0] 53 (0, 0))
theorem TurnAt.none {w w1 w2 : World} {p q : Int} (h : TurnAt w w1 p q) (k : Keeps (fun _ => False) w1 w2) : TurnAt w w2 p q :=
  ⟨h.keeps.trans k, k.at h.x fun h => h, k.at h.r fun h => h⟩
theorem TurnAt.new (w : World) (a b : Int) : TurnAt w ((w.alloc (.cells #[.int .i64 a, .int .i64 b] 53)).alloc (.cells #[.int .i64 0, .int .i64 0] 53)) a b := by
  obtain ⟨h1, h2, h3⟩ := kept2 (Keeps.refl (fun _ => False) ((w.alloc (.cells #[.int .i64 a, .int .i64 b] 53)).alloc (.cells #[.int .i64 0, .int .i64 0] 53)))
  exact ⟨h3, h1, h2⟩
theorem TurnAt.set {w w1 : World} {p q p' q' : Int} (h : TurnAt w w1 p q) : TurnAt w ((w1.setCell ⟨w.heap.size, 0, Option.none⟩ (.int .i64 p')).setCell ⟨w.heap.size, 1, Option.none⟩ (.int .i64 q')) p' q' :=
  ⟨(h.keeps.setCell (.inr (by simp)) _).setCell (.inr (by simp)) _, heap_set (heap_set h.x 0 _) 1 _, heap_other (heap_other h.r (by simp) _) (by simp) _⟩
theorem rturn_no (a b k : Int) (w : World) (h : rightB a b = false) :
    Calls Try.prog 36 #[.agg #[.int .i64 a, .int .i64 b], .int .i64 k] w fun e w' => e = .returned (.tuple #[.agg #[.int .i64 0, .int .i64 0], .bool false]) ∧ Keeps (fun _ => False) w w' := by
  have H := Lib.hid h
  have H0 := Lib.hid (TurnAt.new w a b)
  clear h
  go_enter Try.func36, Try.ntmps36
  go_wp2_with fail
  obtain ⟨wo, rfl⟩ : ∃ wo : World, wo = w := ⟨_, rfl⟩
  go_loopw [6] (fun i wr => i = .int .i64 0 ∧ TurnAt wo wr a b) (fun i _ => 0)
  case atStart => exact ⟨rfl, H0.out⟩
  case round =>
    obtain ⟨rfl, hA⟩ := hrel
    have HA := Lib.hid hA
    obtain ⟨x0, x1, g0, g1, lx⟩ := two_cells hA.x
    clear hA
    obtain ⟨T, hT⟩ : ∃ T, T = turns k := ⟨_, rfl⟩
    have ht := turns_eq k
    rw [← hT] at ht
    clear hT
    by_cases hlt : 0 < T
    · go_wp2_with fail
      refine (rright_any a b _).mono ?_
      rintro e w2 ⟨rfl, k2⟩
      rw [H.out]
      have HA1 := Lib.hid (HA.out.none k2)
      obtain ⟨x0', x1', g0', g1', lx'⟩ := two_cells HA1.out.x
      clear k2 x0 x1 g0 g1 lx
      go_wp2_with fail
      refine (rtold_any a b true _).mono ?_
      rintro e w3 ⟨p, q, r, rfl, hr, hp, hq, k3⟩
      rw [H.out] at hr
      obtain rfl : r = false := hr
      obtain rfl : p = 0 := hp
      obtain rfl : q = 0 := hq
      have HA2 := Lib.hid (HA1.out.none k3)
      obtain ⟨r0, r1, f0, f1, lr⟩ := two_cells HA2.out.r
      clear k3
      go_wp2
      refine bodyPost_ret (v := .tuple #[.agg #[.int .i64 0, .int .i64 0], .bool false]) (by simp [results, Try.results36, go_sem, *]) rfl ⟨rfl, ?_⟩
      exact (HA2.out.keeps.setCell (.inr (by simp)) _).setCell (.inr (by simp)) _
    · obtain rfl : T = 0 := by omega
      go_wp2_with fail
      refine (rtold_any a b true _).mono ?_
      rintro e w3 ⟨p, q, r, rfl, hr, hp, hq, k3⟩
      rw [H.out] at hr
      obtain rfl : r = false := hr
      obtain rfl : p = 0 := hp
      obtain rfl : q = 0 := hq
      have HA2 := Lib.hid (HA.out.none k3)
      obtain ⟨r0, r1, f0, f1, lr⟩ := two_cells HA2.out.r
      clear k3
      go_wp2
      refine bodyPost_ret (v := .tuple #[.agg #[.int .i64 0, .int .i64 0], .bool false]) (by simp [results, Try.results36, go_sem, *]) rfl ⟨rfl, ?_⟩
      exact (HA2.out.keeps.setCell (.inr (by simp)) _).setCell (.inr (by simp)) _
set_option maxHeartbeats 1000000 in
theorem rturn_yes (a b k : Int) (w : World) (h : rightB a b = true) :
    Calls Try.prog 36 #[.agg #[.int .i64 a, .int .i64 b], .int .i64 k] w fun e w' => e = .returned (.tuple #[.agg #[.int .i64 (turnN (turns k) (a, b)).1, .int .i64 (turnN (turns k) (a, b)).2], .bool true]) ∧ Keeps (fun _ => False) w w' := by
  have H := Lib.hid h
  have bd := right_bds h
  have H0 := Lib.hid (TurnAt.new w a b)
  clear h
  have hT : ∀ i : Nat, rightB (turnN i (a, b)).1 (turnN i (a, b)).2 = true := fun i => by
    have := turnN_bd i (a, b) (M := 1048576) (show a.natAbs ≤ _ by omega) (show b.natAbs ≤ _ by omega)
    unfold rightB; simp; omega
  have HT := Lib.hid hT
  have HK := Lib.hid (turns_eq k)
  have ht := turns_le k
  clear hT
  go_enter Try.func36, Try.ntmps36
  go_wp2_with fail
  obtain ⟨wo, rfl⟩ : ∃ wo : World, wo = w := ⟨_, rfl⟩
  go_loopw [6] (fun i wr => ∃ j : Nat, j ≤ turns k ∧ i = .int .i64 j ∧ TurnAt wo wr (turnN j (a, b)).1 (turnN j (a, b)).2) (fun i _ => turns k - (intOf i).toNat)
  case atStart => exact ⟨0, by omega, rfl, H0.out⟩
  case round =>
    obtain ⟨j, hj, rfl, hA⟩ := hrel
    have hR := HT.out j
    have hnext : turnN (j + 1) (a, b) = (-(turnN j (a, b)).2, (turnN j (a, b)).1) := rfl
    have HN := Lib.hid hnext
    clear hnext
    have hend : j = turns k → turnN (turns k) (a, b) = turnN j (a, b) := fun h => by rw [h]
    have HE := Lib.hid hend
    clear hend
    generalize hu : (turnN j (a, b)).1 = u at *
    generalize hv : (turnN j (a, b)).2 = v at *
    have bdu := right_bds hR
    have HR := Lib.hid hR
    have HUV := Lib.hid (And.intro hu hv)
    have HA := Lib.hid hA
    obtain ⟨x0, x1, g0, g1, lx⟩ := two_cells hA.x
    clear hA hR hu hv
    have ht1 := HK.out
    obtain ⟨T, hT⟩ : ∃ T, T = turns k := ⟨_, rfl⟩
    rw [← hT] at ht1 hj
    have HTT := Lib.hid hT
    clear hT
    by_cases hlt : j < T
    · go_wp2_with fail
      refine (rright_any u v _).mono ?_
      rintro e w2 ⟨rfl, k2⟩
      rw [HR.out]
      have HA1 := Lib.hid (HA.out.none k2)
      obtain ⟨x0', x1', g0', g1', lx'⟩ := two_cells HA1.out.x
      clear k2 x0 x1 g0 g1 lx
      have hw : IntKind.i64.wrap (-v) = -v := by rw [IntWalk.i64_in _ ⟨by omega, by omega⟩]
      go_wp2
      go_roundw
      case rel =>
        have hTT := HTT.out
        refine ⟨j + 1, by omega, by rw [IntWalk.wrap64_in _ ⟨by omega, by omega⟩]; rfl, ?_⟩
        have := HA1.out.set (p' := -v) (q' := u)
        rw [HN.out]
        exact this
      case measure => have hTT := HTT.out; rw [IntWalk.wrap64_in _ ⟨by omega, by omega⟩]; simp [intOf]; omega
    · obtain rfl : j = T := by omega
      go_wp2_with fail
      refine (rtold_any u v true _).mono ?_
      rintro e w3 ⟨p, q, r, rfl, hr, hp, hq, k3⟩
      rw [HR.out] at hr
      obtain rfl : r = true := hr
      obtain rfl : p = u := hp
      obtain rfl : q = v := hq
      have HA2 := Lib.hid (HA.out.none k3)
      obtain ⟨r0, r1, f0, f1, lr⟩ := two_cells HA2.out.r
      clear k3
      go_wp2
      refine bodyPost_ret (v := .tuple #[.agg #[.int .i64 p, .int .i64 q], .bool true]) (by simp [results, Try.results36, go_sem, *]) rfl ⟨by rw [HE.out HTT.out, HUV.out.1, HUV.out.2], ?_⟩
      exact (HA2.out.keeps.setCell (.inr (by simp)) _).setCell (.inr (by simp)) _
theorem rturn_any (a b k : Int) (w : World) :
    Calls Try.prog 36 #[.agg #[.int .i64 a, .int .i64 b], .int .i64 k] w fun e w' => e = .returned (if rightB a b then .tuple #[.agg #[.int .i64 (turnN (turns k) (a, b)).1, .int .i64 (turnN (turns k) (a, b)).2], .bool true] else .tuple #[.agg #[.int .i64 0, .int .i64 0], .bool false]) ∧ Keeps (fun _ => False) w w' := by
  cases h : rightB a b
  · exact rturn_no a b k w h
  · exact rturn_yes a b k w h
end Go.Proofs.Ytlpnobpgphmngaa
