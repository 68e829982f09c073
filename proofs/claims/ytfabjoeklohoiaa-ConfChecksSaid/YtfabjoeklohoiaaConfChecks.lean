import Derived.Test.YtfabjoeklohoiaaRefConfC
import Derived.Test.YtfabjoeklohoiaaAlive29
import Derived.Test.YtfabjoeklohoiaaLight
import Derived.Test.YtfabjoeklohoiaaConfO
import Derived.Deep.RegionHeld3
namespace Go.Proofs.Ytfabjoeklohoiaa
open Go.ChangeShapes Go.WideShapes Go.ChangeAt Go.RowKit
set_option linter.unusedVariables false
set_option linter.unusedSimpArgs false
theorem size_any (c : CfD) (w : World) (h1 : c.nT ≤ 20) (h2 : c.nL ≤ 40) :
    Calls Try.prog 10 #[.agg c.cells] w fun e w' => e = .returned (.int .i64 ((c.nT : Int) + (c.nL : Int))) ∧ Keeps (fun _ => False) w w' := by
  have W1 : wrap64 ((c.nT : Int) + (c.nL : Int)) = (c.nT : Int) + (c.nL : Int) := IntWalk.wrap64_in _ ⟨by omega, by omega⟩
  have W2 : IntKind.i64.wrap ((c.nT : Int) + (c.nL : Int)) = (c.nT : Int) + (c.nL : Int) := IntWalk.i64_in _ ⟨by omega, by omega⟩
  clear h1 h2
  go_enter Try.func10, Try.ntmps10
  go_wp2
  go_ret
  exact ⟨rfl, (Keeps.refl _ _).alloc _⟩
set_option maxRecDepth 20000 in
set_option maxHeartbeats 4000000 in
theorem checks_any (c : CfD) (x : Int) (w : World) (hc : CfIn w c) (ho : c.Ok) :
    Calls Try.prog 3 #[.agg c.cells, .int .i64 x] w fun e w' => e = .returned (.bool true) ∧ Keeps (fun _ => False) w w' := by
  have HB := Lib.hid ((Has.start w).alloc (.cells c.cells 26))
  have HLW := Lib.hid (fun w' (kk : Keeps (fun _ => False) w w') => light2_any c w' (hc.none kk) ho)
  have HP := Lib.hid (fun w' (kk : Keeps (fun _ => False) w w') => check_any c w' (hc.none kk) ho)
  have HQ := Lib.hid (fun w' (kk : Keeps (fun _ => False) w w') => rcheck_any c w' (hc.none kk) ho)
  have HH := Lib.hid (fun w' => has_any c x w' ho)
  have HR := Lib.hid (fun w' (hL : c.nL ≤ 1000000) => rhas_any c x w' ho hL)
  generalize badOf c = bo at *
  generalize hasF c x = hx at *
  obtain ⟨b0, b1, b2⟩ := bo
  clear hc ho
  go_enter Try.func3, Try.ntmps3
  go_wp2_with fail
  refine (HLW.out _ HB.out.keeps).mono ?_
  rintro e w2 ⟨b, rfl, hb, k2⟩
  replace HB := Lib.hid (HB.out.none k2)
  clear k2
  cases b
  · go_wp2_with fail
    refine (alive29_any _).mono ?_
    rintro e w3 ⟨rfl, k3⟩
    go_wp2
    go_ret
    exact ⟨rfl, HB.out.keeps.trans k3⟩
  obtain ⟨hT, hL⟩ := hb rfl
  have HS := Lib.hid (fun w' => size_any c w' hT hL)
  have HL := Lib.hid (show c.nL ≤ 1000000 from by omega)
  have W1 : wrap64 ((c.nT : Int) + (c.nL : Int)) = (c.nT : Int) + (c.nL : Int) := IntWalk.wrap64_in _ ⟨by omega, by omega⟩
  have W2 : IntKind.i64.wrap ((c.nT : Int) + (c.nL : Int)) = (c.nT : Int) + (c.nL : Int) := IntWalk.i64_in _ ⟨by omega, by omega⟩
  clear hb hT hL
  replace HB := Lib.hid HB.out.drew
  go_wp2_with fail
  go_region_held3 (fun w' => w'.cell? ⟨w.heap.size, 0, none⟩ = some (.slice c.ta c.nT c.tc) ∧ w'.cell? ⟨w.heap.size, 1, none⟩ = some (.slice c.la c.nL c.lc) ∧ w'.cell? ⟨w.heap.size, 2, none⟩ = some (.slice c.oa c.nO c.oc) ∧ w'.cell? ⟨w.heap.size, 3, none⟩ = some (.int .i64 c.tick))
    (first
      | exact ⟨cell_of (HB.out.at 0 rfl) 0, cell_of (HB.out.at 0 rfl) 1, cell_of (HB.out.at 0 rfl) 2, cell_of (HB.out.at 0 rfl) 3⟩
      | go_keep)
    (first
      | (go_at_call 6; refine (HP.out _ HB.out.keeps).mono ?_; rintro e w8 ⟨rfl, k8⟩; replace HB := Lib.hid (HB.out.none k8); clear k8)
      | (go_at_call 7; refine (HQ.out _ HB.out.keeps).mono ?_; rintro e w8 ⟨rfl, k8⟩; replace HB := Lib.hid (HB.out.none k8); clear k8)
      | (go_at_call 8; refine (HH.out _).mono ?_; rintro e w8 ⟨rfl, k8⟩; replace HB := Lib.hid (HB.out.none k8); clear k8)
      | (go_at_call 9; refine (HR.out _ HL.out).mono ?_; rintro e w8 ⟨rfl, k8⟩; replace HB := Lib.hid (HB.out.none k8); clear k8)
      | (go_at_call 10; refine (HS.out _).mono ?_; rintro e w8 ⟨rfl, k8⟩; replace HB := Lib.hid (HB.out.none k8); clear k8)
      | (go_at_call 5; refine (alive29_any _).mono ?_; rintro e w8 ⟨rfl, k8⟩; replace HB := Lib.hid (HB.out.none k8); clear k8))
  all_goals
    go_wp2
    go_ret
    exact ⟨rfl, HB.out.keeps⟩
set_option maxRecDepth 100000 in
theorem confChecks_walk {H : Type} {enc : TypeId × Value → H} (W : World) (base : Nat) {v0 v1 : Value} {d0 d1 : DataW H} {p0 p1 : List MemPlace}
    (k0 : Value.okWide Try.prog W .any base 26 v0) (h0 : DataW.Trod enc Try.prog W 0 (fun _ => true) true 26 v0 d0 p0)
    (k1 : Value.okWide Try.prog W .any base 3 v1) (h1 : DataW.Trod enc Try.prog W 0 (fun _ => true) true 3 v1 d1 p1) :
    Calls Try.prog 3 #[v0, v1] W fun e w' => e = .returned (.bool true) ∧ Below W.heap.size W w' := by
  obtain ⟨cs0, rfl, _⟩ := okWide_struct Try.underlying26 k0
  obtain ⟨x, rfl, _, _, wk⟩ := open_int Try.underlying3 k1 h1
  obtain ⟨c, e0, hc, ho⟩ := cfg_of (reads_of h0)
  obtain rfl : cs0 = c.cells := by
    have : cs0.toList = c.cells.toList := by simpa [Value.cells] using e0
    exact Array.toList_inj.1 this
  exact (checks_any c x W hc ho).mono fun e w' ⟨h1, h2⟩ => ⟨h1, h2.none⟩
end Go.Proofs.Ytfabjoeklohoiaa
