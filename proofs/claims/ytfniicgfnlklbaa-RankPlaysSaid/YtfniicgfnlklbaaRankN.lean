import Derived.Test.YtfniicgfnlklbaaRankT
namespace Go.Proofs.Ytfniicgfnlklbaa
open Go.ChangeShapes Go.WideShapes Go.ChangeAt Go.RowKit
set_option linter.unusedVariables false
set_option linter.unusedSimpArgs false
def rk0 : RkT := (fun _ => [], fun _ => 0)
/-- A rank that has just been made. -/
theorem rk_fresh : ∃ zs : Array Value, (∀ w, (zeroValue 32).run Try.prog w = .ok (.agg zs) w) ∧ ∀ (w : World) (b : Nat), w.heap[b]? = some (.cells zs 32 (0, 0)) → RkS w b rk0 := by
  obtain ⟨zs, _, hb, hs, h3, h4, h5, h6⟩ := rk_zeros
  refine ⟨zs, hb, fun w b h => ⟨fun _ _ => 0, fun _ => 0, 0, ⟨zs, h, hs, h3, h4, h5, h6⟩, ?_⟩⟩
  refine ⟨fun p hp => rfl, fun p i t hp hi => ?_, fun p hp => List.nodup_nil, fun p t hp => ?_, fun t ht => Nat.zero_le _, by omega, fun p hp => ?_⟩
  · simp [rk0] at hi
  · simp [rk0]
  · simp [rk0]
def rkA : RkT := addT (addT (addT rk0 1 5) 2 5) 3 9
def rkB : RkT := turnT (remT rkA 3) 1
theorem rkA_list : listT rkA = [3, 1, 2] := by decide
theorem rkB_list : listT rkB = [2, 1] := by decide
set_option maxHeartbeats 1000000 in
theorem alive23_any (w : World) : Calls Try.prog 6 #[] w fun e w' => e = .returned (.bool true) ∧ Keeps (fun _ => False) w w' := by
  obtain ⟨zs, hzb, hz⟩ := rk_fresh
  have HZ := Lib.hid hz
  clear hz
  have H0 := Lib.hid (HZ.out (w.alloc (.cells zs 32 (0, 0))) w.heap.size (heap_new _ _))
  have K0 := Lib.hid ((Keeps.refl (fun k => k = w.heap.size) w).alloc (.cells zs 32 (0, 0)))
  go_enter Try.func6, Try.ntmps6
  go_wp2_with fail
  refine (rks_add _ _ _ H0.out 1 5).mono ?_
  rintro e w1 ⟨rfl, hS, hK⟩
  have H1 := Lib.hid hS
  have K1 := Lib.hid (K0.out.trans hK)
  clear hS hK H0 K0
  go_wp2_with fail
  refine (rks_add _ _ _ H1.out 2 5).mono ?_
  rintro e w2 ⟨rfl, hS, hK⟩
  have H2 := Lib.hid hS
  have K2 := Lib.hid (K1.out.trans hK)
  clear hS hK H1 K1
  go_wp2_with fail
  refine (rks_add _ _ _ H2.out 3 9).mono ?_
  rintro e w3 ⟨rfl, hS, hK⟩
  have H3 := Lib.hid hS
  have K3 := Lib.hid (K2.out.trans hK)
  clear hS hK H2 K2
  have H4 := Lib.hid (show RkS w3 w.heap.size rkA from H3.out)
  go_wp2_with fail
  refine (rks_first _ _ _ H4.out).mono ?_
  rintro e w' ⟨rfl, rfl⟩
  rw [rkA_list]
  go_wp2_with fail
  refine (rks_rem _ _ _ H4.out 3).mono ?_
  rintro e w5 ⟨rfl, hS, hK⟩
  have H5 := Lib.hid hS
  have K5 := Lib.hid (K3.out.trans hK)
  clear hS hK
  go_wp2_with fail
  refine (rks_turn _ _ _ H5.out 1).mono ?_
  rintro e w6 ⟨rfl, hS, hK⟩
  have H6 := Lib.hid (show RkS w6 w.heap.size rkB from hS)
  have K6 := Lib.hid (K5.out.trans hK)
  clear hS hK
  go_wp2_with fail
  refine (rks_first _ _ _ H6.out).mono ?_
  rintro e w' ⟨rfl, rfl⟩
  rw [rkB_list]
  have HL := Lib.hid (rks_len _ _ _ H6.out)
  rw [rkB_list] at HL
  go_wp2_with fail
  refine HL.out.mono ?_
  rintro e w7 ⟨rfl, hK⟩
  have K7 := Lib.hid (K6.out.trans (hK.mono fun z _ hz => hz.elim))
  go_wp2
  go_ret
  exact ⟨rfl, K7.out.mono fun z hz e => by omega⟩
end Go.Proofs.Ytfniicgfnlklbaa
