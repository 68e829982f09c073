import Derived.Test.YtfniicgfnlklbabDeltaRefT
import Derived.BigRegion
import Derived.Deep.DeepMust
namespace Go.Proofs.Ytfniicgfnlklbab
open Go.ChangeShapes Go.WideShapes Go.ChangeAt Go.RowKit
set_option linter.unusedVariables false
theorem rtk_start (w : World) (a : Option Addr) (n c : Nat) (P : Nat → Int) (X : Nat → Nat) : RTk w (((w.alloc (.cells #[.slice a n c] 30)).alloc (.cells #[.slice none 0 0] 30)).alloc (.cells #[.slice none 0 0] 30)) a n c P X 0 (.slice none 0 0) (.slice none 0 0) := by
  have s1 : (w.alloc (.cells #[.slice a n c] 30)).heap.size = w.heap.size + 1 := by simp
  have s2 : ((w.alloc (.cells #[.slice a n c] 30)).alloc (.cells #[.slice none 0 0] 30)).heap.size = w.heap.size + 1 + 1 := by simp
  refine ⟨((((Keeps.refl (fun _ => False) w).alloc _).alloc _).alloc _).none, heap_old (heap_old (heap_new w _) _) _, heap_old ?_ _, ?_, World.ownsRow_nil _ _ _ _, World.ownsRow_nil _ _ _ _⟩
  · rw [← s1]; exact heap_new _ _
  · rw [← s2]; exact heap_new _ _
theorem own_slice {w : World} {base : Nat} {e : TypeId} {size n : Nat} {v : Value} {xs : List Value} (h : w.ownsRow base e size v n xs) : ∃ a c, v = .slice a n c := by
  rcases h.2 with ⟨rfl, rfl⟩ | ⟨g', cap, cur, rfl, _⟩
  · exact ⟨_, _, rfl⟩
  · exact ⟨_, _, rfl⟩
set_option maxRecDepth 20000 in
set_option maxHeartbeats 1000000 in
theorem rtick (a : Option Addr) (n c : Nat) (P : Nat → Int) (X : Nat → Nat) (w : World) (hn : n ≤ 100) (hr : RRow w a n P X) (hx : ∀ i, i < n → 0 < X i ∧ X i < 4294967296) :
    Calls Try.prog 11 #[.agg #[.slice a n c]] w fun e w' => ∃ va out, e = .returned (.tuple #[.agg #[va], out]) ∧ w'.ownsRow w.heap.size 58 2 va (keepT P X n).length (flatL (keepT P X n)) ∧ w'.ownsRow w.heap.size 3 1 out (outT P X n).length (intsL (outT P X n)) ∧ Keeps (fun _ => False) w w' := by
  have HR := Lib.hid hr
  have HX := Lib.hid hx
  have HS := Lib.hid (rtk_start w a n c P X)
  clear hr hx
  go_enter Try.func11, Try.ntmps11
  go_wp2_with fail
  obtain ⟨wo, rfl⟩ : ∃ wo : World, wo = w := ⟨_, rfl⟩
  go_loopw [5, 6] (fun out i wr => ∃ (k : Nat) (va : Value), k ≤ n ∧ i = .int .i64 k ∧ RTk wo wr a n c P X k out va) (fun _ i _ => n - (intOf i).toNat)
  case atStart => exact ⟨0, _, by omega, rfl, HS.out⟩
  case round =>
    obtain ⟨k, va, hk, rfl, hT⟩ := hrel
    obtain ⟨sa, sc, rfl⟩ := own_slice hT.own
    have HT := Lib.hid hT
    have hkl := keepT_le P X k
    have hol := outT_le P X k
    have c4 : wr.cell? ⟨wo.heap.size + 1 + 1, 0, none⟩ = some (.slice sa (keepT P X k).length sc) := cell_of hT.rest 0
    obtain ⟨i0, hi, hz0, hz1, hz2⟩ := info_parts Try.infoW
    obtain ⟨j0, hj, hj0, hj1, hj2⟩ := info_parts Try.infoD
    have b0 : wr.cell? ⟨wo.heap.size, 0, none⟩ = some (.slice a n c) := cell_of hT.box 0
    have lb0 := lt_of hT.box
    have lb1 := lt_of hT.res
    have lb2 := lt_of hT.rest
    by_cases hlt : k < n
    · obtain ⟨b, off, rfl, hb, hc⟩ := (HR.out.none (Keeps.ofBelow hT.below)) (by omega)
      obtain ⟨z0, z1⟩ := hc k hlt
      obtain ⟨x0, x1⟩ := HX.out k hlt
      clear hc hT
      by_cases h1 : X k = 1
      · have HX1 := Lib.hid h1
        rw [h1] at z1
        clear h1 x0 x1
        go_wp2_with (at_builtin; refine wpList_append_own _ rfl (.tmp 27) (.tmp 30) 41 rfl wo.heap.size 3 j0 (.int .i64 0) 1 8 Try.underlying41 hj hj0 hj1 hj2 rfl (by decide) _ _ _ rfl ((HT.out.alloc _).alloc _).outo ⟨(wr.alloc (.cells #[.int .i64 (P k), .int .u64 0] 58)).heap.size, 0, none⟩ 1 1 [.int .i64 (P k)] (by simp [Act.eval]) rfl (new_one _ _ _) (by simp [Value.oneCell']) (by unfold maxLen; omega) (by omega) (by simp; omega) ?_; intro v2 w2 ho hg _; have HT2 := Lib.hid (RTk.tell ((HT.out.alloc _).alloc _) hg ho HX1.out); clear ho hg)
        go_roundw
        case rel => exact ⟨k + 1, _, by omega, by go_num, HT2.out⟩
        case measure => simp [intOf]; omega
      · have hx2 : ((X k : Int) - 1 == 0) = false := beq_eq_false_iff_ne.mpr (by omega)
        have hc1 : ((X k - 1 : Nat) : Int) = (X k : Int) - 1 := by omega
        have HX1 := Lib.hid h1
        have HB := Lib.hid ((HT.out.alloc (.cells #[.int .i64 (P k), .int .u64 ((X k : Int) - 1)] 58)).alloc (.cells #[.int .i64 (P k), .int .u64 ((X k : Int) - 1)] 58))
        go_wp2_with (at_builtin; refine wpList_append_own _ rfl (.tmp 33) (.tmp 35) 28 rfl wo.heap.size 58 i0 (.agg #[.int .i64 0, .int .u64 0]) 2 16 Try.underlying28 hi hz0 hz1 hz2 rfl (by decide) _ _ _ rfl HB.out.own ⟨(wr.alloc (.cells #[.int .i64 (P k), .int .u64 ((X k : Int) - 1)] 58)).heap.size, 0, none⟩ 1 1 [.int .i64 (P k), .int .u64 ((X k : Int) - 1)] ?e1 rfl ?e2 ?e3 ?e4 ?e5 ?e6 ?_)
        case e1 => simp [Act.eval]
        case e2 => exact w_two _ _ _ _
        case e3 => simp [Value.oneCell']
        case e4 => unfold maxLen; omega
        case e5 => omega
        case e6 => simp; omega
        intro v2 w2 ho hg _
        obtain ⟨sa2, sc2, rfl⟩ := own_slice ho
        have g4 := grown_cells hg HB.out.rest (own_apart HB.out.own HB.out.rest (by decide))
        have r4 := cell_of g4 0
        have f4 := free_of g4 0
        have l4 := lt_of g4
        have HT2 := Lib.hid (RTk.keep HB.out hg (by rw [hc1]; exact ho) HX1.out)
        clear ho hg g4
        go_wp2
        go_roundw
        case rel => exact ⟨k + 1, _, by omega, by go_num, HT2.out⟩
        case measure => simp [intOf]; omega
    · obtain rfl : k = n := by omega
      have c6 : wr.cell? ⟨wo.heap.size + 1, 0, none⟩ = some (.slice none 0 0) := cell_of hT.res 0
      have f6 := free_of hT.res 0
      clear hT
      go_wp2
      refine bodyPost_ret (v := .tuple #[.agg #[.slice sa (keepT P X k).length sc], u5]) (by simp [results, Try.results11, go_sem, *]) rfl ⟨_, _, rfl, ?_, ?_, ?_⟩
      · exact own_set HT.out.own HT.out.res (by decide) 0 _
      · exact own_set HT.out.outo HT.out.res (by decide) 0 _
      · exact (Keeps.ofBelow HT.out.below).setCell (p := ⟨wo.heap.size + 1, 0, none⟩) (.inr (show wo.heap.size ≤ wo.heap.size + 1 by omega)) _
end Go.Proofs.Ytfniicgfnlklbab
