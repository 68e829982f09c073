import Derived.Test.YtohajfkekkelhaaDoorSpecQ
import Derived.Test.YtohajfkekkelhaaDoorCertC
namespace Go.Proofs.YtohajfkekkelhaaDoor
open Go.ChangeShapes Go.WideShapes Go.ChangeAt Go.RowKit
set_option linter.unusedVariables false
set_option linter.unusedSimpArgs false
@[reducible] def opV4 (x : OpX) : W4 := ⟨x 4, x 5, x 6, x 7⟩
@[reducible] def opR5 (x : OpX) : ResD := ⟨x 9, ⟨x 10, x 11, x 12, x 13⟩⟩
theorem opV4_ok {x : OpX} (h : OpOk x) : (opV4 x).Ok := ⟨h.u 4 (by omega) (by omega) (by omega), h.u 5 (by omega) (by omega) (by omega), h.u 6 (by omega) (by omega) (by omega), h.u 7 (by omega) (by omega) (by omega)⟩
/-- What there is behind a call of a history, and whether it may be answered as it was. -/
def followP (L : List ItemD) (x : OpX) : List ItemD × Bool :=
  if decide (x 14 = 1) = true then allowsP L (x 2) (x 3) (opV4 x) (opR5 x) else ((doP L (x 2) (x 3) (opV4 x)).1, true)
theorem followP_len (L : List ItemD) (x : OpX) : (followP L x).1.length = L.length := by
  unfold followP
  split
  · exact allowsP_len _ _ _ _ _
  · exact doP_len _ _ _ _
theorem followP_ok {L : List ItemD} {x : OpX} (h : ∀ y, y ∈ L → y.Ok) (hx : OpOk x) : ∀ y, y ∈ (followP L x).1 → y.Ok := by
  unfold followP
  split
  · exact allowsP_ok _ _ _ h (opV4_ok hx)
  · exact doP_ok _ _ h (opV4_ok hx)
theorem call_info : (Tryd.prog.info? 43).map (·.size) = some 7 := by kernel_rfl
theorem res_info : (Tryd.prog.info? 45).map (·.size) = some 5 := by kernel_rfl
theorem range_op (w : World) (x : OpX) : (w.alloc (.cells #[.int .i64 (x 0), .int .i64 (x 1), .int .i64 (x 2), .int .i64 (x 3), .int .u32 (x 4), .int .u32 (x 5), .int .u32 (x 6), .int .u32 (x 7), .int .u32 (x 8), .int .i64 (x 9), .int .u32 (x 10), .int .u32 (x 11), .int .u32 (x 12), .int .u32 (x 13), .bool (decide (x 14 = 1)), .int .i64 (x 15), .int .i64 (x 16)] 47)).rangeAt w.heap.size 0 (opL x) := range_new w x
set_option maxRecDepth 20000 in
set_option maxHeartbeats 8000000 in
theorem follow_any (w : World) (g c : Nat) (L : List ItemD) (h : StateAt w g L) (ok : ∀ x, x ∈ L → x.Ok) (hn : L.length ≤ 1000) (x : OpX) (hx : OpOk x) :
    Calls Tryd.prog 28 #[.slice (some ⟨g, 0, none⟩) L.length c, .agg (opA x)] w (AllowsIn w L.length (followP L x)) := by
  have HB0 := Lib.hid (show Below w.heap.size w (w.alloc (.cells #[.int .i64 (x 0), .int .i64 (x 1), .int .i64 (x 2), .int .i64 (x 3), .int .u32 (x 4), .int .u32 (x 5), .int .u32 (x 6), .int .u32 (x 7), .int .u32 (x 8), .int .i64 (x 9), .int .u32 (x 10), .int .u32 (x 11), .int .u32 (x 12), .int .u32 (x 13), .bool (decide (x 14 = 1)), .int .i64 (x 15), .int .i64 (x 16)] 47)) from (Below.refl _ w).alloc (Nat.le_refl _) _)
  have HA := Lib.hid (allows_any (w.alloc (.cells #[.int .i64 (x 0), .int .i64 (x 1), .int .i64 (x 2), .int .i64 (x 3), .int .u32 (x 4), .int .u32 (x 5), .int .u32 (x 6), .int .u32 (x 7), .int .u32 (x 8), .int .i64 (x 9), .int .u32 (x 10), .int .u32 (x 11), .int .u32 (x 12), .int .u32 (x 13), .bool (decide (x 14 = 1)), .int .i64 (x 15), .int .i64 (x 16)] 47)) g c L (h.below HB0.out) ok hn (x 2) (x 3) (x 8) (opV4 x) (opV4_ok hx) (opR5 x))
  have HD := Lib.hid (do_any (w.alloc (.cells #[.int .i64 (x 0), .int .i64 (x 1), .int .i64 (x 2), .int .i64 (x 3), .int .u32 (x 4), .int .u32 (x 5), .int .u32 (x 6), .int .u32 (x 7), .int .u32 (x 8), .int .i64 (x 9), .int .u32 (x 10), .int .u32 (x 11), .int .u32 (x 12), .int .u32 (x 13), .bool (decide (x 14 = 1)), .int .i64 (x 15), .int .i64 (x 16)] 47)) g c L (h.below HB0.out) ok hn (x 2) (x 3) (x 8) (opV4 x) (opV4_ok hx))
  have hr := range_op w x
  have c14 : (w.alloc (.cells #[.int .i64 (x 0), .int .i64 (x 1), .int .i64 (x 2), .int .i64 (x 3), .int .u32 (x 4), .int .u32 (x 5), .int .u32 (x 6), .int .u32 (x 7), .int .u32 (x 8), .int .i64 (x 9), .int .u32 (x 10), .int .u32 (x 11), .int .u32 (x 12), .int .u32 (x 13), .bool (decide (x 14 = 1)), .int .i64 (x 15), .int .i64 (x 16)] 47)).cell? ⟨w.heap.size, 14, none⟩ = some (.bool (decide (x 14 = 1))) := by simp
  have HR7 := Lib.hid (show (w.alloc (.cells #[.int .i64 (x 0), .int .i64 (x 1), .int .i64 (x 2), .int .i64 (x 3), .int .u32 (x 4), .int .u32 (x 5), .int .u32 (x 6), .int .u32 (x 7), .int .u32 (x 8), .int .i64 (x 9), .int .u32 (x 10), .int .u32 (x 11), .int .u32 (x 12), .int .u32 (x 13), .bool (decide (x 14 = 1)), .int .i64 (x 15), .int .i64 (x 16)] 47)).rangeAt w.heap.size 2 [.int .i64 (x 2), .int .i64 (x 3), .int .u32 (x 4), .int .u32 (x 5), .int .u32 (x 6), .int .u32 (x 7), .int .u32 (x 8)] from fun j v hv => by
    have hj : j < 7 := (List.getElem?_eq_some_iff.1 hv).1
    have := hr (2 + j) v (by rcases (by omega : j = 0 ∨ j = 1 ∨ j = 2 ∨ j = 3 ∨ j = 4 ∨ j = 5 ∨ j = 6) with rfl | rfl | rfl | rfl | rfl | rfl | rfl <;> exact hv)
    rwa [show 0 + (2 + j) = 2 + j by omega] at this)
  have HR5 := Lib.hid (show (w.alloc (.cells #[.int .i64 (x 0), .int .i64 (x 1), .int .i64 (x 2), .int .i64 (x 3), .int .u32 (x 4), .int .u32 (x 5), .int .u32 (x 6), .int .u32 (x 7), .int .u32 (x 8), .int .i64 (x 9), .int .u32 (x 10), .int .u32 (x 11), .int .u32 (x 12), .int .u32 (x 13), .bool (decide (x 14 = 1)), .int .i64 (x 15), .int .i64 (x 16)] 47)).rangeAt w.heap.size 9 [.int .i64 (x 9), .int .u32 (x 10), .int .u32 (x 11), .int .u32 (x 12), .int .u32 (x 13)] from fun j v hv => by
    have hj : j < 5 := (List.getElem?_eq_some_iff.1 hv).1
    have := hr (9 + j) v (by rcases (by omega : j = 0 ∨ j = 1 ∨ j = 2 ∨ j = 3 ∨ j = 4) with rfl | rfl | rfl | rfl | rfl <;> exact hv)
    rwa [show 0 + (9 + j) = 9 + j by omega] at this)
  have HF := Lib.hid (show followP L x = if decide (x 14 = 1) = true then allowsP L (x 2) (x 3) (opV4 x) (opR5 x) else ((doP L (x 2) (x 3) (opV4 x)).1, true) from rfl)
  have hX : (opA x) = #[.int .i64 (x 0), .int .i64 (x 1), .int .i64 (x 2), .int .i64 (x 3), .int .u32 (x 4), .int .u32 (x 5), .int .u32 (x 6), .int .u32 (x 7), .int .u32 (x 8), .int .i64 (x 9), .int .u32 (x 10), .int .u32 (x 11), .int .u32 (x 12), .int .u32 (x 13), .bool (decide (x 14 = 1)), .int .i64 (x 15), .int .i64 (x 16)] := rfl
  rw [hX]
  obtain ⟨n, hne⟩ : ∃ n, L.length = n := ⟨_, rfl⟩
  rw [hne] at HA HD ⊢
  generalize followP L x = Z at *
  generalize hP : doP L (x 2) (x 3) (opV4 x) = P at *
  generalize hQ : allowsP L (x 2) (x 3) (opV4 x) (opR5 x) = R at *
  obtain ⟨L', d⟩ := P
  generalize decide (x 14 = 1) = q at *
  clear h ok hn hx hX hne hP hQ hr
  cases q with
  | true =>
    rw [if_pos rfl] at HF
    go_enter Tryd.func28, Tryd.ntmps28
    go_wp2_with (first
      | (refine wpList_load_mid rfl 43 (.tmp 11) rfl w.heap.size 2 rfl [.int .i64 (x 2), .int .i64 (x 3), .int .u32 (x 4), .int .u32 (x 5), .int .u32 (x 6), .int .u32 (x 7), .int .u32 (x 8)] _ HR7.out Tryd.underlying43 rfl call_info ?_)
      | (refine wpList_load_mid rfl 45 (.tmp 13) rfl w.heap.size 9 rfl [.int .i64 (x 9), .int .u32 (x 10), .int .u32 (x 11), .int .u32 (x 12), .int .u32 (x 13)] _ HR5.out Tryd.underlying45 rfl res_info ?_))
    refine HA.out.mono ?_
    rintro e1 w1 ⟨b1, g1, c1, rfl, hs1⟩
    have HB1 := Lib.hid (HB0.out.trans (b1.mono HB0.out.size))
    have HS1 := Lib.hid hs1
    clear b1 hs1
    go_wp2_with fail
    refine bodyPost_ret (v := .tuple #[.slice (some ⟨g1, 0, none⟩) n c1, .bool R.2]) (by simp [results, Tryd.results28, go_sem]) rfl ?_
    rw [HF.out]
    exact ⟨HB1.out, g1, c1, rfl, HS1.out⟩
  | false =>
    rw [if_neg (by simp)] at HF
    go_enter Tryd.func28, Tryd.ntmps28
    go_wp2_with (refine wpList_load_mid rfl 43 (.tmp 20) rfl w.heap.size 2 rfl [.int .i64 (x 2), .int .i64 (x 3), .int .u32 (x 4), .int .u32 (x 5), .int .u32 (x 6), .int .u32 (x 7), .int .u32 (x 8)] _ HR7.out Tryd.underlying43 rfl call_info ?_)
    refine HD.out.mono ?_
    rintro e1 w1 ⟨b1, g1, c1, rfl, hs1⟩
    have HB1 := Lib.hid (HB0.out.trans (b1.mono HB0.out.size))
    have HS1 := Lib.hid hs1
    clear b1 hs1
    go_wp2_with fail
    refine bodyPost_ret (v := .tuple #[.slice (some ⟨g1, 0, none⟩) n c1, .bool true]) (by simp [results, Tryd.results28, go_sem]) rfl ?_
    rw [HF.out]
    exact ⟨HB1.out.alloc HB1.out.size _, g1, c1, rfl, HS1.out.below ((Below.refl _ w1).alloc (Nat.le_refl _) _)⟩
end Go.Proofs.YtohajfkekkelhaaDoor
