import Derived.Test.YtpmcjajgdfmaoaaCodeM
import Derived.Deep.RegionHeld3
namespace Go.Proofs.Ytpmcjajgdfmaoaa
open Go.ChangeShapes Go.WideShapes Go.ChangeAt Go.RowKit
set_option linter.unusedVariables false
set_option linter.unusedSimpArgs false
theorem seven_cells {w : World} {X : Nat} {c : CallD} {t : TypeId} (h : w.heap[X]? = some (.cells (callC c) t (0, 0))) :
    w.cell? ⟨X, 0, none⟩ = some (.int .i64 c.k) ∧ w.cell? ⟨X, 1, none⟩ = some (.int .i64 c.o) ∧ w.cell? ⟨X, 2, none⟩ = some (.int .u32 c.v0) ∧ w.cell? ⟨X, 3, none⟩ = some (.int .u32 c.v1) ∧ w.cell? ⟨X, 4, none⟩ = some (.int .u32 c.v2) ∧ w.cell? ⟨X, 5, none⟩ = some (.int .u32 c.v3) ∧ w.cell? ⟨X, 6, none⟩ = some (.int .u32 c.n) :=
  ⟨cell_of h 0, cell_of h 1, cell_of h 2, cell_of h 3, cell_of h 4, cell_of h 5, cell_of h 6⟩
/-- A call's box, and all that stood before. -/
structure CX (w wr : World) (c : CallD) : Prop where
  box : wr.heap[w.heap.size]? = some (.cells (callC c) 26 (0, 0))
  below : Below w.heap.size w wr
theorem CX.on {w wr w' : World} {c : CallD} (h : CX w wr c) (k : Below wr.heap.size wr w') : CX w w' c :=
  ⟨(k.block _ (lt_of h.box)).trans h.box, h.below.trans (k.mono h.below.size)⟩
set_option maxRecDepth 100000 in
set_option maxHeartbeats 4000000 in
theorem prints_any (w : World) (c : CallD) (hc : c.Ok) (B : ByteArray) (hB : B.size ≤ maxLen) :
    Calls Try.prog 3 #[.agg (callC c), .string B] w fun e w' => e = .returned (.bool true) ∧ Below w.heap.size w w' := by
  obtain ⟨l, rfl⟩ : ∃ l : List UInt8, B = ⟨l.toArray⟩ := ⟨B.data.toList, by apply ByteArray.ext; simp⟩
  have hsz := str_size l
  have HX := Lib.hid (show CX w (w.alloc (.cells (callC c) 26)) c from ⟨heap_new w _, (Below.refl _ w).alloc (Nat.le_refl _) _⟩)
  unfold maxLen at hB
  rw [hsz] at hB
  by_cases hl : 60 < l.length
  · have d1 : decide ((60 : Int) < (l.length : Int)) = true := decide_eq_true (by omega)
    generalize (⟨l.toArray⟩ : ByteArray) = S at hsz
    unfold callC
    go_enter Try.func3, Try.ntmps3
    go_wp2_with fail
    refine (alive33_any _).mono ?_
    rintro e1 w1 ⟨rfl, k1⟩
    replace HX := Lib.hid (HX.out.on k1)
    clear k1
    go_wp2_with fail
    go_ret
    exact ⟨rfl, HX.out.below⟩
  · have d1 : decide ((60 : Int) < (l.length : Int)) = false := decide_eq_false (by omega)
    have HK := Lib.hid (fun w => kind_any w l (by omega))
    have HRK := Lib.hid (fun w => rkind_any w l (by omega))
    have HP := Lib.hid (fun w => print_call w c hc)
    have HRP := Lib.hid (fun w => rprint_call w c hc)
    have HW := Lib.hid (fun w => word_of w c.k hc.k)
    have HRW := Lib.hid (fun w => rword_of w c.k hc.k)
    generalize (⟨(printC c).toArray⟩ : ByteArray) = P at HP HRP
    generalize (⟨(wordK c.k).toArray⟩ : ByteArray) = Q at HW HRW
    generalize (kindP l).1 = kk at HK HRK
    generalize (kindP l).2 = kb at HK HRK
    generalize (⟨l.toArray⟩ : ByteArray) = S at hsz HK HRK
    have p2 : (kk == kk) = true := beq_self_eq_true kk
    have p3 : (kb == kb) = true := beq_self_eq_true kb
    clear hc hl
    unfold callC at HP HRP ⊢
    go_enter Try.func3, Try.ntmps3
    go_wp2_with fail
    refine (HK.out _).mono ?_
    rintro e1 w1 ⟨rfl, k1⟩
    replace HX := Lib.hid (HX.out.on k1.none)
    clear k1
    go_wp2_with fail
    refine (HRK.out _).mono ?_
    rintro e2 w2 ⟨rfl, k2⟩
    replace HX := Lib.hid (HX.out.on k2.none)
    replace HX := Lib.hid (HX.out.on ((Keeps.refl (fun _ => False) w2).drew).none)
    clear k2 HK HRK
    have HS := Lib.hid (seven_cells HX.out.box)
    go_wp2_with fail
    go_region_held3 (fun w' => w'.cell? ⟨w.heap.size, 0, none⟩ = some (.int .i64 c.k) ∧ w'.cell? ⟨w.heap.size, 1, none⟩ = some (.int .i64 c.o) ∧ w'.cell? ⟨w.heap.size, 2, none⟩ = some (.int .u32 c.v0) ∧ w'.cell? ⟨w.heap.size, 3, none⟩ = some (.int .u32 c.v1) ∧ w'.cell? ⟨w.heap.size, 4, none⟩ = some (.int .u32 c.v2) ∧ w'.cell? ⟨w.heap.size, 5, none⟩ = some (.int .u32 c.v3) ∧ w'.cell? ⟨w.heap.size, 6, none⟩ = some (.int .u32 c.n))
      (first
        | exact HS.out
        | go_keep)
      (first
        | (go_at_call 9; refine (HP.out _).mono ?_; rintro e9 w9 ⟨rfl, k9⟩; replace HX := Lib.hid (HX.out.on k9); replace HS := Lib.hid (seven_cells HX.out.box); clear k9)
        | (go_at_call 10; refine (HRP.out _).mono ?_; rintro e9 w9 ⟨rfl, k9⟩; replace HX := Lib.hid (HX.out.on k9); replace HS := Lib.hid (seven_cells HX.out.box); clear k9)
        | (go_at_call 11; refine (HW.out _).mono ?_; rintro e9 w9 ⟨rfl, k9⟩; replace HX := Lib.hid (HX.out.on k9.none); replace HS := Lib.hid (seven_cells HX.out.box); clear k9)
        | (go_at_call 12; refine (HRW.out _).mono ?_; rintro e9 w9 ⟨rfl, k9⟩; replace HX := Lib.hid (HX.out.on k9.none); replace HS := Lib.hid (seven_cells HX.out.box); clear k9)
        | (go_at_call 6; refine (alive33_any _).mono ?_; rintro e9 w9 ⟨rfl, k9⟩; replace HX := Lib.hid (HX.out.on k9); replace HS := Lib.hid (seven_cells HX.out.box); clear k9)
        | fail)
    all_goals
      go_wp2_with fail
      go_ret
      exact ⟨rfl, HX.out.below⟩
set_option maxRecDepth 100000 in
theorem codePrints_walk {H : Type} {enc : TypeId × Value → H} (W : World) (base : Nat) {v0 v1 : Value} {d0 d1 : DataW H} {p0 p1 : List MemPlace}
    (k0 : Value.okWide Try.prog W .any base 26 v0) (h0 : DataW.Trod enc Try.prog W 0 (fun _ => true) true 26 v0 d0 p0)
    (k1 : Value.okWide Try.prog W .any base 9 v1) (h1 : DataW.Trod enc Try.prog W 0 (fun _ => true) true 9 v1 d1 p1) :
    Calls Try.prog 3 #[v0, v1] W fun e w' => e = .returned (.bool true) ∧ Below W.heap.size W w' := by
  obtain ⟨c, rfl, hc⟩ := call_open k0 h0
  obtain ⟨B, rfl, _, _, hB⟩ := Go.ChangeMaps.open_string Try.underlying9 k1 h1
  exact prints_any W c hc B hB
end Go.Proofs.Ytpmcjajgdfmaoaa
