import Derived.Test.YtkhmfjfclpehfaaGreatItem
import Derived.Test.YtkhmfjfclpehfaaGreatConfDF
namespace Go.Proofs.YtkhmfjfclpehfaaGreat
open Go.ChangeShapes Go.WideShapes Go.ChangeAt Go.RowKit
set_option linter.unusedVariables false
set_option linter.unusedSimpArgs false
theorem kindOf_any (w : World) (o oi : Nat → Int) (hb : i64B (o 1)) : Calls Tryz.prog 36 #[.agg (objC o oi)] w fun e w' => e = .returned (.int .i64 (kindP o)) ∧ Keeps (fun _ => False) w w' := by
  have HR := Lib.hid (fun w => right_any o oi w hb)
  have HB := Lib.hid ((Has.start w).alloc (.cells (objC o oi) 87))
  have HK := Lib.hid (show kindP o = if rightS o = true then o 0 else 0 from rfl)
  generalize rightS o = b at *
  generalize hx : kindP o = x at *
  clear hx hb
  cases b
  · go_enter Tryz.func36, Tryz.ntmps36
    go_wp2_with fail
    refine (HR.out _).mono ?_
    rintro e w1 ⟨rfl, k1⟩
    replace HB := Lib.hid (HB.out.none k1)
    clear k1
    go_wp2_with fail
    go_ret
    exact ⟨by rw [HK.out]; rfl, HB.out.keeps⟩
  · go_enter Tryz.func36, Tryz.ntmps36
    go_wp2_with fail
    refine (HR.out _).mono ?_
    rintro e w1 ⟨rfl, k1⟩
    replace HB := Lib.hid (HB.out.none k1)
    have c0 : w1.cell? ⟨w.heap.size, 0, none⟩ = some (.int .i64 (o 0)) := cell_of (HB.out.at 0 rfl) 0
    clear k1
    go_wp2_with fail
    go_ret
    exact ⟨by rw [HK.out]; rfl, HB.out.keeps⟩
theorem clip_any (w : World) (m : Int) : Calls Tryz.prog 37 #[.int .i64 m] w fun e w' => e = .returned (.func (.func 63) #[] #[.pointer (some ⟨w.heap.size, 0, none⟩)]) ∧ w'.heap[w.heap.size]? = some (.cells #[.int .i64 m] 3 (0, 0)) ∧ Keeps (fun _ => False) w w' := by
  have HB := Lib.hid ((Has.start w).alloc (.cells #[.int .i64 m] 3))
  go_enter Tryz.func37, Tryz.ntmps37
  go_wp2_with fail
  go_ret
  exact ⟨rfl, HB.out.at 0 rfl, HB.out.keeps⟩
end Go.Proofs.YtkhmfjfclpehfaaGreat
