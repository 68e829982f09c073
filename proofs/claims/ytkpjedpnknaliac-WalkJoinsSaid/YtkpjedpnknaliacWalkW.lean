import Derived.Test.YtkpjedpnknaliacWalkV
import Derived.Test.YtkpjedpnknaliacAgain
import Derived.Laws.EntriesVeiled
import Derived.Laws.NewBlocks
import Derived.Deep.RegionWith
import Derived.Deep.WholeRow
import Derived.Deep.MidRow
import Derived.Laws.MakeOwn
import Derived.Handy
namespace Go.Proofs.Ytkpjedpnknaliac
open Go.ChangeShapes Go.WideShapes Go.ChangeAt Go.RowKit
set_option linter.unusedVariables false
set_option linter.unusedSimpArgs false
theorem drop_six {cs : Array Value} {a b c : Value} (h : cs.toList.drop 6 = [a, b, c]) : cs[6]? = some a ∧ cs[7]? = some b ∧ cs[8]? = some c := by
  have e : ∀ i, (cs.toList.drop 6)[i]? = cs[6 + i]? := fun i => by rw [List.getElem?_drop, Array.getElem?_toList]
  rw [h] at e
  exact ⟨(e 0).symm, (e 1).symm, (e 2).symm⟩
set_option maxRecDepth 20000 in
theorem wOf_three (EB : Nat) (w : World) (hE : w.heap[EB]? = some (.cells #[.int .i64 0, .int .i64 (-1), .int .i64 4, .int .i64 0, .int .i64 0, .int .u32 0, .int .u32 0, .int .u32 0, .int .u32 0, .int .u32 0, .int .i64 0, .int .i64 0, .int .u32 0, .int .u32 0, .int .i64 0, .int .u32 0, .int .u32 0, .int .u32 0, .int .u32 0, .int .i64 0, .int .i64 0, .int .i64 0, .int .u32 0, .int .i64 0, .int .i64 (-1), .int .i64 2, .int .i64 0, .int .i64 0, .int .u32 0, .int .u32 0, .int .u32 0, .int .u32 0, .int .u32 0, .int .i64 0, .int .i64 0, .int .u32 0, .int .u32 0, .int .i64 0, .int .u32 0, .int .u32 0, .int .u32 0, .int .u32 0, .int .i64 0, .int .i64 0, .int .i64 0, .int .u32 0, .int .i64 0, .int .i64 (-1), .int .i64 5, .int .i64 0, .int .i64 0, .int .u32 0, .int .u32 0, .int .u32 0, .int .u32 0, .int .u32 0, .int .i64 0, .int .i64 0, .int .u32 0, .int .u32 0, .int .i64 0, .int .u32 0, .int .u32 0, .int .u32 0, .int .u32 0, .int .i64 0, .int .i64 0, .int .i64 0, .int .u32 0] 91 (0, 0))) :
    Calls Try.prog 46 #[.slice (some ⟨EB, 0, none⟩) 3 3] w fun e w' => e = .returned (.tuple #[.agg #[.int .i64 0, .int .i64 1, .int .i64 0], .bool true]) ∧ Keeps (fun _ => False) w w' := by
  have HW := Lib.hid (fun w h => wwalks_three EB w h)
  have HC := Lib.hid (fun w => wchecked_yes 0 1 0 w (by decide))
  have HE := Lib.hid (heap_old hE (.cells #[.int .i64 0, .int .i64 0, .int .i64 0] 53))
  clear hE
  go_enter Try.func46, Try.ntmps46
  go_wp2_with fail
  refine (HW.out _ HE.out).mono ?_
  rintro e w1 ⟨g, cs, rfl, hg, hcs, k1⟩
  obtain ⟨e0, e1, e2⟩ := drop_six hcs
  have c0 : w1.cell? ⟨g, 6, none⟩ = some (.int .i64 0) := (cell_of hg 6).trans e0
  have c1 : w1.cell? ⟨g, 7, none⟩ = some (.int .i64 1) := (cell_of hg 7).trans e1
  have c2 : w1.cell? ⟨g, 8, none⟩ = some (.int .i64 0) := (cell_of hg 8).trans e2
  have hr := k1.at (heap_new w (.cells #[.int .i64 0, .int .i64 0, .int .i64 0] 53)) fun h => h
  have HR := Lib.hid (And.intro hr (((Keeps.refl (fun _ => False) w).alloc (.cells #[.int .i64 0, .int .i64 0, .int .i64 0] 53)).trans k1))
  clear hg hcs k1 e0 e1 e2 hr
  go_wp2_with fail
  refine (HC.out _).mono ?_
  rintro e w2 ⟨rfl, k2⟩
  have hr2 := k2.at HR.out.1 fun h => h
  obtain ⟨r0, r1, r2, f0, f1, f2, lr⟩ := three_cells hr2
  have K := Lib.hid (HR.out.2.trans k2)
  clear hr2 k2
  go_wp2
  refine bodyPost_ret (v := .tuple #[.agg #[.int .i64 0, .int .i64 1, .int .i64 0], .bool true]) (by simp [results, Try.results46, go_sem, *]) rfl ⟨rfl, ?_⟩
  exact ((K.out.setCell (.inr (by simp)) _).setCell (.inr (by simp)) _).setCell (.inr (by simp)) _
set_option maxRecDepth 20000 in
theorem walive_any (w : World) :
    Calls Try.prog 20 #[] w fun e w' => e = .returned (.bool true) ∧ Keeps (fun _ => False) w w' := by
  have HW := Lib.hid (fun w' h => wOf_three w.heap.size w' h)
  have HN := Lib.hid (heap_new w (.cells #[.int .i64 0, .int .i64 (-1), .int .i64 4, .int .i64 0, .int .i64 0, .int .u32 0, .int .u32 0, .int .u32 0, .int .u32 0, .int .u32 0, .int .i64 0, .int .i64 0, .int .u32 0, .int .u32 0, .int .i64 0, .int .u32 0, .int .u32 0, .int .u32 0, .int .u32 0, .int .i64 0, .int .i64 0, .int .i64 0, .int .u32 0, .int .i64 0, .int .i64 (-1), .int .i64 2, .int .i64 0, .int .i64 0, .int .u32 0, .int .u32 0, .int .u32 0, .int .u32 0, .int .u32 0, .int .i64 0, .int .i64 0, .int .u32 0, .int .u32 0, .int .i64 0, .int .u32 0, .int .u32 0, .int .u32 0, .int .u32 0, .int .i64 0, .int .i64 0, .int .i64 0, .int .u32 0, .int .i64 0, .int .i64 (-1), .int .i64 5, .int .i64 0, .int .i64 0, .int .u32 0, .int .u32 0, .int .u32 0, .int .u32 0, .int .u32 0, .int .i64 0, .int .i64 0, .int .u32 0, .int .u32 0, .int .i64 0, .int .u32 0, .int .u32 0, .int .u32 0, .int .u32 0, .int .i64 0, .int .i64 0, .int .i64 0, .int .u32 0] 91))
  go_enter Try.func20, Try.ntmps20
  go_wp2_with fail
  refine (HW.out _ HN.out).mono ?_
  rintro e w1 ⟨rfl, k1⟩
  have K := Lib.hid (((Keeps.refl (fun _ => False) w).alloc (.cells #[.int .i64 0, .int .i64 (-1), .int .i64 4, .int .i64 0, .int .i64 0, .int .u32 0, .int .u32 0, .int .u32 0, .int .u32 0, .int .u32 0, .int .i64 0, .int .i64 0, .int .u32 0, .int .u32 0, .int .i64 0, .int .u32 0, .int .u32 0, .int .u32 0, .int .u32 0, .int .i64 0, .int .i64 0, .int .i64 0, .int .u32 0, .int .i64 0, .int .i64 (-1), .int .i64 2, .int .i64 0, .int .i64 0, .int .u32 0, .int .u32 0, .int .u32 0, .int .u32 0, .int .u32 0, .int .i64 0, .int .i64 0, .int .u32 0, .int .u32 0, .int .i64 0, .int .u32 0, .int .u32 0, .int .u32 0, .int .u32 0, .int .i64 0, .int .i64 0, .int .i64 0, .int .u32 0, .int .i64 0, .int .i64 (-1), .int .i64 5, .int .i64 0, .int .i64 0, .int .u32 0, .int .u32 0, .int .u32 0, .int .u32 0, .int .u32 0, .int .i64 0, .int .i64 0, .int .u32 0, .int .u32 0, .int .i64 0, .int .u32 0, .int .u32 0, .int .u32 0, .int .u32 0, .int .i64 0, .int .i64 0, .int .i64 0, .int .u32 0] 91)).trans k1)
  clear k1
  go_wp2
  go_ret
  exact ⟨rfl, K.out.alloc _⟩
end Go.Proofs.Ytkpjedpnknaliac
