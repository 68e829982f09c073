import Derived.Test.YtkhmfjfclpehfaaGreatSpecH
namespace Go.Proofs.YtkhmfjfclpehfaaGreat
open Go.ChangeShapes Go.WideShapes Go.ChangeAt Go.RowKit
set_option linter.unusedVariables false
set_option linter.unusedSimpArgs false
set_option maxRecDepth 20000 in
set_option maxHeartbeats 8000000 in
/-- A call to a ring that is refused. -/
theorem doRing_not (w : World) (g o : Nat) (cur : Array Value) (x : ItemD) (a : Option Addr) (c : Nat) (v : W4) (k : Int) (f : Int) (hb : w.heap[g]? = some (.cells cur 106 (0, 0))) (hx : ItemW w g o cur x a c) (hf : (k = 1 ∧ x.o 1 ≤ (x.row.length : Int) ∧ f = 6) ∨ (k = 2 ∧ x.row = [] ∧ f = 7) ∨ ((k == 1) = false ∧ (k == 2) = false ∧ f = 12)) :
    Calls Tryz.prog 95 #[.pointer (some ⟨g, o, none⟩), .int .i64 k, .agg v.cells] w fun e w' => e = .returned (.agg (res0 f).cells) ∧ Became w w' g o 106 cur a x.row x := by
  have hx' := hx.fifteen hb
  have hl := lt_of hb
  have c1 : w.cell? ⟨g, o + 1, none⟩ = some (.int .i64 (x.o 1)) := hx' 1 _ rfl
  have c10 : w.cell? ⟨g, o + 10, none⟩ = some (.slice a x.row.length c) := hx' 10 _ rfl
  have HX := Lib.hid (And.intro hx hb)
  rcases hf with ⟨rfl, h1, rfl⟩ | ⟨rfl, h1, rfl⟩ | ⟨h1, h2, rfl⟩
  · have d1 : decide (x.o 1 ≤ (x.row.length : Int)) = true := decide_eq_true h1
    generalize x.row.length = n at *
    clear hx hx' hb h1
    go_enter Tryz.func95, Tryz.ntmps95
    go_wp2_with fail
    refine bodyPost_ret (v := .agg (res0 6).cells) (by simp [results, Tryz.results95, go_sem, res0, W4.zero]) rfl ⟨rfl, Became.same HX.out.1 HX.out.2 (((Keeps.refl _ w).alloc _).alloc _)⟩
  · have hn : x.row.length = 0 := by rw [h1]; rfl
    rw [hn] at c10
    clear hx hx' hb h1 hn
    go_enter Tryz.func95, Tryz.ntmps95
    go_wp2_with fail
    refine bodyPost_ret (v := .agg (res0 7).cells) (by simp [results, Tryz.results95, go_sem, res0, W4.zero]) rfl ⟨rfl, Became.same HX.out.1 HX.out.2 (((Keeps.refl _ w).alloc _).alloc _)⟩
  · generalize x.row.length = n at *
    clear hx hx' hb
    go_enter Tryz.func95, Tryz.ntmps95
    go_wp2_with fail
    refine bodyPost_ret (v := .agg (res0 12).cells) (by simp [results, Tryz.results95, go_sem, res0, W4.zero]) rfl ⟨rfl, Became.same HX.out.1 HX.out.2 (((Keeps.refl _ w).alloc _).alloc _)⟩
end Go.Proofs.YtkhmfjfclpehfaaGreat
