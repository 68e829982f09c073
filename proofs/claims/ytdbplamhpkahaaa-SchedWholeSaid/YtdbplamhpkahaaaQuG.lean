import Derived.Test.YtdbplamhpkahaaaQuF
import Derived.Deep.QuietTactic
import Derived.BigQuiet
import Derived.BigRegion
namespace Go.Proofs.Ytdbplamhpkahaaa
open Go.ChangeShapes Go.WideShapes Go.ChangeAt Go.RowKit
set_option linter.unusedVariables false
def qv (x : QN) : Value := .agg #[.int .i64 x.t, .int .i64 x.k, .int .i64 x.o, .int .u32 (x.m : Int)]
def zv : Value := .agg #[.int .i64 0, .int .i64 0, .int .i64 0, .int .u32 0]
def wv : Option QN → Value
  | some x => qv x
  | none => zv
theorem fnd_mem {L : List QN} {t : Int} {x : QN} (h : fnd L t = some x) : x ∈ L := List.mem_of_find?_eq_some h
theorem set4 {w : World} {b : Nat} {a0 a1 a2 a3 : Value} {t : TypeId} (h : w.heap[b]? = some (.cells #[a0, a1, a2, a3] t (0, 0))) (v0 v1 v2 v3 : Value) :
    ((((w.setCell ⟨b, 0, none⟩ v0).setCell ⟨b, 1, none⟩ v1).setCell ⟨b, 2, none⟩ v2).setCell ⟨b, 3, none⟩ v3).heap[b]? = some (.cells #[v0, v1, v2, v3] t (0, 0)) :=
  heap_set (heap_set (heap_set (heap_set h 0 v0) 1 v1) 2 v2) 3 v3
theorem below4 {B : Nat} {a w : World} (h : Below B a w) {b : Nat} (hb : B ≤ b) (v0 v1 v2 v3 : Value) :
    Below B a ((((w.setCell ⟨b, 0, none⟩ v0).setCell ⟨b, 1, none⟩ v1).setCell ⟨b, 2, none⟩ v2).setCell ⟨b, 3, none⟩ v3) :=
  (((h.setCell (p := ⟨b, 0, none⟩) hb v0).setCell (p := ⟨b, 1, none⟩) hb v1).setCell (p := ⟨b, 2, none⟩) hb v2).setCell (p := ⟨b, 3, none⟩) hb v3
set_option maxRecDepth 20000 in
theorem Find_any (p : Option Addr) (L : List QN) (task : Int) (w : World) (hQ : QP w p L) :
    Calls Try.prog 37 #[.pointer p, .int .i64 task] w fun e W' => e = .returned (.tuple #[wv (fnd L task), .bool (fnd L task).isSome]) ∧ Below w.heap.size w W' := by
  obtain ⟨w1, hw1⟩ : ∃ w1, w.alloc (.cells #[.int .i64 0, .int .i64 0, .int .i64 0, .int .u32 0] 56) = w1 := ⟨_, rfl⟩
  have hz : w1.heap.size = w.heap.size + 1 := by rw [← hw1]; simp
  have hb1 : Below w.heap.size w w1 := by rw [← hw1]; exact (Below.refl _ _).alloc (Nat.le_refl _) _
  have HW := Lib.hid (And.intro hz hb1)
  have hn1 : w1.heap[w.heap.size]? = some (.cells #[.int .i64 0, .int .i64 0, .int .i64 0, .int .u32 0] 56 (0, 0)) := by rw [← hw1]; exact heap_new _ _
  have HN := Lib.hid hn1
  have HF := Lib.hid (find_any p L task w1 (hQ.below (Nat.le_refl _) hb1))
  have HQ := Lib.hid hQ
  clear hQ hz hb1 hn1
  go_enter Try.func37, Try.ntmps37
  go_wp2_with fail
  refine HF.out.mono ?_
  rintro e w2 ⟨rfl, k2⟩
  have hb2 := HW.out.2.trans (k2.mono (by rw [HW.out.1]; omega))
  have hn2 := at_below k2 HN.out (by rw [HW.out.1]; omega)
  have c0 : w2.cell? ⟨w.heap.size, 0, none⟩ = some (.int .i64 0) := cell_of hn2 0
  have c1 : w2.cell? ⟨w.heap.size, 1, none⟩ = some (.int .i64 0) := cell_of hn2 1
  have c2 : w2.cell? ⟨w.heap.size, 2, none⟩ = some (.int .i64 0) := cell_of hn2 2
  have c3 : w2.cell? ⟨w.heap.size, 3, none⟩ = some (.int .u32 0) := cell_of hn2 3
  have f0 : w2.frozen? ⟨w.heap.size, 0, none⟩ = false := free_of hn2 0
  have f1 : w2.frozen? ⟨w.heap.size, 1, none⟩ = false := free_of hn2 1
  have f2 : w2.frozen? ⟨w.heap.size, 2, none⟩ = false := free_of hn2 2
  have f3 : w2.frozen? ⟨w.heap.size, 3, none⟩ = false := free_of hn2 3
  have l2 := lt_of hn2
  have HH := Lib.hid (And.intro hb2 hn2)
  clear k2 hb2 hn2
  cases hf : fnd L task with
  | none =>
    simp only [ptrO, Option.map]
    go_wp2
    have h4 := set4 HH.out.2 (.int .i64 0) (.int .i64 0) (.int .i64 0) (.int .u32 0)
    have y0 := cell_of h4 0
    have y1 := cell_of h4 1
    have y2 := cell_of h4 2
    have y3 := cell_of h4 3
    refine bodyPost_ret (v := .tuple #[zv, .bool false]) ?_ rfl ⟨by rw [hf]; rfl, below4 HH.out.1 (Nat.le_refl _) _ _ _ _⟩
    simp [results, Try.results37, go_sem, y0, y1, y2, y3, zv]
  | some x =>
    obtain ⟨nn, pp, hx⟩ := (HQ.out.below (Nat.le_refl _) HH.out.1).node (fnd_mem hf)
    have x0 : w2.cell? ⟨x.g, 0, none⟩ = some (.int .i64 x.t) := cell_of hx 0
    have x1 : w2.cell? ⟨x.g, 1, none⟩ = some (.int .i64 x.k) := cell_of hx 1
    have x2 : w2.cell? ⟨x.g, 2, none⟩ = some (.int .i64 x.o) := cell_of hx 2
    have x3 : w2.cell? ⟨x.g, 3, none⟩ = some (.int .u32 (x.m : Int)) := cell_of hx 3
    have xl := lt_of hx
    simp only [ptrO, Option.map]
    go_wp2
    have h4 := set4 HH.out.2 (.int .i64 x.t) (.int .i64 x.k) (.int .i64 x.o) (.int .u32 (x.m : Int))
    have y0 := cell_of h4 0
    have y1 := cell_of h4 1
    have y2 := cell_of h4 2
    have y3 := cell_of h4 3
    refine bodyPost_ret (v := .tuple #[qv x, .bool true]) ?_ rfl ⟨by rw [hf]; rfl, below4 HH.out.1 (Nat.le_refl _) _ _ _ _⟩
    simp [results, Try.results37, go_sem, y0, y1, y2, y3, qv]
end Go.Proofs.Ytdbplamhpkahaaa
