import Derived.Test.YtfniicgfnlklbabDeltaRefD
namespace Go.Proofs.Ytfniicgfnlklbab
open Go.ChangeShapes Go.WideShapes Go.ChangeAt Go.RowKit
set_option linter.unusedVariables false
set_option maxRecDepth 20000 in
theorem rrem_no (a : Option Addr) (n c : Nat) (P : Nat → Int) (X : Nat → Nat) (t : Int) (w : World) (hn : n ≤ 1000) (hr : RRow w a n P X) (ht : ∀ i, i < n → P i ≠ t) :
    Calls Try.prog 10 #[.agg #[.slice a n c], .int .i64 t] w fun e w' => e = .returned (.tuple #[.agg #[.slice a n c], .int .u32 0, .bool false]) ∧ Keeps (fun _ => False) w w' := by
  have HP := Lib.hid (fun w1 h1 => rplace_no a n c P X t w1 hn h1 ht)
  have HR := Lib.hid hr
  clear hr ht
  go_enter Try.func10, Try.ntmps10
  go_wp2_with fail
  refine (HP.out _ (HR.out.none (((Keeps.refl _ _).alloc _).alloc _))).mono ?_
  rintro e w1 ⟨rfl, k1⟩
  have q6 : w1.heap[w.heap.size + 1]? = some (.cells #[.slice none 0 0] 30 (0, 0)) := k1.at (by have := heap_new (w.alloc (.cells #[.slice a n c] 30)) (.cells #[.slice none 0 0] 30); rw [show (w.alloc (.cells #[.slice a n c] 30)).heap.size = w.heap.size + 1 by simp] at this; exact this) fun h => h
  have q3 : w1.heap[w.heap.size]? = some (.cells #[.slice a n c] 30 (0, 0)) := k1.at (heap_old (heap_new w _) _) fun h => h
  have c3 : w1.cell? ⟨w.heap.size, 0, none⟩ = some (.slice a n c) := cell_of q3 0
  have c6 : w1.cell? ⟨w.heap.size + 1, 0, none⟩ = some (.slice none 0 0) := cell_of q6 0
  have f6 := free_of q6 0
  have l6 := lt_of q6
  have l3 := lt_of q3
  have HK := Lib.hid k1
  clear k1 q3 q6
  go_wp2
  exact bodyPost_ret (v := .tuple #[.agg #[.slice a n c], .int .u32 0, .bool false]) (by simp [results, Try.results10, go_sem, *]) rfl ⟨rfl, ((((Keeps.refl _ _).alloc _).alloc _).trans HK.out).setCell (.inr (by simp)) _⟩
end Go.Proofs.Ytfniicgfnlklbab
