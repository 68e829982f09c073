import Derived.Test.YtlpnobpgphmngabDoorWordLow
import Derived.Test.YtlpnobpgphmngabDoorPop
import Derived.Test.YtlpnobpgphmngabDoorKeep
import Derived.Test.YtlpnobpgphmngabDoorAgain
import Derived.Laws.StructEq
import Derived.BigRegion
import Derived.Deep.RegionWith
import Derived.Deep.RegionLaw
import Derived.Handy
namespace Go.Proofs.YtlpnobpgphmngabDoor
open Go.ChangeShapes Go.WideShapes Go.ChangeAt Go.RowKit
set_option linter.unusedVariables false
/-- The two boxes of Count: what rests, and none. -/
structure CountB (w wr : World) (rb nb y t m : Nat) : Prop where
  keeps : Keeps (fun _ => False) w wr
  rest : wr.heap[rb]? = some (.cells #[.int .u32 (y : Int), .int .i64 (t : Int), .int .i64 (m : Int)] 27 (0, 0))
  none : wr.heap[nb]? = some (.cells #[.int .u32 0, .int .i64 (t : Int), .int .i64 (m : Int)] 27 (0, 0))
  ne : rb ≠ nb
  lo : w.heap.size ≤ rb
theorem CountB.drewN {w wr : World} {rb nb y t m : Nat} (h : CountB w wr rb nb y t m) (n : Nat) : CountB w (wr.drewN n) rb nb y t m := ⟨h.keeps.drewN n, h.rest, h.none, h.ne, h.lo⟩
theorem CountB.drew {w wr : World} {rb nb y t m : Nat} (h : CountB w wr rb nb y t m) : CountB w wr.drew rb nb y t m := ⟨h.keeps.drew, h.rest, h.none, h.ne, h.lo⟩
theorem CountB.set {w wr : World} {rb nb y t m : Nat} (h : CountB w wr rb nb y t m) (z : Nat) : CountB w (wr.setCell ⟨rb, 0, Option.none⟩ (.int .u32 (z : Int))) rb nb z t m :=
  ⟨h.keeps.setCell (p := ⟨rb, 0, Option.none⟩) (.inr h.lo) _, heap_set h.rest 0 _, heap_other h.none h.ne.symm _, h.ne, h.lo⟩
theorem CountB.c0 {w wr : World} {rb nb y t m : Nat} (h : CountB w wr rb nb y t m) : wr.cell? ⟨rb, 0, Option.none⟩ = some (.int .u32 (y : Int)) := cell_of h.rest 0
theorem boxes_new1 (w : World) (x t m : Nat) : CountB w (((w.alloc (.cells #[.int .u32 (x : Int), .int .i64 (t : Int), .int .i64 (m : Int)] 27)).alloc (.cells #[.int .u32 0, .int .i64 (t : Int), .int .i64 (m : Int)] 27))).drew w.heap.size (w.heap.size + 1) x t m := by
  have e := heap_new (w.alloc (.cells #[.int .u32 (x : Int), .int .i64 (t : Int), .int .i64 (m : Int)] 27)) (.cells #[.int .u32 0, .int .i64 (t : Int), .int .i64 (m : Int)] 27)
  rw [show (w.alloc (.cells #[.int .u32 (x : Int), .int .i64 (t : Int), .int .i64 (m : Int)] 27)).heap.size = w.heap.size + 1 by simp] at e
  exact ⟨(((Keeps.refl _ w).alloc _).alloc _).drew, heap_old (heap_new _ _) _, e, by omega, by omega⟩
theorem boxes_new2 (w : World) (x t m : Nat) : CountB w (((w.alloc (.cells #[.int .u32 0, .int .i64 (t : Int), .int .i64 (m : Int)] 27)).alloc (.cells #[.int .u32 (x : Int), .int .i64 (t : Int), .int .i64 (m : Int)] 27))).drew (w.heap.size + 1) w.heap.size x t m := by
  have e := heap_new (w.alloc (.cells #[.int .u32 0, .int .i64 (t : Int), .int .i64 (m : Int)] 27)) (.cells #[.int .u32 (x : Int), .int .i64 (t : Int), .int .i64 (m : Int)] 27)
  rw [show (w.alloc (.cells #[.int .u32 0, .int .i64 (t : Int), .int .i64 (m : Int)] 27)).heap.size = w.heap.size + 1 by simp] at e
  exact ⟨(((Keeps.refl _ w).alloc _).alloc _).drew, e, heap_old (heap_new _ _) _, by omega, by omega⟩
set_option maxRecDepth 20000 in
set_option maxHeartbeats 1000000 in
theorem pcount (b x t m : Nat) (w : World) (hx : x < 4294967296) (ht : t < 4611686018427387904) (hb : b < w.heap.size) (h0 : w.cell? ⟨b, 0, none⟩ = some (.int .u32 (x : Int))) (h1 : w.cell? ⟨b, 1, none⟩ = some (.int .i64 (t : Int)))
    (h2 : w.cell? ⟨b, 2, none⟩ = some (.int .i64 (m : Int))) (hT : TabAt 0 Lib.deBruijn32tab w) (hg : 0 < w.heap.size) :
    Calls Tryd.prog 11 #[.pointer (some ⟨b, 0, none⟩)] w fun e w' => e = .returned (.tuple #[.int .i64 ((t + popc x : Nat) : Int), .int .i64 (m : Int)]) ∧ Keeps (fun _ => False) w w' := by
  have HT := Lib.hid (And.intro hT hg)
  have H2 := Lib.hid h2
  clear hT hg
  go_enter Tryd.func11, Tryd.ntmps11
  go_wp2_with fail
  refine wp_scope_again 0 (fun a' w' => ∃ (rb nb y r : Nat) (u6 u7 u8 u9 u10 u11 u12 u13 u14 u15 u16 u17 u18 u19 u20 u21 u22 u23 u24 u25 u26 u27 u28 u29 u30 u31 u32 u33 u34 u35 u36 u37 u38 u39 u40 : Value), a' = { tmps := #[.pointer (some ⟨b, 0, none⟩), undef, .int .i64 (r : Int), .int .i64 0, .pointer (some ⟨rb, 0, none⟩), .pointer (some ⟨nb, 0, none⟩), u6, u7, u8, u9, u10, u11, u12, u13, u14, u15, u16, u17, u18, u19, u20, u21, u22, u23, u24, u25, u26, u27, u28, u29, u30, u31, u32, u33, u34, u35, u36, u37, u38, u39, u40], defers := [] } ∧ y < 4294967296 ∧ r + popc y = t + popc x ∧ CountB w w' rb nb y t m)
    (fun a _ => t + 32 - (intOf (a.tmps.getD 2 undef)).toNat) rfl ?_ ?_
  · rintro a' w' ⟨rb, nb, y, r, u6, u7, u8, u9, u10, u11, u12, u13, u14, u15, u16, u17, u18, u19, u20, u21, u22, u23, u24, u25, u26, u27, u28, u29, u30, u31, u32, u33, u34, u35, u36, u37, u38, u39, u40, rfl, hy, hr, hB⟩
    have HB := Lib.hid hB
    have HR := Lib.hid hr
    have hk := hB.keeps
    have l1 := lt_of hB.rest
    have l2 := lt_of hB.none
    have f0 := free_of hB.rest 0
    have r0 := hB.c0
    have r1 : w'.cell? ⟨rb, 1, none⟩ = some (.int .i64 (t : Int)) := cell_of hB.rest 1
    have r2 : w'.cell? ⟨rb, 2, none⟩ = some (.int .i64 (m : Int)) := cell_of hB.rest 2
    have n0 : w'.cell? ⟨nb, 0, none⟩ = some (.int .u32 0) := cell_of hB.none 0
    have n1 : w'.cell? ⟨nb, 1, none⟩ = some (.int .i64 (t : Int)) := cell_of hB.none 1
    have n2 : w'.cell? ⟨nb, 2, none⟩ = some (.int .i64 (m : Int)) := cell_of hB.none 2
    have b2 : w'.cell? ⟨b, 2, none⟩ = some (.int .i64 (m : Int)) := (World.cell?_of_block (w := w) (hk.block b hb fun h => h)).trans H2.out
    have T' : TabAt 0 Lib.deBruijn32tab w' := fun j hj => (World.cell?_of_block (w := w) (hk.block _ HT.out.2 fun h => h)).trans (HT.out.1 j hj)
    have HT' := Lib.hid T'
    clear hB hr hk T'
    have hp32 := popc_le x
    have hrr : r ≤ t + 32 := by have := HR.out; omega
    by_cases hz : y = 0
    · subst hz
      go_wp2_with fail
      go_quiet (fail)
      go_wp2
      simp only [Exit.jump]
      have hr := HR.out
      rw [popc_zero] at hr
      refine bodyPost_ret (v := .tuple #[.int .i64 (r : Int), .int .i64 (m : Int)]) (by simp [results, Tryd.results11, go_sem]) rfl ⟨?_, HB.out.keeps.drewN _⟩
      rw [← hr]; rfl
    · have hz0 : ((y : Int) == 0) = false := by simp; omega
      have hpp := popc_pos hy hz
      have hpl := popc_low hy hz
      have HPL := Lib.hid hpl
      have hr1 : r + 1 ≤ t + 32 := by have := HR.out; omega
      clear hpl hpp
      go_wp2_with fail
      go_region_with ((first
        | (go_at_call 33; refine (low_any y _ hy hz (by exact HT'.out)).mono ?_; rintro e w1 ⟨rfl, rfl⟩)
        | (go_at_call 32; refine (without_any y _ _ hy).mono ?_; rintro e w1 ⟨rfl, rfl⟩)))
      all_goals go_wp2
      all_goals go_step3
      all_goals
        refine ⟨rfl, ⟨rb, nb, clrB y (Lib.ctz 32 y), r + 1, _, _, _, _, _, _, _, _, _, _, _, _, _, _, _, _, _, _, _, _, _, _, _, _, _, _, _, _, _, _, _, _, _, _, _, rfl, clrB_lt hy _, by have := HR.out; have := HPL.out; omega, (HB.out.set _).drew⟩, ?_⟩
        simp [intOf]
        omega
  · intro hpass
    have H0 := Lib.hid (boxes_new1 w x t m)
    have H1 := Lib.hid (boxes_new2 w x t m)
    go_wp2_with fail
    go_region
    all_goals go_wp2_with fail
    all_goals go_step3
    · rename_i K hK
      exact hK _ _ <| hpass _ _ ⟨w.heap.size, w.heap.size + 1, x, t, _, _, _, _, _, _, _, _, _, _, _, _, _, _, _, _, _, _, _, _, _, _, _, _, _, _, _, _, _, _, _, _, _, _, _, rfl, hx, rfl, H0.out⟩
    · rename_i K hK
      exact hK _ _ <| hpass _ _ ⟨w.heap.size + 1, w.heap.size, x, t, _, _, _, _, _, _, _, _, _, _, _, _, _, _, _, _, _, _, _, _, _, _, _, _, _, _, _, _, _, _, _, _, _, _, _, rfl, hx, rfl, H1.out⟩
end Go.Proofs.YtlpnobpgphmngabDoor
