import Derived.Test.YtffhmlngnnfaeacNest
import Derived.Laws.CopyOwn
import Derived.Deep.OwnRows
namespace Go.Proofs.Ytffhmlngnnfaeac
open Go.ChangeShapes Go.WideShapes Go.ChangeAt Go.RowKit
set_option linter.unusedVariables false

theorem run_sliceAt_array_hm {P : Program} (w : World) (t : TypeId) (a : Addr) (ht : P.underlying t = some (.array (P.arrayLen t) (P.elem t))) (kh km : IntKind) (h m : Int) (h0 : 0 ≤ h) (h2 : h ≤ m) (h3 : m ≤ P.arrayLen t) :
    (Instr.sliceAt t (.pointer (some a)) none (some (.int kh h)) (some (.int km m))).run P w =
      ((sizeOf (P.elem t)).run P w).andThen fun s w => .ok (slicedAt a 0 h.toNat m.toNat s) w := by
  have em : (m.toNat : Int) = m := Int.toNat_of_nonneg (by omega)
  simp [Instr.sliceAt, Instr.sureAddr, slicedAt, run_underlying ht, Instr.sliceBounds, run_sliceBound, *, (by omega : 0 ≤ m)]
theorem slice_levels (b d : Nat) (hd : d ≤ 32) (w : World) :
    (Instr.sliceAt 44 (.pointer (some ⟨b, 0, none⟩)) none (some (.int .i64 (d : Int))) (some (.int .i64 (d : Int)))).run Try.prog w = .ok (.slice (some ⟨b, 0, none⟩) d d) w := by
  have ha : Try.prog.arrayLen 44 = 32 := by kernel_rfl
  have hs : (sizeOf (Try.prog.elem 44)).run Try.prog w = .ok 1 w := by kernel_rfl
  rw [run_sliceAt_array_hm w 44 ⟨b, 0, none⟩ (by kernel_rfl) .i64 .i64 d d (by omega) (by omega) (by rw [ha]; omega), hs]
  simp [Result.andThen, slicedAt, Addr.add]
theorem list_any (b : Nat) (L : Nat → Int) (d m : Nat) (w : World) (hd32 : d ≤ 32) (h : IsNest w b L d m) :
    Calls Try.prog 28 #[.pointer (some ⟨b, 0, none⟩)] w fun e w' => ∃ g, e = .returned (.slice (some ⟨g, 0, none⟩) d d) ∧ w.heap.size ≤ g ∧ w'.heap[g]? = some (.cells ((List.range d).map fun i => Value.int .i64 (L i)).toArray 3 (0, 0)) ∧ Keeps (fun _ => False) w w' := by
  have H := Lib.hid h
  obtain ⟨cs, hb, hs, hl, hd, hm⟩ := h
  have l1 := lt_of hb
  have c0 : w.cell? ⟨b, 32, none⟩ = some (.int .i64 d) := (cell_of hb 32).trans hd
  have hsrc : ∀ i, i < d → w.cell? ⟨b, i, none⟩ = some (.int .i64 (L i)) := fun i hi => (cell_of hb i).trans (hl i (by omega))
  have hmk := run_make_row' (P := Try.prog) 35 3 (.int .i64 0) 8 Try.underlying35 (by kernel_rfl) rfl .i64 .i64 d (by omega) (by omega)
  have hsz : (Try.prog.info? 3).map (·.size) = some 1 := by kernel_rfl
  have hslice := slice_levels b d hd32
  have hg : (w.alloc (.cells (madeCells #[.int .i64 0] d) 3)).heap[w.heap.size]? = some (.cells (List.replicate d (Value.int .i64 0)).toArray 3 (0, 0)) := by
    have e : madeCells #[Value.int .i64 0] d = (List.replicate d (Value.int .i64 0)).toArray := by
      apply Array.ext <;> simp [madeCells, Nat.mod_one]
    rw [← e]; exact heap_new _ _
  have ka : Keeps (fun _ => False) w (w.alloc (.cells (madeCells #[.int .i64 0] d) 3)) := (Keeps.refl _ _).alloc _
  have hp : ∀ (j : Nat) (v : Value), ((List.range d).map fun i => Value.int .i64 (L i))[j]? = some v → (w.alloc (.cells (madeCells #[.int .i64 0] d) 3)).drew.cell? ((⟨b, 0, none⟩ : Addr).add j) = some v := by
    intro j v hj
    have hjd : j < d := by
      rcases Nat.lt_or_ge j d with h1 | h1
      · exact h1
      · rw [List.getElem?_eq_none (by simpa using h1)] at hj; cases hj
    have hv : v = .int .i64 (L j) := by simpa [hjd] using hj.symm
    have e : ((⟨b, 0, none⟩ : Addr).add j) = ⟨b, j, none⟩ := by simp [Addr.add]; omega
    rw [e, hv, ← hsrc j hjd]
    exact World.cell?_of_block (w := w) (ka.block b l1 fun h => h)
  have hbel : Below w.heap.size w (w.alloc (.cells (madeCells #[.int .i64 0] d) 3)).drew := ka.drew.none
  have HG := Lib.hid hg
  have HP := Lib.hid hp
  have HBel := Lib.hid hbel
  clear hg hp hbel ka
  have HS := Lib.hid hsrc
  clear hb hl hd hm hs hsrc
  go_enter Try.func28, Try.ntmps28
  go_wp2_with fail
  go_region_law (refine step_copy_splice rfl (.tmp 11) (.tmp 23) 35 35 rfl 3 Try.underlying35 hsz _ _ d d d d (by simp [Act.eval, Act.put]) (by simp [Act.eval, Act.put]) w.heap.size 0 (List.replicate d (.int .i64 0)) 3 HG.out ((List.range d).map fun i => Value.int .i64 (L i)) (by simp) (fun _ => ⟨rfl, ⟨b, 0, none⟩, rfl, HP.out⟩) (by simp) (by simp [Value.oneCell']) w.heap.size w HBel.out (Nat.le_refl _) ?_; intro w4 hg4 hb4)
  all_goals
    go_wp2
    go_ret
    have e : splice (List.replicate d (Value.int .i64 0)) 0 ((List.range d).map fun i => Value.int .i64 (L i)) = (List.range d).map fun i => Value.int .i64 (L i) := by simp [splice]
    have hg5 := hg4.out
    rw [e] at hg5
    exact ⟨_, rfl, Nat.le_refl _, hg5, ⟨hb4.os, hb4.tape, hb4.output, hb4.size, fun k hk _ => hb4.block k hk⟩⟩
end Go.Proofs.Ytffhmlngnnfaeac
