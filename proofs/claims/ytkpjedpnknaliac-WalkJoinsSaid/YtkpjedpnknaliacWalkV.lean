import Derived.Test.YtkpjedpnknaliacWalkA
import Derived.Test.YtkpjedpnknaliacAgain
import Derived.Laws.EntriesVeiled
import Derived.Laws.NewBlocks
import Derived.Deep.RegionWith
import Derived.Deep.WholeRow
import Derived.Deep.MidRow
import Derived.Laws.MakeOwn
import Derived.Handy
namespace Go.Proofs.Ytkpjedpnknaliac
open Go.ChangeShapes Go.WideShapes Go.ChangeAt Go.RowKit
set_option linter.unusedVariables false
set_option linter.unusedSimpArgs false
theorem rangeAt_of {w : World} {b o n : Nat} {arr : Array Value} {E : TypeId} {cs : List Value} (h : w.heap[b]? = some (.cells arr E (0, 0))) (hs : (arr.toList.drop o).take n = cs) : w.rangeAt b o cs := by
  intro j v hj
  rw [cell_of h, ← hj, ← hs, List.getElem?_take]
  have hj2 : j < n := by
    rcases Nat.lt_or_ge j n with c | c
    · exact c
    · rw [← hs, List.getElem?_take, if_neg (by omega)] at hj; cases hj
  rw [if_pos hj2, List.getElem?_drop, Array.getElem?_toList]
/-- What a walk of three events stands on: the variables, and what was made. -/
structure WB (w wr : World) (C N G : Nat) (cs : Array Value) (x y t : Int) : Prop where
  keeps : Keeps (fun _ => False) w wr
  c : wr.heap[C]? = some (.cells #[.func (.func 38) #[] #[]] 108 (0, 0))
  n : wr.heap[N]? = some (.cells #[.int .i64 x, .int .i64 y, .int .i64 t] 53 (0, 0))
  g : wr.heap[G]? = some (.cells cs 53 (0, 0))
  size : cs.size = 9
  oc : w.heap.size ≤ C
  on : w.heap.size ≤ N
  og : w.heap.size ≤ G
  cn : C ≠ N
  gn : G ≠ N
  gc : G ≠ C
theorem WB.step {w w1 w2 : World} {C N G : Nat} {cs : Array Value} {x y t p q v : Int} (h : WB w w1 C N G cs x y t) (hn : w2.heap[N]? = some (.cells #[.int .i64 p, .int .i64 q, .int .i64 v] 53 (0, 0))) (k : Keeps (fun k => k = N) w1 w2) : WB w w2 C N G cs p q v :=
  ⟨⟨k.os.trans h.keeps.os, k.tape.trans h.keeps.tape, k.output.trans h.keeps.output, Nat.le_trans h.keeps.size k.size, fun i hi hs => (k.block i (Nat.lt_of_lt_of_le hi h.keeps.size) (fun e => by have := h.on; omega)).trans (h.keeps.block i hi hs)⟩, k.at h.c h.cn, hn, k.at h.g h.gn, h.size, h.oc, h.on, h.og, h.cn, h.gn, h.gc⟩
theorem WB.cell {w wr : World} {C N G : Nat} {cs : Array Value} {x y t : Int} (h : WB w wr C N G cs x y t) (i : Nat) (hi : i < 9) : ∃ v, wr.cell? ⟨G, i, Option.none⟩ = some v :=
  ⟨cs[i]'(by rw [h.size]; exact hi), by rw [cell_of h.g]; exact Array.getElem?_eq_getElem _⟩
theorem WB.put {w wr : World} {C N G : Nat} {cs : Array Value} {x y t : Int} (h : WB w wr C N G cs x y t) (i j k : Nat) (a b c : Value) : WB w (((wr.setCell ⟨G, i, Option.none⟩ a).setCell ⟨G, j, Option.none⟩ b).setCell ⟨G, k, Option.none⟩ c) C N G (((cs.setIfInBounds i a).setIfInBounds j b).setIfInBounds k c) x y t :=
  ⟨((h.keeps.setCell (p := ⟨G, i, Option.none⟩) (.inr h.og) _).setCell (p := ⟨G, j, Option.none⟩) (.inr h.og) _).setCell (p := ⟨G, k, Option.none⟩) (.inr h.og) _,
   heap_other (heap_other (heap_other h.c h.gc.symm _) h.gc.symm _) h.gc.symm _, heap_other (heap_other (heap_other h.n h.gn.symm _) h.gn.symm _) h.gn.symm _,
   heap_set (heap_set (heap_set h.g i a) j b) k c, by simp [h.size], h.oc, h.on, h.og, h.cn, h.gn, h.gc⟩
theorem last_three (cs : Array Value) (a b c : Value) (h : cs.size = 9) : (((cs.setIfInBounds 6 a).setIfInBounds 7 b).setIfInBounds 8 c).toList.drop 6 = [a, b, c] := by
  obtain ⟨L⟩ := cs
  match L, h with
  | [_, _, _, _, _, _, _, _, _], _ => rfl
theorem wmake_info : (Try.prog.info? 53).map (fun i => (i.zero, i.size, i.bytes)) = some (some (.agg #[.int .i64 0, .int .i64 0, .int .i64 0]), 3, 24) := by kernel_rfl
theorem wmake_three (w : World) : (Instr.makeSlice 102 (.int .i64 3) (.int .i64 3)).run Try.prog w = .ok (.slice (some ⟨w.heap.size, 0, none⟩) 3 3) (w.alloc (.cells (madeCells #[.int .i64 0, .int .i64 0, .int .i64 0] 9) 53)) := by
  obtain ⟨i, hi, h0, h1, h2⟩ := info_parts wmake_info
  have := run_make (P := Try.prog) w 102 53 i _ Try.underlying102 hi h0 .i64 .i64 3 3 (by omega) (by omega) (by rw [h2]; decide) (by omega)
  rw [h1] at this
  exact this
theorem WB.start (w : World) : WB w (((w.alloc (.cells #[.func (.func 38) #[] #[]] 108)).alloc (.cells #[.int .i64 0, .int .i64 0, .int .i64 0] 53)).alloc (.cells (madeCells #[.int .i64 0, .int .i64 0, .int .i64 0] 9) 53)) w.heap.size (w.heap.size + 1) (w.heap.size + 1 + 1) (madeCells #[.int .i64 0, .int .i64 0, .int .i64 0] 9) 0 0 0 := by
  obtain ⟨h1, h2, h3⟩ := kept2 (Keeps.refl (fun _ => False) ((w.alloc (.cells #[.func (.func 38) #[] #[]] 108)).alloc (.cells #[.int .i64 0, .int .i64 0, .int .i64 0] 53)))
  refine ⟨h3.alloc _, heap_old h1 _, heap_old h2 _, ?_, size_madeCells _ _, by omega, by omega, by omega, by omega, by omega, by omega⟩
  have := heap_new ((w.alloc (.cells #[.func (.func 38) #[] #[]] 108)).alloc (.cells #[.int .i64 0, .int .i64 0, .int .i64 0] 53)) (.cells (madeCells #[.int .i64 0, .int .i64 0, .int .i64 0] 9) 53)
  rw [show ((w.alloc (.cells #[.func (.func 38) #[] #[]] 108)).alloc (.cells #[.int .i64 0, .int .i64 0, .int .i64 0] 53)).heap.size = w.heap.size + 1 + 1 by simp] at this
  exact this
set_option maxRecDepth 20000 in
set_option maxHeartbeats 1000000 in
theorem wwalks_three (EB : Nat) (w : World) (hE : w.heap[EB]? = some (.cells #[.int .i64 0, .int .i64 (-1), .int .i64 4, .int .i64 0, .int .i64 0, .int .u32 0, .int .u32 0, .int .u32 0, .int .u32 0, .int .u32 0, .int .i64 0, .int .i64 0, .int .u32 0, .int .u32 0, .int .i64 0, .int .u32 0, .int .u32 0, .int .u32 0, .int .u32 0, .int .i64 0, .int .i64 0, .int .i64 0, .int .u32 0, .int .i64 0, .int .i64 (-1), .int .i64 2, .int .i64 0, .int .i64 0, .int .u32 0, .int .u32 0, .int .u32 0, .int .u32 0, .int .u32 0, .int .i64 0, .int .i64 0, .int .u32 0, .int .u32 0, .int .i64 0, .int .u32 0, .int .u32 0, .int .u32 0, .int .u32 0, .int .i64 0, .int .i64 0, .int .i64 0, .int .u32 0, .int .i64 0, .int .i64 (-1), .int .i64 5, .int .i64 0, .int .i64 0, .int .u32 0, .int .u32 0, .int .u32 0, .int .u32 0, .int .u32 0, .int .i64 0, .int .i64 0, .int .u32 0, .int .u32 0, .int .i64 0, .int .u32 0, .int .u32 0, .int .u32 0, .int .u32 0, .int .i64 0, .int .i64 0, .int .i64 0, .int .u32 0] 91 (0, 0))) :
    Calls Try.prog 59 #[.slice (some ⟨EB, 0, none⟩) 3 3] w fun e w' => ∃ g cs, e = .returned (.slice (some ⟨g, 0, none⟩) 3 3) ∧ w'.heap[g]? = some (.cells cs 53 (0, 0)) ∧ cs.toList.drop 6 = [.int .i64 0, .int .i64 1, .int .i64 0] ∧ Keeps (fun _ => False) w w' := by
  have HE := Lib.hid hE
  have lE := lt_of hE
  clear hE
  go_enter Try.func59, Try.ntmps59
  go_wp2_with fail
  refine wp_scope_again 0 (fun a' w' => ∃ (C N G : Nat) (cs : Array Value) (j : Nat) (x y t : Int) (u8 u9 u10 u11 u12 u13 u14 u15 u16 u17 u18 u19 u20 u21 u22 u23 u24 u25 u26 u27 u28 : Value), a' = { tmps := #[.slice (some ⟨EB, 0, none⟩) 3 3, undef, .slice none 0 0, .pointer (some ⟨C, 0, none⟩), .pointer (some ⟨N, 0, none⟩), .func (.func 64) #[] #[.pointer (some ⟨C, 0, none⟩), .pointer (some ⟨N, 0, none⟩)], .slice (some ⟨G, 0, none⟩) 3 3, .int .i64 (j : Int), u8, u9, u10, u11, u12, u13, u14, u15, u16, u17, u18, u19, u20, u21, u22, u23, u24, u25, u26, u27, u28], defers := [] } ∧ WB w w' C N G cs x y t ∧ (j = 0 ∧ x = 0 ∧ y = 0 ∧ t = 0 ∨ j = 1 ∧ x = 0 ∧ y = 0 ∧ t = 1 ∨ j = 2 ∧ x = 0 ∧ y = 1 ∧ t = 1 ∨ j = 3 ∧ cs.toList.drop 6 = [.int .i64 0, .int .i64 1, .int .i64 0])) (fun a' _ => 3 - (intOf (a'.tmps[7]?.getD undef)).toNat) rfl ?_ ?_
  · rintro a' w' ⟨C, N, G, cs, j, x, y, t, u8, u9, u10, u11, u12, u13, u14, u15, u16, u17, u18, u19, u20, u21, u22, u23, u24, u25, u26, u27, u28, rfl, hB, hj⟩
    have HB := Lib.hid hB
    have lC := lt_of hB.c
    clear hB
    rcases hj with ⟨rfl, rfl, rfl, rfl⟩ | ⟨rfl, rfl, rfl, rfl⟩ | ⟨rfl, rfl, rfl, rfl⟩ | ⟨rfl, hl⟩
    · have HR0 := Lib.hid (rangeAt_of (o := 0) (n := 23) (cs := [.int .i64 0, .int .i64 (-1), .int .i64 4, .int .i64 0, .int .i64 0, .int .u32 0, .int .u32 0, .int .u32 0, .int .u32 0, .int .u32 0, .int .i64 0, .int .i64 0, .int .u32 0, .int .u32 0, .int .i64 0, .int .u32 0, .int .u32 0, .int .u32 0, .int .u32 0, .int .i64 0, .int .i64 0, .int .i64 0, .int .u32 0]) ((HB.out.keeps).at HE.out (fun h => h)) rfl)
      have HT := Lib.hid (fun w => wthen_any 0 0 0 0 1 0 w (by decide) (by decide) (by decide) (by decide))
      go_wp2_with (refine wpList_load_mid rfl 91 (.tmp 22) rfl EB 0 rfl [.int .i64 0, .int .i64 (-1), .int .i64 4, .int .i64 0, .int .i64 0, .int .u32 0, .int .u32 0, .int .u32 0, .int .u32 0, .int .u32 0, .int .i64 0, .int .i64 0, .int .u32 0, .int .u32 0, .int .i64 0, .int .u32 0, .int .u32 0, .int .u32 0, .int .u32 0, .int .i64 0, .int .i64 0, .int .i64 0, .int .u32 0] _ HR0.out Try.underlying91 rfl ev_info ?_)
      refine (wstep_any 4 0 0 0 0 0 1 0 0 1 C N _ HB.out.c HB.out.n wmove_4 HT.out).mono ?_
      rintro e w2 ⟨rfl, hn, hk⟩
      replace HB := Lib.hid (HB.out.step hn hk)
      obtain ⟨v0, g0⟩ := HB.out.cell 0 (by decide)
      obtain ⟨v1, g1⟩ := HB.out.cell 1 (by decide)
      obtain ⟨v2, g2⟩ := HB.out.cell 2 (by decide)
      have f0 := free_of HB.out.g 0
      have f1 := free_of HB.out.g 1
      have f2 := free_of HB.out.g 2
      have lG := lt_of HB.out.g
      clear hn hk
      go_wp2
      go_step3
      refine ⟨rfl, ⟨C, N, G, _, 1, 0, 0, 1, _, _, _, _, _, _, _, _, _, _, _, _, _, _, _, _, _, _, _, _, _, rfl, HB.out.put 0 1 2 _ _ _, .inr (.inl ⟨rfl, rfl, rfl, rfl⟩)⟩, ?_⟩
      simp [intOf]
    · have HR0 := Lib.hid (rangeAt_of (o := 23) (n := 23) (cs := [.int .i64 0, .int .i64 (-1), .int .i64 2, .int .i64 0, .int .i64 0, .int .u32 0, .int .u32 0, .int .u32 0, .int .u32 0, .int .u32 0, .int .i64 0, .int .i64 0, .int .u32 0, .int .u32 0, .int .i64 0, .int .u32 0, .int .u32 0, .int .u32 0, .int .u32 0, .int .i64 0, .int .i64 0, .int .i64 0, .int .u32 0]) ((HB.out.keeps).at HE.out (fun h => h)) rfl)
      have HT := Lib.hid (fun w => wthen_any 0 0 1 0 0 1 w (by decide) (by decide) (by decide) (by decide))
      go_wp2_with (refine wpList_load_mid rfl 91 (.tmp 22) rfl EB 23 rfl [.int .i64 0, .int .i64 (-1), .int .i64 2, .int .i64 0, .int .i64 0, .int .u32 0, .int .u32 0, .int .u32 0, .int .u32 0, .int .u32 0, .int .i64 0, .int .i64 0, .int .u32 0, .int .u32 0, .int .i64 0, .int .u32 0, .int .u32 0, .int .u32 0, .int .u32 0, .int .i64 0, .int .i64 0, .int .i64 0, .int .u32 0] _ HR0.out Try.underlying91 rfl ev_info ?_)
      refine (wstep_any 2 0 0 1 1 0 0 0 1 1 C N _ HB.out.c HB.out.n wmove_2 HT.out).mono ?_
      rintro e w2 ⟨rfl, hn, hk⟩
      replace HB := Lib.hid (HB.out.step hn hk)
      obtain ⟨v0, g0⟩ := HB.out.cell 3 (by decide)
      obtain ⟨v1, g1⟩ := HB.out.cell 4 (by decide)
      obtain ⟨v2, g2⟩ := HB.out.cell 5 (by decide)
      have f0 := free_of HB.out.g 3
      have f1 := free_of HB.out.g 4
      have f2 := free_of HB.out.g 5
      have lG := lt_of HB.out.g
      clear hn hk
      go_wp2
      go_step3
      refine ⟨rfl, ⟨C, N, G, _, 2, 0, 1, 1, _, _, _, _, _, _, _, _, _, _, _, _, _, _, _, _, _, _, _, _, _, rfl, HB.out.put 3 4 5 _ _ _, .inr (.inr (.inl ⟨rfl, rfl, rfl, rfl⟩))⟩, ?_⟩
      simp [intOf]
    · have HR0 := Lib.hid (rangeAt_of (o := 46) (n := 23) (cs := [.int .i64 0, .int .i64 (-1), .int .i64 5, .int .i64 0, .int .i64 0, .int .u32 0, .int .u32 0, .int .u32 0, .int .u32 0, .int .u32 0, .int .i64 0, .int .i64 0, .int .u32 0, .int .u32 0, .int .i64 0, .int .u32 0, .int .u32 0, .int .u32 0, .int .u32 0, .int .i64 0, .int .i64 0, .int .i64 0, .int .u32 0]) ((HB.out.keeps).at HE.out (fun h => h)) rfl)
      have HT := Lib.hid (fun w => wthen_any 0 1 0 0 3 1 w (by decide) (by decide) (by decide) (by decide))
      go_wp2_with (refine wpList_load_mid rfl 91 (.tmp 22) rfl EB 46 rfl [.int .i64 0, .int .i64 (-1), .int .i64 5, .int .i64 0, .int .i64 0, .int .u32 0, .int .u32 0, .int .u32 0, .int .u32 0, .int .u32 0, .int .i64 0, .int .i64 0, .int .u32 0, .int .u32 0, .int .i64 0, .int .u32 0, .int .u32 0, .int .u32 0, .int .u32 0, .int .i64 0, .int .i64 0, .int .i64 0, .int .u32 0] _ HR0.out Try.underlying91 rfl ev_info ?_)
      refine (wstep_any 5 0 1 1 0 0 3 0 1 0 C N _ HB.out.c HB.out.n wmove_5 HT.out).mono ?_
      rintro e w2 ⟨rfl, hn, hk⟩
      replace HB := Lib.hid (HB.out.step hn hk)
      obtain ⟨v0, g0⟩ := HB.out.cell 6 (by decide)
      obtain ⟨v1, g1⟩ := HB.out.cell 7 (by decide)
      obtain ⟨v2, g2⟩ := HB.out.cell 8 (by decide)
      have f0 := free_of HB.out.g 6
      have f1 := free_of HB.out.g 7
      have f2 := free_of HB.out.g 8
      have lG := lt_of HB.out.g
      clear hn hk
      go_wp2
      go_step3
      refine ⟨rfl, ⟨C, N, G, _, 3, 0, 1, 0, _, _, _, _, _, _, _, _, _, _, _, _, _, _, _, _, _, _, _, _, _, rfl, HB.out.put 6 7 8 _ _ _, .inr (.inr (.inr ⟨rfl, last_three _ _ _ _ HB.out.size⟩))⟩, ?_⟩
      simp [intOf]
    · have HL := Lib.hid hl
      clear hl
      go_wp2
      simp only [Exit.jump]
      go_ret
      exact ⟨G, cs, rfl, HB.out.g, HL.out, HB.out.keeps⟩
  · intro hpass
    have hmk := wmake_three
    have HS := Lib.hid (WB.start w)
    go_wp2_with fail
    go_step3
    rename_i K hK
    refine hK _ _ <| hpass _ _ ⟨w.heap.size, w.heap.size + 1, w.heap.size + 1 + 1, _, 0, 0, 0, 0, _, _, _, _, _, _, _, _, _, _, _, _, _, _, _, _, _, _, _, _, _, rfl, HS.out, .inl ⟨rfl, rfl, rfl, rfl⟩⟩
end Go.Proofs.Ytkpjedpnknaliac
