import Derived.Test.YtdjfelabdofaaaaTextK
import Derived.Test.YtdjfelabdofaaaaCodeI
import Derived.Deep.AppendLies
import Derived.Deep.RegionLaw
import Derived.Test.YtdjfelabdofaaaaAppC
import Derived.Deep.RegionHeld3
namespace Go.Proofs.Ytdjfelabdofaaaa
open Go.ChangeShapes Go.WideShapes Go.ChangeAt Go.RowKit
set_option linter.unusedVariables false
set_option linter.unusedSimpArgs false
theorem info_callT : (Try.prog.info? 81).map (fun i => (i.zero, i.size, i.bytes)) = some (some (.agg (callC zeroC)), 7, 40) := by kernel_rfl
theorem own_keepsT {W W' : World} {B e size n : Nat} {v : Value} {xs : List Value} (h : W.ownsRow B e size v n xs) (k : Keeps (fun _ => False) W W') : W'.ownsRow B e size v n xs := row_on h k.none
theorem app_after {W w4 : World} {p gO B k s : Nat} {e T E : TypeId} {v : Value} {xs : List Value} {cs cur : Array Value} {o : Obj} (hown : W.ownsRow B e s v k xs) (hp : W.heap[p]? = some (.cells cs T (0, 0))) (ho : W.heap[gO]? = some (.cells cur E (0, 0))) (hT : e ≠ T) (hE : e ≠ E) (hg : ((W.alloc o).drew).grownBy w4 v.ownBlock) :
    w4.heap[p]? = some (.cells cs T (0, 0)) ∧ w4.heap[gO]? = some (.cells cur E (0, 0)) ∧ Keeps (fun X => v.ownBlock = some X) W w4 := by
  have lp := lt_of hp
  have lo := lt_of ho
  have k0 := ((Keeps.refl (fun _ => False) W).alloc o).drew
  have hz : W.heap.size < ((W.alloc o).drew).heap.size := by show W.heap.size < (W.alloc o).heap.size; rw [World.size_alloc]; omega
  refine ⟨?_, ?_, ?_⟩
  · rw [hg.block p (by omega) fun h => own_apart hown hp hT h.symm]
    exact k0.at hp fun h => h
  · rw [hg.block gO (by omega) fun h => own_apart hown ho hE h.symm]
    exact k0.at ho fun h => h
  · exact ⟨hg.os.trans k0.os, hg.tape.trans k0.tape, hg.output.trans k0.output, Nat.le_trans k0.size hg.size, fun X hX hne => (hg.block X (by omega) fun h => hne h.symm).trans (k0.block X hX fun h => h)⟩
theorem own_setX {w : World} {base : Nat} {e t : TypeId} {size n g : Nat} {v : Value} {xs : List Value} {cs : Array Value} (h : w.ownsRow base e size v n xs) (hg : w.heap[g]? = some (.cells cs t (0, 0))) (hne : e ≠ t) (i : Nat) (u : Value) : (w.setCell ⟨g, i, none⟩ u).ownsRow base e size v n xs := by
  refine ⟨h.1, ?_⟩
  rcases h.2 with h2 | ⟨g', cap, cur, rfl, hb, hh, h3⟩
  · exact .inl h2
  · refine .inr ⟨g', cap, cur, rfl, hb, heap_other hh (fun e2 => ?_) _, h3⟩
    have e3 : g' = g := e2
    subst e3
    rw [hg] at hh
    injection hh with hh
    injection hh with _ ht
    exact hne ht.symm
theorem Keeps.setOwn {w w2 w4 : World} {gO : Nat} {v : Value} (h2 : Keeps (fun _ => False) w w2) (h4 : Keeps (fun X => v.ownBlock = some X) w2 w4) (i : Nat) (u : Value) : Keeps (fun X => X = gO ∨ v.ownBlock = some X) w (w4.setCell ⟨gO, i, Option.none⟩ u) :=
  (((h2.mono (T := fun X => X = gO ∨ v.ownBlock = some X) fun _ _ h => h.elim).trans (h4.mono (T := fun X => X = gO ∨ v.ownBlock = some X) fun _ _ h => .inr h)).setCell (p := ⟨gO, i, Option.none⟩) (.inl (.inl rfl)) u)
theorem one_call (c : CallD) : ∀ u ∈ cellsC c, u.oneCell' = true := by
  intro u hu
  simp [cellsC] at hu
  rcases hu with rfl | rfl | rfl | rfl | rfl | rfl | rfl <;> rfl
set_option maxRecDepth 100000 in
set_option maxHeartbeats 4000000 in
/-- A call's row. -/
theorem pcall_ok (w : World) (p B : Nat) (N : Int) (A : Option Addr) (n c : Nat) (F : Nat → List UInt8) (C : CallD) (t l o ch : Value) (tk : Int) (b : Bool) (gO oO : Nat) (cur : Array Value) (E : TypeId) (v : Value) (k : Nat) (L : List CallD)
    (hp : w.heap[p]? = some (.cells (parC t l o tk ch b (.pointer (some ⟨gO, oO, none⟩))) 69 (0, 0)))
    (hO : w.heap[gO]? = some (.cells cur E (0, 0))) (hv : cur[oO]? = some v) (hE : 81 ≠ E) (hL : L.length = k) (hk : k ≤ 1000) (hown : w.ownsRow B 81 7 v k (flatC L)) (hB : B ≤ w.heap.size)
    (hn : n ≤ 1000) (hr : StrRow w A n F) (hF : ∀ i, i < n → (F i).length ≤ 1000) (hpc : parseC n F = (C, 0)) :
    Calls Try.prog 28 #[.pointer (some ⟨p, 0, none⟩), rowV N A n c] w fun e w' => e = .returned (.tuple #[]) ∧ ∃ g cap, w'.heap[gO]? = some (.cells (cur.setIfInBounds oO (.slice (some ⟨g, 0, none⟩) (k + 1) cap)) E (0, 0)) ∧
      w'.ownsRow B 81 7 (.slice (some ⟨g, 0, none⟩) (k + 1) cap) (k + 1) (flatC (L ++ [C])) ∧ (v.ownBlock = some g ∨ w.heap.size ≤ g) ∧ Keeps (fun X => X = gO ∨ v.ownBlock = some X) w w' := by
  obtain ⟨i0, hi, hz0, hz1, hz2⟩ := info_parts info_callT
  have HI := Lib.hid (And.intro hi (And.intro hz0 (And.intro hz1 hz2)))
  have k0 := (Keeps.refl (fun _ => False) w).alloc (.cells #[.int .i64 N, .slice A n c] 78)
  have HK := Lib.hid k0
  have HB := Lib.hid (heap_new w (.cells #[.int .i64 N, .slice A n c] 78))
  have HN := Lib.hid (fun (W : World) (hk : Below w.heap.size w W) => parse_call W N A n c F (by unfold maxLen; omega) (hr.below hk) (fun i hi => by have := hF i hi; omega))
  have HP := Lib.hid hp
  have HO := Lib.hid hO
  have HV := Lib.hid hv
  have HW := Lib.hid hown
  have HPC := Lib.hid hpc
  have hlp := lt_of hp
  have hlo := lt_of hO
  have q6 : w.cell? ⟨p, 6, none⟩ = some (.pointer (some ⟨gO, oO, none⟩)) := cell_of hp 6
  obtain ⟨r0, r1⟩ := two_cellsV HB.out
  clear hr hF k0 hp hO hv hown hpc hi hz0 hz1 hz2
  go_enter Try.func28, Try.ntmps28
  go_wp2_with fail
  refine (HN.out _ HK.out.none).mono ?_
  rintro e1 w1 ⟨rfl, k1⟩
  rw [HPC.out]
  have hq : callC C = #[.int .i64 C.k, .int .i64 C.o, .int .u32 C.v0, .int .u32 C.v1, .int .u32 C.v2, .int .u32 C.v3, .int .u32 C.n] := rfl
  rw [hq]
  have HK1 := Lib.hid (HK.out.trans (below_keeps k1))
  clear k1 r0 r1 q6 hq
  go_wp2_with fail
  refine (check_ok _).mono ?_
  rintro e2 w9 ⟨rfl, rfl⟩
  have HK2 := Lib.hid (HK1.out.alloc (.cells #[.int .i64 C.k, .int .i64 C.o, .int .u32 C.v0, .int .u32 C.v1, .int .u32 C.v2, .int .u32 C.v3, .int .u32 C.n] 81))
  have hc2 := heap_new w1 (.cells #[.int .i64 C.k, .int .i64 C.o, .int .u32 C.v0, .int .u32 C.v1, .int .u32 C.v2, .int .u32 C.v3, .int .u32 C.n] 81)
  generalize (w1.alloc (.cells #[.int .i64 C.k, .int .i64 C.o, .int .u32 C.v0, .int .u32 C.v1, .int .u32 C.v2, .int .u32 C.v3, .int .u32 C.n] 81)) = w2 at HK2 hc2 ⊢
  have HC2 := Lib.hid hc2
  have hp2 := HK2.out.at HP.out fun h => h
  have ho2 := HK2.out.at HO.out fun h => h
  have HP2 := Lib.hid hp2
  have HO2 := Lib.hid ho2
  have p6 : w2.cell? ⟨p, 6, none⟩ = some (.pointer (some ⟨gO, oO, none⟩)) := cell_of hp2 6
  have co : w2.cell? ⟨gO, oO, none⟩ = some v := (cell_of ho2 oO).trans HV.out
  have c0 : w2.cell? ⟨w1.heap.size, 0, none⟩ = some (.int .i64 C.k) := cell_of hc2 0
  have c1 : w2.cell? ⟨w1.heap.size, 1, none⟩ = some (.int .i64 C.o) := cell_of hc2 1
  have c2 : w2.cell? ⟨w1.heap.size, 2, none⟩ = some (.int .u32 C.v0) := cell_of hc2 2
  have c3 : w2.cell? ⟨w1.heap.size, 3, none⟩ = some (.int .u32 C.v1) := cell_of hc2 3
  have c4 : w2.cell? ⟨w1.heap.size, 4, none⟩ = some (.int .u32 C.v2) := cell_of hc2 4
  have c5 : w2.cell? ⟨w1.heap.size, 5, none⟩ = some (.int .u32 C.v3) := cell_of hc2 5
  have c6 : w2.cell? ⟨w1.heap.size, 6, none⟩ = some (.int .u32 C.n) := cell_of hc2 6
  have lp2 := lt_of hp2
  have lo2 := lt_of ho2
  have lc2 := lt_of hc2
  have hsz2 := HK2.out.size
  have HW2 := Lib.hid (own_keepsT HW.out HK2.out)
  clear hp2 ho2 hc2
  generalize w1.heap.size = X1 at *
  obtain ⟨hi, hz0, hz1, hz2⟩ := HI.out
  have HSZ := Lib.hid (show w.heap.size ≤ ((w2.alloc (.cells #[.int .i64 C.k, .int .i64 C.o, .int .u32 C.v0, .int .u32 C.v1, .int .u32 C.v2, .int .u32 C.v3, .int .u32 C.n] 81)).drew).heap.size from by show w.heap.size ≤ (w2.alloc _).heap.size; rw [World.size_alloc]; omega)
  have HLE := Lib.hid (show B ≤ (w2.alloc (.cells #[.int .i64 C.k, .int .i64 C.o, .int .u32 C.v0, .int .u32 C.v1, .int .u32 C.v2, .int .u32 C.v3, .int .u32 C.n] 81)).heap.size from by rw [World.size_alloc]; omega)
  go_wp2_with fail
  go_region_law (refine step_append_lies _ rfl (.tmp 28) (.tmp 30) 40 rfl B 81 i0 (.agg (callC zeroC)) 7 40 Try.underlying40 hi hz0 hz1 hz2 rfl (by decide) v k (flatC L) (by simp [Act.eval, Act.put]) (HW2.out.alloc _) ⟨w2.heap.size, 0, none⟩ 1 1 [.int .i64 C.k, .int .i64 C.o, .int .u32 C.v0, .int .u32 C.v1, .int .u32 C.v2, .int .u32 C.v3, .int .u32 C.n] (by simp [Act.eval, Act.put]) rfl (World.news_of_block (heap_new w2 (.cells #[.int .i64 C.k, .int .i64 C.o, .int .u32 C.v0, .int .u32 C.v1, .int .u32 C.v2, .int .u32 C.v3, .int .u32 C.n] 81))) (one_call C) (by decide) (by unfold maxLen; omega) (by omega) HLE.out _ rfl ?_; intro g cap w4 hown hgrow hat hlt4; have h4 := Lib.hid (app_after (W := w2) HW2.out HP2.out HO2.out (by decide) hE hgrow); have hw4 := Lib.hid (And.intro (show w4.ownsRow B 81 7 (.slice (some ⟨g, 0, none⟩) (k + 1) cap) (k + 1) (flatC (L ++ [C])) from by rw [flatC_snoc]; exact hown) hat); have s0 := cell_of h4.out.1 6; have s1 := (cell_of h4.out.2.1 oO).trans HV.out; have t0 := free_of h4.out.2.1 oO; have l0 := lt_of h4.out.2.1; clear hown hgrow hat hlt4)
  all_goals
    go_wp2
    go_end0
    exact ⟨rfl, g, cap, heap_set h4.out.2.1 oO _, own_setX hw4.out.1 h4.out.2.1 hE oO _, hw4.out.2.imp_right fun h => by rw [h]; exact HSZ.out, HK2.out.setOwn h4.out.2.2 oO _⟩
end Go.Proofs.Ytdjfelabdofaaaa
namespace Go.Proofs.Ytdjfelabdofaaaa
open Go.ChangeShapes Go.WideShapes Go.ChangeAt Go.RowKit
set_option linter.unusedVariables false
set_option linter.unusedSimpArgs false
theorem info_levelT : (Try.prog.info? 44).map (fun i => (i.zero, i.size, i.bytes)) = some (some (.agg #[.int .i64 0, .slice none 0 0]), 2, 32) := by kernel_rfl
theorem app_afterT {W w4 : World} {p B k s : Nat} {e T : TypeId} {v : Value} {xs : List Value} {cs : Array Value} {o : Obj} (hown : W.ownsRow B e s v k xs) (hp : W.heap[p]? = some (.cells cs T (0, 0))) (hT : e ≠ T) (hg : (W.alloc o).grownBy w4 v.ownBlock) :
    w4.heap[p]? = some (.cells cs T (0, 0)) ∧ Keeps (fun X => v.ownBlock = some X) W w4 := by
  have lp := lt_of hp
  have k0 := (Keeps.refl (fun _ => False) W).alloc o
  have hz : W.heap.size < (W.alloc o).heap.size := by rw [World.size_alloc]; omega
  refine ⟨?_, ?_⟩
  · rw [hg.block p (by omega) fun h => own_apart hown hp hT h.symm]
    exact k0.at hp fun h => h
  · exact ⟨hg.os.trans k0.os, hg.tape.trans k0.tape, hg.output.trans k0.output, Nat.le_trans k0.size hg.size, fun X hX hne => (hg.block X (by omega) fun h => hne h.symm).trans (k0.block X hX fun h => h)⟩
set_option maxRecDepth 100000 in
set_option maxHeartbeats 4000000 in
/-- A level's row. -/
theorem level_ok (w : World) (p B : Nat) (N : Int) (A : Option Addr) (c : Nat) (F : Nat → List UInt8) (x : Int) (t l o ch ow : Value) (tk : Int) (b : Bool) (k : Nat) (xs : List Value)
    (hp : w.heap[p]? = some (.cells (parC t l o tk ch b ow) 69 (0, 0))) (hk : k ≤ 1000) (hown : w.ownsRow B 44 2 l k xs) (hB : B ≤ w.heap.size)
    (hr : StrRow w A 2 F) (hF : ∀ i, i < 2 → (F i).length ≤ 1000) (h : takP F 2 (1 : Nat) (-2147483648) 2147483647 = (x, 0)) :
    Calls Try.prog 38 #[.pointer (some ⟨p, 0, none⟩), rowV N A 2 c] w fun e w' => e = .returned (.tuple #[]) ∧ ∃ g cap, w'.heap[p]? = some (.cells (parC t (.slice (some ⟨g, 0, none⟩) (k + 1) cap) o tk ch b (.pointer (some ⟨g, k * 2 + 1, none⟩))) 69 (0, 0)) ∧
      w'.ownsRow B 44 2 (.slice (some ⟨g, 0, none⟩) (k + 1) cap) (k + 1) (xs ++ [.int .i64 x, .slice none 0 0]) ∧ (l.ownBlock = some g ∨ w.heap.size ≤ g) ∧ Keeps (fun X => X = p ∨ l.ownBlock = some X) w w' := by
  obtain ⟨i0, hi, hz0, hz1, hz2⟩ := info_parts info_levelT
  have HI := Lib.hid (And.intro hi (And.intro hz0 (And.intro hz1 hz2)))
  have hlp := lt_of hp
  have k0 := (Keeps.refl (fun _ => False) w).alloc (.cells #[.int .i64 N, .slice A 2 c] 78)
  have HK := Lib.hid k0
  have HB := Lib.hid (heap_new w (.cells #[.int .i64 N, .slice A 2 c] 78))
  have HN := Lib.hid (fun (W : World) (hk : Below w.heap.size w W) => number_ok W N A 2 c 1 F (-2147483648) 2147483647 x (by omega) (hr.below hk) hF h (by omega) ⟨by omega, by omega⟩ ⟨by omega, by omega⟩)
  have HP := Lib.hid hp
  have HW := Lib.hid hown
  clear hr hF k0 h hp hown hi hz0 hz1 hz2
  go_enter Try.func38, Try.ntmps38
  go_wp2_with fail
  refine (counted_ok _ N A 2 c 1 rfl (by omega)).mono ?_
  rintro e1 w1 ⟨rfl, k1⟩
  have HK1 := Lib.hid (HK.out.trans k1)
  have HB1 := Lib.hid (k1.at HB.out fun h => h)
  clear k1
  replace HK1 := Lib.hid HK1.out.drew
  replace HB1 := Lib.hid (show w1.drew.heap[w.heap.size]? = _ from HB1.out)
  have HR := Lib.hid (two_cellsV HB1.out)
  have hp1 := HK1.out.at HP.out fun h => h
  have z1 : w1.drew.cell? ⟨p, 1, none⟩ = some l := cell_of hp1 1
  have lp1 := lt_of hp1
  clear hp1
  obtain ⟨hi, hz0, hz1, hz2⟩ := HI.out
  go_wp2_with fail
  obtain ⟨r0, r1⟩ := HR.out
  go_region_law
    (first
      | (go_simp; refine (HN.out _ HK1.out.none).mono ?_; rintro e2 w2 ⟨rfl, k2⟩; have HK2 := Lib.hid (HK1.out.trans k2); have HP2 := Lib.hid (HK2.out.at HP.out fun h => h); have z2 : w2.cell? ⟨p, 1, none⟩ = some l := cell_of HP2.out 1; have lp2 := lt_of HP2.out; have HB2 := Lib.hid (k2.at HB1.out fun h => h);  have HW2 := Lib.hid (own_keepsT HW.out HK2.out); have hs2 := HK2.out.size; clear k2)
      | (refine step_append_lies _ rfl (.tmp 11) (.tmp 15) 23 rfl B 44 i0 (.agg #[.int .i64 0, .slice none 0 0]) 2 32 Try.underlying23 hi hz0 hz1 hz2 rfl (by decide) l k xs rfl (HW2.out.alloc _) ⟨w2.heap.size, 0, none⟩ 1 1 [.int .i64 x, .slice none 0 0] rfl rfl (World.news_of_block (heap_new w2 (.cells #[.int .i64 x, .slice none 0 0] 44))) (by simp [Value.oneCell']) (by decide) (by unfold maxLen; omega) (by omega) (by rw [World.size_alloc]; omega) _ rfl ?_; intro g cap w4 hown hgrow hat hlt4; have h4 := Lib.hid (app_afterT (W := w2) HW2.out HP2.out (by decide) hgrow); have HB4 := Lib.hid (app_afterT (W := w2) HW2.out HB2.out (by decide) hgrow).1;  have hw4 := Lib.hid (And.intro hown hat); have s1 : w4.cell? ⟨p, 1, none⟩ = some l := cell_of h4.out.1 1; have t1 := free_of h4.out.1 1; have l4 := lt_of h4.out.1; clear hown hgrow hat hlt4)
      | fail)
  all_goals
    have HP5 := Lib.hid (heap_set h4.out.1 1 (.slice (some ⟨g, 0, none⟩) (k + 1) cap))
    have HW5 := Lib.hid (own_setX hw4.out.1 h4.out.1 (by decide) 1 (.slice (some ⟨g, 0, none⟩) (k + 1) cap))
    have HK5 := Lib.hid (HK2.out.setOwn (gO := p) h4.out.2 1 (.slice (some ⟨g, 0, none⟩) (k + 1) cap))
    have HZ5 := Lib.hid (hw4.out.2.imp_right fun h => show w.heap.size ≤ g by rw [h]; show w.heap.size ≤ (w2.alloc _).heap.size; rw [World.size_alloc]; omega)
    clear z1 lp1 z2 lp2 hs2 s1 t1 l4 r0 r1
    generalize (w4.setCell ⟨p, 1, none⟩ (.slice (some ⟨g, 0, none⟩) (k + 1) cap)) = w5 at HP5 HW5 HK5 ⊢
    have q1 : w5.cell? ⟨p, 1, none⟩ = some (.slice (some ⟨g, 0, none⟩) (k + 1) cap) := cell_of HP5.out 1
    have q6 : w5.cell? ⟨p, 6, none⟩ = some ow := cell_of HP5.out 6
    have f6 := free_of HP5.out 6
    have l5 := lt_of HP5.out
    have i1 : IntKind.i64.wrap (k : Int) = (k : Int) := IntWalk.i64_in _ ⟨by omega, by omega⟩
    have i2 : (0 : Int) ≤ (k : Int) := by omega
    have i3 : (k : Int) < (k : Int) + 1 := by omega
    go_wp2_with fail
    go_region_law fail
    all_goals
      go_wp2
      go_end0
      exact ⟨rfl, g, cap, heap_set HP5.out 6 _, own_setX HW5.out HP5.out (by decide) 6 _, HZ5.out, (HK5.out.setCell (p := ⟨p, 6, none⟩) (.inl (.inl rfl)) _).drew⟩
end Go.Proofs.Ytdjfelabdofaaaa
namespace Go.Proofs.Ytdjfelabdofaaaa
open Go.ChangeShapes Go.WideShapes Go.ChangeAt Go.RowKit
set_option linter.unusedVariables false
set_option linter.unusedSimpArgs false
theorem info_taskT : (Try.prog.info? 42).map (fun i => (i.zero, i.size, i.bytes)) = some (some (.agg #[.int .i64 0, .bool false, .slice none 0 0]), 3, 40) := by kernel_rfl
def pickT (i x y : Int) : Int := if i = 1 then x else y
theorem pickT1 (x y : Int) : pickT 1 x y = x := rfl
theorem pickT2 (x y : Int) : pickT 2 x y = y := rfl
set_option maxRecDepth 100000 in
set_option maxHeartbeats 4000000 in
/-- A task's row. -/
theorem task_ok (w : World) (p B : Nat) (N : Int) (A : Option Addr) (c : Nat) (F : Nat → List UInt8) (x y : Int) (t l o ch ow : Value) (tk : Int) (b : Bool) (k : Nat) (xs : List Value)
    (hp : w.heap[p]? = some (.cells (parC t l o tk ch b ow) 69 (0, 0))) (hk : k ≤ 1000) (hown : w.ownsRow B 42 3 t k xs) (hB : B ≤ w.heap.size)
    (hr : StrRow w A 3 F) (hF : ∀ i, i < 3 → (F i).length ≤ 1000) (h : takP F 3 (1 : Nat) (-2147483648) 2147483647 = (x, 0)) (h' : takP F 3 (2 : Nat) 0 1 = (y, 0)) :
    Calls Try.prog 37 #[.pointer (some ⟨p, 0, none⟩), rowV N A 3 c] w fun e w' => e = .returned (.tuple #[]) ∧ ∃ g cap, w'.heap[p]? = some (.cells (parC (.slice (some ⟨g, 0, none⟩) (k + 1) cap) l o tk ch b (.pointer (some ⟨g, k * 3 + 2, none⟩))) 69 (0, 0)) ∧
      w'.ownsRow B 42 3 (.slice (some ⟨g, 0, none⟩) (k + 1) cap) (k + 1) (xs ++ [.int .i64 x, .bool (y == 1), .slice none 0 0]) ∧ (t.ownBlock = some g ∨ w.heap.size ≤ g) ∧ Keeps (fun X => X = p ∨ t.ownBlock = some X) w w' := by
  obtain ⟨i0, hi, hz0, hz1, hz2⟩ := info_parts info_taskT
  have HI := Lib.hid (And.intro hi (And.intro hz0 (And.intro hz1 hz2)))
  have hlp := lt_of hp
  have k0 := (Keeps.refl (fun _ => False) w).alloc (.cells #[.int .i64 N, .slice A 3 c] 78)
  have HK := Lib.hid k0
  have HB := Lib.hid (heap_new w (.cells #[.int .i64 N, .slice A 3 c] 78))
  have HN := Lib.hid (fun (W : World) (hk : Below w.heap.size w W) (i a b : Int) (hc : (i = 1 ∧ a = -2147483648 ∧ b = 2147483647) ∨ (i = 2 ∧ a = 0 ∧ b = 1)) => show Calls Try.prog 49 #[rowV N A 3 c, .int .i64 i, .int .i64 a, .int .i64 b] W fun e w' => e = .returned (.int .i64 (pickT i x y)) ∧ Keeps (fun _ => False) W w' from by
    rcases hc with ⟨rfl, rfl, rfl⟩ | ⟨rfl, rfl, rfl⟩
    · exact number_ok W N A 3 c 1 F (-2147483648) 2147483647 x (by omega) (hr.below hk) hF h (by omega) ⟨by omega, by omega⟩ ⟨by omega, by omega⟩
    · exact number_ok W N A 3 c 2 F 0 1 y (by omega) (hr.below hk) hF h' (by omega) ⟨by omega, by omega⟩ ⟨by omega, by omega⟩)
  have HP := Lib.hid hp
  have HW := Lib.hid hown
  clear hr hF k0 h h' hp hown hi hz0 hz1 hz2
  go_enter Try.func37, Try.ntmps37
  go_wp2_with fail
  refine (counted_ok _ N A 3 c 2 rfl (by omega)).mono ?_
  rintro e1 w1 ⟨rfl, k1⟩
  have HK1 := Lib.hid (HK.out.trans k1)
  have HB1 := Lib.hid (k1.at HB.out fun h => h)
  clear k1
  replace HK1 := Lib.hid HK1.out.drew
  replace HB1 := Lib.hid (show w1.drew.heap[w.heap.size]? = _ from HB1.out)
  obtain ⟨r0, r1⟩ := two_cellsV HB1.out
  have lb0 : w.heap.size < w1.heap.size := lt_of HB1.out
  go_wp2_with fail
  go_region_held3 (fun w' => w'.cell? ⟨w.heap.size, 0, none⟩ = some (.int .i64 N) ∧ w'.cell? ⟨w.heap.size, 1, none⟩ = some (.slice A 3 c))
    (first
      | exact two_cellsV HB1.out
      | exact two_cellsV (heap_old HB1.out _)
      | exact two_cellsV (heap_other (heap_other (heap_other HB1.out (by dsimp only; omega) _) (by dsimp only; omega) _) (by dsimp only; omega) _)
      | go_keep)
    (first
      | (go_at_call 49; refine Calls.mono (HN.out _ ?hb _ _ _ (by exact .inl ⟨rfl, rfl, rfl⟩)) ?_; (case hb => (first | exact HK1.out.none | exact (HK1.out.alloc _).none)); rintro e2 w2 ⟨rfl, k2⟩; rw [pickT1]; (first | replace HA := Lib.hid (k2.at HA.out fun h => h) | have HA := Lib.hid (k2.at (heap_new _ (.cells #[.int .i64 0, .bool false, .slice none 0 0] 42)) fun h => h) | skip); (first | (have a0 := cell_of HA.out 0; have a1 := cell_of HA.out 1; have a2 := cell_of HA.out 2; have b0 := free_of HA.out 0; have b1 := free_of HA.out 1; have b2 := free_of HA.out 2; have al := lt_of HA.out) | skip); (first | replace HK1 := Lib.hid (HK1.out.trans k2) | replace HK1 := Lib.hid ((HK1.out.alloc _).trans k2)); (first | replace HB1 := Lib.hid (k2.at HB1.out fun h => h) | replace HB1 := Lib.hid (k2.at (heap_old HB1.out _) fun h => h)); clear k2; have r0 := (two_cellsV HB1.out).1; have r1 := (two_cellsV HB1.out).2; have lb := lt_of HB1.out)
      | (go_at_call 49; refine Calls.mono (HN.out _ ?hb _ _ _ (by exact .inr ⟨rfl, rfl, rfl⟩)) ?_; (case hb => (first | exact HK1.out.none | exact (HK1.out.alloc _).none)); rintro e3 w3 ⟨rfl, k2⟩; rw [pickT2]; (first | replace HA := Lib.hid (k2.at HA.out fun h => h) | have HA := Lib.hid (k2.at (heap_new _ (.cells #[.int .i64 0, .bool false, .slice none 0 0] 42)) fun h => h) | skip); (first | (have a0 := cell_of HA.out 0; have a1 := cell_of HA.out 1; have a2 := cell_of HA.out 2; have b0 := free_of HA.out 0; have b1 := free_of HA.out 1; have b2 := free_of HA.out 2; have al := lt_of HA.out) | skip); (first | replace HK1 := Lib.hid (HK1.out.trans k2) | replace HK1 := Lib.hid ((HK1.out.alloc _).trans k2)); (first | replace HB1 := Lib.hid (k2.at HB1.out fun h => h) | replace HB1 := Lib.hid (k2.at (heap_old HB1.out _) fun h => h)); clear k2; have r0 := (two_cellsV HB1.out).1; have r1 := (two_cellsV HB1.out).2; have lb := lt_of HB1.out)
      | fail)
  all_goals
    first
    | (have hA : (((w3.setCell ⟨w2.heap.size, 0, none⟩ (.int .i64 x)).setCell ⟨w2.heap.size, 1, none⟩ (.bool (y == 1))).setCell ⟨w2.heap.size, 2, none⟩ (.slice none 0 0)).heap[w2.heap.size]? = some (.cells #[.int .i64 x, .bool (y == 1), .slice none 0 0] 42 (0, 0)) := heap_set (heap_set (heap_set HA.out 0 (.int .i64 x)) 1 (.bool (y == 1))) 2 (.slice none 0 0)
       have hX : w.heap.size ≤ w2.heap.size := by omega
       have hK := ((HK1.out.setCell (p := ⟨w2.heap.size, 0, none⟩) (.inr hX) (.int .i64 x)).setCell (p := ⟨w2.heap.size, 1, none⟩) (.inr hX) (.bool (y == 1))).setCell (p := ⟨w2.heap.size, 2, none⟩) (.inr hX) (.slice none 0 0)
       generalize (((w3.setCell ⟨w2.heap.size, 0, none⟩ (.int .i64 x)).setCell ⟨w2.heap.size, 1, none⟩ (.bool (y == 1))).setCell ⟨w2.heap.size, 2, none⟩ (.slice none 0 0)) = W4 at hA hK ⊢
       clear HA a0 a1 a2 b0 b1 b2 al
       generalize w2.heap.size = X at *)
    | (have hA : (((w3.setCell ⟨w1.heap.size, 0, none⟩ (.int .i64 x)).setCell ⟨w1.heap.size, 1, none⟩ (.bool (y == 1))).setCell ⟨w1.heap.size, 2, none⟩ (.slice none 0 0)).heap[w1.heap.size]? = some (.cells #[.int .i64 x, .bool (y == 1), .slice none 0 0] 42 (0, 0)) := heap_set (heap_set (heap_set HA.out 0 (.int .i64 x)) 1 (.bool (y == 1))) 2 (.slice none 0 0)
       have hX : w.heap.size ≤ w1.heap.size := by omega
       have hK := ((HK1.out.setCell (p := ⟨w1.heap.size, 0, none⟩) (.inr hX) (.int .i64 x)).setCell (p := ⟨w1.heap.size, 1, none⟩) (.inr hX) (.bool (y == 1))).setCell (p := ⟨w1.heap.size, 2, none⟩) (.inr hX) (.slice none 0 0)
       generalize (((w3.setCell ⟨w1.heap.size, 0, none⟩ (.int .i64 x)).setCell ⟨w1.heap.size, 1, none⟩ (.bool (y == 1))).setCell ⟨w1.heap.size, 2, none⟩ (.slice none 0 0)) = W4 at hA hK ⊢
       clear HA a0 a1 a2 b0 b1 b2 al
       generalize w1.heap.size = X at *)
    | (have hA := heap_new w3 (.cells #[.int .i64 x, .bool (y == 1), .slice none 0 0] 42)
       have hX : w.heap.size ≤ w3.heap.size := HK1.out.size
       have hK := HK1.out.alloc (.cells #[.int .i64 x, .bool (y == 1), .slice none 0 0] 42)
       generalize w3.alloc (.cells #[.int .i64 x, .bool (y == 1), .slice none 0 0] 42) = W4 at hA hK ⊢
       generalize w3.heap.size = X at *)
  all_goals
    clear HK1 HB1 r0 r1 lb
    have HA := Lib.hid hA
    have HK4 := Lib.hid hK
    have hp4 := hK.at HP.out fun h => h
    have HP4 := Lib.hid hp4
    have HW4 := Lib.hid (own_keepsT HW.out hK)
    have p0 : W4.cell? ⟨p, 0, none⟩ = some t := cell_of hp4 0
    have c0 : W4.cell? ⟨X, 0, none⟩ = some (.int .i64 x) := cell_of hA 0
    have c1 : W4.cell? ⟨X, 1, none⟩ = some (.bool (y == 1)) := cell_of hA 1
    have c2 : W4.cell? ⟨X, 2, none⟩ = some (.slice none 0 0) := cell_of hA 2
    have lp4 := lt_of hp4
    have lA := lt_of hA
    have hs4 := hK.size
    clear hA hK hp4
    obtain ⟨hi, hz0, hz1, hz2⟩ := HI.out
    have HSZ := Lib.hid (show w.heap.size ≤ ((W4.alloc (.cells #[.int .i64 x, .bool (y == 1), .slice none 0 0] 42)).drew).heap.size from by show w.heap.size ≤ (W4.alloc _).heap.size; rw [World.size_alloc]; omega)
    have HLE := Lib.hid (show B ≤ (W4.alloc (.cells #[.int .i64 x, .bool (y == 1), .slice none 0 0] 42)).heap.size from by rw [World.size_alloc]; omega)
    go_wp2_with fail
    go_region_law (refine step_append_lies _ rfl (.tmp 18) (.tmp 20) 22 rfl B 42 i0 (.agg #[.int .i64 0, .bool false, .slice none 0 0]) 3 40 Try.underlying22 hi hz0 hz1 hz2 rfl (by decide) t k xs (by simp [Act.eval, Act.put]) (HW4.out.alloc _) ⟨W4.heap.size, 0, none⟩ 1 1 [.int .i64 x, .bool (y == 1), .slice none 0 0] (by simp [Act.eval, Act.put]) rfl (World.news_of_block (heap_new W4 (.cells #[.int .i64 x, .bool (y == 1), .slice none 0 0] 42))) (by simp [Value.oneCell']) (by decide) (by unfold maxLen; omega) (by omega) HLE.out _ rfl ?_; intro g cap w5 hown hgrow hat hlt4; have h4 := Lib.hid (app_after (W := W4) HW4.out HP4.out HP4.out (by decide) (by decide) hgrow); have hw4 := Lib.hid (And.intro (show w5.ownsRow B 42 3 (.slice (some ⟨g, 0, none⟩) (k + 1) cap) (k + 1) (xs ++ [.int .i64 x, .bool (y == 1), .slice none 0 0]) from hown) hat); have s0 : w5.cell? ⟨p, 0, none⟩ = some t := cell_of h4.out.1 0; have t0 := free_of h4.out.1 0; have l0 := lt_of h4.out.1; clear hown hgrow hat hlt4)
  all_goals
    have HP5 := Lib.hid (heap_set h4.out.1 0 (.slice (some ⟨g, 0, none⟩) (k + 1) cap))
    have HW5 := Lib.hid (own_setX hw4.out.1 h4.out.1 (by decide) 0 (.slice (some ⟨g, 0, none⟩) (k + 1) cap))
    have HK5 := Lib.hid (HK4.out.setOwn (gO := p) h4.out.2.2 0 (.slice (some ⟨g, 0, none⟩) (k + 1) cap))
    have HZ5 := Lib.hid (hw4.out.2.imp_right fun h => show w.heap.size ≤ g by rw [h]; exact HSZ.out)
    clear s0 t0 l0 p0 c0 c1 c2 lp4 lA hs4 HSZ HLE
    generalize (w5.setCell ⟨p, 0, none⟩ (.slice (some ⟨g, 0, none⟩) (k + 1) cap)) = w6 at HP5 HW5 HK5 ⊢
    have q0 : w6.cell? ⟨p, 0, none⟩ = some (.slice (some ⟨g, 0, none⟩) (k + 1) cap) := cell_of HP5.out 0
    have q6 : w6.cell? ⟨p, 6, none⟩ = some ow := cell_of HP5.out 6
    have f6 := free_of HP5.out 6
    have l5 := lt_of HP5.out
    have i1 : IntKind.i64.wrap (k : Int) = (k : Int) := IntWalk.i64_in _ ⟨by omega, by omega⟩
    have i2 : (0 : Int) ≤ (k : Int) := by omega
    have i3 : (k : Int) < (k : Int) + 1 := by omega
    go_wp2_with fail
    go_region_law fail
    all_goals
      go_wp2
      go_end0
      exact ⟨rfl, g, cap, heap_set HP5.out 6 _, own_setX HW5.out HP5.out (by decide) 6 _, HZ5.out, (HK5.out.setCell (p := ⟨p, 6, none⟩) (.inl (.inl rfl)) _).drew⟩
end Go.Proofs.Ytdjfelabdofaaaa
