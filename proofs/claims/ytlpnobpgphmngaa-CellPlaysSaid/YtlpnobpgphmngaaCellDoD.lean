import Derived.Test.YtlpnobpgphmngaaCellDoC
namespace Go.Proofs.Ytlpnobpgphmngaa
open Go.ChangeShapes Go.WideShapes Go.ChangeAt Go.RowKit
set_option linter.unusedVariables false
set_option linter.unusedSimpArgs false
theorem cell_far {w : World} {p q : Addr} {v : Value} (h : w.cell? q = some v) (hne : q.block ≠ p.block) (u : Value) : (w.setCell p u).cell? q = some v :=
  (World.cell?_of_block (w := w) (Below.heap_setCell w p u q.block hne)).trans h
theorem rdo_info : (Try.prog.info? 26).map (·.size) = some 1 := by kernel_rfl
theorem dN_val (kind : Int) (N : Nat → Nat) (j u : Nat) (v : Int) (h : v = (dW kind (N j) u : Nat)) : (fun k => Value.int .u32 (dN kind N j u k)) = fun k => if k = j then Value.int .u32 v else .int .u32 (N k) := by
  funext k
  unfold dN
  by_cases e : k = j
  · rw [if_pos e, if_pos e, h]
  · rw [if_neg e, if_neg e]
theorem rowB_set {w5 : World} {g4 n B : Nat} {cur : Array Value} {N N' : Nat → Nat} (hc : w5.heap[g4]? = some (.cells cur 26 (0, 0))) (hcur : ∀ i, i < n → cur[i]? = some (.int .u32 (N i))) (hcs : n ≤ cur.size) (hB : B ≤ g4) (jj : Nat) (v : Int) (hj : jj < n)
    (hN' : (fun k => Value.int .u32 (N' k)) = fun k => if k = jj then Value.int .u32 v else .int .u32 (N k)) : RowB (w5.setCell ⟨g4, jj, none⟩ (.int .u32 v)) B (some ⟨g4, 0, none⟩) n N' := by
  intro _
  refine ⟨g4, rfl, hB, by simpa [World.setCell] using lt_of hc, fun i hi => ?_⟩
  rw [cell_of (heap_set hc jj _), Array.getElem?_setIfInBounds]
  have e := congrFun hN' i
  by_cases h : jj = i
  · subst h
    rw [if_pos rfl, if_pos (by omega)]
    simp only [if_pos] at e
    rw [e]
  · rw [if_neg h, hcur i hi]
    rw [if_neg (fun h' => h h'.symm)] at e
    rw [e]
set_option maxRecDepth 20000 in
set_option maxHeartbeats 1000000 in
theorem rdo_yes1 (B n c l s j u : Nat) (a : Option Addr) (N : Nat → Nat) (w : World) (hmx : n ≤ 65536) (hl : l < 1000000) (hs : s < 1000000) (hj : j < n) (hN : N j < 4294967296) (hu : u < 4294967296) (hr : RowB w B a n N) :
    Calls Try.prog 53 #[.agg #[.slice a n c, .int .i64 (l : Int), .int .i64 (s : Int)], .agg #[.int .i64 1, .int .i64 (j : Int), .int .u32 u]] w fun e w' => ∃ a' c', e = .returned (.tuple #[.agg #[.slice a' n c', .int .i64 (dL 1 l : Nat), .int .i64 (dS 1 s : Nat)], .int .u32 (dV 1 (N j) : Nat), .bool true]) ∧ RowB w' w.heap.size a' n (dN 1 N j u) ∧ Keeps (fun _ => False) w w' := by
  obtain ⟨g, rfl, hgB, hgl, hgc⟩ := hr (by omega)
  obtain ⟨i0, hi, hz0, hz1, hz2⟩ := info_parts Try.infoU
  have HGC := Lib.hid hgc
  have hd2 : decide ((n : Int) ≤ (j : Int)) = false := decide_eq_false (by omega)
  clear hr hgc
  have H0 := Lib.hid (Tri.new w (some ⟨g, 0, none⟩) n c l s 1 (j : Int) u)
  go_enter Try.func53, Try.ntmps53
  go_upto_region 1 with (fail)
  generalize hw3 : World.alloc (World.alloc (World.alloc w _) _) _ = w3
  have H3 : Hid (Tri w w3 (some ⟨g, 0, none⟩) n c l s 1 (j : Int) u) := Lib.hid (hw3 ▸ H0.out)
  clear hw3 H0
  have sz := H3.out.size
  have z0 : w.heap.size < w3.heap.size := by omega
  have z1 : w.heap.size + 1 < w3.heap.size := by omega
  have m0 := cell_of H3.out.m 0
  have m1 := cell_of H3.out.m 1
  have m2 := cell_of H3.out.m 2
  have s0 := cell_of H3.out.st 0
  have s1 := cell_of H3.out.st 1
  have s2 := cell_of H3.out.st 2
  have r0 := cell_of H3.out.res 0
  have r1 := cell_of H3.out.res 1
  have r2 := cell_of H3.out.res 2
  have f0 := free_of H3.out.res 0
  have f1 := free_of H3.out.res 1
  have f2 := free_of H3.out.res 2
  simp only [List.getElem?_toArray, List.getElem?_cons_zero, List.getElem?_cons_succ] at m0 m1 m2 s0 s1 s2 r0 r1 r2
  have cg : w3.cell? ⟨g, j, none⟩ = some (.int .u32 (N j : Nat)) := (World.cell?_of_block (w := w) (H3.out.keeps.block g hgl fun h => h)).trans (HGC.out j hj)
  have lg3 : g < w3.heap.size := by omega
  have hmk := made_none w3 w3.heap.size 26 (Nat.le_refl _)
  have HC0 := Lib.hid (words_cells (w := w3.alloc (.cells #[] 26)) (b := g) (off := 0) (n := n) (N := N) (fun i hi => (World.cell?_of_block (w := w) ((H3.out.keeps.alloc (.cells #[] 26)).block g hgl fun h => h)).trans (by rw [Nat.zero_add]; exact HGC.out i hi)))
  have HMK := Lib.hid hmk
  clear hmk
  go_upto_region 5 with (at_builtin; refine wpList_append_own _ rfl (.tmp 38) (.tmp 40) 46 rfl w3.heap.size 26 i0 (.int .u32 0) 1 4 Try.underlying46 hi hz0 hz1 hz2 rfl (by decide) _ 0 [] rfl HMK.out ⟨g, 0, none⟩ n c (words N n) rfl (by rw [words_len]; omega) HC0.out (by simp [words, Value.oneCell']) (by unfold maxLen; omega) (by omega) (by simp) ?_; intro v4 w4 hown4 hgrow4 _; have hb4 := ((Below.refl w3.heap.size w3).alloc (Nat.le_refl _) (.cells #[] 26)).grown hgrow4 (by simp) (fun k hk => (HMK.out.lt k hk).1); obtain ⟨a4, c4, rfl, hrow4, hblk4⟩ := rowB_own (N := N) (by simpa using hown4); have T4 := Lib.hid (H3.out.none (Keeps.ofBelow hb4)); have HB4 := Lib.hid (And.intro hrow4 hblk4); clear hown4 hgrow4 hb4 hrow4 hblk4)
  obtain ⟨g4, cur, rfl, hg4, hc4, hcs, hcur⟩ := HB4.out.2 (by omega)
  have HCUR := Lib.hid (And.intro hc4 hcur)
  clear HMK HC0 m0 m1 m2 s0 s1 s2 r0 r1 r2 f0 f1 f2 cg
  have m1 := cell_of T4.out.m 1
  have m2 := cell_of T4.out.m 2
  have s0 := cell_of T4.out.st 0
  have s1 := cell_of T4.out.st 1
  have s2 := cell_of T4.out.st 2
  simp only [List.getElem?_toArray, List.getElem?_cons_zero, List.getElem?_cons_succ] at m1 m2 s0 s1 s2
  have l4 := lt_of hc4
  have sz4 := T4.out.size
  have z40 : w.heap.size < w4.heap.size := by omega
  have z41 : w.heap.size + 1 < w4.heap.size := by omega
  have gj : w4.cell? ⟨g4, j, none⟩ = some (.int .u32 (N j : Nat)) := (cell_of hc4 j).trans (hcur j hj)
  have gf : w4.frozen? ⟨g4, j, none⟩ = false := free_of hc4 j
  clear hc4 hcur
  go_upto_region 13 with (fail)
  have T6 := T4
  have R6 : Hid (RowB w4 w3.heap.size (some ⟨g4, 0, none⟩) n (dN 1 N j u)) := Lib.hid (by rw [dN_one]; exact HB4.out.1)
  obtain ⟨w6, hw6⟩ : ∃ w6, w6 = w4 := ⟨_, rfl⟩
  rw [← hw6] at T6 R6 m1 m2 s0 s1 s2 sz4 z40 z41 ⊢
  clear hw6
  have r0 := cell_of T6.out.res 0
  have r1 := cell_of T6.out.res 1
  have r2 := cell_of T6.out.res 2
  have f0 := free_of T6.out.res 0
  have f1 := free_of T6.out.res 1
  have f2 := free_of T6.out.res 2
  simp only [List.getElem?_toArray, List.getElem?_cons_zero, List.getElem?_cons_succ] at r0 r1 r2
  have FIN := Lib.hid (fun o x y z => tri_fin (o := o) T6.out.keeps R6.out sz x y z)
  clear gj gf
  go_wp2
  exact bodyPost_ret (v := .tuple #[.agg #[.slice (some ⟨g4, 0, none⟩) n c4, .int .i64 ((l : Int) + 1), .int .i64 (s : Int)], .int .u32 (N j : Nat), .bool true]) (by simp [results, Try.results53, go_sem, *]) rfl ⟨_, _, rfl, (FIN.out _ _ _ _).1, (FIN.out _ _ _ _).2⟩
set_option maxRecDepth 20000 in
set_option maxHeartbeats 1000000 in
theorem rdo_yes2 (B n c l s j u : Nat) (a : Option Addr) (N : Nat → Nat) (w : World) (hmx : n ≤ 65536) (hl : l < 1000000) (hs : s < 1000000) (hj : j < n) (hN : N j < 4294967296) (hu : u < 4294967296) (hr : RowB w B a n N) :
    Calls Try.prog 53 #[.agg #[.slice a n c, .int .i64 (l : Int), .int .i64 (s : Int)], .agg #[.int .i64 2, .int .i64 (j : Int), .int .u32 u]] w fun e w' => ∃ a' c', e = .returned (.tuple #[.agg #[.slice a' n c', .int .i64 (dL 2 l : Nat), .int .i64 (dS 2 s : Nat)], .int .u32 (dV 2 (N j) : Nat), .bool true]) ∧ RowB w' w.heap.size a' n (dN 2 N j u) ∧ Keeps (fun _ => False) w w' := by
  obtain ⟨g, rfl, hgB, hgl, hgc⟩ := hr (by omega)
  obtain ⟨i0, hi, hz0, hz1, hz2⟩ := info_parts Try.infoU
  have HGC := Lib.hid hgc
  have hd2 : decide ((n : Int) ≤ (j : Int)) = false := decide_eq_false (by omega)
  clear hr hgc
  have H0 := Lib.hid (Tri.new w (some ⟨g, 0, none⟩) n c l s 2 (j : Int) u)
  go_enter Try.func53, Try.ntmps53
  go_upto_region 1 with (fail)
  generalize hw3 : World.alloc (World.alloc (World.alloc w _) _) _ = w3
  have H3 : Hid (Tri w w3 (some ⟨g, 0, none⟩) n c l s 2 (j : Int) u) := Lib.hid (hw3 ▸ H0.out)
  clear hw3 H0
  have sz := H3.out.size
  have z0 : w.heap.size < w3.heap.size := by omega
  have z1 : w.heap.size + 1 < w3.heap.size := by omega
  have m0 := cell_of H3.out.m 0
  have m1 := cell_of H3.out.m 1
  have m2 := cell_of H3.out.m 2
  have s0 := cell_of H3.out.st 0
  have s1 := cell_of H3.out.st 1
  have s2 := cell_of H3.out.st 2
  have r0 := cell_of H3.out.res 0
  have r1 := cell_of H3.out.res 1
  have r2 := cell_of H3.out.res 2
  have f0 := free_of H3.out.res 0
  have f1 := free_of H3.out.res 1
  have f2 := free_of H3.out.res 2
  simp only [List.getElem?_toArray, List.getElem?_cons_zero, List.getElem?_cons_succ] at m0 m1 m2 s0 s1 s2 r0 r1 r2
  have cg : w3.cell? ⟨g, j, none⟩ = some (.int .u32 (N j : Nat)) := (World.cell?_of_block (w := w) (H3.out.keeps.block g hgl fun h => h)).trans (HGC.out j hj)
  have lg3 : g < w3.heap.size := by omega
  have hmk := made_none w3 w3.heap.size 26 (Nat.le_refl _)
  have HC0 := Lib.hid (words_cells (w := w3.alloc (.cells #[] 26)) (b := g) (off := 0) (n := n) (N := N) (fun i hi => (World.cell?_of_block (w := w) ((H3.out.keeps.alloc (.cells #[] 26)).block g hgl fun h => h)).trans (by rw [Nat.zero_add]; exact HGC.out i hi)))
  have HMK := Lib.hid hmk
  clear hmk
  go_upto_region 5 with (at_builtin; refine wpList_append_own _ rfl (.tmp 38) (.tmp 40) 46 rfl w3.heap.size 26 i0 (.int .u32 0) 1 4 Try.underlying46 hi hz0 hz1 hz2 rfl (by decide) _ 0 [] rfl HMK.out ⟨g, 0, none⟩ n c (words N n) rfl (by rw [words_len]; omega) HC0.out (by simp [words, Value.oneCell']) (by unfold maxLen; omega) (by omega) (by simp) ?_; intro v4 w4 hown4 hgrow4 _; have hb4 := ((Below.refl w3.heap.size w3).alloc (Nat.le_refl _) (.cells #[] 26)).grown hgrow4 (by simp) (fun k hk => (HMK.out.lt k hk).1); obtain ⟨a4, c4, rfl, hrow4, hblk4⟩ := rowB_own (N := N) (by simpa using hown4); have T4 := Lib.hid (H3.out.none (Keeps.ofBelow hb4)); have HB4 := Lib.hid (And.intro hrow4 hblk4); clear hown4 hgrow4 hb4 hrow4 hblk4)
  obtain ⟨g4, cur, rfl, hg4, hc4, hcs, hcur⟩ := HB4.out.2 (by omega)
  have HCUR := Lib.hid (And.intro hc4 hcur)
  clear HMK HC0 m0 m1 m2 s0 s1 s2 r0 r1 r2 f0 f1 f2 cg
  have m1 := cell_of T4.out.m 1
  have m2 := cell_of T4.out.m 2
  have s0 := cell_of T4.out.st 0
  have s1 := cell_of T4.out.st 1
  have s2 := cell_of T4.out.st 2
  simp only [List.getElem?_toArray, List.getElem?_cons_zero, List.getElem?_cons_succ] at m1 m2 s0 s1 s2
  have l4 := lt_of hc4
  have sz4 := T4.out.size
  have z40 : w.heap.size < w4.heap.size := by omega
  have z41 : w.heap.size + 1 < w4.heap.size := by omega
  have gj : w4.cell? ⟨g4, j, none⟩ = some (.int .u32 (N j : Nat)) := (cell_of hc4 j).trans (hcur j hj)
  have gf : w4.frozen? ⟨g4, j, none⟩ = false := free_of hc4 j
  clear hc4 hcur
  go_upto_region 13 with (fail)
  have k6 : Keeps (fun z => z = g4) w4 (w4.setCell ⟨g4, j, none⟩ (.int .u32 (u : Int))) := (Keeps.refl (fun z => z = g4) w4).setCell (p := ⟨g4, j, none⟩) (.inl rfl) _
  have T6 : Hid (Tri w (w4.setCell ⟨g4, j, none⟩ (.int .u32 (u : Int))) (some ⟨g, 0, none⟩) n c l s 2 j u) := Lib.hid (T4.out.kept k6 fun z e => by omega)
  have R6 : Hid (RowB (w4.setCell ⟨g4, j, none⟩ (.int .u32 (u : Int))) w3.heap.size (some ⟨g4, 0, none⟩) n (dN 2 N j u)) := Lib.hid (rowB_set HCUR.out.1 HCUR.out.2 hcs hg4 j _ hj (dN_val _ _ _ _ _ rfl))
  clear k6
  generalize hw6 : World.setCell _ _ _ = w6 at *
  clear hw6 m1 m2 s0 s1 s2
  have m1 := cell_of T6.out.m 1
  have m2 := cell_of T6.out.m 2
  have s0 := cell_of T6.out.st 0
  simp only [List.getElem?_toArray, List.getElem?_cons_zero, List.getElem?_cons_succ] at m1 m2 s0
  have sz6 := T6.out.size
  have z60 : w.heap.size < w6.heap.size := by omega
  have z61 : w.heap.size + 1 < w6.heap.size := by omega
  have r0 := cell_of T6.out.res 0
  have r1 := cell_of T6.out.res 1
  have r2 := cell_of T6.out.res 2
  have f0 := free_of T6.out.res 0
  have f1 := free_of T6.out.res 1
  have f2 := free_of T6.out.res 2
  simp only [List.getElem?_toArray, List.getElem?_cons_zero, List.getElem?_cons_succ] at r0 r1 r2
  have FIN := Lib.hid (fun o x y z => tri_fin (o := o) T6.out.keeps R6.out sz x y z)
  clear gj gf
  go_wp2
  exact bodyPost_ret (v := .tuple #[.agg #[.slice (some ⟨g4, 0, none⟩) n c4, .int .i64 (l : Int), .int .i64 ((s : Int) + 1)], .int .u32 0, .bool true]) (by simp [results, Try.results53, go_sem, *]) rfl ⟨_, _, rfl, (FIN.out _ _ _ _).1, (FIN.out _ _ _ _).2⟩
set_option maxRecDepth 20000 in
set_option maxHeartbeats 1000000 in
theorem rdo_yes3 (B n c l s j u : Nat) (a : Option Addr) (N : Nat → Nat) (w : World) (hmx : n ≤ 65536) (hl : l < 1000000) (hs : s < 1000000) (hj : j < n) (hN : N j < 4294967296) (hu : u < 4294967296) (hr : RowB w B a n N) :
    Calls Try.prog 53 #[.agg #[.slice a n c, .int .i64 (l : Int), .int .i64 (s : Int)], .agg #[.int .i64 3, .int .i64 (j : Int), .int .u32 u]] w fun e w' => ∃ a' c', e = .returned (.tuple #[.agg #[.slice a' n c', .int .i64 (dL 3 l : Nat), .int .i64 (dS 3 s : Nat)], .int .u32 (dV 3 (N j) : Nat), .bool true]) ∧ RowB w' w.heap.size a' n (dN 3 N j u) ∧ Keeps (fun _ => False) w w' := by
  obtain ⟨g, rfl, hgB, hgl, hgc⟩ := hr (by omega)
  obtain ⟨i0, hi, hz0, hz1, hz2⟩ := info_parts Try.infoU
  have HGC := Lib.hid hgc
  have hd2 : decide ((n : Int) ≤ (j : Int)) = false := decide_eq_false (by omega)
  clear hr hgc
  have H0 := Lib.hid (Tri.new w (some ⟨g, 0, none⟩) n c l s 3 (j : Int) u)
  go_enter Try.func53, Try.ntmps53
  go_upto_region 1 with (fail)
  generalize hw3 : World.alloc (World.alloc (World.alloc w _) _) _ = w3
  have H3 : Hid (Tri w w3 (some ⟨g, 0, none⟩) n c l s 3 (j : Int) u) := Lib.hid (hw3 ▸ H0.out)
  clear hw3 H0
  have sz := H3.out.size
  have z0 : w.heap.size < w3.heap.size := by omega
  have z1 : w.heap.size + 1 < w3.heap.size := by omega
  have m0 := cell_of H3.out.m 0
  have m1 := cell_of H3.out.m 1
  have m2 := cell_of H3.out.m 2
  have s0 := cell_of H3.out.st 0
  have s1 := cell_of H3.out.st 1
  have s2 := cell_of H3.out.st 2
  have r0 := cell_of H3.out.res 0
  have r1 := cell_of H3.out.res 1
  have r2 := cell_of H3.out.res 2
  have f0 := free_of H3.out.res 0
  have f1 := free_of H3.out.res 1
  have f2 := free_of H3.out.res 2
  simp only [List.getElem?_toArray, List.getElem?_cons_zero, List.getElem?_cons_succ] at m0 m1 m2 s0 s1 s2 r0 r1 r2
  have cg : w3.cell? ⟨g, j, none⟩ = some (.int .u32 (N j : Nat)) := (World.cell?_of_block (w := w) (H3.out.keeps.block g hgl fun h => h)).trans (HGC.out j hj)
  have lg3 : g < w3.heap.size := by omega
  have hmk := made_none w3 w3.heap.size 26 (Nat.le_refl _)
  have HC0 := Lib.hid (words_cells (w := w3.alloc (.cells #[] 26)) (b := g) (off := 0) (n := n) (N := N) (fun i hi => (World.cell?_of_block (w := w) ((H3.out.keeps.alloc (.cells #[] 26)).block g hgl fun h => h)).trans (by rw [Nat.zero_add]; exact HGC.out i hi)))
  have HMK := Lib.hid hmk
  clear hmk
  go_upto_region 5 with (at_builtin; refine wpList_append_own _ rfl (.tmp 38) (.tmp 40) 46 rfl w3.heap.size 26 i0 (.int .u32 0) 1 4 Try.underlying46 hi hz0 hz1 hz2 rfl (by decide) _ 0 [] rfl HMK.out ⟨g, 0, none⟩ n c (words N n) rfl (by rw [words_len]; omega) HC0.out (by simp [words, Value.oneCell']) (by unfold maxLen; omega) (by omega) (by simp) ?_; intro v4 w4 hown4 hgrow4 _; have hb4 := ((Below.refl w3.heap.size w3).alloc (Nat.le_refl _) (.cells #[] 26)).grown hgrow4 (by simp) (fun k hk => (HMK.out.lt k hk).1); obtain ⟨a4, c4, rfl, hrow4, hblk4⟩ := rowB_own (N := N) (by simpa using hown4); have T4 := Lib.hid (H3.out.none (Keeps.ofBelow hb4)); have HB4 := Lib.hid (And.intro hrow4 hblk4); clear hown4 hgrow4 hb4 hrow4 hblk4)
  obtain ⟨g4, cur, rfl, hg4, hc4, hcs, hcur⟩ := HB4.out.2 (by omega)
  have HCUR := Lib.hid (And.intro hc4 hcur)
  clear HMK HC0 m0 m1 m2 s0 s1 s2 r0 r1 r2 f0 f1 f2 cg
  have m1 := cell_of T4.out.m 1
  have m2 := cell_of T4.out.m 2
  have s0 := cell_of T4.out.st 0
  have s1 := cell_of T4.out.st 1
  have s2 := cell_of T4.out.st 2
  simp only [List.getElem?_toArray, List.getElem?_cons_zero, List.getElem?_cons_succ] at m1 m2 s0 s1 s2
  have l4 := lt_of hc4
  have sz4 := T4.out.size
  have z40 : w.heap.size < w4.heap.size := by omega
  have z41 : w.heap.size + 1 < w4.heap.size := by omega
  have gj : w4.cell? ⟨g4, j, none⟩ = some (.int .u32 (N j : Nat)) := (cell_of hc4 j).trans (hcur j hj)
  have gf : w4.frozen? ⟨g4, j, none⟩ = false := free_of hc4 j
  clear hc4 hcur
  go_upto_region 13 with (fail)
  have k6 : Keeps (fun z => z = g4) w4 (w4.setCell ⟨g4, j, none⟩ (.int .u32 (u : Int))) := (Keeps.refl (fun z => z = g4) w4).setCell (p := ⟨g4, j, none⟩) (.inl rfl) _
  have T6 : Hid (Tri w (w4.setCell ⟨g4, j, none⟩ (.int .u32 (u : Int))) (some ⟨g, 0, none⟩) n c l s 3 j u) := Lib.hid (T4.out.kept k6 fun z e => by omega)
  have R6 : Hid (RowB (w4.setCell ⟨g4, j, none⟩ (.int .u32 (u : Int))) w3.heap.size (some ⟨g4, 0, none⟩) n (dN 3 N j u)) := Lib.hid (rowB_set HCUR.out.1 HCUR.out.2 hcs hg4 j _ hj (dN_val _ _ _ _ _ rfl))
  clear k6
  generalize hw6 : World.setCell _ _ _ = w6 at *
  clear hw6 m1 m2 s0 s1 s2
  have m1 := cell_of T6.out.m 1
  have m2 := cell_of T6.out.m 2
  have s0 := cell_of T6.out.st 0
  simp only [List.getElem?_toArray, List.getElem?_cons_zero, List.getElem?_cons_succ] at m1 m2 s0
  have sz6 := T6.out.size
  have z60 : w.heap.size < w6.heap.size := by omega
  have z61 : w.heap.size + 1 < w6.heap.size := by omega
  have r0 := cell_of T6.out.res 0
  have r1 := cell_of T6.out.res 1
  have r2 := cell_of T6.out.res 2
  have f0 := free_of T6.out.res 0
  have f1 := free_of T6.out.res 1
  have f2 := free_of T6.out.res 2
  simp only [List.getElem?_toArray, List.getElem?_cons_zero, List.getElem?_cons_succ] at r0 r1 r2
  have FIN := Lib.hid (fun o x y z => tri_fin (o := o) T6.out.keeps R6.out sz x y z)
  clear gj gf
  go_wp2
  exact bodyPost_ret (v := .tuple #[.agg #[.slice (some ⟨g4, 0, none⟩) n c4, .int .i64 ((l : Int) + 1), .int .i64 ((s : Int) + 1)], .int .u32 (N j : Nat), .bool true]) (by simp [results, Try.results53, go_sem, *]) rfl ⟨_, _, rfl, (FIN.out _ _ _ _).1, (FIN.out _ _ _ _).2⟩
set_option maxRecDepth 20000 in
set_option maxHeartbeats 1000000 in
theorem rdo_yes4 (B n c l s j u : Nat) (a : Option Addr) (N : Nat → Nat) (w : World) (hmx : n ≤ 65536) (hl : l < 1000000) (hs : s < 1000000) (hj : j < n) (hN : N j < 4294967296) (hu : u < 4294967296) (hr : RowB w B a n N) :
    Calls Try.prog 53 #[.agg #[.slice a n c, .int .i64 (l : Int), .int .i64 (s : Int)], .agg #[.int .i64 4, .int .i64 (j : Int), .int .u32 u]] w fun e w' => ∃ a' c', e = .returned (.tuple #[.agg #[.slice a' n c', .int .i64 (dL 4 l : Nat), .int .i64 (dS 4 s : Nat)], .int .u32 (dV 4 (N j) : Nat), .bool true]) ∧ RowB w' w.heap.size a' n (dN 4 N j u) ∧ Keeps (fun _ => False) w w' := by
  obtain ⟨g, rfl, hgB, hgl, hgc⟩ := hr (by omega)
  obtain ⟨i0, hi, hz0, hz1, hz2⟩ := info_parts Try.infoU
  have HGC := Lib.hid hgc
  have hd2 : decide ((n : Int) ≤ (j : Int)) = false := decide_eq_false (by omega)
  clear hr hgc
  have H0 := Lib.hid (Tri.new w (some ⟨g, 0, none⟩) n c l s 4 (j : Int) u)
  go_enter Try.func53, Try.ntmps53
  go_upto_region 1 with (fail)
  generalize hw3 : World.alloc (World.alloc (World.alloc w _) _) _ = w3
  have H3 : Hid (Tri w w3 (some ⟨g, 0, none⟩) n c l s 4 (j : Int) u) := Lib.hid (hw3 ▸ H0.out)
  clear hw3 H0
  have sz := H3.out.size
  have z0 : w.heap.size < w3.heap.size := by omega
  have z1 : w.heap.size + 1 < w3.heap.size := by omega
  have m0 := cell_of H3.out.m 0
  have m1 := cell_of H3.out.m 1
  have m2 := cell_of H3.out.m 2
  have s0 := cell_of H3.out.st 0
  have s1 := cell_of H3.out.st 1
  have s2 := cell_of H3.out.st 2
  have r0 := cell_of H3.out.res 0
  have r1 := cell_of H3.out.res 1
  have r2 := cell_of H3.out.res 2
  have f0 := free_of H3.out.res 0
  have f1 := free_of H3.out.res 1
  have f2 := free_of H3.out.res 2
  simp only [List.getElem?_toArray, List.getElem?_cons_zero, List.getElem?_cons_succ] at m0 m1 m2 s0 s1 s2 r0 r1 r2
  have cg : w3.cell? ⟨g, j, none⟩ = some (.int .u32 (N j : Nat)) := (World.cell?_of_block (w := w) (H3.out.keeps.block g hgl fun h => h)).trans (HGC.out j hj)
  have lg3 : g < w3.heap.size := by omega
  have hmk := made_none w3 w3.heap.size 26 (Nat.le_refl _)
  have HC0 := Lib.hid (words_cells (w := w3.alloc (.cells #[] 26)) (b := g) (off := 0) (n := n) (N := N) (fun i hi => (World.cell?_of_block (w := w) ((H3.out.keeps.alloc (.cells #[] 26)).block g hgl fun h => h)).trans (by rw [Nat.zero_add]; exact HGC.out i hi)))
  have HMK := Lib.hid hmk
  clear hmk
  go_upto_region 5 with (at_builtin; refine wpList_append_own _ rfl (.tmp 38) (.tmp 40) 46 rfl w3.heap.size 26 i0 (.int .u32 0) 1 4 Try.underlying46 hi hz0 hz1 hz2 rfl (by decide) _ 0 [] rfl HMK.out ⟨g, 0, none⟩ n c (words N n) rfl (by rw [words_len]; omega) HC0.out (by simp [words, Value.oneCell']) (by unfold maxLen; omega) (by omega) (by simp) ?_; intro v4 w4 hown4 hgrow4 _; have hb4 := ((Below.refl w3.heap.size w3).alloc (Nat.le_refl _) (.cells #[] 26)).grown hgrow4 (by simp) (fun k hk => (HMK.out.lt k hk).1); obtain ⟨a4, c4, rfl, hrow4, hblk4⟩ := rowB_own (N := N) (by simpa using hown4); have T4 := Lib.hid (H3.out.none (Keeps.ofBelow hb4)); have HB4 := Lib.hid (And.intro hrow4 hblk4); clear hown4 hgrow4 hb4 hrow4 hblk4)
  obtain ⟨g4, cur, rfl, hg4, hc4, hcs, hcur⟩ := HB4.out.2 (by omega)
  have HCUR := Lib.hid (And.intro hc4 hcur)
  clear HMK HC0 m0 m1 m2 s0 s1 s2 r0 r1 r2 f0 f1 f2 cg
  have m1 := cell_of T4.out.m 1
  have m2 := cell_of T4.out.m 2
  have s0 := cell_of T4.out.st 0
  have s1 := cell_of T4.out.st 1
  have s2 := cell_of T4.out.st 2
  simp only [List.getElem?_toArray, List.getElem?_cons_zero, List.getElem?_cons_succ] at m1 m2 s0 s1 s2
  have l4 := lt_of hc4
  have sz4 := T4.out.size
  have z40 : w.heap.size < w4.heap.size := by omega
  have z41 : w.heap.size + 1 < w4.heap.size := by omega
  have gj : w4.cell? ⟨g4, j, none⟩ = some (.int .u32 (N j : Nat)) := (cell_of hc4 j).trans (hcur j hj)
  have gf : w4.frozen? ⟨g4, j, none⟩ = false := free_of hc4 j
  clear hc4 hcur
  have KK : Hid (∀ w5, Keeps (fun _ => False) w4 w5 → w5.heap[g4]? = some (.cells cur 26 (0, 0)) ∧ Tri w w5 (some ⟨g, 0, none⟩) n c l s 4 j u) := Lib.hid fun w5 k5 => ⟨k5.at HCUR.out.1 fun h => h, T4.out.none k5⟩
  go_upto_region 10 with (fail)
  go_region_held3 (fun w' => w'.cell? ⟨w.heap.size + 1, 1, none⟩ = some (.int .i64 (j : Int)) ∧ w'.cell? ⟨w.heap.size + 1, 2, none⟩ = some (.int .u32 (u : Int)))
    (first
      | go_keep
      | exact ⟨y1, y2⟩
      | exact ⟨cell_far y1 (by simp; omega) _, cell_far y2 (by simp; omega) _⟩)
    ((go_at_call 79; refine (ror06 (N j) u _ hN hu).mono ?_; rintro e w5 ⟨rfl, k5⟩; obtain ⟨hc5, t5⟩ := KK.out w5 ((Keeps.refl _ w4).drew.trans k5); have y1 := cell_of t5.st 1; have y2 := cell_of t5.st 2; simp only [List.getElem?_toArray, List.getElem?_cons_zero, List.getElem?_cons_succ] at y1 y2; have l5 := lt_of hc5; have q5 : w5.cell? ⟨g4, j, none⟩ = some (.int .u32 (N j : Nat)) := (cell_of hc5 j).trans (HCUR.out.2 j hj); have qf : w5.frozen? ⟨g4, j, none⟩ = false := free_of hc5 j; have H5 := Lib.hid (And.intro hc5 t5); clear hc5 t5 k5))
  go_upto_region 13 with (fail)
  have k6 : Keeps (fun z => z = g4) w5 (w5.setCell ⟨g4, j, none⟩ (.int .u32 ((opW true (N j) u : Nat) : Int))) := (Keeps.refl (fun z => z = g4) w5).setCell (p := ⟨g4, j, none⟩) (.inl rfl) _
  have T6 : Hid (Tri w (w5.setCell ⟨g4, j, none⟩ (.int .u32 ((opW true (N j) u : Nat) : Int))) (some ⟨g, 0, none⟩) n c l s 4 j u) := Lib.hid (H5.out.2.kept k6 fun z e => by omega)
  have R6 : Hid (RowB (w5.setCell ⟨g4, j, none⟩ (.int .u32 ((opW true (N j) u : Nat) : Int))) w3.heap.size (some ⟨g4, 0, none⟩) n (dN 4 N j u)) := Lib.hid (rowB_set H5.out.1 HCUR.out.2 hcs hg4 j _ hj (dN_val _ _ _ _ _ rfl))
  clear k6
  generalize hw6 : World.setCell _ _ _ = w6 at *
  clear hw6 m1 m2 s0 s1 s2
  have m1 := cell_of T6.out.m 1
  have m2 := cell_of T6.out.m 2
  have s0 := cell_of T6.out.st 0
  simp only [List.getElem?_toArray, List.getElem?_cons_zero, List.getElem?_cons_succ] at m1 m2 s0
  have sz6 := T6.out.size
  have z60 : w.heap.size < w6.heap.size := by omega
  have z61 : w.heap.size + 1 < w6.heap.size := by omega
  have r0 := cell_of T6.out.res 0
  have r1 := cell_of T6.out.res 1
  have r2 := cell_of T6.out.res 2
  have f0 := free_of T6.out.res 0
  have f1 := free_of T6.out.res 1
  have f2 := free_of T6.out.res 2
  simp only [List.getElem?_toArray, List.getElem?_cons_zero, List.getElem?_cons_succ] at r0 r1 r2
  have FIN := Lib.hid (fun o x y z => tri_fin (o := o) T6.out.keeps R6.out sz x y z)
  clear gj gf
  go_wp2
  exact bodyPost_ret (v := .tuple #[.agg #[.slice (some ⟨g4, 0, none⟩) n c4, .int .i64 ((l : Int) + 1), .int .i64 ((s : Int) + 1)], .int .u32 (N j : Nat), .bool true]) (by simp [results, Try.results53, go_sem, *]) rfl ⟨_, _, rfl, (FIN.out _ _ _ _).1, (FIN.out _ _ _ _).2⟩
set_option maxRecDepth 20000 in
set_option maxHeartbeats 1000000 in
theorem rdo_yes5 (B n c l s j u : Nat) (a : Option Addr) (N : Nat → Nat) (w : World) (hmx : n ≤ 65536) (hl : l < 1000000) (hs : s < 1000000) (hj : j < n) (hN : N j < 4294967296) (hu : u < 4294967296) (hr : RowB w B a n N) :
    Calls Try.prog 53 #[.agg #[.slice a n c, .int .i64 (l : Int), .int .i64 (s : Int)], .agg #[.int .i64 5, .int .i64 (j : Int), .int .u32 u]] w fun e w' => ∃ a' c', e = .returned (.tuple #[.agg #[.slice a' n c', .int .i64 (dL 5 l : Nat), .int .i64 (dS 5 s : Nat)], .int .u32 (dV 5 (N j) : Nat), .bool true]) ∧ RowB w' w.heap.size a' n (dN 5 N j u) ∧ Keeps (fun _ => False) w w' := by
  obtain ⟨g, rfl, hgB, hgl, hgc⟩ := hr (by omega)
  obtain ⟨i0, hi, hz0, hz1, hz2⟩ := info_parts Try.infoU
  have HGC := Lib.hid hgc
  have hd2 : decide ((n : Int) ≤ (j : Int)) = false := decide_eq_false (by omega)
  clear hr hgc
  have H0 := Lib.hid (Tri.new w (some ⟨g, 0, none⟩) n c l s 5 (j : Int) u)
  go_enter Try.func53, Try.ntmps53
  go_upto_region 1 with (fail)
  generalize hw3 : World.alloc (World.alloc (World.alloc w _) _) _ = w3
  have H3 : Hid (Tri w w3 (some ⟨g, 0, none⟩) n c l s 5 (j : Int) u) := Lib.hid (hw3 ▸ H0.out)
  clear hw3 H0
  have sz := H3.out.size
  have z0 : w.heap.size < w3.heap.size := by omega
  have z1 : w.heap.size + 1 < w3.heap.size := by omega
  have m0 := cell_of H3.out.m 0
  have m1 := cell_of H3.out.m 1
  have m2 := cell_of H3.out.m 2
  have s0 := cell_of H3.out.st 0
  have s1 := cell_of H3.out.st 1
  have s2 := cell_of H3.out.st 2
  have r0 := cell_of H3.out.res 0
  have r1 := cell_of H3.out.res 1
  have r2 := cell_of H3.out.res 2
  have f0 := free_of H3.out.res 0
  have f1 := free_of H3.out.res 1
  have f2 := free_of H3.out.res 2
  simp only [List.getElem?_toArray, List.getElem?_cons_zero, List.getElem?_cons_succ] at m0 m1 m2 s0 s1 s2 r0 r1 r2
  have cg : w3.cell? ⟨g, j, none⟩ = some (.int .u32 (N j : Nat)) := (World.cell?_of_block (w := w) (H3.out.keeps.block g hgl fun h => h)).trans (HGC.out j hj)
  have lg3 : g < w3.heap.size := by omega
  have hmk := made_none w3 w3.heap.size 26 (Nat.le_refl _)
  have HC0 := Lib.hid (words_cells (w := w3.alloc (.cells #[] 26)) (b := g) (off := 0) (n := n) (N := N) (fun i hi => (World.cell?_of_block (w := w) ((H3.out.keeps.alloc (.cells #[] 26)).block g hgl fun h => h)).trans (by rw [Nat.zero_add]; exact HGC.out i hi)))
  have HMK := Lib.hid hmk
  clear hmk
  go_upto_region 5 with (at_builtin; refine wpList_append_own _ rfl (.tmp 38) (.tmp 40) 46 rfl w3.heap.size 26 i0 (.int .u32 0) 1 4 Try.underlying46 hi hz0 hz1 hz2 rfl (by decide) _ 0 [] rfl HMK.out ⟨g, 0, none⟩ n c (words N n) rfl (by rw [words_len]; omega) HC0.out (by simp [words, Value.oneCell']) (by unfold maxLen; omega) (by omega) (by simp) ?_; intro v4 w4 hown4 hgrow4 _; have hb4 := ((Below.refl w3.heap.size w3).alloc (Nat.le_refl _) (.cells #[] 26)).grown hgrow4 (by simp) (fun k hk => (HMK.out.lt k hk).1); obtain ⟨a4, c4, rfl, hrow4, hblk4⟩ := rowB_own (N := N) (by simpa using hown4); have T4 := Lib.hid (H3.out.none (Keeps.ofBelow hb4)); have HB4 := Lib.hid (And.intro hrow4 hblk4); clear hown4 hgrow4 hb4 hrow4 hblk4)
  obtain ⟨g4, cur, rfl, hg4, hc4, hcs, hcur⟩ := HB4.out.2 (by omega)
  have HCUR := Lib.hid (And.intro hc4 hcur)
  clear HMK HC0 m0 m1 m2 s0 s1 s2 r0 r1 r2 f0 f1 f2 cg
  have m1 := cell_of T4.out.m 1
  have m2 := cell_of T4.out.m 2
  have s0 := cell_of T4.out.st 0
  have s1 := cell_of T4.out.st 1
  have s2 := cell_of T4.out.st 2
  simp only [List.getElem?_toArray, List.getElem?_cons_zero, List.getElem?_cons_succ] at m1 m2 s0 s1 s2
  have l4 := lt_of hc4
  have sz4 := T4.out.size
  have z40 : w.heap.size < w4.heap.size := by omega
  have z41 : w.heap.size + 1 < w4.heap.size := by omega
  have gj : w4.cell? ⟨g4, j, none⟩ = some (.int .u32 (N j : Nat)) := (cell_of hc4 j).trans (hcur j hj)
  have gf : w4.frozen? ⟨g4, j, none⟩ = false := free_of hc4 j
  clear hc4 hcur
  have KK : Hid (∀ w5, Keeps (fun _ => False) w4 w5 → w5.heap[g4]? = some (.cells cur 26 (0, 0)) ∧ Tri w w5 (some ⟨g, 0, none⟩) n c l s 5 j u) := Lib.hid fun w5 k5 => ⟨k5.at HCUR.out.1 fun h => h, T4.out.none k5⟩
  go_upto_region 12 with (fail)
  go_region_held3 (fun w' => w'.cell? ⟨w.heap.size + 1, 1, none⟩ = some (.int .i64 (j : Int)) ∧ w'.cell? ⟨w.heap.size + 1, 2, none⟩ = some (.int .u32 (u : Int)))
    (first
      | go_keep
      | exact ⟨y1, y2⟩
      | exact ⟨cell_far y1 (by simp; omega) _, cell_far y2 (by simp; omega) _⟩)
    ((go_at_call 80; refine (rand06 (N j) u _ hN hu).mono ?_; rintro e w5 ⟨rfl, k5⟩; obtain ⟨hc5, t5⟩ := KK.out w5 ((Keeps.refl _ w4).drew.trans k5); have y1 := cell_of t5.st 1; have y2 := cell_of t5.st 2; simp only [List.getElem?_toArray, List.getElem?_cons_zero, List.getElem?_cons_succ] at y1 y2; have l5 := lt_of hc5; have q5 : w5.cell? ⟨g4, j, none⟩ = some (.int .u32 (N j : Nat)) := (cell_of hc5 j).trans (HCUR.out.2 j hj); have qf : w5.frozen? ⟨g4, j, none⟩ = false := free_of hc5 j; have H5 := Lib.hid (And.intro hc5 t5); clear hc5 t5 k5))
  go_upto_region 13 with (fail)
  have k6 : Keeps (fun z => z = g4) w5 (w5.setCell ⟨g4, j, none⟩ (.int .u32 ((opW false (N j) u : Nat) : Int))) := (Keeps.refl (fun z => z = g4) w5).setCell (p := ⟨g4, j, none⟩) (.inl rfl) _
  have T6 : Hid (Tri w (w5.setCell ⟨g4, j, none⟩ (.int .u32 ((opW false (N j) u : Nat) : Int))) (some ⟨g, 0, none⟩) n c l s 5 j u) := Lib.hid (H5.out.2.kept k6 fun z e => by omega)
  have R6 : Hid (RowB (w5.setCell ⟨g4, j, none⟩ (.int .u32 ((opW false (N j) u : Nat) : Int))) w3.heap.size (some ⟨g4, 0, none⟩) n (dN 5 N j u)) := Lib.hid (rowB_set H5.out.1 HCUR.out.2 hcs hg4 j _ hj (dN_val _ _ _ _ _ rfl))
  clear k6
  generalize hw6 : World.setCell _ _ _ = w6 at *
  clear hw6 m1 m2 s0 s1 s2
  have m1 := cell_of T6.out.m 1
  have m2 := cell_of T6.out.m 2
  have s0 := cell_of T6.out.st 0
  simp only [List.getElem?_toArray, List.getElem?_cons_zero, List.getElem?_cons_succ] at m1 m2 s0
  have sz6 := T6.out.size
  have z60 : w.heap.size < w6.heap.size := by omega
  have z61 : w.heap.size + 1 < w6.heap.size := by omega
  have r0 := cell_of T6.out.res 0
  have r1 := cell_of T6.out.res 1
  have r2 := cell_of T6.out.res 2
  have f0 := free_of T6.out.res 0
  have f1 := free_of T6.out.res 1
  have f2 := free_of T6.out.res 2
  simp only [List.getElem?_toArray, List.getElem?_cons_zero, List.getElem?_cons_succ] at r0 r1 r2
  have FIN := Lib.hid (fun o x y z => tri_fin (o := o) T6.out.keeps R6.out sz x y z)
  clear gj gf
  go_wp2
  exact bodyPost_ret (v := .tuple #[.agg #[.slice (some ⟨g4, 0, none⟩) n c4, .int .i64 ((l : Int) + 1), .int .i64 ((s : Int) + 1)], .int .u32 (N j : Nat), .bool true]) (by simp [results, Try.results53, go_sem, *]) rfl ⟨_, _, rfl, (FIN.out _ _ _ _).1, (FIN.out _ _ _ _).2⟩
end Go.Proofs.Ytlpnobpgphmngaa
