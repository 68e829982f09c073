import Derived.Test.YtkhmfjfclpehfaaGreatSpecDz
import Derived.Deep.RegionHeld3
namespace Go.Proofs.YtkhmfjfclpehfaaGreat
open Go.ChangeShapes Go.WideShapes Go.ChangeAt Go.RowKit
set_option linter.unusedVariables false
set_option linter.unusedSimpArgs false
def valueP (x : ItemD) (k : Int) (v : W4) (m : Nat) : ItemD × ResD :=
  if (k == 3) = true then ({x with v := v.clip m}, res0 0)
  else if (((x.o 0 == 2) && (k == 4)) || (!(x.o 0 == 2) && ((k == 5) || (k == 6)))) = true then (x, ⟨0, x.v⟩) else (x, res0 12)
theorem Became.words {w w' : World} {g o : Nat} {T : TypeId} {cur : Array Value} {x : ItemD} {a : Option Addr} {c : Nat} (h : ItemW w g o cur x a c) (v : W4) (hk : Keeps (fun j => j = g) w w')
    (hb : w'.heap[g]? = some (.cells ((((cur.setIfInBounds (o + 11) (.int .u32 v.a)).setIfInBounds (o + 12) (.int .u32 v.b)).setIfInBounds (o + 13) (.int .u32 v.c)).setIfInBounds (o + 14) (.int .u32 v.d)) T (0, 0))) :
    Became w w' g o T cur a x.row {x with v := v} := by
  refine ⟨_, a, c, hb, by simp, fun j hj => ?_, ⟨setW (setW (setW (setW h.cur (by show 11 < 15; omega) _) (by show 12 < 15; omega) _) (by show 13 < 15; omega) _) (by show 14 < 15; omega) _, h.le, h.max, h.nil, fun hn => ?_, h.apart⟩, hk, .inl ⟨rfl, rfl⟩⟩
  · rw [Array.getElem?_setIfInBounds_ne (by omega), Array.getElem?_setIfInBounds_ne (by omega), Array.getElem?_setIfInBounds_ne (by omega), Array.getElem?_setIfInBounds_ne (by omega)]
  obtain ⟨b, off, e, hl, ht, hr⟩ := h.row hn
  refine ⟨b, off, e, Nat.lt_of_lt_of_le hl hk.size, ht.eq (hk.block b hl (h.apart hn b off e)), fun k v hv j u hu => ?_⟩
  rw [World.cell?_of_block (a := ⟨b, off + k * 4 + j, none⟩) (hk.block b hl (h.apart hn b off e))]
  exact hr k v hv j u hu
theorem keep_words {w : World} {g o : Nat} {a b c d z : Value} (h : w.cell? ⟨g, o + 2, none⟩ = some z) : ((((w.setCell ⟨g, o + 11, none⟩ a).setCell ⟨g, o + 11 + 1, none⟩ b).setCell ⟨g, o + 11 + 2, none⟩ c).setCell ⟨g, o + 11 + 3, none⟩ d).cell? ⟨g, o + 2, none⟩ = some z := by
  rw [World.cell?_setCell_other _ _ _ _ (by intro e; cases e), World.cell?_setCell_other _ _ _ _ (by intro e; cases e), World.cell?_setCell_other _ _ _ _ (by intro e; cases e), World.cell?_setCell_other _ _ _ _ (by intro e; cases e)]
  exact h
set_option maxRecDepth 20000 in
set_option maxHeartbeats 8000000 in
theorem doValue_any (w : World) (g o : Nat) (cur : Array Value) (x : ItemD) (a : Option Addr) (c : Nat) (v : W4) (k : Int) (m : Nat) (hb : w.heap[g]? = some (.cells cur 106 (0, 0))) (hx : ItemW w g o cur x a c) (hm : x.o 2 = (m : Int)) (hm1 : m ≤ 1000) :
    Calls Tryz.prog 96 #[.pointer (some ⟨g, o, none⟩), .int .i64 k, .agg v.cells] w fun e w' => e = .returned (.agg (valueP x k v m).2.cells) ∧ Became w w' g o 106 cur a x.row (valueP x k v m).1 := by
  have hx' := hx.fifteen hb
  have c0 : w.cell? ⟨g, o, none⟩ = some (.int .i64 (x.o 0)) := hx' 0 _ rfl
  have c2 : w.cell? ⟨g, o + 2, none⟩ = some (.int .i64 (m : Int)) := by rw [← hm]; exact hx' 2 _ rfl
  have c11 : w.cell? ⟨g, o + 11, none⟩ = some (.int .u32 x.v.a) := hx' 11 _ rfl
  have c12 : w.cell? ⟨g, o + 12, none⟩ = some (.int .u32 x.v.b) := hx' 12 _ rfl
  have c13 : w.cell? ⟨g, o + 13, none⟩ = some (.int .u32 x.v.c) := hx' 13 _ rfl
  have c14 : w.cell? ⟨g, o + 14, none⟩ = some (.int .u32 x.v.d) := hx' 14 _ rfl
  have HU11 := Lib.hid (show cur[o + 11]? = some (.int .u32 x.v.a) from hx.cur 11 _ rfl)
  have HU12 := Lib.hid (show cur[o + 12]? = some (.int .u32 x.v.b) from hx.cur 12 _ rfl)
  have HU13 := Lib.hid (show cur[o + 13]? = some (.int .u32 x.v.c) from hx.cur 13 _ rfl)
  have HU14 := Lib.hid (show cur[o + 14]? = some (.int .u32 x.v.d) from hx.cur 14 _ rfl)
  have hl := lt_of hb
  have hne3 : w.heap.size + 1 ≠ g := by omega
  have hne4 : g ≠ w.heap.size + 1 := by omega
  have hne1 : ¬ g = w.heap.size := by omega
  have hne2 : ¬ w.heap.size = g := by omega
  have HX := Lib.hid (And.intro hx hb)
  have HF := Lib.hid (show valueP x k v m = if (k == 3) = true then ({x with v := v.clip m}, res0 0) else if (((x.o 0 == 2) && (k == 4)) || (!(x.o 0 == 2) && ((k == 5) || (k == 6)))) = true then (x, ⟨0, x.v⟩) else (x, res0 12) from rfl)
  have HA := Lib.hid ((((Has.start w).old hb).alloc (.cells v.cells 36)).alloc (.cells #[.int .i64 0, .int .u32 0, .int .u32 0, .int .u32 0, .int .u32 0] 41) |>.drew)
  have HC := Lib.hid (fun w => clip_any w (m : Int))
  have HC1 := Lib.hid (fun w P => clip1_any w P m v.a v.b v.c v.d hm1)
  have HX2 := Lib.hid c2
  generalize hz : valueP x k v m = z at *
  obtain ⟨z1, z2⟩ := z
  clear hz hb hx hx' hm
  generalize hq : (x.o 0 == 2) = q at *
  generalize h3 : (k == 3) = k3 at *
  generalize h4 : (k == 4) = k4 at *
  generalize h5 : (k == 5) = k5 at *
  generalize h6 : (k == 6) = k6 at *
  cases k3
  · cases q
    · cases k5
      · cases k6
        · simp only [Bool.false_eq_true, if_false, Bool.and_true, Bool.and_false, Bool.or_true, Bool.or_false, Bool.false_or, Bool.true_or, Bool.not_true, Bool.not_false, Bool.true_and, Bool.false_and, if_true] at HF
          obtain ⟨e1, e2⟩ := Prod.mk.inj HF.out
          go_enter Tryz.func96, Tryz.ntmps96
          go_wp2_with fail
          refine bodyPost_ret (v := .agg #[.int .i64 12, .int .u32 0, .int .u32 0, .int .u32 0, .int .u32 0]) (by simp [results, Tryz.results96, go_sem]) rfl ⟨by rw [e2] <;> rfl, ?_⟩
          rw [e1]
          exact Became.same HX.out.1 HX.out.2 (((Keeps.refl _ w).alloc _).alloc _)
        · simp only [Bool.false_eq_true, if_false, Bool.and_true, Bool.and_false, Bool.or_true, Bool.or_false, Bool.false_or, Bool.true_or, Bool.not_true, Bool.not_false, Bool.true_and, Bool.false_and, if_true] at HF
          obtain ⟨e1, e2⟩ := Prod.mk.inj HF.out
          go_enter Tryz.func96, Tryz.ntmps96
          go_wp2_with fail
          refine bodyPost_ret (v := .agg #[.int .i64 0, .int .u32 x.v.a, .int .u32 x.v.b, .int .u32 x.v.c, .int .u32 x.v.d]) (by simp [results, Tryz.results96, go_sem]) rfl ⟨by rw [e2] <;> rfl, ?_⟩
          rw [e1]
          exact Became.same HX.out.1 HX.out.2 (((Keeps.refl _ w).alloc _).alloc _)
      · simp only [Bool.false_eq_true, if_false, Bool.and_true, Bool.and_false, Bool.or_true, Bool.or_false, Bool.false_or, Bool.true_or, Bool.not_true, Bool.not_false, Bool.true_and, Bool.false_and, if_true] at HF
        obtain ⟨e1, e2⟩ := Prod.mk.inj HF.out
        go_enter Tryz.func96, Tryz.ntmps96
        go_wp2_with fail
        refine bodyPost_ret (v := .agg #[.int .i64 0, .int .u32 x.v.a, .int .u32 x.v.b, .int .u32 x.v.c, .int .u32 x.v.d]) (by simp [results, Tryz.results96, go_sem]) rfl ⟨by rw [e2] <;> rfl, ?_⟩
        rw [e1]
        exact Became.same HX.out.1 HX.out.2 (((Keeps.refl _ w).alloc _).alloc _)
    · cases k4
      · simp only [Bool.false_eq_true, if_false, Bool.and_true, Bool.and_false, Bool.or_true, Bool.or_false, Bool.false_or, Bool.true_or, Bool.not_true, Bool.not_false, Bool.true_and, Bool.false_and, if_true] at HF
        obtain ⟨e1, e2⟩ := Prod.mk.inj HF.out
        go_enter Tryz.func96, Tryz.ntmps96
        go_wp2_with fail
        refine bodyPost_ret (v := .agg #[.int .i64 12, .int .u32 0, .int .u32 0, .int .u32 0, .int .u32 0]) (by simp [results, Tryz.results96, go_sem]) rfl ⟨by rw [e2] <;> rfl, ?_⟩
        rw [e1]
        exact Became.same HX.out.1 HX.out.2 (((Keeps.refl _ w).alloc _).alloc _)
      · simp only [Bool.false_eq_true, if_false, Bool.and_true, Bool.and_false, Bool.or_true, Bool.or_false, Bool.false_or, Bool.true_or, Bool.not_true, Bool.not_false, Bool.true_and, Bool.false_and, if_true] at HF
        obtain ⟨e1, e2⟩ := Prod.mk.inj HF.out
        go_enter Tryz.func96, Tryz.ntmps96
        go_wp2_with fail
        refine bodyPost_ret (v := .agg #[.int .i64 0, .int .u32 x.v.a, .int .u32 x.v.b, .int .u32 x.v.c, .int .u32 x.v.d]) (by simp [results, Tryz.results96, go_sem]) rfl ⟨by rw [e2] <;> rfl, ?_⟩
        rw [e1]
        exact Became.same HX.out.1 HX.out.2 (((Keeps.refl _ w).alloc _).alloc _)
  · rw [if_pos rfl] at HF
    obtain ⟨e1, e2⟩ := Prod.mk.inj HF.out
    go_enter Tryz.func96, Tryz.ntmps96
    go_wp2_with fail
    clear c0 c2 c11 c12 c13 c14 hq h3 h4 h5 h6
    go_region_held3 (fun w' => w'.cell? ⟨g, o + 2, none⟩ = some (.int .i64 (m : Int)) ∧ w'.cell? ⟨w.heap.size, 0, none⟩ = some (.int .u32 v.a) ∧ w'.cell? ⟨w.heap.size, 1, none⟩ = some (.int .u32 v.b) ∧ w'.cell? ⟨w.heap.size, 2, none⟩ = some (.int .u32 v.c) ∧ w'.cell? ⟨w.heap.size, 3, none⟩ = some (.int .u32 v.d))
      (first
        | (refine ⟨?_, cell_of (HA.out.at 1 rfl) 0, cell_of (HA.out.at 1 rfl) 1, cell_of (HA.out.at 1 rfl) 2, cell_of (HA.out.at 1 rfl) 3⟩; exact (World.cell?_of_block (HA.out.keeps.block g hl (fun h => h))).trans HX2.out)
        | (refine ⟨keep_words z2, ?_, ?_, ?_, ?_⟩ <;> go_keep)
        | go_keep)
      ((first
        | (go_at_call 37; refine (HC.out _).mono ?_; rintro e w3 ⟨rfl, hP, k3⟩; replace HA := Lib.hid (HA.out.none k3); have HP := Lib.hid (show w3.heap[w.heap.size + 1 + 1]? = some (.cells #[.int .i64 (m : Int)] 3 (0, 0)) from by simpa using hP); clear k3 hP)
        | (go_at_call 63; refine (HC1.out _ _ HP.out).mono ?_; rintro e w4 ⟨rfl, b4⟩; replace HA := Lib.hid (HA.out.none (Keeps.ofBelow b4)); have hg4 : w4.heap[g]? = some (.cells cur 106 (0, 0)) := HA.out.at 2 rfl; have y11 := (cell_of hg4 (o + 11)).trans (HX.out.1.cur 11 _ rfl); have f11 := free_of hg4 (o + 11); have y12 := (cell_of hg4 (o + 12)).trans (HX.out.1.cur 12 _ rfl); have f12 := free_of hg4 (o + 12); have y13 := (cell_of hg4 (o + 13)).trans (HX.out.1.cur 13 _ rfl); have f13 := free_of hg4 (o + 13); have y14 := (cell_of hg4 (o + 14)).trans (HX.out.1.cur 14 _ rfl); have f14 := free_of hg4 (o + 14); have hgb : w4.heap[w.heap.size]? = some (.cells v.cells 36 (0, 0)) := HA.out.at 1 rfl; have zb0 := cell_of hgb 0; have zb1 := cell_of hgb 1; have zb2 := cell_of hgb 2; have zb3 := cell_of hgb 3; have z2 := (World.cell?_of_block (a := ⟨g, o + 2, none⟩) (HA.out.keeps.block g hl (fun h => h))).trans HX2.out; simp only [List.getElem?_toArray, List.getElem?_cons_zero, List.getElem?_cons_succ] at zb0 zb1 zb2 zb3; clear b4 hg4 hgb)))
    have hg4 : w4.heap[g]? = some (.cells cur 106 (0, 0)) := HA.out.at 2 rfl
    have hr4 : w4.heap[w.heap.size + 1]? = some (.cells #[.int .i64 0, .int .u32 0, .int .u32 0, .int .u32 0, .int .u32 0] 41 (0, 0)) := by simpa using HA.out.at 0 rfl
    have hk4 : Keeps (fun j => j = g) w w4 := ⟨HA.out.keeps.os, HA.out.keeps.tape, HA.out.keeps.output, HA.out.keeps.size, fun k hk1 _ => HA.out.keeps.block k hk1 fun h => h⟩
    have HB5 := Lib.hid (show ((((w4.setCell ⟨g, o + 11, none⟩ (.int .u32 (clipP m 0 v.a))).setCell ⟨g, o + 11 + 1, none⟩ (.int .u32 (clipP m 1 v.b))).setCell ⟨g, o + 11 + 2, none⟩ (.int .u32 (clipP m 2 v.c))).setCell ⟨g, o + 11 + 3, none⟩ (.int .u32 (clipP m 3 v.d))).heap[g]? = some (.cells ((((cur.setIfInBounds (o + 11) (.int .u32 (v.clip m).a)).setIfInBounds (o + 12) (.int .u32 (v.clip m).b)).setIfInBounds (o + 13) (.int .u32 (v.clip m).c)).setIfInBounds (o + 14) (.int .u32 (v.clip m).d)) 106 (0, 0)) from heap_set (heap_set (heap_set (heap_set hg4 (o + 11) _) (o + 12) _) (o + 13) _) (o + 14) _)
    have HK5 := Lib.hid (show Keeps (fun j => j = g) w ((((w4.setCell ⟨g, o + 11, none⟩ (.int .u32 (clipP m 0 v.a))).setCell ⟨g, o + 11 + 1, none⟩ (.int .u32 (clipP m 1 v.b))).setCell ⟨g, o + 11 + 2, none⟩ (.int .u32 (clipP m 2 v.c))).setCell ⟨g, o + 11 + 3, none⟩ (.int .u32 (clipP m 3 v.d))) from (((hk4.setCell (p := ⟨g, o + 11, none⟩) (.inl rfl) _).setCell (p := ⟨g, o + 11 + 1, none⟩) (.inl rfl) _).setCell (p := ⟨g, o + 11 + 2, none⟩) (.inl rfl) _).setCell (p := ⟨g, o + 11 + 3, none⟩) (.inl rfl) _)
    have hr5 : ((((w4.setCell ⟨g, o + 11, none⟩ (.int .u32 (clipP m 0 v.a))).setCell ⟨g, o + 11 + 1, none⟩ (.int .u32 (clipP m 1 v.b))).setCell ⟨g, o + 11 + 2, none⟩ (.int .u32 (clipP m 2 v.c))).setCell ⟨g, o + 11 + 3, none⟩ (.int .u32 (clipP m 3 v.d))).heap[w.heap.size + 1]? = some (.cells #[.int .i64 0, .int .u32 0, .int .u32 0, .int .u32 0, .int .u32 0] 41 (0, 0)) := heap_other (heap_other (heap_other (heap_other hr4 hne3 _) hne3 _) hne3 _) hne3 _
    generalize ((((w4.setCell ⟨g, o + 11, none⟩ (.int .u32 (clipP m 0 v.a))).setCell ⟨g, o + 11 + 1, none⟩ (.int .u32 (clipP m 1 v.b))).setCell ⟨g, o + 11 + 2, none⟩ (.int .u32 (clipP m 2 v.c))).setCell ⟨g, o + 11 + 3, none⟩ (.int .u32 (clipP m 3 v.d))) = W5 at *
    have q0 := cell_of hr5 0
    have q1 := cell_of hr5 1
    have q2 := cell_of hr5 2
    have q3 := cell_of hr5 3
    have q4 := cell_of hr5 4
    have fq0 := free_of hr5 0
    have fq1 := free_of hr5 1
    have fq2 := free_of hr5 2
    have fq3 := free_of hr5 3
    have fq4 := free_of hr5 4
    simp only [List.getElem?_toArray, List.getElem?_cons_zero, List.getElem?_cons_succ] at q0 q1 q2 q3 q4
    clear y11 f11 y12 f12 y13 f13 y14 f14 zb0 zb1 zb2 zb3 z2 hg4 hr4 hk4
    go_wp2_with fail
    refine bodyPost_ret (v := .agg #[.int .i64 0, .int .u32 0, .int .u32 0, .int .u32 0, .int .u32 0]) (by simp [results, Tryz.results96, go_sem, q0, q1, q2, q3, q4]) rfl ⟨by rw [e2] <;> rfl, ?_⟩
    rw [e1]
    exact Became.words HX.out.1 (v.clip m) (((((HK5.out.setCell (p := ⟨w.heap.size + 1, 0, none⟩) (.inr (by show w.heap.size ≤ w.heap.size + 1; omega)) _).setCell (p := ⟨w.heap.size + 1, 1, none⟩) (.inr (by show w.heap.size ≤ w.heap.size + 1; omega)) _).setCell (p := ⟨w.heap.size + 1, 2, none⟩) (.inr (by show w.heap.size ≤ w.heap.size + 1; omega)) _).setCell (p := ⟨w.heap.size + 1, 3, none⟩) (.inr (by show w.heap.size ≤ w.heap.size + 1; omega)) _).setCell (p := ⟨w.heap.size + 1, 4, none⟩) (.inr (by show w.heap.size ≤ w.heap.size + 1; omega)) _) (heap_other (heap_other (heap_other (heap_other (heap_other HB5.out hne4 _) hne4 _) hne4 _) hne4 _) hne4 _)
end Go.Proofs.YtkhmfjfclpehfaaGreat
