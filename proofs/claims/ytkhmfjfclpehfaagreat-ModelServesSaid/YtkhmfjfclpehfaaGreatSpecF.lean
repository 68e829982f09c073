import Derived.Test.YtkhmfjfclpehfaaGreatItem
import Derived.Test.YtkhmfjfclpehfaaGreatSpecC
import Derived.BigRegion
namespace Go.Proofs.YtkhmfjfclpehfaaGreat
open Go.ChangeShapes Go.WideShapes Go.ChangeAt Go.RowKit
set_option linter.unusedVariables false
set_option linter.unusedSimpArgs false
/-- An item in its block has become another one. -/
def Became (w w' : World) (g o : Nat) (T : TypeId) (cur : Array Value) (a0 : Option Addr) (R0 : List W4) (x : ItemD) : Prop :=
  ∃ cur' a c, w'.heap[g]? = some (.cells cur' T (0, 0)) ∧ cur'.size = cur.size ∧ (∀ j, j < o ∨ o + 15 ≤ j → cur'[j]? = cur[j]?) ∧ ItemW w' g o cur' x a c ∧ Keeps (fun j => j = g) w w' ∧ ((a = a0 ∧ x.row = R0) ∨ ∀ b off, a = some ⟨b, off, none⟩ → w.heap.size ≤ b)
theorem Became.same {w w' : World} {g o : Nat} {T : TypeId} {cur : Array Value} {x : ItemD} {a : Option Addr} {c : Nat} (h : ItemW w g o cur x a c) (hb : w.heap[g]? = some (.cells cur T (0, 0))) (hk : Keeps (fun _ => False) w w') : Became w w' g o T cur a x.row x := by
  have hk' : Keeps (fun j => j = g) w w' := ⟨hk.os, hk.tape, hk.output, hk.size, fun k hk1 _ => hk.block k hk1 fun h => h⟩
  exact ⟨cur, a, c, hk.at hb fun h => h, rfl, fun _ _ => rfl, h.keeps hk' fun _ _ _ => rfl, hk', .inl ⟨rfl, rfl⟩⟩
def res0 (f : Int) : ResD := ⟨f, W4.zero⟩
def orW (x y : Nat) : Int := bits .or .u32 (x : Int) (y : Int)
def nandW (x y : Nat) : Int := bits .andNot .u32 (x : Int) (y : Int)
def resW (x : Int) : ResD := ⟨0, ⟨x, 0, 0, 0⟩⟩
/-- A call to flags. -/
def flagsP (x : ItemD) (p : Nat) (k : Int) (m : Nat) : ItemD × ResD :=
  if k = 7 then ({x with v := {x.v with a := orW p m}}, resW p)
  else if k = 8 then ({x with v := {x.v with a := nandW p m}}, resW p)
  else if k = 16 then (x, if holdsP 4 p m = true then resW p else res0 7)
  else if k = 17 then (x, if holdsP 5 p m = true then resW p else res0 7)
  else if k = 9 then (x, resW p)
  else (x, res0 12)
theorem setW {cur : Array Value} {o j : Nat} {L : List Value} (h : CurAt cur o L) (hj : j < L.length) (v : Value) : CurAt (cur.setIfInBounds (o + j) v) o (L.set j v) := by
  intro i u hu
  by_cases e : i = j
  · subst e
    rw [List.getElem?_set_self (by omega)] at hu
    obtain rfl := Option.some.inj hu
    have hs : o + i < cur.size := by
      have := h i _ (List.getElem?_eq_getElem hj)
      exact (Array.getElem?_eq_some_iff.1 this).1
    rw [Array.getElem?_setIfInBounds_self_of_lt hs]
  · rw [List.getElem?_set_ne (by omega)] at hu
    rw [Array.getElem?_setIfInBounds_ne (by omega)]
    exact h i u hu
/-- A word is written into an item. -/
theorem Became.word {w w' : World} {g o : Nat} {T : TypeId} {cur : Array Value} {x : ItemD} {a : Option Addr} {c : Nat} (h : ItemW w g o cur x a c) (y : Int) (hk : Keeps (fun j => j = g) w w') (hb : w'.heap[g]? = some (.cells (cur.setIfInBounds (o + 11) (.int .u32 y)) T (0, 0))) :
    Became w w' g o T cur a x.row {x with v := {x.v with a := y}} := by
  refine ⟨cur.setIfInBounds (o + 11) (.int .u32 y), a, c, hb, by simp, fun j hj => Array.getElem?_setIfInBounds_ne (by omega), ⟨setW h.cur (by show 11 < 15; omega) _, h.le, h.max, h.nil, fun hn => ?_, h.apart⟩, hk, .inl ⟨rfl, rfl⟩⟩
  obtain ⟨b, off, e, hl, hr⟩ := h.row hn
  refine ⟨b, off, e, Nat.lt_of_lt_of_le hl hk.size, fun k v hv j u hu => ?_⟩
  rw [World.cell?_of_block (a := ⟨b, off + k * 4 + j, none⟩) (hk.block b hl (h.apart hn b off e))]
  exact hr k v hv j u hu
set_option maxRecDepth 20000 in
set_option maxHeartbeats 4000000 in
theorem doFlags_any (w : World) (g o : Nat) (cur : Array Value) (x : ItemD) (a : Option Addr) (c : Nat) (p m : Nat) (k : Int) (hb : w.heap[g]? = some (.cells cur 106 (0, 0))) (hx : ItemW w g o cur x a c) (hp : x.v.a = (p : Int)) (hp1 : p < 4294967296) (hm : m < 4294967296) :
    Calls Tryz.prog 97 #[.pointer (some ⟨g, o, none⟩), .int .i64 k, .int .u32 (m : Int)] w fun e w' => e = .returned (.agg (flagsP x p k m).2.cells) ∧ Became w w' g o 106 cur a x.row (flagsP x p k m).1 := by
  have c0 : w.cell? ⟨g, o + 11, none⟩ = some (.int .u32 (p : Int)) := by rw [← hp]; exact hx.fifteen hb 11 _ rfl
  have f0 : w.frozen? ⟨g, o + 11, none⟩ = false := free_of hb _
  have hl := lt_of hb
  have HX := Lib.hid (And.intro hx hb)
  have HF := Lib.hid (show flagsP x p k m = if k = 7 then ({x with v := {x.v with a := orW p m}}, resW p) else if k = 8 then ({x with v := {x.v with a := nandW p m}}, resW p) else if k = 16 then (x, if holdsP 4 p m = true then resW p else res0 7) else if k = 17 then (x, if holdsP 5 p m = true then resW p else res0 7) else if k = 9 then (x, resW p) else (x, res0 12) from rfl)
  have HA := Lib.hid ((Has.start w).alloc (.cells #[.int .i64 0, .int .u32 0, .int .u32 0, .int .u32 0, .int .u32 0] 41))
  generalize hz : flagsP x p k m = z at *
  clear hz hb hx hp
  by_cases h7 : k = 7
  · subst h7
    rw [if_pos rfl] at HF
    obtain ⟨z1, z2⟩ := z
    obtain ⟨e1, e2⟩ := Prod.mk.inj HF.out
    go_enter Tryz.func97, Tryz.ntmps97
    go_wp2_with fail
    go_region
    go_wp2_with fail
    refine bodyPost_ret (v := .agg #[.int .i64 0, .int .u32 (p : Int), .int .u32 0, .int .u32 0, .int .u32 0]) (by simp [results, Tryz.results97, go_sem]) rfl ⟨by rw [e2]; rfl, ?_⟩
    rw [e1]
    exact Became.word HX.out.1 (orW p m) ((((Keeps.refl (fun j => j = g) w).setCell (p := ⟨g, o + 11, none⟩) (.inl rfl) _).alloc _).drew) (heap_old (heap_set HX.out.2 _ _) _)
  have e7' : (k == 7) = false := by simpa using h7
  rw [if_neg h7] at HF
  clear h7
  by_cases h8 : k = 8
  · subst h8
    rw [if_pos rfl] at HF
    obtain ⟨z1, z2⟩ := z
    obtain ⟨e1, e2⟩ := Prod.mk.inj HF.out
    go_enter Tryz.func97, Tryz.ntmps97
    go_wp2_with fail
    go_region
    go_wp2_with fail
    refine bodyPost_ret (v := .agg #[.int .i64 0, .int .u32 (p : Int), .int .u32 0, .int .u32 0, .int .u32 0]) (by simp [results, Tryz.results97, go_sem]) rfl ⟨by rw [e2]; rfl, ?_⟩
    rw [e1]
    exact Became.word HX.out.1 (nandW p m) ((((Keeps.refl (fun j => j = g) w).setCell (p := ⟨g, o + 11, none⟩) (.inl rfl) _).alloc _).drew) (heap_old (heap_set HX.out.2 _ _) _)
  have e8' : (k == 8) = false := by simpa using h8
  rw [if_neg h8] at HF
  clear h8
  by_cases h16 : k = 16
  · subst h16
    rw [if_pos rfl] at HF
    have HH := Lib.hid (fun w => holds_any w 4 (by omega) p m hp1 hm)
    generalize holdsP 4 p m = q at *
    cases q
    · rw [if_neg (by simp)] at HF
      obtain ⟨z1, z2⟩ := z
      obtain ⟨e1, e2⟩ := Prod.mk.inj HF.out
      go_enter Tryz.func97, Tryz.ntmps97
      go_wp2_with fail
      refine (HH.out _).mono ?_
      rintro e w1 ⟨rfl, k1⟩
      replace HA := Lib.hid (HA.out.none k1)
      have hA := HA.out.at 0 rfl
      have q0 := cell_of hA 0
      have q1 := cell_of hA 1
      have q2 := cell_of hA 2
      have q3 := cell_of hA 3
      have q4 := cell_of hA 4
      have fq0 := free_of hA 0
      have fq1 := free_of hA 1
      have fq2 := free_of hA 2
      have fq3 := free_of hA 3
      have fq4 := free_of hA 4
      simp at q0 q1 q2 q3 q4
      clear k1 hA HH
      go_wp2_with fail
      refine bodyPost_ret (v := .agg #[.int .i64 7, .int .u32 0, .int .u32 0, .int .u32 0, .int .u32 0]) (by simp [results, Tryz.results97, go_sem, q0, q1, q2, q3, q4]) rfl ⟨by rw [e2]; rfl, ?_⟩
      rw [e1]
      exact Became.same HX.out.1 HX.out.2 (((((HA.out.keeps.setNew 0).setNew 1).setNew 2).setNew 3).setNew 4)
    · rw [if_pos rfl] at HF
      obtain ⟨z1, z2⟩ := z
      obtain ⟨e1, e2⟩ := Prod.mk.inj HF.out
      go_enter Tryz.func97, Tryz.ntmps97
      go_wp2_with fail
      refine (HH.out _).mono ?_
      rintro e w1 ⟨rfl, k1⟩
      replace HA := Lib.hid (HA.out.none k1)
      have hA := HA.out.at 0 rfl
      have q0 := cell_of hA 0
      have q1 := cell_of hA 1
      have q2 := cell_of hA 2
      have q3 := cell_of hA 3
      have q4 := cell_of hA 4
      have fq0 := free_of hA 0
      have fq1 := free_of hA 1
      have fq2 := free_of hA 2
      have fq3 := free_of hA 3
      have fq4 := free_of hA 4
      simp at q0 q1 q2 q3 q4
      clear k1 hA HH
      go_wp2_with fail
      refine bodyPost_ret (v := .agg #[.int .i64 0, .int .u32 (p : Int), .int .u32 0, .int .u32 0, .int .u32 0]) (by simp [results, Tryz.results97, go_sem, q0, q1, q2, q3, q4]) rfl ⟨by rw [e2]; rfl, ?_⟩
      rw [e1]
      exact Became.same HX.out.1 HX.out.2 (((((HA.out.keeps.setNew 0).setNew 1).setNew 2).setNew 3).setNew 4)
  have e16' : (k == 16) = false := by simpa using h16
  rw [if_neg h16] at HF
  clear h16
  by_cases h17 : k = 17
  · subst h17
    rw [if_pos rfl] at HF
    have HH := Lib.hid (fun w => holds_any w 5 (by omega) p m hp1 hm)
    generalize holdsP 5 p m = q at *
    cases q
    · rw [if_neg (by simp)] at HF
      obtain ⟨z1, z2⟩ := z
      obtain ⟨e1, e2⟩ := Prod.mk.inj HF.out
      go_enter Tryz.func97, Tryz.ntmps97
      go_wp2_with fail
      refine (HH.out _).mono ?_
      rintro e w1 ⟨rfl, k1⟩
      replace HA := Lib.hid (HA.out.none k1)
      have hA := HA.out.at 0 rfl
      have q0 := cell_of hA 0
      have q1 := cell_of hA 1
      have q2 := cell_of hA 2
      have q3 := cell_of hA 3
      have q4 := cell_of hA 4
      have fq0 := free_of hA 0
      have fq1 := free_of hA 1
      have fq2 := free_of hA 2
      have fq3 := free_of hA 3
      have fq4 := free_of hA 4
      simp at q0 q1 q2 q3 q4
      clear k1 hA HH
      go_wp2_with fail
      refine bodyPost_ret (v := .agg #[.int .i64 7, .int .u32 0, .int .u32 0, .int .u32 0, .int .u32 0]) (by simp [results, Tryz.results97, go_sem, q0, q1, q2, q3, q4]) rfl ⟨by rw [e2]; rfl, ?_⟩
      rw [e1]
      exact Became.same HX.out.1 HX.out.2 (((((HA.out.keeps.setNew 0).setNew 1).setNew 2).setNew 3).setNew 4)
    · rw [if_pos rfl] at HF
      obtain ⟨z1, z2⟩ := z
      obtain ⟨e1, e2⟩ := Prod.mk.inj HF.out
      go_enter Tryz.func97, Tryz.ntmps97
      go_wp2_with fail
      refine (HH.out _).mono ?_
      rintro e w1 ⟨rfl, k1⟩
      replace HA := Lib.hid (HA.out.none k1)
      have hA := HA.out.at 0 rfl
      have q0 := cell_of hA 0
      have q1 := cell_of hA 1
      have q2 := cell_of hA 2
      have q3 := cell_of hA 3
      have q4 := cell_of hA 4
      have fq0 := free_of hA 0
      have fq1 := free_of hA 1
      have fq2 := free_of hA 2
      have fq3 := free_of hA 3
      have fq4 := free_of hA 4
      simp at q0 q1 q2 q3 q4
      clear k1 hA HH
      go_wp2_with fail
      refine bodyPost_ret (v := .agg #[.int .i64 0, .int .u32 (p : Int), .int .u32 0, .int .u32 0, .int .u32 0]) (by simp [results, Tryz.results97, go_sem, q0, q1, q2, q3, q4]) rfl ⟨by rw [e2]; rfl, ?_⟩
      rw [e1]
      exact Became.same HX.out.1 HX.out.2 (((((HA.out.keeps.setNew 0).setNew 1).setNew 2).setNew 3).setNew 4)
  have e17' : (k == 17) = false := by simpa using h17
  rw [if_neg h17] at HF
  clear h17
  by_cases h9 : k = 9
  · subst h9
    rw [if_pos rfl] at HF
    obtain ⟨z1, z2⟩ := z
    obtain ⟨e1, e2⟩ := Prod.mk.inj HF.out
    go_enter Tryz.func97, Tryz.ntmps97
    go_wp2_with fail
    refine bodyPost_ret (v := .agg #[.int .i64 0, .int .u32 (p : Int), .int .u32 0, .int .u32 0, .int .u32 0]) (by simp [results, Tryz.results97, go_sem]) rfl ⟨by rw [e2]; rfl, ?_⟩
    rw [e1]
    exact Became.same HX.out.1 HX.out.2 ((Keeps.refl _ w).alloc _)
  have e9' : (k == 9) = false := by simpa using h9
  rw [if_neg h9] at HF
  clear h9
  obtain ⟨z1, z2⟩ := z
  obtain ⟨e1, e2⟩ := Prod.mk.inj HF.out
  go_enter Tryz.func97, Tryz.ntmps97
  go_wp2_with fail
  refine bodyPost_ret (v := .agg #[.int .i64 12, .int .u32 0, .int .u32 0, .int .u32 0, .int .u32 0]) (by simp [results, Tryz.results97, go_sem]) rfl ⟨by rw [e2]; rfl, ?_⟩
  rw [e1]
  exact Became.same HX.out.1 HX.out.2 ((Keeps.refl _ w).alloc _)
end Go.Proofs.YtkhmfjfclpehfaaGreat
