import Derived.Test.YtkhmfjfclpehfaaGreatOpAz
import Derived.Laws.AppendOwn
import Derived.WalkSpells
import Derived.Test.YtkhmfjfclpehfaaGreatConfGz
import Derived.Test.YtkhmfjfclpehfaaGreatBaseZ
import Derived.BigRegion
namespace Go.Proofs.YtkhmfjfclpehfaaGreat
open Go.ChangeShapes Go.WideShapes Go.ChangeAt Go.RowKit
set_option linter.unusedVariables false
set_option linter.unusedSimpArgs false
theorem item_len (x : ItemD) (a : Option Addr) (n c : Nat) : (x.l a n c).length = 15 := rfl
theorem item_one (x : ItemD) (a : Option Addr) (n c : Nat) : ∀ u ∈ x.l a n c, u.oneCell' = true := by
  intro u hu
  simp at hu
  rcases hu with rfl | rfl | rfl | rfl | rfl | rfl | rfl | rfl | rfl | rfl | rfl | rfl | rfl | rfl | rfl <;> rfl
theorem state_cells {w : World} {g : Nat} {L : List ItemD} (h : StateAt w g L) : ∃ cs : List Value, cs.length = L.length * 15 ∧ (∀ j u, cs[j]? = some u → w.cell? ⟨g, j, none⟩ = some u) ∧ (∀ u ∈ cs, u.oneCell' = true) := by
  obtain ⟨F, hF⟩ := Deep.choose_lt (n := L.length * 15) (p := fun j (u : Value) => w.cell? ⟨g, j, none⟩ = some u ∧ u.oneCell' = true) (fun j hj => by
    obtain ⟨x, hx⟩ : ∃ x, L[j / 15]? = some x := ⟨_, List.getElem?_eq_getElem (by omega)⟩
    obtain ⟨a, c, hr, _⟩ := h.at' _ x hx
    obtain ⟨u, hu⟩ : ∃ u, (x.l a x.row.length c)[j % 15]? = some u := ⟨_, List.getElem?_eq_getElem (by rw [item_len]; omega)⟩
    have := hr _ u hu
    rw [show j / 15 * 15 + j % 15 = j by omega] at this
    exact ⟨u, this, item_one _ _ _ _ u (List.mem_of_getElem? hu)⟩)
  refine ⟨(List.range (L.length * 15)).map F, by simp, fun j u hu => ?_, fun u hu => ?_⟩
  · rw [List.getElem?_map] at hu
    obtain ⟨i, hi, rfl⟩ := Option.map_eq_some_iff.1 hu
    have hlt : j < L.length * 15 := by
      rcases Nat.lt_or_ge j (L.length * 15) with h1 | h1
      · exact h1
      · rw [List.getElem?_eq_none (by simpa using h1)] at hi; cases hi
    rw [List.getElem?_range hlt] at hi
    obtain rfl := Option.some.inj hi
    exact (hF _ hlt).1
  · obtain ⟨i, hi, rfl⟩ := List.mem_map.1 hu
    exact (hF i (List.mem_range.1 hi)).2
theorem state_own {w w' : World} {g B : Nat} {T : TypeId} {L : List ItemD} {cs : List Value} {v : Value} (h : StateAt w g L) (hl : cs.length = L.length * 15) (hc : ∀ j u, cs[j]? = some u → w.cell? ⟨g, j, none⟩ = some u)
    (hb : Below w.heap.size w w') (hB : w.heap.size ≤ B) (ho : w'.ownsRow B T 15 v L.length cs) (hp : v ≠ .slice none 0 0) :
    ∃ g' cap cur, v = .slice (some ⟨g', 0, none⟩) L.length cap ∧ B ≤ g' ∧ w'.heap[g']? = some (.cells cur T (0, 0)) ∧ L.length * 15 ≤ cur.size ∧ ∀ k x, L[k]? = some x → ∃ a c, ItemW w' g' (k * 15) cur x a c ∧ w.rangeAt g (k * 15) (x.l a x.row.length c) := by
  rcases ho.2 with ⟨h0, _⟩ | ⟨g', cap, cur, rfl, hg, hcur, hn, hm, hs, ht⟩
  · exact absurd h0 hp
  have hsz : L.length * 15 ≤ cur.size := by rw [hs]; exact Nat.mul_le_mul_right 15 hn
  refine ⟨g', cap, cur, rfl, hg, hcur, hsz, fun k x hk => ?_⟩
  have hkl : k < L.length := (List.getElem?_eq_some_iff.1 hk).1
  obtain ⟨a, c, hr, h2, h3, h4, h5⟩ := h.at' k x hk
  refine ⟨a, c, ⟨fun j u hu => ?_, h2, h3, h4, h5.below hb, fun hn b off e => ?_⟩, hr⟩
  · have hj : j < 15 := by
      rcases Nat.lt_or_ge j 15 with h1 | h1
      · exact h1
      · rw [List.getElem?_eq_none (by show 15 ≤ j; exact h1)] at hu; cases hu
    have hlt : k * 15 + j < L.length * 15 := by omega
    obtain ⟨y, hy⟩ : ∃ y, cs[k * 15 + j]? = some y := ⟨_, List.getElem?_eq_getElem (by rw [hl]; exact hlt)⟩
    have e1 := (hc _ y hy).symm.trans (hr j u hu)
    have e2 : (cur.toList.take (L.length * 15))[k * 15 + j]? = some y := by rw [ht]; exact hy
    rw [List.getElem?_take, if_pos hlt] at e2
    obtain rfl := Option.some.inj e1
    simpa using e2
  · obtain ⟨b', off', e', hl', _⟩ := h5 hn
    rw [e] at e'
    cases e'
    omega
theorem state_bound {w W : World} {g k : Nat} {L : List ItemD} {x : ItemD} {a : Option Addr} {c b off : Nat} (h : StateAt w g L) (hb : Below w.heap.size w W) (hk : L[k]? = some x) (hr : W.rangeAt g (k * 15) (x.l a x.row.length c)) (hp : 0 < x.row.length) (ha : a = some ⟨b, off, none⟩) : b < w.heap.size := by
  obtain ⟨a', c', hr', _, _, _, h5⟩ := h.at' k x hk
  have e1 := hr 10 _ rfl
  have e2 := (hb.cell (p := ⟨g, k * 15 + 10, none⟩) h.lt).trans (hr' 10 _ rfl)
  rw [e1] at e2
  cases e2
  obtain ⟨b', off', e', hl', _⟩ := h5 hp
  rw [ha] at e'
  cases e'
  exact hl'
theorem info_item : (Tryz.prog.info? 106).map (fun i => (i.zero, i.size, i.bytes)) = some (some (.agg #[.int .i64 0, .int .i64 0, .int .i64 0, .int .i64 0, .int .i64 0, .int .i64 0, .int .u32 0, .int .u32 0, .int .u32 0, .int .u32 0, .slice none 0 0, .int .u32 0, .int .u32 0, .int .u32 0, .int .u32 0]), 15, 104) := by kernel_rfl
theorem clone_any (w : World) (g c : Nat) (L : List ItemD) (h : StateAt w g L) (hn : L.length ≤ 1000) :
    Calls Tryz.prog 69 #[.slice (some ⟨g, 0, none⟩) L.length c] w fun e w' => Below w.heap.size w w' ∧ ∃ g' cap cur, e = .returned (.slice (some ⟨g', 0, none⟩) L.length cap) ∧ w.heap.size ≤ g' ∧ w'.heap[g']? = some (.cells cur 106 (0, 0)) ∧ L.length * 15 ≤ cur.size ∧ ∀ k x, L[k]? = some x → ∃ a c, ItemW w' g' (k * 15) cur x a c ∧ w.rangeAt g (k * 15) (x.l a x.row.length c) := by
  obtain ⟨cs, hl, hc, h1⟩ := state_cells h
  have HH := Lib.hid h
  have HC := Lib.hid (And.intro hl (And.intro hc h1))
  have HB := Lib.hid (show Below w.heap.size w (w.alloc (.cells #[] 106)) from (Below.refl _ w).alloc (Nat.le_refl _) _)
  have HCA := Lib.hid (show ∀ (j : Nat) (u : Value), cs[j]? = some u → (w.alloc (.cells #[] 106)).cell? ((⟨g, 0, none⟩ : Addr).add j) = some u from fun j u hu => by
    rw [show (⟨g, 0, none⟩ : Addr).add j = ⟨g, j, none⟩ by unfold Addr.add; split <;> simp_all]
    exact (HB.out.cell (p := ⟨g, j, none⟩) h.lt).trans (hc j u hu))
  obtain ⟨i0, hi, hz0, hz1, hz2⟩ := info_parts info_item
  have HO := Lib.hid (show (w.alloc (.cells #[] 106)).ownsRow w.heap.size 106 15 (.slice (some ⟨w.heap.size, 0, none⟩) 0 0) 0 [] from w.ownsRow_made #[] 0 (Nat.le_refl _) (by unfold maxLen; omega) rfl)
  have hnil : ∀ (n : Nat) (w : World), (binOp .eql 73 (.slice (some ⟨g, 0, none⟩) n c) (.slice none 0 0)).run Tryz.prog w = .ok (.bool false) w := fun n w => Lib.run_eql_slice_nil w 73 _ (some ⟨g, 0, none⟩) n c 0 0 Tryz.underlying73
  obtain ⟨n, hne⟩ : ∃ n, L.length = n := ⟨_, rfl⟩
  have HN := Lib.hid hne
  rw [hne] at hn ⊢
  clear h hl hc h1 hne
  go_enter Tryz.func69, Tryz.ntmps69
  go_wp2_with (at_builtin; refine wpList_append_own _ rfl (.tmp 5) (.tmp 6) 73 rfl w.heap.size 106 i0 _ 15 104 Tryz.underlying73 hi hz0 hz1 hz2 rfl (by decide) (.slice (some ⟨w.heap.size, 0, none⟩) 0 0) 0 [] rfl HO.out ⟨g, 0, none⟩ n c cs rfl (by rw [HC.out.1, HN.out]) HCA.out HC.out.2.2 (by unfold maxLen; omega) (by omega) (by simp) ?_; intro v w2 how hgr hk)
  have hv : v ≠ .slice none 0 0 := fun e => by simpa using (hk.1 e).1
  have hb2 := HB.out.grown hgr HB.out.size fun k hk => by simp [Value.ownBlock] at hk; omega
  obtain ⟨g', cap, cur, rfl, h1, h2, h3, h4⟩ := state_own HH.out HC.out.1 HC.out.2.1 hb2 (Nat.le_refl _) (by rw [HN.out]; simpa using how) hv
  go_ret
  exact ⟨hb2, g', cap, cur, congrArg (fun z => Ending.returned (.slice (some ⟨g', 0, none⟩) z cap)) HN.out, h1, h2, by rw [← HN.out]; exact h3, h4⟩
end Go.Proofs.YtkhmfjfclpehfaaGreat
namespace Go.Proofs.YtkhmfjfclpehfaaGreat
open Go.ChangeShapes Go.WideShapes Go.ChangeAt Go.RowKit
set_option linter.unusedVariables false
set_option linter.unusedSimpArgs false
theorem kindOf_any (w : World) (o oi : Nat → Int) (hb : i64B (o 1)) : Calls Tryz.prog 36 #[.agg (objC o oi)] w fun e w' => e = .returned (.int .i64 (kindP o)) ∧ Keeps (fun _ => False) w w' := by
  have HR := Lib.hid (fun w => right_any o oi w hb)
  have HB := Lib.hid ((Has.start w).alloc (.cells (objC o oi) 87))
  have HK := Lib.hid (show kindP o = if rightS o = true then o 0 else 0 from rfl)
  generalize rightS o = b at *
  generalize hx : kindP o = x at *
  clear hx hb
  cases b
  · go_enter Tryz.func36, Tryz.ntmps36
    go_wp2_with fail
    refine (HR.out _).mono ?_
    rintro e w1 ⟨rfl, k1⟩
    replace HB := Lib.hid (HB.out.none k1)
    clear k1
    go_wp2_with fail
    go_ret
    exact ⟨by rw [HK.out]; rfl, HB.out.keeps⟩
  · go_enter Tryz.func36, Tryz.ntmps36
    go_wp2_with fail
    refine (HR.out _).mono ?_
    rintro e w1 ⟨rfl, k1⟩
    replace HB := Lib.hid (HB.out.none k1)
    have c0 : w1.cell? ⟨w.heap.size, 0, none⟩ = some (.int .i64 (o 0)) := cell_of (HB.out.at 0 rfl) 0
    clear k1
    go_wp2_with fail
    go_ret
    exact ⟨by rw [HK.out]; rfl, HB.out.keeps⟩
theorem clip_any (w : World) (m : Int) : Calls Tryz.prog 37 #[.int .i64 m] w fun e w' => e = .returned (.func (.func 63) #[] #[.pointer (some ⟨w.heap.size, 0, none⟩)]) ∧ w'.heap[w.heap.size]? = some (.cells #[.int .i64 m] 3 (0, 0)) ∧ Keeps (fun _ => False) w w' := by
  have HB := Lib.hid ((Has.start w).alloc (.cells #[.int .i64 m] 3))
  go_enter Tryz.func37, Tryz.ntmps37
  go_wp2_with fail
  go_ret
  exact ⟨rfl, HB.out.at 0 rfl, HB.out.keeps⟩
end Go.Proofs.YtkhmfjfclpehfaaGreat
namespace Go.Proofs.YtkhmfjfclpehfaaGreat
open Go.ChangeShapes Go.WideShapes Go.ChangeAt Go.RowKit
set_option linter.unusedVariables false
set_option linter.unusedSimpArgs false
def holdsP (k : Int) (x y : Nat) : Bool := if k = 4 then (x &&& y) != 0 else (x &&& y) == y
theorem nat_beq (a b : Nat) : (((a : Nat) : Int) == ((b : Nat) : Int)) = (a == b) := by
  rw [Bool.eq_iff_iff, beq_iff_eq, beq_iff_eq]
  omega
theorem has_any (w : World) (P x y : Nat) (hx : x < 4294967296) (hy : y < 4294967296) (hP : w.cell? ⟨P, 0, none⟩ = some (.int .u32 (x : Int))) :
    Calls Tryz.prog 117 #[.int .u32 (y : Int), .pointer (some ⟨P, 0, none⟩)] w fun e w' => e = .returned (.bool ((x &&& y) == y)) ∧ w' = w := by
  have e : bits .and .u32 (x : Int) (y : Int) = ((x &&& y : Nat) : Int) := u32_and_nat _ _ hx hy
  have HE := Lib.hid ((congrArg (fun z : Int => z == (y : Int)) e).trans (nat_beq (x &&& y) y))
  clear e
  go_enter Tryz.func117, Tryz.ntmps117
  go_wp2_with fail
  go_ret
  exact ⟨ret_bool HE.out, rfl⟩
theorem holds_any (w : World) (k : Int) (hk : k = 4 ∨ k = 5) (x y : Nat) (hx : x < 4294967296) (hy : y < 4294967296) :
    Calls Tryz.prog 112 #[.int .i64 k, .int .u32 (x : Int), .int .u32 (y : Int)] w fun e w' => e = .returned (.bool (holdsP k x y)) ∧ Keeps (fun _ => False) w w' := by
  have e : bits .and .u32 (x : Int) (y : Int) = ((x &&& y : Nat) : Int) := u32_and_nat _ _ hx hy
  have HK := Lib.hid ((Keeps.refl (fun _ => False) w).alloc (.cells #[.int .u32 (x : Int)] 34))
  have c0 : (w.alloc (.cells #[.int .u32 (x : Int)] 34)).cell? ⟨w.heap.size, 0, none⟩ = some (.int .u32 (x : Int)) := cell_of (heap_new w _) 0
  have HH := Lib.hid (has_any _ w.heap.size x y hx hy c0)
  clear c0
  rcases hk with rfl | rfl
  · have HE := Lib.hid (show (bits .and .u32 (x : Int) (y : Int) != 0) = holdsP 4 x y by
      show (!(bits .and .u32 (x : Int) (y : Int) == 0)) = _
      rw [e]
      have h := nat_beq (x &&& y) 0
      show (!(((x &&& y : Nat) : Int) == ((0 : Nat) : Int))) = _
      rw [h]
      rfl)
    clear e HH
    go_enter Tryz.func112, Tryz.ntmps112
    go_wp2_with fail
    go_ret
    exact ⟨ret_bool HE.out, HK.out⟩
  · clear e
    go_enter Tryz.func112, Tryz.ntmps112
    go_wp2_with fail
    refine HH.out.mono ?_
    rintro e1 w1 ⟨rfl, rfl⟩
    go_wp2_with fail
    go_ret
    exact ⟨rfl, HK.out⟩
end Go.Proofs.YtkhmfjfclpehfaaGreat
namespace Go.Proofs.YtkhmfjfclpehfaaGreat
open Go.ChangeShapes Go.WideShapes Go.ChangeAt Go.RowKit
set_option linter.unusedVariables false
set_option linter.unusedSimpArgs false
def Became (w w' : World) (g o : Nat) (T : TypeId) (cur : Array Value) (a0 : Option Addr) (R0 : List W4) (x : ItemD) : Prop :=
  ∃ cur' a c, w'.heap[g]? = some (.cells cur' T (0, 0)) ∧ cur'.size = cur.size ∧ (∀ j, j < o ∨ o + 15 ≤ j → cur'[j]? = cur[j]?) ∧ ItemW w' g o cur' x a c ∧ Keeps (fun j => j = g) w w' ∧ ((a = a0 ∧ x.row = R0) ∨ ∀ b off, a = some ⟨b, off, none⟩ → w.heap.size ≤ b)
theorem Became.same {w w' : World} {g o : Nat} {T : TypeId} {cur : Array Value} {x : ItemD} {a : Option Addr} {c : Nat} (h : ItemW w g o cur x a c) (hb : w.heap[g]? = some (.cells cur T (0, 0))) (hk : Keeps (fun _ => False) w w') : Became w w' g o T cur a x.row x := by
  have hk' : Keeps (fun j => j = g) w w' := ⟨hk.os, hk.tape, hk.output, hk.size, fun k hk1 _ => hk.block k hk1 fun h => h⟩
  exact ⟨cur, a, c, hk.at hb fun h => h, rfl, fun _ _ => rfl, h.keeps hk' fun _ _ _ => rfl, hk', .inl ⟨rfl, rfl⟩⟩
def res0 (f : Int) : ResD := ⟨f, W4.zero⟩
def orW (x y : Nat) : Int := bits .or .u32 (x : Int) (y : Int)
def nandW (x y : Nat) : Int := bits .andNot .u32 (x : Int) (y : Int)
def resW (x : Int) : ResD := ⟨0, ⟨x, 0, 0, 0⟩⟩
def flagsP (x : ItemD) (p : Nat) (k : Int) (m : Nat) : ItemD × ResD :=
  if k = 7 then ({x with v := {x.v with a := orW p m}}, resW p)
  else if k = 8 then ({x with v := {x.v with a := nandW p m}}, resW p)
  else if k = 16 then (x, if holdsP 4 p m = true then resW p else res0 7)
  else if k = 17 then (x, if holdsP 5 p m = true then resW p else res0 7)
  else if k = 9 then (x, resW p)
  else (x, res0 12)
theorem setW {cur : Array Value} {o j : Nat} {L : List Value} (h : CurAt cur o L) (hj : j < L.length) (v : Value) : CurAt (cur.setIfInBounds (o + j) v) o (L.set j v) := by
  intro i u hu
  by_cases e : i = j
  · subst e
    rw [List.getElem?_set_self (by omega)] at hu
    obtain rfl := Option.some.inj hu
    have hs : o + i < cur.size := by
      have := h i _ (List.getElem?_eq_getElem hj)
      exact (Array.getElem?_eq_some_iff.1 this).1
    rw [Array.getElem?_setIfInBounds_self_of_lt hs]
  · rw [List.getElem?_set_ne (by omega)] at hu
    rw [Array.getElem?_setIfInBounds_ne (by omega)]
    exact h i u hu
theorem Became.word {w w' : World} {g o : Nat} {T : TypeId} {cur : Array Value} {x : ItemD} {a : Option Addr} {c : Nat} (h : ItemW w g o cur x a c) (y : Int) (hk : Keeps (fun j => j = g) w w') (hb : w'.heap[g]? = some (.cells (cur.setIfInBounds (o + 11) (.int .u32 y)) T (0, 0))) :
    Became w w' g o T cur a x.row {x with v := {x.v with a := y}} := by
  refine ⟨cur.setIfInBounds (o + 11) (.int .u32 y), a, c, hb, by simp, fun j hj => Array.getElem?_setIfInBounds_ne (by omega), ⟨setW h.cur (by show 11 < 15; omega) _, h.le, h.max, h.nil, fun hn => ?_, h.apart⟩, hk, .inl ⟨rfl, rfl⟩⟩
  obtain ⟨b, off, e, hl, ht, hr⟩ := h.row hn
  refine ⟨b, off, e, Nat.lt_of_lt_of_le hl hk.size, ht.eq (hk.block b hl (h.apart hn b off e)), fun k v hv j u hu => ?_⟩
  rw [World.cell?_of_block (a := ⟨b, off + k * 4 + j, none⟩) (hk.block b hl (h.apart hn b off e))]
  exact hr k v hv j u hu
set_option maxRecDepth 20000 in
set_option maxHeartbeats 4000000 in
theorem doFlags_any (w : World) (g o : Nat) (cur : Array Value) (x : ItemD) (a : Option Addr) (c : Nat) (p m : Nat) (k : Int) (hb : w.heap[g]? = some (.cells cur 106 (0, 0))) (hx : ItemW w g o cur x a c) (hp : x.v.a = (p : Int)) (hp1 : p < 4294967296) (hm : m < 4294967296) :
    Calls Tryz.prog 97 #[.pointer (some ⟨g, o, none⟩), .int .i64 k, .int .u32 (m : Int)] w fun e w' => e = .returned (.agg (flagsP x p k m).2.cells) ∧ Became w w' g o 106 cur a x.row (flagsP x p k m).1 := by
  have c0 : w.cell? ⟨g, o + 11, none⟩ = some (.int .u32 (p : Int)) := by rw [← hp]; exact hx.fifteen hb 11 _ rfl
  have f0 : w.frozen? ⟨g, o + 11, none⟩ = false := free_of hb _
  have hl := lt_of hb
  have HX := Lib.hid (And.intro hx hb)
  have HF := Lib.hid (show flagsP x p k m = if k = 7 then ({x with v := {x.v with a := orW p m}}, resW p) else if k = 8 then ({x with v := {x.v with a := nandW p m}}, resW p) else if k = 16 then (x, if holdsP 4 p m = true then resW p else res0 7) else if k = 17 then (x, if holdsP 5 p m = true then resW p else res0 7) else if k = 9 then (x, resW p) else (x, res0 12) from rfl)
  have HA := Lib.hid ((Has.start w).alloc (.cells #[.int .i64 0, .int .u32 0, .int .u32 0, .int .u32 0, .int .u32 0] 41))
  generalize hz : flagsP x p k m = z at *
  clear hz hb hx hp
  by_cases h7 : k = 7
  · subst h7
    rw [if_pos rfl] at HF
    obtain ⟨z1, z2⟩ := z
    obtain ⟨e1, e2⟩ := Prod.mk.inj HF.out
    go_enter Tryz.func97, Tryz.ntmps97
    go_wp2_with fail
    go_region
    go_wp2_with fail
    refine bodyPost_ret (v := .agg #[.int .i64 0, .int .u32 (p : Int), .int .u32 0, .int .u32 0, .int .u32 0]) (by simp [results, Tryz.results97, go_sem]) rfl ⟨by rw [e2]; rfl, ?_⟩
    rw [e1]
    exact Became.word HX.out.1 (orW p m) ((((Keeps.refl (fun j => j = g) w).setCell (p := ⟨g, o + 11, none⟩) (.inl rfl) _).alloc _).drew) (heap_old (heap_set HX.out.2 _ _) _)
  have e7' : (k == 7) = false := by simpa using h7
  rw [if_neg h7] at HF
  clear h7
  by_cases h8 : k = 8
  · subst h8
    rw [if_pos rfl] at HF
    obtain ⟨z1, z2⟩ := z
    obtain ⟨e1, e2⟩ := Prod.mk.inj HF.out
    go_enter Tryz.func97, Tryz.ntmps97
    go_wp2_with fail
    go_region
    go_wp2_with fail
    refine bodyPost_ret (v := .agg #[.int .i64 0, .int .u32 (p : Int), .int .u32 0, .int .u32 0, .int .u32 0]) (by simp [results, Tryz.results97, go_sem]) rfl ⟨by rw [e2]; rfl, ?_⟩
    rw [e1]
    exact Became.word HX.out.1 (nandW p m) ((((Keeps.refl (fun j => j = g) w).setCell (p := ⟨g, o + 11, none⟩) (.inl rfl) _).alloc _).drew) (heap_old (heap_set HX.out.2 _ _) _)
  have e8' : (k == 8) = false := by simpa using h8
  rw [if_neg h8] at HF
  clear h8
  by_cases h16 : k = 16
  · subst h16
    rw [if_pos rfl] at HF
    have HH := Lib.hid (fun w => holds_any w 4 (by omega) p m hp1 hm)
    generalize holdsP 4 p m = q at *
    cases q
    · rw [if_neg (by simp)] at HF
      obtain ⟨z1, z2⟩ := z
      obtain ⟨e1, e2⟩ := Prod.mk.inj HF.out
      go_enter Tryz.func97, Tryz.ntmps97
      go_wp2_with fail
      refine (HH.out _).mono ?_
      rintro e w1 ⟨rfl, k1⟩
      replace HA := Lib.hid (HA.out.none k1)
      have hA := HA.out.at 0 rfl
      have q0 := cell_of hA 0
      have q1 := cell_of hA 1
      have q2 := cell_of hA 2
      have q3 := cell_of hA 3
      have q4 := cell_of hA 4
      have fq0 := free_of hA 0
      have fq1 := free_of hA 1
      have fq2 := free_of hA 2
      have fq3 := free_of hA 3
      have fq4 := free_of hA 4
      simp at q0 q1 q2 q3 q4
      clear k1 hA HH
      go_wp2_with fail
      refine bodyPost_ret (v := .agg #[.int .i64 7, .int .u32 0, .int .u32 0, .int .u32 0, .int .u32 0]) (by simp [results, Tryz.results97, go_sem, q0, q1, q2, q3, q4]) rfl ⟨by rw [e2]; rfl, ?_⟩
      rw [e1]
      exact Became.same HX.out.1 HX.out.2 (((((HA.out.keeps.setNew 0).setNew 1).setNew 2).setNew 3).setNew 4)
    · rw [if_pos rfl] at HF
      obtain ⟨z1, z2⟩ := z
      obtain ⟨e1, e2⟩ := Prod.mk.inj HF.out
      go_enter Tryz.func97, Tryz.ntmps97
      go_wp2_with fail
      refine (HH.out _).mono ?_
      rintro e w1 ⟨rfl, k1⟩
      replace HA := Lib.hid (HA.out.none k1)
      have hA := HA.out.at 0 rfl
      have q0 := cell_of hA 0
      have q1 := cell_of hA 1
      have q2 := cell_of hA 2
      have q3 := cell_of hA 3
      have q4 := cell_of hA 4
      have fq0 := free_of hA 0
      have fq1 := free_of hA 1
      have fq2 := free_of hA 2
      have fq3 := free_of hA 3
      have fq4 := free_of hA 4
      simp at q0 q1 q2 q3 q4
      clear k1 hA HH
      go_wp2_with fail
      refine bodyPost_ret (v := .agg #[.int .i64 0, .int .u32 (p : Int), .int .u32 0, .int .u32 0, .int .u32 0]) (by simp [results, Tryz.results97, go_sem, q0, q1, q2, q3, q4]) rfl ⟨by rw [e2]; rfl, ?_⟩
      rw [e1]
      exact Became.same HX.out.1 HX.out.2 (((((HA.out.keeps.setNew 0).setNew 1).setNew 2).setNew 3).setNew 4)
  have e16' : (k == 16) = false := by simpa using h16
  rw [if_neg h16] at HF
  clear h16
  by_cases h17 : k = 17
  · subst h17
    rw [if_pos rfl] at HF
    have HH := Lib.hid (fun w => holds_any w 5 (by omega) p m hp1 hm)
    generalize holdsP 5 p m = q at *
    cases q
    · rw [if_neg (by simp)] at HF
      obtain ⟨z1, z2⟩ := z
      obtain ⟨e1, e2⟩ := Prod.mk.inj HF.out
      go_enter Tryz.func97, Tryz.ntmps97
      go_wp2_with fail
      refine (HH.out _).mono ?_
      rintro e w1 ⟨rfl, k1⟩
      replace HA := Lib.hid (HA.out.none k1)
      have hA := HA.out.at 0 rfl
      have q0 := cell_of hA 0
      have q1 := cell_of hA 1
      have q2 := cell_of hA 2
      have q3 := cell_of hA 3
      have q4 := cell_of hA 4
      have fq0 := free_of hA 0
      have fq1 := free_of hA 1
      have fq2 := free_of hA 2
      have fq3 := free_of hA 3
      have fq4 := free_of hA 4
      simp at q0 q1 q2 q3 q4
      clear k1 hA HH
      go_wp2_with fail
      refine bodyPost_ret (v := .agg #[.int .i64 7, .int .u32 0, .int .u32 0, .int .u32 0, .int .u32 0]) (by simp [results, Tryz.results97, go_sem, q0, q1, q2, q3, q4]) rfl ⟨by rw [e2]; rfl, ?_⟩
      rw [e1]
      exact Became.same HX.out.1 HX.out.2 (((((HA.out.keeps.setNew 0).setNew 1).setNew 2).setNew 3).setNew 4)
    · rw [if_pos rfl] at HF
      obtain ⟨z1, z2⟩ := z
      obtain ⟨e1, e2⟩ := Prod.mk.inj HF.out
      go_enter Tryz.func97, Tryz.ntmps97
      go_wp2_with fail
      refine (HH.out _).mono ?_
      rintro e w1 ⟨rfl, k1⟩
      replace HA := Lib.hid (HA.out.none k1)
      have hA := HA.out.at 0 rfl
      have q0 := cell_of hA 0
      have q1 := cell_of hA 1
      have q2 := cell_of hA 2
      have q3 := cell_of hA 3
      have q4 := cell_of hA 4
      have fq0 := free_of hA 0
      have fq1 := free_of hA 1
      have fq2 := free_of hA 2
      have fq3 := free_of hA 3
      have fq4 := free_of hA 4
      simp at q0 q1 q2 q3 q4
      clear k1 hA HH
      go_wp2_with fail
      refine bodyPost_ret (v := .agg #[.int .i64 0, .int .u32 (p : Int), .int .u32 0, .int .u32 0, .int .u32 0]) (by simp [results, Tryz.results97, go_sem, q0, q1, q2, q3, q4]) rfl ⟨by rw [e2]; rfl, ?_⟩
      rw [e1]
      exact Became.same HX.out.1 HX.out.2 (((((HA.out.keeps.setNew 0).setNew 1).setNew 2).setNew 3).setNew 4)
  have e17' : (k == 17) = false := by simpa using h17
  rw [if_neg h17] at HF
  clear h17
  by_cases h9 : k = 9
  · subst h9
    rw [if_pos rfl] at HF
    obtain ⟨z1, z2⟩ := z
    obtain ⟨e1, e2⟩ := Prod.mk.inj HF.out
    go_enter Tryz.func97, Tryz.ntmps97
    go_wp2_with fail
    refine bodyPost_ret (v := .agg #[.int .i64 0, .int .u32 (p : Int), .int .u32 0, .int .u32 0, .int .u32 0]) (by simp [results, Tryz.results97, go_sem]) rfl ⟨by rw [e2]; rfl, ?_⟩
    rw [e1]
    exact Became.same HX.out.1 HX.out.2 ((Keeps.refl _ w).alloc _)
  have e9' : (k == 9) = false := by simpa using h9
  rw [if_neg h9] at HF
  clear h9
  obtain ⟨z1, z2⟩ := z
  obtain ⟨e1, e2⟩ := Prod.mk.inj HF.out
  go_enter Tryz.func97, Tryz.ntmps97
  go_wp2_with fail
  refine bodyPost_ret (v := .agg #[.int .i64 12, .int .u32 0, .int .u32 0, .int .u32 0, .int .u32 0]) (by simp [results, Tryz.results97, go_sem]) rfl ⟨by rw [e2]; rfl, ?_⟩
  rw [e1]
  exact Became.same HX.out.1 HX.out.2 ((Keeps.refl _ w).alloc _)
end Go.Proofs.YtkhmfjfclpehfaaGreat
