import Derived.Test.YthnmlklgbggmbaaGreatStNq
import Derived.BigRegion
import Derived.Laws.Rows
namespace Go.Proofs.YthnmlklgbggmbaaGreat
open Go.ChangeShapes Go.WideShapes Go.ChangeAt Go.RowKit
set_option linter.unusedVariables false
set_option linter.unusedSimpArgs false
attribute [local irreducible] wpList
theorem src_or {w : World} {a : Option Addr} {n s : Nat} {cs : List Value} (h : n = 0 ∨ ∃ ad, a = some ad ∧ (0 < n → ad.block < w.heap.size) ∧ ∀ j u, cs[j]? = some u → w.cell? (ad.add j) = some u) (hl : cs.length = n * s) : (a = none ∧ n = 0) ∨ ∃ ad, a = some ad ∧ (0 < n → ad.block < w.heap.size) ∧ ∀ j u, cs[j]? = some u → w.cell? (ad.add j) = some u := by
  rcases h with rfl | h
  · rw [Nat.zero_mul] at hl
    obtain rfl := List.length_eq_zero_iff.1 hl
    cases a with
    | none => exact .inl ⟨rfl, rfl⟩
    | some ad => exact .inr ⟨ad, rfl, fun h => absurd h (Nat.lt_irrefl _), fun j u hj => by simp at hj⟩
  · exact .inr h
theorem own_cells {w : World} {B n s : Nat} {T : TypeId} {a : Option Addr} {c : Nat} {cs : List Value} (h : w.ownsRow B T s (.slice a n c) n cs) (hn : 0 < n) : ∃ (g : Nat) (cur : Array Value), a = some ⟨g, 0, none⟩ ∧ B ≤ g ∧ w.heap[g]? = some (.cells cur T (0, 0)) ∧ ∀ (j : Nat) (u : Value), cs[j]? = some u → cur[j]? = some u := by
  rcases h.2 with ⟨_, h0⟩ | ⟨g, cap, cur, e, hB, hg, hc, hm, hs, ht⟩
  · omega
  · injection e with e1 _ _
    refine ⟨g, cur, e1, hB, hg, fun j u hj => ?_⟩
    have hjl : j < n * s := by rw [← h.1]; exact (List.getElem?_eq_some_iff.1 hj).1
    rw [← ht, List.getElem?_take_of_lt hjl] at hj
    rw [← Array.getElem?_toList]; exact hj
def TskW (W : World) (tb : Nat) (c : CfD) (TA : Nat → Option Addr) (TC : Nat → Nat) : Prop := ∃ cs, W.heap[tb]? = some (.cells cs 66 (0, 0)) ∧ ∀ i, i < c.nT → cs[i * 3]? = some (.int .i64 (c.tp i)) ∧ cs[i * 3 + 1]? = some (.bool (c.tb i)) ∧ cs[i * 3 + 2]? = some (.slice (TA i) (c.tl i) (TC i))
def LevW (W : World) (a3 : Option Addr) (c : CfD) (LA : Nat → Option Addr) (LC : Nat → Nat) : Prop := c.nL = 0 ∨ ∃ lb cs, a3 = some ⟨lb, 0, none⟩ ∧ W.heap[lb]? = some (.cells cs 69 (0, 0)) ∧ ∀ i, i < c.nL → cs[i * 2]? = some (.int .i64 (c.lr i)) ∧ cs[i * 2 + 1]? = some (.slice (LA i) (c.ll i) (LC i))
def ObjW (W : World) (a4 : Option Addr) (c : CfD) : Prop := c.nO = 0 ∨ ∃ ob cs, a4 = some ⟨ob, 0, none⟩ ∧ W.heap[ob]? = some (.cells cs 74 (0, 0)) ∧ ∀ i, i < c.nO → ∀ j, j < 10 → cs[i * 10 + j]? = (c.obj i)[j]?
structure OwnS (w W : World) (tb : Nat) (c : CfD) (a3 a4 : Option Addr) (c2 c3 c4 : Nat) (TA LA : Nat → Option Addr) (TC LC : Nat → Nat) : Prop where
  keeps : Keeps (fun _ => False) w W
  box : W.heap[w.heap.size]? = some (.cells #[.slice (some ⟨tb, 0, none⟩) c.nT c2, .slice a3 c.nL c3, .slice a4 c.nO c4, .int .i64 c.tick] 26 (0, 0))
  res : W.heap[w.heap.size + 1]? = some (.cells #[.slice none 0 0, .slice none 0 0, .slice none 0 0, .int .i64 0] 26 (0, 0))
  t : TskW W tb c TA TC
  l : LevW W a3 c LA LC
  o : ObjW W a4 c
theorem tsk_first {W : World} {B : Nat} {c : CfD} {a2 : Option Addr} {c2 : Nat} (h : W.ownsRow B 66 3 (.slice a2 c.nT c2) c.nT (taskL c)) (h1 : 0 < c.nT) : ∃ tb, a2 = some ⟨tb, 0, none⟩ ∧ B ≤ tb ∧ TskW W tb c c.tca c.tcc := by
  obtain ⟨tb, cur, e, hB, hb, hc⟩ := own_cells h h1
  have hf := flatm_get (fun i => [Value.int .i64 (c.tp i), .bool (c.tb i), .slice (c.tca i) (c.tl i) (c.tcc i)]) 3 (fun _ => rfl) c.nT
  exact ⟨tb, e, hB, cur, hb, fun i hi => ⟨hc _ _ ((hf.2 i 0 hi (by omega)).trans rfl), hc _ _ ((hf.2 i 1 hi (by omega)).trans rfl), hc _ _ ((hf.2 i 2 hi (by omega)).trans rfl)⟩⟩
theorem lev_first {W : World} {B : Nat} {c : CfD} {a3 : Option Addr} {c3 : Nat} (h : W.ownsRow B 69 2 (.slice a3 c.nL c3) c.nL (levelL c)) : LevW W a3 c c.lca c.lcc := by
  rcases Nat.eq_zero_or_pos c.nL with h0 | h0
  · exact .inl h0
  obtain ⟨lb, cur, e, hB, hb, hc⟩ := own_cells h h0
  have hf := flatm_get (fun i => [Value.int .i64 (c.lr i), .slice (c.lca i) (c.ll i) (c.lcc i)]) 2 (fun _ => rfl) c.nL
  exact .inr ⟨lb, cur, e, hb, fun i hi => ⟨hc _ _ ((hf.2 i 0 hi (by omega)).trans rfl), hc _ _ ((hf.2 i 1 hi (by omega)).trans rfl)⟩⟩
theorem obj_first {W : World} {B : Nat} {c : CfD} {a4 : Option Addr} {c4 : Nat} (h : W.ownsRow B 74 10 (.slice a4 c.nO c4) c.nO (objL c)) : ObjW W a4 c := by
  rcases Nat.eq_zero_or_pos c.nO with h0 | h0
  · exact .inl h0
  obtain ⟨ob, cur, e, hB, hb, hc⟩ := own_cells h h0
  have hf := flatm_get (fun i => (c.obj i).toList) 10 (fun _ => rfl) c.nO
  refine .inr ⟨ob, cur, e, hb, fun i hi j hj => ?_⟩
  have hj2 : j < (c.obj i).size := hj
  have h2 : (objL c)[i * 10 + j]? = (c.obj i).toList[j]? := hf.2 i j hi hj
  have h3 : (c.obj i).toList[j]? = (c.obj i)[j]? := Array.getElem?_toList ..
  have h4 : (c.obj i)[j]? = some (c.obj i)[j] := Array.getElem?_eq_getElem hj2
  rw [h4]
  exact hc _ _ (h2.trans (h3.trans h4))
theorem TskW.at {S : Nat → Prop} {W W' : World} {tb : Nat} {c : CfD} {TA : Nat → Option Addr} {TC : Nat → Nat} (h : TskW W tb c TA TC) (k : Keeps S W W') (hs : ¬ S tb) : TskW W' tb c TA TC := by
  obtain ⟨cs, hb, hc⟩ := h
  exact ⟨cs, k.at hb hs, hc⟩
theorem LevW.at {S : Nat → Prop} {W W' : World} {a3 : Option Addr} {c : CfD} {LA : Nat → Option Addr} {LC : Nat → Nat} (h : LevW W a3 c LA LC) (k : Keeps S W W') (hs : ∀ j, S j → ¬ Ty W j 69) : LevW W' a3 c LA LC :=
  h.imp id fun ⟨lb, cs, e, hb, hc⟩ => ⟨lb, cs, e, k.at hb fun h => hs _ h ⟨_, _, hb⟩, hc⟩
theorem ObjW.at {S : Nat → Prop} {W W' : World} {a4 : Option Addr} {c : CfD} (h : ObjW W a4 c) (k : Keeps S W W') (hs : ∀ j, S j → ¬ Ty W j 74) : ObjW W' a4 c :=
  h.imp id fun ⟨ob, cs, e, hb, hc⟩ => ⟨ob, cs, e, k.at hb fun h => hs _ h ⟨_, _, hb⟩, hc⟩
theorem OwnS.quiet {w W W' : World} {tb : Nat} {c : CfD} {a3 a4 : Option Addr} {c2 c3 c4 : Nat} {TA LA : Nat → Option Addr} {TC LC : Nat → Nat} (h : OwnS w W tb c a3 a4 c2 c3 c4 TA LA TC LC) (k : Keeps (fun _ => False) W W') : OwnS w W' tb c a3 a4 c2 c3 c4 TA LA TC LC :=
  ⟨h.keeps.trans k, k.at h.box fun h => h, k.at h.res fun h => h, h.t.at k fun h => h, h.l.at k fun _ h => h.elim, h.o.at k fun _ h => h.elim⟩
theorem OwnS.setT {w W : World} {tb : Nat} {c : CfD} {a3 a4 : Option Addr} {c2 c3 c4 : Nat} {TA LA : Nat → Option Addr} {TC LC : Nat → Nat} (h : OwnS w W tb c a3 a4 c2 c3 c4 TA LA TC LC) (hw : w.heap.size ≤ tb) (k : Nat) (hk : k < c.nT) (A : Option Addr) (C : Nat) :
    OwnS w (W.setCell ⟨tb, k * 3 + 2, none⟩ (.slice A (c.tl k) C)) tb c a3 a4 c2 c3 c4 (upd TA k A) LA (upd TC k C) LC := by
  obtain ⟨cs, hb, hc⟩ := h.t
  have kk : Keeps (fun j => j = tb) W (W.setCell ⟨tb, k * 3 + 2, none⟩ (.slice A (c.tl k) C)) := (Keeps.refl (fun j => j = tb) W).setCell (p := ⟨tb, k * 3 + 2, none⟩) (.inl rfl) _
  have hty : Ty W tb 66 := ⟨_, _, hb⟩
  refine ⟨h.keeps.far kk fun j e => by rw [e]; exact hw, kk.at h.box (Ty.ne ⟨_, _, h.box⟩ hty (by decide)), kk.at h.res (Ty.ne ⟨_, _, h.res⟩ hty (by decide)), ⟨_, heap_set hb (k * 3 + 2) _, fun i hi => ?_⟩, h.l.at kk fun j e t => Ty.ne t hty (by decide) e, h.o.at kk fun j e t => Ty.ne t hty (by decide) e⟩
  obtain ⟨h0, h1, h2⟩ := hc i hi
  refine ⟨by rw [Array.getElem?_setIfInBounds_ne (by omega)]; exact h0, by rw [Array.getElem?_setIfInBounds_ne (by omega)]; exact h1, ?_⟩
  by_cases e : i = k
  · subst e
    rw [upd_at, upd_at]
    exact Array.getElem?_setIfInBounds_self_of_lt (Array.getElem?_eq_some_iff.1 h2).1
  · rw [upd_ne _ _ e, upd_ne _ _ e, Array.getElem?_setIfInBounds_ne (by omega)]
    exact h2
theorem OwnS.setL {w W : World} {tb lb : Nat} {c : CfD} {a4 : Option Addr} {c2 c3 c4 : Nat} {TA LA : Nat → Option Addr} {TC LC : Nat → Nat} (h : OwnS w W tb c (some ⟨lb, 0, none⟩) a4 c2 c3 c4 TA LA TC LC) (hw : w.heap.size ≤ lb) (k : Nat) (hk : k < c.nL) (A : Option Addr) (C : Nat) :
    OwnS w (W.setCell ⟨lb, k * 2 + 1, none⟩ (.slice A (c.ll k) C)) tb c (some ⟨lb, 0, none⟩) a4 c2 c3 c4 TA (upd LA k A) TC (upd LC k C) := by
  rcases h.l with h0 | ⟨lb', cs, e, hb, hc⟩
  · omega
  obtain rfl : lb = lb' := by injection e with e; injection e
  have kk : Keeps (fun j => j = lb) W (W.setCell ⟨lb, k * 2 + 1, none⟩ (.slice A (c.ll k) C)) := (Keeps.refl (fun j => j = lb) W).setCell (p := ⟨lb, k * 2 + 1, none⟩) (.inl rfl) _
  have hty : Ty W lb 69 := ⟨_, _, hb⟩
  obtain ⟨ct, ht, hct⟩ := h.t
  refine ⟨h.keeps.far kk fun j e => by rw [e]; exact hw, kk.at h.box (Ty.ne ⟨_, _, h.box⟩ hty (by decide)), kk.at h.res (Ty.ne ⟨_, _, h.res⟩ hty (by decide)), ⟨ct, kk.at ht (Ty.ne ⟨_, _, ht⟩ hty (by decide)), hct⟩, .inr ⟨lb, _, rfl, heap_set hb (k * 2 + 1) _, fun i hi => ?_⟩, h.o.at kk fun j e t => Ty.ne t hty (by decide) e⟩
  obtain ⟨h0, h1⟩ := hc i hi
  refine ⟨by rw [Array.getElem?_setIfInBounds_ne (by omega)]; exact h0, ?_⟩
  by_cases e : i = k
  · subst e
    rw [upd_at, upd_at]
    exact Array.getElem?_setIfInBounds_self_of_lt (Array.getElem?_eq_some_iff.1 h1).1
  · rw [upd_ne _ _ e, upd_ne _ _ e, Array.getElem?_setIfInBounds_ne (by omega)]
    exact h1
def SrcK (B : Nat → Prop) (w : World) (a : Option Addr) (n : Nat) : Prop := ∃ cs : List Value, cs.length = n * 7 ∧ (∀ u, u ∈ cs → u.oneCell' = true) ∧ ((a = none ∧ n = 0) ∨ ∃ ad, a = some ad ∧ (0 < n → ad.block < w.heap.size ∧ ¬ B ad.block) ∧ ∀ j u, cs[j]? = some u → w.cell? (ad.add j) = some u)
theorem SrcK.at {B S : Nat → Prop} {w w' : World} {a : Option Addr} {n : Nat} (h : SrcK B w a n) (k : Keeps S w w') (hs : ∀ j, S j → B j) : SrcK B w' a n := by
  obtain ⟨cs, h1, h2, h3⟩ := h
  refine ⟨cs, h1, h2, h3.imp id fun ⟨ad, e, hb, hc⟩ => ⟨ad, e, fun hp => ⟨Nat.lt_of_lt_of_le (hb hp).1 k.size, (hb hp).2⟩, fun j u hj => ?_⟩⟩
  have hp : 0 < n := by
    have := (List.getElem?_eq_some_iff.1 hj).1
    omega
  exact (World.cell?_of_block (by rw [add_block]; exact k.block _ (hb hp).1 fun hS => (hb hp).2 (hs _ hS))).trans (hc j u hj)
theorem SrcC.toK {B : Nat → Prop} {w : World} {a : Option Addr} {n : Nat} (h : SrcC w a n) (hB : ∀ j, B j → w.heap.size ≤ j) : SrcK B w a n := by
  obtain ⟨cs, h1, h2, h3⟩ := h
  exact ⟨cs, h1, h2, h3.imp id fun ⟨ad, e, hb, hc⟩ => ⟨ad, e, fun hp => ⟨hb hp, fun hj => absurd (hB _ hj) (by have := hb hp; omega)⟩, hc⟩⟩
theorem SrcK.toC {B : Nat → Prop} {w : World} {a : Option Addr} {n : Nat} (h : SrcK B w a n) : SrcC w a n := by
  obtain ⟨cs, h1, h2, h3⟩ := h
  exact ⟨cs, h1, h2, h3.imp id fun ⟨ad, e, hb, hc⟩ => ⟨ad, e, fun hp => (hb hp).1, hc⟩⟩
theorem SrcK.ofOwn {B : Nat → Prop} {W w : World} {a : Option Addr} {n c : Nat} {cs : List Value} (h : w.ownsRow W.heap.size 126 7 (.slice a n c) n cs) (h1 : ∀ u, u ∈ cs → u.oneCell' = true) (hB : ∀ j, B j → j < W.heap.size) : SrcK B w a n := by
  refine ⟨cs, h.1, h1, ?_⟩
  rcases h.2 with ⟨e, h0⟩ | ⟨g, cap, cur, e, hb, hg, hc, hm, hs, ht⟩
  · injection e with e1 _ _
    exact .inl ⟨e1, h0⟩
  · injection e with e1 _ _
    refine .inr ⟨⟨g, 0, none⟩, e1, fun _ => ⟨lt_of hg, fun hj => absurd (hB _ hj) (by show ¬ g < _; omega)⟩, fun j u hj => ?_⟩
    have hjl : j < n * 7 := by rw [← h.1]; exact (List.getElem?_eq_some_iff.1 hj).1
    rw [← ht, List.getElem?_take_of_lt hjl] at hj
    rw [add_atN, Nat.zero_add, cell_of hg, ← Array.getElem?_toList]; exact hj
theorem own_ge {w : World} {B n s : Nat} {T : TypeId} {a : Option Addr} {c : Nat} {cs : List Value} {j : Nat} (h : w.ownsRow B T s (.slice a n c) n cs) (ha : a = some ⟨j, 0, none⟩) : B ≤ j ∧ j < w.heap.size := by
  subst ha
  rcases h.2 with ⟨e, h0⟩ | ⟨g, cap, cur, e, hb, hg, hc, hm, hs, ht⟩
  · injection e with e1 _ _
    injection e1
  · injection e with e1 _ _
    injection e1 with e1
    injection e1 with e1 _ _
    subst e1
    exact ⟨hb, lt_of hg⟩
theorem srck_step {B : Nat → Prop} {wr w2 : World} {tb n k : Nat} {TA : Nat → Option Addr} {tl : Nat → Nat} {aa : Option Addr} (hC : ∀ i, i < n → SrcK B wr (TA i) (tl i)) (k2 : Keeps (fun _ => False) wr w2) (hk : SrcK B w2 aa (tl k)) (hB : B tb) (o : Nat) (v : Value) : ∀ i, i < n → SrcK B (w2.setCell ⟨tb, o, none⟩ v) (upd TA k aa i) (tl i) := by
  intro i hi
  have kk : Keeps (fun j => j = tb) w2 (w2.setCell ⟨tb, o, none⟩ v) := (Keeps.refl (fun j => j = tb) w2).setCell (p := ⟨tb, o, none⟩) (.inl rfl) _
  by_cases e : i = k
  · subst e
    rw [upd_at]
    exact hk.at kk fun j e => by rw [e]; exact hB
  · rw [upd_ne _ _ e]
    exact ((hC i hi).at k2 fun _ h => h.elim).at kk fun j e => by rw [e]; exact hB
theorem clone_callC (w : World) (a : Option Addr) (n c : Nat) (hn : n ≤ 70) {B : Nat → Prop} (h : SrcK B w a n) :
    Calls Tryz.prog 108 #[.slice a n c] w fun e w' => (∃ aa cc, e = .returned (.slice aa n cc) ∧ ((∀ j, B j → j < w.heap.size) → SrcK B w' aa n)) ∧ Keeps (fun _ => False) w w' := by
  obtain ⟨cs, h1, h2, h3⟩ := h
  refine (clone_call w a n c cs (by omega) h1 h2 (h3.imp id fun ⟨ad, e, hb, hc⟩ => ⟨ad, e, fun hp => (hb hp).1, hc⟩)).mono ?_
  rintro e1 w1 ⟨⟨v, rfl, ⟨aa, cc, rfl⟩, o⟩, k⟩
  exact ⟨⟨aa, cc, rfl, fun hB => SrcK.ofOwn o h2 hB⟩, k⟩
def BdL (R tb : Nat) (c : CfD) (a3 : Option Addr) : Nat → Prop := fun j => j = R ∨ j = tb ∨ (0 < c.nL ∧ a3 = some ⟨j, 0, none⟩)
theorem OwnS.bnd {w W : World} {tb : Nat} {c : CfD} {a3 a4 : Option Addr} {c2 c3 c4 : Nat} {TA LA : Nat → Option Addr} {TC LC : Nat → Nat} (h : OwnS w W tb c a3 a4 c2 c3 c4 TA LA TC LC) : ∀ j, BdL (w.heap.size + 1) tb c a3 j → j < W.heap.size := by
  rintro j (e | e | ⟨hp, e⟩)
  · rw [e]; exact lt_of h.res
  · obtain ⟨cs, hb, _⟩ := h.t
    rw [e]; exact lt_of hb
  · rcases h.l with h0 | ⟨lb, cs, e', hb, _⟩
    · omega
    · rw [e'] at e
      injection e with e
      injection e with e _ _
      rw [← e]; exact lt_of hb
theorem srck_keep {B : Nat → Prop} {wr w2 : World} {tb n : Nat} {TA : Nat → Option Addr} {tl : Nat → Nat} (hC : ∀ i, i < n → SrcK B wr (TA i) (tl i)) (k2 : Keeps (fun _ => False) wr w2) (hB : B tb) (o : Nat) (v : Value) : ∀ i, i < n → SrcK B (w2.setCell ⟨tb, o, none⟩ v) (TA i) (tl i) := by
  intro i hi
  have kk : Keeps (fun j => j = tb) w2 (w2.setCell ⟨tb, o, none⟩ v) := (Keeps.refl (fun j => j = tb) w2).setCell (p := ⟨tb, o, none⟩) (.inl rfl) _
  exact ((hC i hi).at k2 fun _ h => h.elim).at kk fun j e => by rw [e]; exact hB
def CfD.own (c : CfD) (ta la oa : Option Addr) (tc lc oc : Nat) (TA LA : Nat → Option Addr) (TC LC : Nat → Nat) : CfD := { c with ta := ta, la := la, oa := oa, tc := tc, lc := lc, oc := oc, tca := TA, tcc := TC, lca := LA, lcc := LC }
theorem cfin_of {W : World} {tb : Nat} {c : CfD} {a3 a4 : Option Addr} {c2 c3 c4 : Nat} {TA LA : Nat → Option Addr} {TC LC : Nat → Nat} (ht : TskW W tb c TA TC) (hl : LevW W a3 c LA LC) (ho : ObjW W a4 c) : CfIn W (c.own (some ⟨tb, 0, none⟩) a3 a4 c2 c3 c4 TA LA TC LC) := by
  refine ⟨fun hn => ?_, fun hn => ?_, fun hn => ?_⟩
  · obtain ⟨cs, hb, hc⟩ := ht
    refine ⟨tb, 0, rfl, lt_of hb, fun i hi => ?_⟩
    rw [Nat.zero_add]
    exact ⟨(cell_of hb _).trans (hc i hi).1, (cell_of hb _).trans (hc i hi).2.1, (cell_of hb _).trans (hc i hi).2.2⟩
  · rcases hl with h0 | ⟨lb, cs, e, hb, hc⟩
    · exact absurd h0 (Nat.pos_iff_ne_zero.1 hn)
    refine ⟨lb, 0, e, lt_of hb, fun i hi => ?_⟩
    rw [Nat.zero_add]
    exact ⟨(cell_of hb _).trans (hc i hi).1, (cell_of hb _).trans (hc i hi).2⟩
  · rcases ho with h0 | ⟨ob, cs, e, hb, hc⟩
    · exact absurd h0 (Nat.pos_iff_ne_zero.1 hn)
    refine ⟨ob, 0, e, lt_of hb, fun i hi j hj => ?_⟩
    rw [Nat.zero_add]
    exact (cell_of hb _).trans (hc i hi j hj)
theorem meas_as1 {k n : Nat} (h : k < n) : n - (intOf (.int .i64 ((k : Int) + 1))).toNat < n - (intOf (.int .i64 (k : Int))).toNat := by
  show n - ((k : Int) + 1).toNat < n - ((k : Int)).toNat
  omega
set_option maxRecDepth 20000 in
set_option maxHeartbeats 8000000 in
theorem own_cfg (c : CfD) (w : World) (hc : CfIn w c) (ho : c.Ok) (hv : badOf c = (0, 0, 0)) (hk : CodesIn w c) (hlen : (∀ i, i < c.nT → c.tl i ≤ 70) ∧ ∀ i, i < c.nL → c.ll i ≤ 70) :
    Calls Tryz.prog 59 #[.agg c.cells] w fun e w' => ∃ (ta la oa : Option Addr) (tc lc oc : Nat) (TA LA : Nat → Option Addr) (TC LC : Nat → Nat), e = .returned (.agg (c.own ta la oa tc lc oc TA LA TC LC).cells) ∧ CfIn w' (c.own ta la oa tc lc oc TA LA TC LC) ∧ CodesIn w' (c.own ta la oa tc lc oc TA LA TC LC) ∧ Keeps (fun _ => False) w w' := by
  have hgo := good_of hv
  have HCT := Lib.hid (fun W (k : Keeps (fun _ => False) w W) => clone_task W c.ta c.nT c.tc (taskL c) (by have := hgo.t; omega) (src_tasks (hc.none k) hgo.t1).1 (src_tasks (hc.none k) hgo.t1).2.1 (.inr (src_tasks (hc.none k) hgo.t1).2.2))
  have HCL := Lib.hid (fun W (k : Keeps (fun _ => False) w W) => clone_level W c.la c.nL c.lc (levelL c) (by have := hgo.l; omega) (src_levels (hc.none k)).1 (src_levels (hc.none k)).2.1 (src_or (src_levels (hc.none k)).2.2 (src_levels (hc.none k)).1))
  have HCO := Lib.hid (fun W (k : Keeps (fun _ => False) w W) => clone_object W c.oa c.nO c.oc (objL c) (by have := hgo.o; omega) (src_objs (hc.none k)).1 (src_objs (hc.none k)).2.1 (src_or (src_objs (hc.none k)).2.2 (src_objs (hc.none k)).1))
  have HB := Lib.hid (((Has.start w).alloc (.cells c.cells 26)).alloc (.cells #[.slice none 0 0, .slice none 0 0, .slice none 0 0, .int .i64 0] 26))
  have HCC := Lib.hid (And.intro hk hlen)
  clear hc ho hv hk hlen
  go_enter Tryz.func59, Tryz.ntmps59
  go_wp2_with fail
  generalize (w.alloc (.cells c.cells 26)).alloc (.cells #[.slice none 0 0, .slice none 0 0, .slice none 0 0, .int .i64 0] 26) = W1 at HB ⊢
  have HQ := Lib.hid (fun W (k : Keeps (fun _ => False) W1 W) => four_cells (k.at (HB.out.at 1 rfl) fun h => h))
  have HF := Lib.hid (fun W (k : Keeps (fun _ => False) W1 W) => And.intro (free_of (k.at (HB.out.at 1 rfl) fun h => h) 0) (And.intro (free_of (k.at (HB.out.at 1 rfl) fun h => h) 1) (And.intro (free_of (k.at (HB.out.at 1 rfl) fun h => h) 2) (lt_of (k.at (HB.out.at 1 rfl) fun h => h)))))
  obtain ⟨q0, q1, q2, q3⟩ := HQ.out _ (Keeps.refl _ W1).drew
  obtain ⟨f0, f1, f2, ll⟩ := HF.out _ (Keeps.refl _ W1).drew
  rename_i K hK0
  have KEY : ∀ (a2 a3 a4 : Option Addr) (c2 c3 c4 : Nat) (w4 : World) (B2 B3 B4 : Nat), Keeps (fun _ => False) W1 w4 → w.heap.size ≤ B2 → w.heap.size ≤ B3 → w4.ownsRow B2 66 3 (.slice a2 c.nT c2) c.nT (taskL c) → w4.ownsRow B3 69 2 (.slice a3 c.nL c3) c.nL (levelL c) → w4.ownsRow B4 74 10 (.slice a4 c.nO c4) c.nO (objL c) → K { tmps := #[.agg c.cells, .pointer (some ⟨w.heap.size, 0, none⟩), .pointer (some ⟨w.heap.size + 1, 0, none⟩), undef, undef, .pointer (some ⟨w.heap.size, 0, none⟩), .slice c.ta c.nT c.tc, .slice a2 c.nT c2, .pointer (some ⟨w.heap.size, 1, none⟩), .slice c.la c.nL c.lc, .slice a3 c.nL c3, .pointer (some ⟨w.heap.size, 2, none⟩), .slice c.oa c.nO c.oc, .slice a4 c.nO c4, .pointer (some ⟨w.heap.size, 0, none⟩), .pointer (some ⟨w.heap.size, 1, none⟩), .pointer (some ⟨w.heap.size, 2, none⟩), undef, undef, undef, undef, undef, undef, undef, undef, undef, undef, undef, undef, undef, undef, undef, undef, undef, undef, undef, undef, undef, undef, undef, undef, undef, undef, undef, undef, undef, undef, undef, undef, undef, undef, undef, undef, undef, undef, undef], defers := [] } (((w4.setCell ⟨w.heap.size, 0, none⟩ (.slice a2 c.nT c2)).setCell ⟨w.heap.size, 1, none⟩ (.slice a3 c.nL c3)).setCell ⟨w.heap.size, 2, none⟩ (.slice a4 c.nO c4)) := by
    intro a2 a3 a4 c2 c3 c4 w4 B2 B3 B4 k4 hB2 hB3 o2 o3 o4
    refine hK0 _ _ ?_
    obtain ⟨tb, rfl, hBt, hT⟩ := tsk_first o2 hgo.t1
    have HA3 := Lib.hid (fun j (e : a3 = some ⟨j, 0, none⟩) => And.intro (Nat.le_trans hB3 (own_ge o3 e).1) (own_ge o3 e).2)
    have htb : w.heap.size ≤ tb := Nat.le_trans hB2 hBt
    have b4 := k4.at (HB.out.at 1 rfl) fun h => h
    have r4 : w4.heap[w.heap.size + 1]? = some (.cells #[.slice none 0 0, .slice none 0 0, .slice none 0 0, .int .i64 0] 26 (0, 0)) := by
      have h := k4.at (HB.out.at 0 rfl) fun h => h
      rw [show (w.alloc (.cells c.cells 26)).heap.size = w.heap.size + 1 from Array.size_push _] at h
      exact h
    have k5 : Keeps (fun j => j = w.heap.size) w4 (((w4.setCell ⟨w.heap.size, 0, none⟩ (.slice (some ⟨tb, 0, none⟩) c.nT c2)).setCell ⟨w.heap.size, 1, none⟩ (.slice a3 c.nL c3)).setCell ⟨w.heap.size, 2, none⟩ (.slice a4 c.nO c4)) := (((Keeps.refl (fun j => j = w.heap.size) w4).setCell (p := ⟨w.heap.size, 0, none⟩) (.inl rfl) _).setCell (p := ⟨w.heap.size, 1, none⟩) (.inl rfl) _).setCell (p := ⟨w.heap.size, 2, none⟩) (.inl rfl) _
    have b5 := heap_set (heap_set (heap_set b4 0 (.slice (some ⟨tb, 0, none⟩) c.nT c2)) 1 (.slice a3 c.nL c3)) 2 (.slice a4 c.nO c4)
    have HS := Lib.hid (show OwnS w (((w4.setCell ⟨w.heap.size, 0, none⟩ (.slice (some ⟨tb, 0, none⟩) c.nT c2)).setCell ⟨w.heap.size, 1, none⟩ (.slice a3 c.nL c3)).setCell ⟨w.heap.size, 2, none⟩ (.slice a4 c.nO c4)) tb c a3 a4 c2 c3 c4 c.tca c.lca c.tcc c.lcc from ⟨(HB.out.keeps.trans k4).far k5 (fun j e => by rw [e]; exact Nat.le_refl _), b5, k5.at r4 (by omega), hT.at k5 (Ty.ne (let ⟨cs, hb, _⟩ := hT; ⟨cs, _, hb⟩) ⟨_, _, b4⟩ (by decide)), (lev_first o3).at k5 (fun j e t => Ty.ne t ⟨_, _, b4⟩ (by decide) e), (obj_first o4).at k5 (fun j e t => Ty.ne t ⟨_, _, b4⟩ (by decide) e)⟩)
    generalize (((w4.setCell ⟨w.heap.size, 0, none⟩ (.slice (some ⟨tb, 0, none⟩) c.nT c2)).setCell ⟨w.heap.size, 1, none⟩ (.slice a3 c.nL c3)).setCell ⟨w.heap.size, 2, none⟩ (.slice a4 c.nO c4)) = W5 at HS ⊢
    clear k5 b5 b4 r4 hT o2 o3 o4 hBt hB2 k4
    obtain ⟨e0, e1, e2, e3⟩ := four_cells HS.out.box
    have hnT := hgo.t
    have hnL := hgo.l
    have HTB := Lib.hid htb
    clear htb HCT HCL HCO HQ HF
    go_wp2_with fail
    clear e0 e1 e2 e3
    go_loopw [20] (fun i wr => ∃ k : Nat, i = .int .i64 (k : Int) ∧ k ≤ c.nT ∧ ∃ (TA : Nat → Option Addr) (TC : Nat → Nat), OwnS w wr tb c a3 a4 c2 c3 c4 TA c.lca TC c.lcc ∧ ∀ i, i < c.nT → SrcK (BdL (w.heap.size + 1) tb c a3) wr (TA i) (c.tl i)) (fun i _ => c.nT - (intOf i).toNat)
    case atStart => exact ⟨0, rfl, by omega, c.tca, c.tcc, HS.out, fun i hi => ((HCC.out.1.t i hi).toK fun j hj => hj.elim (fun e => by rw [e]; exact Nat.le_succ _) fun hj => hj.elim (fun e => by rw [e]; exact HTB.out) fun e => (HA3.out j e.2).1).at HS.out.keeps fun _ h => h.elim⟩
    case round =>
      obtain ⟨k, rfl, hk, TA, TC, hO, hC⟩ := hrel
      by_cases hlt : k < c.nT
      · have HO := Lib.hid hO
        have HC := Lib.hid hC
        have HLT := Lib.hid hlt
        obtain ⟨cs, hb, ht⟩ := hO.t
        obtain ⟨t0, t1, t2⟩ := ht k hlt
        have HW := Lib.hid (fun W (kk : Keeps (fun _ => False) wr W) => show W.cell? ⟨w.heap.size, 0, none⟩ = some (.slice (some ⟨tb, 0, none⟩) c.nT c2) ∧ W.cell? ⟨tb, k * 3 + 2, none⟩ = some (.slice (TA k) (c.tl k) (TC k)) ∧ W.frozen? ⟨tb, k * 3 + 2, none⟩ = false from ⟨(four_cells (kk.at hO.box fun h => h)).1, (cell_of (kk.at hb fun h => h) _).trans t2, free_of (kk.at hb fun h => h) _⟩)
        have HTL := Lib.hid (HCC.out.2.1 k hlt)
        have d1 : decide ((k : Int) < (c.nT : Int)) = true := decide_eq_true (by omega)
        have d2 : decide (k < c.nT) = true := decide_eq_true hlt
        have b1 : (0 : Int) ≤ (k : Int) := by omega
        have b2 : (k : Int) < (c.nT : Int) := by omega
        have y1 : wrap64 ((k : Int) + 1) = (k : Int) + 1 := IntWalk.wrap64_in _ ⟨by omega, by omega⟩
        clear hO hC hb ht t0 t1 t2 hk hlt cs
        go_wp2_with fail
        have HD := Lib.hid ((Keeps.refl (fun _ => False) wr).drew)
        obtain ⟨q0, q1, q2⟩ := HW.out _ HD.out
        go_region_law
          (first
            | (go_simp; refine (clone_callC _ _ _ _ HTL.out ((HC.out k HLT.out).at HD.out fun _ h => h.elim)).mono ?_; rintro e9 w9 ⟨⟨aa, cc, rfl, o9⟩, k9⟩; have HO9 := Lib.hid (And.intro o9 k9); obtain ⟨q0, q1, q2⟩ := HW.out _ (HD.out.trans k9); clear o9 k9)
            | fail)
        all_goals (go_wp2_with fail; go_roundw)
        case rel => exact ⟨k + 1, rfl, HLT.out, upd TA k aa, upd TC k cc, (HO.out.quiet (HD.out.trans HO9.out.2)).setT HTB.out k HLT.out aa cc, srck_step HC.out (HD.out.trans HO9.out.2) (HO9.out.1 (HO.out.quiet HD.out).bnd) (.inr (.inl rfl)) _ _⟩
        case rel => exact ⟨k + 1, rfl, HLT.out, upd TA k aa, upd TC k cc, (HO.out.quiet (HD.out.trans HO9.out.2)).setT HTB.out k HLT.out aa cc, srck_step HC.out (HD.out.trans HO9.out.2) (HO9.out.1 (HO.out.quiet HD.out).bnd) (.inr (.inl rfl)) _ _⟩
        case rel => exact ⟨k + 1, rfl, HLT.out, upd TA k aa, upd TC k cc, (HO.out.quiet (HD.out.trans HO9.out.2)).setT HTB.out k HLT.out aa cc, srck_step HC.out (HD.out.trans HO9.out.2) (HO9.out.1 (HO.out.quiet HD.out).bnd) (.inr (.inl rfl)) _ _⟩
        case rel => exact ⟨k + 1, rfl, HLT.out, upd TA k aa, upd TC k cc, (HO.out.quiet (HD.out.trans HO9.out.2)).setT HTB.out k HLT.out aa cc, srck_step HC.out (HD.out.trans HO9.out.2) (HO9.out.1 (HO.out.quiet HD.out).bnd) (.inr (.inl rfl)) _ _⟩
        all_goals exact meas_as1 HLT.out
      · have HO := Lib.hid hO
        have HC := Lib.hid hC
        obtain ⟨e0, e1, e2, e3⟩ := four_cells hO.box
        have d1 : decide ((k : Int) < (c.nT : Int)) = false := decide_eq_false (by omega)
        have d2 : decide (k < c.nT) = false := decide_eq_false hlt
        clear hO hC hk hlt
        go_wp2_with fail
        clear e0 e1 e2 e3 d1 d2
        go_loopw [39] (fun i wq => ∃ m : Nat, i = .int .i64 (m : Int) ∧ m ≤ c.nL ∧ ∃ (LA : Nat → Option Addr) (LC : Nat → Nat), OwnS w wq tb c a3 a4 c2 c3 c4 TA LA TC LC ∧ (∀ i, i < c.nT → SrcK (BdL (w.heap.size + 1) tb c a3) wq (TA i) (c.tl i)) ∧ ∀ i, i < c.nL → SrcK (BdL (w.heap.size + 1) tb c a3) wq (LA i) (c.ll i)) (fun i _ => c.nL - (intOf i).toNat)
        case atStart => exact ⟨0, rfl, by omega, c.lca, c.lcc, HO.out, HC.out, fun i hi => ((HCC.out.1.l i hi).toK fun j hj => hj.elim (fun e => by rw [e]; exact Nat.le_succ _) fun hj => hj.elim (fun e => by rw [e]; exact HTB.out) fun e => (HA3.out j e.2).1).at HO.out.keeps fun _ h => h.elim⟩
        case round =>
          clear HO HC
          obtain ⟨m, rfl, hk, LA, LC, hO, hCT, hC⟩ := hrel
          by_cases hlt : m < c.nL
          · rcases hO.l with h0 | ⟨lb, cs, rfl, hb, ht⟩
            · omega
            have HO := Lib.hid hO
            have HC := Lib.hid (And.intro hCT hC)
            have HLT := Lib.hid hlt
            obtain ⟨t0, t1⟩ := ht m hlt
            have HW := Lib.hid (fun W (kk : Keeps (fun _ => False) wr W) => show W.cell? ⟨w.heap.size, 1, none⟩ = some (.slice (some ⟨lb, 0, none⟩) c.nL c3) ∧ W.cell? ⟨lb, m * 2 + 1, none⟩ = some (.slice (LA m) (c.ll m) (LC m)) ∧ W.frozen? ⟨lb, m * 2 + 1, none⟩ = false from ⟨(four_cells (kk.at hO.box fun h => h)).2.1, (cell_of (kk.at hb fun h => h) _).trans t1, free_of (kk.at hb fun h => h) _⟩)
            have HTL := Lib.hid (HCC.out.2.2 m hlt)
            have d1 : decide ((m : Int) < (c.nL : Int)) = true := decide_eq_true (by omega)
            have d2 : decide (m < c.nL) = true := decide_eq_true hlt
            have b1 : (0 : Int) ≤ (m : Int) := by omega
            have b2 : (m : Int) < (c.nL : Int) := by omega
            have y1 : wrap64 ((m : Int) + 1) = (m : Int) + 1 := IntWalk.wrap64_in _ ⟨by omega, by omega⟩
            clear hO hC hCT hb ht t0 t1 hk hlt cs
            go_wp2_with fail
            have HD := Lib.hid ((Keeps.refl (fun _ => False) wr).drew)
            obtain ⟨q0, q1, q2⟩ := HW.out _ HD.out
            go_region_law
              (first
                | (go_simp; refine (clone_callC _ _ _ _ HTL.out ((HC.out.2 m HLT.out).at HD.out fun _ h => h.elim)).mono ?_; rintro e9 w9 ⟨⟨aa, cc, rfl, o9⟩, k9⟩; have HO9 := Lib.hid (And.intro o9 k9); obtain ⟨q0, q1, q2⟩ := HW.out _ (HD.out.trans k9); clear o9 k9)
                | fail)
            all_goals (go_wp2_with fail; go_roundw)
            case rel => exact ⟨m + 1, rfl, HLT.out, upd LA m aa, upd LC m cc, (HO.out.quiet (HD.out.trans HO9.out.2)).setL (HA3.out lb rfl).1 m HLT.out aa cc, srck_keep HC.out.1 (HD.out.trans HO9.out.2) (.inr (.inr ⟨Nat.lt_of_le_of_lt (Nat.zero_le m) HLT.out, rfl⟩)) _ _, srck_step HC.out.2 (HD.out.trans HO9.out.2) (HO9.out.1 (HO.out.quiet HD.out).bnd) (.inr (.inr ⟨Nat.lt_of_le_of_lt (Nat.zero_le m) HLT.out, rfl⟩)) _ _⟩
            case rel => exact ⟨m + 1, rfl, HLT.out, upd LA m aa, upd LC m cc, (HO.out.quiet (HD.out.trans HO9.out.2)).setL (HA3.out lb rfl).1 m HLT.out aa cc, srck_keep HC.out.1 (HD.out.trans HO9.out.2) (.inr (.inr ⟨Nat.lt_of_le_of_lt (Nat.zero_le m) HLT.out, rfl⟩)) _ _, srck_step HC.out.2 (HD.out.trans HO9.out.2) (HO9.out.1 (HO.out.quiet HD.out).bnd) (.inr (.inr ⟨Nat.lt_of_le_of_lt (Nat.zero_le m) HLT.out, rfl⟩)) _ _⟩
            case rel => exact ⟨m + 1, rfl, HLT.out, upd LA m aa, upd LC m cc, (HO.out.quiet (HD.out.trans HO9.out.2)).setL (HA3.out lb rfl).1 m HLT.out aa cc, srck_keep HC.out.1 (HD.out.trans HO9.out.2) (.inr (.inr ⟨Nat.lt_of_le_of_lt (Nat.zero_le m) HLT.out, rfl⟩)) _ _, srck_step HC.out.2 (HD.out.trans HO9.out.2) (HO9.out.1 (HO.out.quiet HD.out).bnd) (.inr (.inr ⟨Nat.lt_of_le_of_lt (Nat.zero_le m) HLT.out, rfl⟩)) _ _⟩
            case rel => exact ⟨m + 1, rfl, HLT.out, upd LA m aa, upd LC m cc, (HO.out.quiet (HD.out.trans HO9.out.2)).setL (HA3.out lb rfl).1 m HLT.out aa cc, srck_keep HC.out.1 (HD.out.trans HO9.out.2) (.inr (.inr ⟨Nat.lt_of_le_of_lt (Nat.zero_le m) HLT.out, rfl⟩)) _ _, srck_step HC.out.2 (HD.out.trans HO9.out.2) (HO9.out.1 (HO.out.quiet HD.out).bnd) (.inr (.inr ⟨Nat.lt_of_le_of_lt (Nat.zero_le m) HLT.out, rfl⟩)) _ _⟩
            all_goals exact meas_as1 HLT.out
          · have HO := Lib.hid hO
            have HC := Lib.hid (And.intro hCT hC)
            obtain ⟨e0, e1, e2, e3⟩ := four_cells hO.box
            obtain ⟨r0, r1, r2, r3⟩ := four_cells hO.res
            have ll := lt_of hO.res
            obtain ⟨f0, f1, f2, f3⟩ := (And.intro (free_of hO.res 0) (And.intro (free_of hO.res 1) (And.intro (free_of hO.res 2) (free_of hO.res 3))))
            have d1 : decide ((m : Int) < (c.nL : Int)) = false := decide_eq_false (by omega)
            have d2 : decide (m < c.nL) = false := decide_eq_false hlt
            clear hO hC hCT hk hlt
            go_wp2_with fail
            have kk : Keeps (fun j => j = w.heap.size + 1) wr ((((wr.setCell ⟨w.heap.size + 1, 0, none⟩ (.slice (some ⟨tb, 0, none⟩) c.nT c2)).setCell ⟨w.heap.size + 1, 1, none⟩ (.slice a3 c.nL c3)).setCell ⟨w.heap.size + 1, 2, none⟩ (.slice a4 c.nO c4)).setCell ⟨w.heap.size + 1, 3, none⟩ (.int .i64 c.tick)) := ((((Keeps.refl (fun j => j = w.heap.size + 1) wr).setCell (p := ⟨w.heap.size + 1, 0, none⟩) (.inl rfl) _).setCell (p := ⟨w.heap.size + 1, 1, none⟩) (.inl rfl) _).setCell (p := ⟨w.heap.size + 1, 2, none⟩) (.inl rfl) _).setCell (p := ⟨w.heap.size + 1, 3, none⟩) (.inl rfl) _
            have b9 : ((((wr.setCell ⟨w.heap.size + 1, 0, none⟩ (.slice (some ⟨tb, 0, none⟩) c.nT c2)).setCell ⟨w.heap.size + 1, 1, none⟩ (.slice a3 c.nL c3)).setCell ⟨w.heap.size + 1, 2, none⟩ (.slice a4 c.nO c4)).setCell ⟨w.heap.size + 1, 3, none⟩ (.int .i64 c.tick)).heap[w.heap.size + 1]? = some (.cells #[.slice (some ⟨tb, 0, none⟩) c.nT c2, .slice a3 c.nL c3, .slice a4 c.nO c4, .int .i64 c.tick] 26 (0, 0)) := heap_set (heap_set (heap_set (heap_set HO.out.res 0 (.slice (some ⟨tb, 0, none⟩) c.nT c2)) 1 (.slice a3 c.nL c3)) 2 (.slice a4 c.nO c4)) 3 (.int .i64 c.tick)
            have HF := Lib.hid (show CfIn ((((wr.setCell ⟨w.heap.size + 1, 0, none⟩ (.slice (some ⟨tb, 0, none⟩) c.nT c2)).setCell ⟨w.heap.size + 1, 1, none⟩ (.slice a3 c.nL c3)).setCell ⟨w.heap.size + 1, 2, none⟩ (.slice a4 c.nO c4)).setCell ⟨w.heap.size + 1, 3, none⟩ (.int .i64 c.tick)) (c.own (some ⟨tb, 0, none⟩) a3 a4 c2 c3 c4 TA LA TC LC) ∧ CodesIn ((((wr.setCell ⟨w.heap.size + 1, 0, none⟩ (.slice (some ⟨tb, 0, none⟩) c.nT c2)).setCell ⟨w.heap.size + 1, 1, none⟩ (.slice a3 c.nL c3)).setCell ⟨w.heap.size + 1, 2, none⟩ (.slice a4 c.nO c4)).setCell ⟨w.heap.size + 1, 3, none⟩ (.int .i64 c.tick)) (c.own (some ⟨tb, 0, none⟩) a3 a4 c2 c3 c4 TA LA TC LC) ∧ Keeps (fun _ => False) w ((((wr.setCell ⟨w.heap.size + 1, 0, none⟩ (.slice (some ⟨tb, 0, none⟩) c.nT c2)).setCell ⟨w.heap.size + 1, 1, none⟩ (.slice a3 c.nL c3)).setCell ⟨w.heap.size + 1, 2, none⟩ (.slice a4 c.nO c4)).setCell ⟨w.heap.size + 1, 3, none⟩ (.int .i64 c.tick)) from ⟨cfin_of (HO.out.t.at kk (Ty.ne (let ⟨cs, hb, _⟩ := HO.out.t; ⟨cs, _, hb⟩) ⟨_, _, HO.out.res⟩ (by decide))) (HO.out.l.at kk fun j e t => Ty.ne t ⟨_, _, HO.out.res⟩ (by decide) e) (HO.out.o.at kk fun j e t => Ty.ne t ⟨_, _, HO.out.res⟩ (by decide) e), ⟨fun i hi => ((HC.out.1 i hi).at kk fun j e => .inl e).toC, fun i hi => ((HC.out.2 i hi).at kk fun j e => .inl e).toC⟩, HO.out.keeps.far kk fun j e => by rw [e]; exact Nat.le_succ _⟩)
            clear kk e0 e1 e2 e3 r0 r1 r2 r3 f0 f1 f2 f3 ll d1 d2
            generalize ((((wr.setCell ⟨w.heap.size + 1, 0, none⟩ (.slice (some ⟨tb, 0, none⟩) c.nT c2)).setCell ⟨w.heap.size + 1, 1, none⟩ (.slice a3 c.nL c3)).setCell ⟨w.heap.size + 1, 2, none⟩ (.slice a4 c.nO c4)).setCell ⟨w.heap.size + 1, 3, none⟩ (.int .i64 c.tick)) = Wfin at HF b9 ⊢
            refine bodyPost_ret (v := .agg #[.slice (some ⟨tb, 0, none⟩) c.nT c2, .slice a3 c.nL c3, .slice a4 c.nO c4, .int .i64 c.tick]) (results_cell_row Tryz.results59 _ _ (w.heap.size + 1) 26 #[.slice (some ⟨tb, 0, none⟩) c.nT c2, .slice a3 c.nL c3, .slice a4 c.nO c4, .int .i64 c.tick] (0, 0) _ rfl b9 Tryz.underlying26 rfl (by kernel_rfl)) rfl ?_
            exact ⟨_, _, _, _, _, _, _, _, _, _, rfl, HF.out.1, HF.out.2.1, HF.out.2.2⟩
  have HD := Lib.hid ((Keeps.refl (fun _ => False) W1).drew)
  go_region_law
    (first
      | (go_simp; refine (HCT.out _ (HB.out.keeps.trans HD.out)).mono ?_; rintro e2 w2 ⟨⟨v2, rfl, ⟨a2, c2, rfl⟩, o2⟩, k2⟩; have HT2 := Lib.hid (And.intro o2 k2); obtain ⟨q0, q1, q2, q3⟩ := HQ.out _ (HD.out.trans k2); obtain ⟨f0, f1, f2, ll⟩ := HF.out _ (HD.out.trans k2); clear o2 k2)
      | (go_simp; refine (HCL.out _ (HB.out.keeps.trans (HD.out.trans HT2.out.2))).mono ?_; rintro e3 w3 ⟨⟨v3, rfl, ⟨a3, c3, rfl⟩, o3⟩, k3⟩; have HT3 := Lib.hid (And.intro o3 k3); obtain ⟨q0, q1, q2, q3⟩ := HQ.out _ ((HD.out.trans HT2.out.2).trans k3); obtain ⟨f0, f1, f2, ll⟩ := HF.out _ ((HD.out.trans HT2.out.2).trans k3); clear o3 k3)
      | (go_simp; refine (HCO.out _ (HB.out.keeps.trans ((HD.out.trans HT2.out.2).trans HT3.out.2))).mono ?_; rintro e4 w4 ⟨⟨v4, rfl, ⟨a4, c4, rfl⟩, o4⟩, k4⟩; have HT4 := Lib.hid (And.intro o4 k4); obtain ⟨q0, q1, q2, q3⟩ := HQ.out _ (((HD.out.trans HT2.out.2).trans HT3.out.2).trans k4); obtain ⟨f0, f1, f2, ll⟩ := HF.out _ (((HD.out.trans HT2.out.2).trans HT3.out.2).trans k4); clear o4 k4)
      | fail)
  all_goals
    exact KEY a2 a3 a4 c2 c3 c4 w4 _ _ _ ((HD.out.trans HT2.out.2).trans (HT3.out.2.trans HT4.out.2)) (HB.out.keeps.trans HD.out).size (HB.out.keeps.trans (HD.out.trans HT2.out.2)).size (own_keepK HT2.out.1 (HT3.out.2.trans HT4.out.2) fun _ _ h => h) (own_keepK HT3.out.1 HT4.out.2 fun _ _ h => h) HT4.out.1
end Go.Proofs.YthnmlklgbggmbaaGreat
