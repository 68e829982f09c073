import Derived.Test.YtkhmfjfclpehfaaGreatMeJz
namespace Go.Proofs.YtkhmfjfclpehfaaGreat
open Go.ChangeShapes Go.WideShapes Go.ChangeAt Go.RowKit
set_option linter.unusedVariables false
set_option linter.unusedSimpArgs false
set_option maxRecDepth 100000
theorem info_su32 : (Tryz.prog.info? 54).map (fun i => (i.zero, i.size, i.bytes)) = some (some (.slice none 0 0), 1, 24) := by kernel_rfl
theorem info_intN : (Tryz.prog.info? 3).map (fun i => (i.zero, i.size, i.bytes)) = some (some (.int .i64 0), 1, 8) := by kernel_rfl
theorem make_rows (w : World) (n : Nat) (hn : n ≤ 1000) : (Instr.makeSlice 32 (.int .i64 (n : Int)) (.int .i64 (n : Int))).run Tryz.prog w = .ok (.slice (some ⟨w.heap.size, 0, none⟩) n n) (w.alloc (.cells (madeCells #[.slice none 0 0] n) 54)) := by
  obtain ⟨i, hi, hz0, hz1, hz2⟩ := info_parts info_su32
  have h := run_make w 32 54 i (.slice none 0 0) Tryz.underlying32 hi hz0 .i64 .i64 (n : Int) (n : Int) (by omega) (by omega) (by rw [hz2]; omega) (by omega)
  rw [hz1] at h
  simpa [Value.cells] using h
theorem make_nums (w : World) (n : Nat) (hn : n ≤ 1000) : (Instr.makeSlice 33 (.int .i64 (n : Int)) (.int .i64 (n : Int))).run Tryz.prog w = .ok (.slice (some ⟨w.heap.size, 0, none⟩) n n) (w.alloc (.cells (madeCells #[.int .i64 0] n) 3)) := by
  obtain ⟨i, hi, hz0, hz1, hz2⟩ := info_parts info_intN
  have h := run_make w 33 3 i (.int .i64 0) Tryz.underlying33 hi hz0 .i64 .i64 (n : Int) (n : Int) (by omega) (by omega) (by rw [hz2]; omega) (by omega)
  rw [hz1] at h
  simpa [Value.cells] using h
theorem made_get (z : Value) (n k : Nat) (hk : k < n) : (madeCells #[z] n)[k]? = some z := by
  rw [← Array.getElem?_toList, toList_madeCells_one, List.getElem?_replicate, if_pos hk]
theorem MoW.u32 {P : Nat → Prop} {w w' : World} {a : MoA} {M : ScM} {tk : Int} {A : Nat → AskX} (h : MoW w P a M tk A) (k : KeepsTy [34] w w') : MoW w' P a M tk A :=
  ⟨k.at h.blk (by decide), Keeps.at k h.map fun ⟨T, _, e⟩ => map_no h.map e, h.sch.keepTy k (by intro T hT; obtain rfl := List.mem_singleton.1 hT; decide), h.n, h.asks.keep k (fun e => KeepsTy.apart h.asks.ty (by decide) e), h.aok⟩
theorem Mdl.grown {B : Nat} {w w' : World} {P : Nat → Prop} {m lb nL : Nat} {F : Nat → LnX} {v : Value} {g : Nat} (h : Mdl B w P m lb nL F) (k : Keeps (fun b => v.ownBlock = some b) w w') (hv : ∀ b, v.ownBlock = some b → ¬ P b ∧ Ty w b 34) (hg : v.ownBlock = some g ∨ w.heap.size ≤ g) (ht : Ty w' g 34) :
    ∃ P', Mdl B w' P' m lb nL F ∧ (∀ b, P' b → P b) ∧ ¬ P' g := by
  obtain ⟨a, M, tk, A, S, rfl, h⟩ := h
  have kt : KeepsTy [34] w w' := k.mono fun b _ e => ⟨_, .head _, (hv b e).2⟩
  have hm := h.mo.u32 kt
  have hl := h.ln.keep k (fun b hP _ e => (hv b e).1 hP) fun hp e => by
    obtain ⟨_, _, _, h3⟩ := h.ln
    obtain ⟨_, V, hr, _⟩ := h3 hp
    exact Ty.ne (hv lb e).2 hr.ty (by decide) rfl
  have hs : ∀ {X : ItemD → Prop} {g0 : Nat}, StateAt w g0 S → StateAt w' g0 S := fun hs => hs.keep k (fun b hb e => Ty.ne (hv b e).2 (T' := 36) (by obtain ⟨cs, fr, h⟩ := hb; exact ⟨cs, fr, h⟩) (by decide) rfl) fun b hb e => Ty.ne (hv b e).2 (T' := 106) (by obtain ⟨cs, fr, h⟩ := hb; exact ⟨cs, fr, h⟩) (by decide) rfl
  obtain ⟨g0, c0, hit, hst⟩ := h.it
  rcases hg with hg | hg
  · exact ⟨P, ⟨a, M, tk, A, S, rfl, ⟨hm, h.inv, h.msk, h.tk0, h.tk1, h.far, h.farl, h.nlb, ⟨g0, c0, hit, hs (X := fun _ => True) hst⟩, h.ok, h.sl, h.nl, hl, h.pm, h.pa⟩⟩, fun b hb => hb, (hv g hg).1⟩
  · refine ⟨fun k => P k ∧ k ≠ g, ⟨a, M, tk, A, S, rfl, ⟨hm.mono (hm.sch.but ht (by decide)), h.inv, h.msk, h.tk0, h.tk1, fun k hk => h.far k hk.1, h.farl, fun hp e => h.nlb hp e.1, ⟨g0, c0, hit, hs (X := fun _ => True) hst⟩, h.ok, h.sl, h.nl, ?_, ⟨h.pm, Ty.ne ⟨_, _, hm.blk⟩ ht (by decide)⟩, ⟨h.pa, Ty.ne hm.asks.ty ht (by decide)⟩⟩⟩, fun b hb => hb.1, fun e => e.2 rfl⟩
    refine (h.ln.but hg).keep k (fun b hP _ e => (hv b e).1 hP.1) fun hp e => ?_
    obtain ⟨_, _, _, h3⟩ := h.ln
    obtain ⟨_, V, hr, _⟩ := h3 hp
    exact Ty.ne (hv lb e).2 hr.ty (by decide) rfl
theorem Mdl.quiet {B : Nat} {w w' : World} {P : Nat → Prop} {m lb nL : Nat} {F : Nat → LnX} (h : Mdl B w P m lb nL F) (k : Keeps (fun _ => False) w w') : Mdl B w' P m lb nL F := by
  obtain ⟨a, M, tk, A, S, rfl, h⟩ := h
  exact ⟨a, M, tk, A, S, rfl, h.go (kM_none k) (h.mo.quiet k) h.inv h.msk h.tk0 h.tk1⟩
theorem MoW.rowsTy {P : Nat → Prop} {w w' : World} {a : MoA} {M : ScM} {tk : Int} {A : Nat → AskX} (h : MoW w P a M tk A) (k : KeepsTy [54, 3] w w') : MoW w' P a M tk A :=
  ⟨k.at h.blk (by decide), Keeps.at k h.map fun ⟨T, _, e⟩ => map_no h.map e, h.sch.keepTy k (by intro T hT; rcases List.mem_cons.1 hT with rfl | hT; (· decide); (obtain rfl := List.mem_singleton.1 hT; decide)), h.n, h.asks.keep k (fun e => KeepsTy.apart h.asks.ty (by decide) e), h.aok⟩
theorem Mdl.rowsTy {B : Nat} {w w' : World} {P : Nat → Prop} {m lb nL : Nat} {F : Nat → LnX} (h : Mdl B w P m lb nL F) (k : KeepsTy [54, 3] w w') : Mdl B w' P m lb nL F := by
  obtain ⟨a, M, tk, A, S, rfl, h⟩ := h
  obtain ⟨g0, c0, hit, hst⟩ := h.it
  refine ⟨a, M, tk, A, S, rfl, ⟨h.mo.rowsTy k, h.inv, h.msk, h.tk0, h.tk1, h.far, h.farl, h.nlb, ⟨g0, c0, hit, hst.keep k (fun b hb e => KeepsTy.apart (T := 36) (by obtain ⟨cs, fr, h⟩ := hb; exact ⟨cs, fr, h⟩) (by decide) e) fun b hb e => KeepsTy.apart (T := 106) (by obtain ⟨cs, fr, h⟩ := hb; exact ⟨cs, fr, h⟩) (by decide) e⟩, h.ok, h.sl, h.nl, h.ln.keep k (fun b _ hb e => KeepsTy.apart hb (by decide) e) fun hp e => ?_, h.pm, h.pa⟩⟩
  obtain ⟨_, _, _, h3⟩ := h.ln
  obtain ⟨_, V, hr, _⟩ := h3 hp
  exact KeepsTy.apart hr.ty (by decide) e
theorem Mdl.len {B : Nat} {w : World} {P : Nat → Prop} {m lb nL : Nat} {F : Nat → LnX} (h : Mdl B w P m lb nL F) {i : Nat} (hi : i < nL) : ((F i).q.length : Int) ≤ (F i).r ∧ (F i).r ≤ 64 := by
  obtain ⟨a, M, tk, A, S, rfl, h⟩ := h
  obtain ⟨_, _, _, h3⟩ := h.ln
  obtain ⟨_, V, _, hq⟩ := h3 (by omega)
  exact ⟨(hq i hi).2.len, (hq i hi).2.r⟩
theorem Mdl.farQ {B : Nat} {w : World} {P : Nat → Prop} {m lb nL : Nat} {F : Nat → LnX} (h : Mdl B w P m lb nL F) : ∀ k, QF P nL lb k → B ≤ k := by
  obtain ⟨a, M, tk, A, S, rfl, h⟩ := h
  intro k hk
  rcases hk with hk | ⟨hp, rfl⟩
  · exact h.far k hk
  · exact h.farl hp
structure LwI (c : CfD) (w : World) (B m lb gi gg : Nat) (P : Nat → Prop) (F : Nat → LnX) (V : Nat → Value) (I : Nat → List Nat) (G : Nat → Nat) (wr : World) : Prop where
  keeps : Keeps (fun _ => False) w wr
  cf : wr.heap[w.heap.size]? = some (.cells c.cells 26 (0, 0))
  base : w.heap.size ≤ B
  md : Mdl B wr P m lb c.nL F
  giB : w.heap.size ≤ gi
  ggB : w.heap.size ≤ gg
  ib : ∃ cs, wr.heap[gi]? = some (.cells cs 54 (0, 0)) ∧ ∀ k, k ≤ c.nL → cs[k]? = some (V k)
  gb : ∃ cs, wr.heap[gg]? = some (.cells cs 3 (0, 0)) ∧ ∀ k, k ≤ c.nL → cs[k]? = some (.int .i64 (G k : Int))
  rows : ∀ k, k ≤ c.nL → wr.ownsRow w.heap.size 34 1 (V k) (I k).length (recs (I k))
  apart : ∀ k k', k ≤ c.nL → k' ≤ c.nL → k ≠ k' → ∀ b, (V k).ownBlock = some b → (V k').ownBlock ≠ some b
  np : ∀ k, k ≤ c.nL → ∀ b, (V k).ownBlock = some b → ¬ P b
def RelI (n : Nat) (lr : Nat → Int) (F : Nat → LnX) (I : Nat → List Nat) (G : Nat → Nat) : Prop := ∀ i, i < n → (F i).q = (I (i + 1)).drop (G (i + 1)) ∧ G (i + 1) ≤ (I (i + 1)).length ∧ (F i).r = lr i
theorem RelI.same {n : Nat} {lr : Nat → Int} {F F' : Nat → LnX} {I : Nat → List Nat} {G : Nat → Nat} (h : RelI n lr F I G) (hs : SameQ F F') : RelI n lr F' I G := fun i hi => by
  obtain ⟨h1, h2, h3⟩ := h i hi
  exact ⟨(hs i).1.trans h1, h2, (hs i).2.trans h3⟩
theorem RelI.add {n : Nat} {lr : Nat → Int} {F : Nat → LnX} {I : Nat → List Nat} {G : Nat → Nat} (h : RelI n lr F I G) (i y : Nat) (hi : i < n) : RelI n lr (upd F i ⟨(F i).r, (F i).q ++ [y], (F i).o⟩) (upd I (i + 1) (I (i + 1) ++ [y])) G := fun k hk => by
  obtain ⟨h1, h2, h3⟩ := h k hk
  by_cases e : k = i
  · subst e
    rw [upd_at, upd_at]
    refine ⟨?_, by rw [List.length_append]; omega, h3⟩
    show (F k).q ++ [y] = _
    rw [h1, List.drop_append_of_le_length h2]
  · rw [upd_ne _ _ e, upd_ne _ _ (by omega)]
    exact ⟨h1, h2, h3⟩
theorem RelI.pop {n : Nat} {lr : Nat → Int} {F : Nat → LnX} {I : Nat → List Nat} {G : Nat → Nat} (h : RelI n lr F I G) (i z : Nat) (t : List Nat) (hi : i < n) (hq : (F i).q = z :: t) : (I (i + 1))[G (i + 1)]? = some z ∧ G (i + 1) < (I (i + 1)).length ∧ RelI n lr (upd F i ⟨(F i).r, t, (F i).o⟩) I (upd G (i + 1) (G (i + 1) + 1)) := by
  obtain ⟨h1, h2, h3⟩ := h i hi
  rw [hq] at h1
  have hz : (I (i + 1))[G (i + 1)]? = some z := by
    have : ((I (i + 1)).drop (G (i + 1)))[0]? = some z := by rw [← h1]; rfl
    rwa [List.getElem?_drop, Nat.add_zero] at this
  have hlt := (List.getElem?_eq_some_iff.1 hz).1
  refine ⟨hz, hlt, fun k hk => ?_⟩
  by_cases e : k = i
  · subst e
    rw [upd_at, upd_at]
    refine ⟨?_, by omega, h3⟩
    show t = _
    have h4 : ((I (k + 1)).drop (G (k + 1))).drop 1 = t := by rw [← h1]; rfl
    rw [List.drop_drop] at h4
    exact h4.symm
  · rw [upd_ne _ _ e, upd_ne _ _ (by omega)]
    exact h k hk
section
variable {c : CfD} {w : World} {B m lb gi gg : Nat} {P : Nat → Prop} {F F' : Nat → LnX} {V : Nat → Value} {I : Nat → List Nat} {G : Nat → Nat} {wr w' : World}
theorem LwI.quiet (h : LwI c w B m lb gi gg P F V I G wr) (k : Keeps (fun _ => False) wr w') : LwI c w B m lb gi gg P F V I G w' :=
  ⟨h.keeps.trans k, k.at h.cf fun h => h, h.base, h.md.quiet k, h.giB, h.ggB, by obtain ⟨cs, h1, h2⟩ := h.ib; exact ⟨cs, k.at h1 fun h => h, h2⟩, by obtain ⟨cs, h1, h2⟩ := h.gb; exact ⟨cs, k.at h1 fun h => h, h2⟩, fun i hi => own_keepM (h.rows i hi) k fun _ _ e => e, h.apart, h.np⟩
theorem LwI.move (h : LwI c w B m lb gi gg P F V I G wr) (k : KeepsM (QF P c.nL lb) wr w') (hm : Mdl B w' P m lb c.nL F') : LwI c w B m lb gi gg P F' V I G w' :=
  ⟨h.keeps.farM k (fun b hb => Nat.le_trans h.base (h.md.farQ b hb.1)), k.at h.cf (by decide), h.base, hm, h.giB, h.ggB, by obtain ⟨cs, h1, h2⟩ := h.ib; exact ⟨cs, k.at h1 (by decide), h2⟩, by obtain ⟨cs, h1, h2⟩ := h.gb; exact ⟨cs, k.at h1 (by decide), h2⟩, fun i hi => own_keepM (h.rows i hi) k fun b hb e => KeepsTy.apart (own_tyM (h.rows i hi) hb).1 (by decide) e.2, h.apart, h.np⟩
theorem LwI.cellI (h : LwI c w B m lb gi gg P F V I G wr) (k : Nat) (hk : k ≤ c.nL) : wr.cell? ⟨gi, k, none⟩ = some (V k) ∧ wr.frozen? ⟨gi, k, none⟩ = false ∧ gi < wr.heap.size := by
  obtain ⟨cs, h1, h2⟩ := h.ib
  exact ⟨(cell_of h1 k).trans (h2 k hk), free_of h1 k, lt_of h1⟩
theorem LwI.cellG (h : LwI c w B m lb gi gg P F V I G wr) (k : Nat) (hk : k ≤ c.nL) : wr.cell? ⟨gg, k, none⟩ = some (.int .i64 (G k : Int)) ∧ wr.frozen? ⟨gg, k, none⟩ = false ∧ gg < wr.heap.size := by
  obtain ⟨cs, h1, h2⟩ := h.gb
  exact ⟨(cell_of h1 k).trans (h2 k hk), free_of h1 k, lt_of h1⟩
theorem LwI.pop (h : LwI c w B m lb gi gg P F V I G wr) (k : Nat) (hk : k ≤ c.nL) (x : Nat) : LwI c w B m lb gi gg P F V I (upd G k x) (wr.setCell ⟨gg, k, none⟩ (.int .i64 (x : Int))) := by
  obtain ⟨cs, h1, h2⟩ := h.gb
  have kk : Keeps (fun b => b = gg) wr (wr.setCell ⟨gg, k, none⟩ (.int .i64 (x : Int))) := (Keeps.refl (fun b => b = gg) wr).setCell (p := ⟨gg, k, none⟩) (.inl rfl) _
  have kt : KeepsTy [54, 3] wr (wr.setCell ⟨gg, k, none⟩ (.int .i64 (x : Int))) := kk.mono fun b _ e => ⟨_, .tail _ (.head _), by obtain rfl : b = gg := e; exact ⟨_, _, h1⟩⟩
  refine ⟨h.keeps.farM kk (fun b e => by have e' : b = gg := e; rw [e']; exact h.ggB), kk.at h.cf (Ty.ne ⟨_, _, h.cf⟩ ⟨_, _, h1⟩ (by decide)), h.base, h.md.rowsTy kt, h.giB, h.ggB, ?_, ⟨_, heap_set h1 k _, fun i hi => ?_⟩, fun i hi => own_keepM (h.rows i hi) kk fun b hb e => Ty.ne (own_tyM (h.rows i hi) hb).1 ⟨_, _, h1⟩ (by decide) e, h.apart, h.np⟩
  · obtain ⟨ds, h3, h4⟩ := h.ib
    exact ⟨ds, kk.at h3 (Ty.ne ⟨_, _, h3⟩ ⟨_, _, h1⟩ (by decide)), h4⟩
  · by_cases e : i = k
    · subst e
      rw [upd_at, Array.getElem?_setIfInBounds_self_of_lt (Array.getElem?_eq_some_iff.1 (h2 i hi)).1]
    · rw [upd_ne _ _ e, Array.getElem?_setIfInBounds_ne (Ne.symm e)]
      exact h2 i hi
theorem LwI.add (h : LwI c w B m lb gi gg P F V I G wr) (k : Nat) (hk : k ≤ c.nL) (y : Nat) {w4 : World} (kk : Keeps (fun b => (V k).ownBlock = some b) wr w4) {g cap n : Nat} (hn : n = (I k).length + 1)
    (ho : w4.ownsRow w.heap.size 34 1 (.slice (some ⟨g, 0, none⟩) n cap) n (recs (I k ++ [y]))) (hg : (V k).ownBlock = some g ∨ wr.heap.size ≤ g) :
    ∃ P', LwI c w B m lb gi gg P' F (upd V k (.slice (some ⟨g, 0, none⟩) n cap)) (upd I k (I k ++ [y])) G (w4.setCell ⟨gi, k, none⟩ (.slice (some ⟨g, 0, none⟩) n cap)) := by
  subst hn
  have hty : ∀ b, (V k).ownBlock = some b → Ty wr b 34 := fun b hb => (own_tyM (h.rows k hk) hb).1
  have hog : (Value.slice (some ⟨g, 0, none⟩) ((I k).length + 1) cap).ownBlock = some g := rfl
  have hgt : Ty w4 g 34 := (own_tyM ho hog).1
  obtain ⟨P', hm, hP1, hP2⟩ := h.md.grown kk (fun b hb => ⟨h.np k hk b hb, hty b hb⟩) hg hgt
  obtain ⟨cs, h1, h2⟩ := h.ib
  have h1' := kk.at h1 fun e => Ty.ne (hty gi e) ⟨_, _, h1⟩ (by decide) rfl
  have ks : Keeps (fun b => b = gi) w4 (w4.setCell ⟨gi, k, none⟩ (.slice (some ⟨g, 0, none⟩) ((I k).length + 1) cap)) := (Keeps.refl (fun b => b = gi) w4).setCell (p := ⟨gi, k, none⟩) (.inl rfl) _
  have kt : KeepsTy [54, 3] w4 (w4.setCell ⟨gi, k, none⟩ (.slice (some ⟨g, 0, none⟩) ((I k).length + 1) cap)) := ks.mono fun b _ e => ⟨_, .head _, by obtain rfl : b = gi := e; exact ⟨_, _, h1'⟩⟩
  refine ⟨P', (h.keeps.farM kk (fun b e => (own_tyM (h.rows k hk) e).2)).farM ks (fun b e => by have e' : b = gi := e; rw [e']; exact h.giB), ks.at (kk.at h.cf fun e => Ty.ne (hty _ e) ⟨_, _, h.cf⟩ (by decide) rfl) (Ty.ne ⟨_, _, kk.at h.cf fun e => Ty.ne (hty _ e) ⟨_, _, h.cf⟩ (by decide) rfl⟩ ⟨_, _, h1'⟩ (by decide)), h.base, hm.rowsTy kt, h.giB, h.ggB, ⟨_, heap_set h1' k _, fun i hi => ?_⟩, ?_, fun i hi => ?_, fun i i' hi hi' hne b hb hb' => ?_, fun i hi b hb hp => ?_⟩
  · by_cases e : i = k
    · subst e
      rw [upd_at, Array.getElem?_setIfInBounds_self_of_lt (Array.getElem?_eq_some_iff.1 (h2 i hi)).1]
    · rw [upd_ne _ _ e, Array.getElem?_setIfInBounds_ne (Ne.symm e)]
      exact h2 i hi
  · obtain ⟨ds, h3, h4⟩ := h.gb
    have h3' := kk.at h3 fun e => Ty.ne (hty gg e) ⟨_, _, h3⟩ (by decide) rfl
    exact ⟨ds, ks.at h3' (Ty.ne ⟨_, _, h3'⟩ ⟨_, _, h1'⟩ (by decide)), h4⟩
  · by_cases e : i = k
    · subst e
      rw [upd_at, upd_at, List.length_append, List.length_singleton]
      exact own_keepM ho ks fun b hb e => Ty.ne (own_tyM ho hb).1 ⟨_, _, h1'⟩ (by decide) e
    · rw [upd_ne _ _ e, upd_ne _ _ e]
      have h5 := own_keepM (h.rows i hi) kk fun b hb e2 => h.apart i k hi hk e b hb e2
      exact own_keepM h5 ks fun b hb e2 => Ty.ne (own_tyM h5 hb).1 ⟨_, _, h1'⟩ (by decide) e2
  · have key : ∀ x u, x ≤ c.nL → x ≠ k → (V x).ownBlock = some u → u ≠ g := fun x u hx ex hu e2 => by
      subst e2
      rcases hg with hg | hg
      · exact h.apart x k hx hk ex u hu hg
      · obtain ⟨cs5, fr5, h5⟩ := (own_tyM (h.rows x hx) hu).1
        have := lt_of h5
        omega
    by_cases e : i = k
    · subst e
      rw [upd_at] at hb
      rw [upd_ne _ _ (Ne.symm hne)] at hb'
      rw [hog] at hb
      exact key i' b hi' (Ne.symm hne) hb' (Option.some.inj hb).symm
    · rw [upd_ne _ _ e] at hb
      by_cases e' : i' = k
      · subst e'
        rw [upd_at, hog] at hb'
        exact key i b hi e hb (Option.some.inj hb').symm
      · rw [upd_ne _ _ e'] at hb'
        exact h.apart i i' hi hi' hne b hb hb'
  · by_cases e : i = k
    · subst e
      rw [upd_at, hog] at hb
      obtain rfl := Option.some.inj hb
      exact hP2 hp
    · rw [upd_ne _ _ e] at hb
      exact h.np i hi b hb (hP1 b hp)
end
end Go.Proofs.YtkhmfjfclpehfaaGreat
namespace Go.Proofs.YtkhmfjfclpehfaaGreat
open Go.ChangeShapes Go.WideShapes Go.ChangeAt Go.RowKit
set_option linter.unusedVariables false
set_option linter.unusedSimpArgs false
set_option maxRecDepth 100000
theorem share3 {Pg : Program} {Q : Exit → Act → World → Prop} {c1 c2 c3 r : Code} {K : Act → World → Prop} (hK : ∀ a w, (Code.seq c1 (Code.seq c2 (Code.seq c3 r))).wp Pg Q a w → K a w) :
    ∃ KR : Act → World → Prop, (∀ a w, r.wp Pg Q a w → KR a w) ∧ ∀ a w, c1.wp Pg (Exit.then (fun a w => c2.wp Pg (Exit.then (fun a w => c3.wp Pg (Exit.then KR Q) a w) Q) a w) Q) a w → K a w := by
  refine ⟨fun a w => r.wp Pg Q a w, fun _ _ h => h, fun a w h => hK a w (wp_seq (wp_mono h fun e a w h1 => ?_))⟩
  cases e with
  | normal => exact wp_seq (wp_mono h1 fun e a w h2 => by cases e with
    | normal => exact wp_seq h2
    | exit id => exact h2
    | goto l => exact h2
    | ret => exact h2
    | panic ch => exact h2
    | outgrown => exact h2)
  | exit id => exact h1
  | goto l => exact h1
  | ret => exact h1
  | panic ch => exact h1
  | outgrown => exact h1
theorem wrap_nat (k : Nat) (h : k ≤ 1000) : wrap64 (k : Int) = (k : Int) := by unfold wrap64; omega
theorem len_small {q : Nat} {r : Int} (h : (q : Int) ≤ r) (h2 : r ≤ 64) : q ≤ 1000 := by omega
theorem int_succ (k : Nat) : (0 : Int) ≤ (k : Int) + 1 := by omega
theorem int_lt {k n : Nat} (h : k < n) : (k : Int) + 1 < (n : Int) + 1 := by omega
theorem wrapi_nat (k : Nat) (h : k ≤ 1000) : IntKind.i64.wrap (k : Int) = (k : Int) := by
  have h1 := wrap_nat k h
  first | exact h1 | (unfold wrap64 at h1; simp [IntKind.wrap, IntKind.bits, IntKind.signed]; omega)
theorem meas_in {k n : Nat} (h : k < n) : n + 1 - ((k : Int) + 1 + 1).toNat < n + 1 - ((k : Int) + 1).toNat := by omega
theorem meas_out {k n : Nat} (h : k < n) : n - ((k : Int) + 1).toNat < n - (k : Int).toNat := by omega
theorem wrap_two {k n : Nat} (h : k < n) (h2 : n ≤ 31) : wrap64 ((k : Int) + 1 + 1) = (k : Int) + 1 + 1 ∧ IntKind.i64.wrap ((k : Int) + 1 + 1) = (k : Int) + 1 + 1 ∧ wrap64 ((k : Int) + 2) = (k : Int) + 2 ∧ IntKind.i64.wrap ((k : Int) + 2) = (k : Int) + 2 := by
  have h1 := wrap_nat (k + 2) (by omega)
  have h3 := wrapi_nat (k + 2) (by omega)
  rw [show ((k + 2 : Nat) : Int) = (k : Int) + 2 by omega] at h1 h3
  rw [show (k : Int) + 1 + 1 = (k : Int) + 2 by omega]
  exact ⟨h1, h3, h1, h3⟩
theorem wrap_one {k n : Nat} (h : k < n) (h2 : n ≤ 80) : wrap64 ((k : Int) + 1) = (k : Int) + 1 ∧ IntKind.i64.wrap ((k : Int) + 1) = (k : Int) + 1 := by
  have h1 := wrap_nat (k + 1) (by omega)
  have h3 := wrapi_nat (k + 1) (by omega)
  rw [show ((k + 1 : Nat) : Int) = (k : Int) + 1 by omega] at h1 h3
  exact ⟨h1, h3⟩
theorem wrap_nl {k n : Nat} (h : k ≤ n) (h2 : n ≤ 31) : wrap64 (k : Int) = (k : Int) := wrap_nat k (by omega)
theorem wrapi_nl {k n : Nat} (h : k ≤ n) (h2 : n ≤ 31) : IntKind.i64.wrap (k : Int) = (k : Int) := wrapi_nat k (by omega)
theorem dec_neg (i : Nat) : decide ((i : Int) + 1 < 0) = false := decide_eq_false (by omega)
theorem dec_le {i n : Nat} (h : i < n) : decide ((n : Int) + 1 ≤ (i : Int) + 1) = false := decide_eq_false (by omega)
theorem dec_le2 {i n : Nat} (h : i < n) : decide ((n : Int) ≤ (i : Int)) = false := decide_eq_false (by omega)
theorem dec_le3 {i n : Nat} (h : i < n) : decide (n ≤ i) = false := decide_eq_false (by omega)
theorem toNat_one (k : Nat) : ((k : Int) + 1).toNat = k + 1 := by omega
theorem slice_row {w : World} {B : Nat} {v : Value} {q : List Nat} (h : w.ownsRow B 34 1 v q.length (recs q)) (g : Nat) (hg : g ≤ q.length) :
    ∃ sv, QAt w (fun _ => True) sv (q.drop g) ∧ ∀ W, (Instr.slice 54 v (some (.int .i64 (g : Int))) none none).run Tryz.prog W = .ok sv W := by
  obtain ⟨a, c, rfl, hc, hd⟩ := own_q (P := fun _ => True) h rfl fun _ _ => trivial
  have hz : ∀ W, (sizeOf (Tryz.prog.elem 54)).run Tryz.prog W = .ok 1 W := fun W => by kernel_rfl
  refine ⟨sliced a g q.length c 1, ⟨if c = g then a else a.map (·.add (g * 1)), c - g, ?_, ?_, fun hp => ?_⟩, fun W => ?_⟩
  · unfold sliced; rw [List.length_drop]
  · rw [List.length_drop]; omega
  · rw [List.length_drop] at hp
    obtain ⟨b, off, cs, rfl, _, hb, hx⟩ := hd (by omega)
    refine ⟨b, off + g, cs, ?_, trivial, hb, fun i x hi => ?_⟩
    · rw [if_neg (by omega)]
      show some ((⟨b, off, none⟩ : Addr).add (g * 1)) = _
      rw [show (⟨b, off, none⟩ : Addr).add (g * 1) = ⟨b, off + g, none⟩ by unfold Addr.add; split <;> simp_all]
    · rw [List.getElem?_drop] at hi
      rw [show off + g + i = off + (g + i) by omega]
      exact hx (g + i) x hi
  · have h1 := run_slice_l (P := Tryz.prog) W 54 a q.length c (by kernel_rfl) .i64 (g : Int) (by omega) (by omega)
    rw [h1, hz, Int.toNat_natCast]
    rfl
structure CbW (w : World) (c : CfD) (W : World) : Prop where
  keeps : Keeps (fun _ => False) w W
  cf : W.heap[w.heap.size]? = some (.cells c.cells 26 (0, 0))
theorem rmove_info : (Tryz.prog.info? 49).map (·.size) = some 20 := by kernel_rfl
theorem CbW.start (w : World) (c : CfD) : CbW w c (w.alloc (.cells c.cells 26)) := ⟨(Keeps.refl _ w).alloc _, heap_new w _⟩
theorem CbW.quiet {w W W' : World} {c : CfD} (h : CbW w c W) (k : Keeps (fun _ => False) W W') : CbW w c W' := ⟨h.keeps.trans k, k.at h.cf fun h => h⟩
theorem CbW.cells {w W : World} {c : CfD} (h : CbW w c W) : W.cell? ⟨w.heap.size, 0, none⟩ = some (.slice c.ta c.nT c.tc) ∧ W.cell? ⟨w.heap.size, 1, none⟩ = some (.slice c.la c.nL c.lc) ∧ W.cell? ⟨w.heap.size, 2, none⟩ = some (.slice c.oa c.nO c.oc) ∧ W.cell? ⟨w.heap.size, 3, none⟩ = some (.int .i64 c.tick) ∧ w.heap.size < W.heap.size :=
  ⟨cell_of h.cf 0, cell_of h.cf 1, cell_of h.cf 2, cell_of h.cf 3, lt_of h.cf⟩
set_option maxHeartbeats 16000000 in
theorem rows_bad (c : CfD) (w : World) (hc : CfIn w c) (ho : c.Ok) (la : Option Addr) (n cp : Nat) (L : List MvX) (hn : n ≤ maxLen) (hm : MovesAt w la n L) (hv : badOf c ≠ (0, 0, 0)) : Calls Tryz.prog 3 #[.agg c.cells, .slice la n cp] w (LawQ w) := by
  have HL := Lib.hid (fun W (k : Keeps (fun _ => False) w W) => light37_any c W (hc.none k) ho la n cp L hn (hm.quiet k))
  have HN := Lib.hid (fun W (k : Keeps (fun _ => False) w W) => new_bad c W (hc.none k) ho hv)
  clear hc ho hm hv
  have HB := Lib.hid (CbW.start w c)
  obtain ⟨q0, q1, q2, q3, l0⟩ := HB.out.cells
  go_enter Tryz.func3, Tryz.ntmps3
  go_wp2_with fail
  refine (HL.out _ HB.out.keeps).mono ?_
  rintro e1 w1 ⟨p, rfl, h80, k1⟩
  replace HB := Lib.hid (HB.out.quiet k1)
  have H80 := Lib.hid h80
  clear k1 h80
  clear q0 q1 q2 q3 l0
  obtain ⟨q0, q1, q2, q3, l0⟩ := HB.out.cells
  rcases p with _ | _
  · go_wp2_with fail
    refine (al37 HB.out.keeps).mono ?_
    rintro e9 w9 ⟨rfl, k9⟩
    have HK := Lib.hid k9
    clear k9
    go_wp2_with fail
    go_ret
    exact lawQ HK.out
  go_wp2_with fail
  refine (HN.out _ HB.out.keeps).mono ?_
  rintro e3 w3 ⟨rfl, k3⟩
  replace HB := Lib.hid (HB.out.quiet k3)
  clear k3
  go_wp2_with fail
  refine (al37 HB.out.keeps).mono ?_
  rintro e9 w9 ⟨rfl, k9⟩
  have HK := Lib.hid k9
  clear k9
  go_wp2_with fail
  go_ret
  exact lawQ HK.out
end Go.Proofs.YtkhmfjfclpehfaaGreat
