import Derived.Test.YtkhmfjfclpehfaaGreatDelAz
import Derived.Test.YtkhmfjfclpehfaaGreatSchTz
import Derived.BigRegion
import Derived.Deep.RegionHeld3
import Derived.Deep.MidRow
import Derived.Test.YtkhmfjfclpehfaaGreatBaseZ
import Derived.Test.YtkhmfjfclpehfaaGreatMdDz
namespace Go.Proofs.YtkhmfjfclpehfaaGreat
open Go.ChangeShapes Go.WideShapes Go.ChangeAt Go.RowKit
set_option linter.unusedVariables false
end Go.Proofs.YtkhmfjfclpehfaaGreat
namespace Go.Proofs.YtkhmfjfclpehfaaGreat
open Go.ChangeShapes Go.WideShapes Go.ChangeAt Go.RowKit
set_option linter.unusedVariables false
theorem dapp (D : Nat) (L : List Nd) (task : Int) (x : Nat) (w1 : World) (h1 : IsDelta w1 D L) :
    ∃ L', Ins L L' L.length ⟨w1.heap.size, task, x⟩ ∧ IsDelta ((w1.alloc (.cells #[.int .i64 task, .int .u32 (x : Int), .pointer none] 171)).setCell (atA D L L.length) (.pointer (some ⟨w1.heap.size, 0, none⟩))) D L' ∧ Keeps (Own D L) w1 ((w1.alloc (.cells #[.int .i64 task, .int .u32 (x : Int), .pointer none] 171)).setCell (atA D L L.length) (.pointer (some ⟨w1.heap.size, 0, none⟩))) := by
  obtain ⟨L', hI⟩ := ins_make L L.length ⟨w1.heap.size, task, x⟩ (Nat.le_refl _)
  obtain ⟨a1, a2, a3⟩ := at_cell h1 (Nat.le_refl L.length)
  have hpn : ptrOf L L.length = none := ptrOf_none (Nat.le_refl _)
  refine ⟨L', hI, ins_delta h1 hI (Nat.le_refl _) ?_ ?_ ?_, ?_⟩
  · rw [hpn]
    exact heap_other (heap_new _ _) (show w1.heap.size ≠ (atA D L L.length).block by omega) _
  · by_cases e : L.length = 0
    · rw [if_pos e, e]
      exact heap_set (heap_old h1.head _) 0 _
    · rw [if_neg e]
      refine heap_other (heap_old h1.head _) ?_ _
      obtain ⟨z, hz⟩ : ∃ z, L.length = z + 1 := ⟨L.length - 1, by omega⟩
      rw [hz]
      have hlt : z < L.length := by omega
      have hg := List.getElem?_eq_getElem hlt
      show D ≠ gOf L z
      rw [gOf_some hg]
      exact (h1.ne hg).symm
  · intro j a ha
    have hj := get_lt ha
    rw [if_neg (by omega)]
    by_cases e : j + 1 = L.length
    · rw [if_pos e, ← e]
      show (World.setCell _ ⟨gOf L j, 2, none⟩ _).heap[a.g]? = _
      rw [gOf_some ha]
      exact heap_set (heap_old (h1.node j a ha) _) 2 _
    · rw [if_neg e]
      refine heap_other (heap_old (h1.node j a ha) _) ?_ _
      obtain ⟨z, hz⟩ : ∃ z, L.length = z + 1 := ⟨L.length - 1, by omega⟩
      have hlt : z < L.length := by omega
      have hg := List.getElem?_eq_getElem hlt
      rw [hz]
      show a.g ≠ gOf L z
      rw [gOf_some hg]
      intro he
      have := h1.inj j z a _ ha hg he
      omega
  · exact (((Keeps.refl (Own D L) w1).alloc _).setCell (p := atA D L L.length) (.inl (at_block (Nat.le_refl _))) _)
structure Cp (wo wr : World) (C : Nat) (M : List Nd) (i : Nat) : Prop where
  is : IsDelta wr C M
  len : M.length = i
  new : ∀ (j : Nat) (nd : Nd), M[j]? = some nd → wo.heap.size ≤ nd.g
  below : Below wo.heap.size wo wr
  lo : wo.heap.size ≤ C
theorem Cp.quiet {wo w1 w2 : World} {C i : Nat} {M : List Nd} (h : Cp wo w1 C M i) (hk : Keeps (fun _ => False) w1 w2) : Cp wo w2 C M i :=
  ⟨h.is.none hk, h.len, h.new, h.below.trans (hk.none.mono h.below.size), h.lo⟩
theorem Cp.own {wo wr : World} {C i : Nat} {M : List Nd} (h : Cp wo wr C M i) : ∀ k, k < wr.heap.size → Own C M k → wo.heap.size ≤ k := by
  intro k _ hk
  rcases hk with rfl | ⟨i, a, ha, rfl⟩
  · exact h.lo
  · exact h.new i a ha
theorem Cp.step {wo wr : World} {C i : Nat} {M : List Nd} (t : Int) (x : Nat) (h : Cp wo wr C M i) :
    ∃ M', Cp wo ((wr.alloc (.cells #[.int .i64 t, .int .u32 (x : Int), .pointer none] 171)).setCell (atA C M i) (.pointer (some ⟨wr.heap.size, 0, none⟩))) C M' (i + 1) ∧ atA C M' (i + 1) = ⟨wr.heap.size, 2, none⟩ := by
  have hl := h.len
  obtain ⟨M', hI, hd, hk⟩ := dapp C M t x wr h.is
  rw [hl] at hI hd hk
  refine ⟨M', ⟨hd, by rw [hI.len, hl], ?_, h.below.trans (hk.below h.below.size h.own), h.lo⟩, ?_⟩
  · intro j nd hj
    rcases hI.cases hj with ⟨c1, c2⟩ | ⟨rfl, rfl⟩ | ⟨rfl, b, c2, rfl⟩ | ⟨c1, c2⟩
    · exact h.new j nd c2
    · exact h.below.size
    · exact h.new i b c2
    · exact h.new (j - 1) nd c2
  · show (⟨gOf M' i, 2, none⟩ : Addr) = _
    rw [gOf_some hI.at_]
end Go.Proofs.YtkhmfjfclpehfaaGreat
namespace Go.Proofs.YtkhmfjfclpehfaaGreat
open Go.ChangeShapes Go.WideShapes Go.ChangeAt Go.RowKit
set_option linter.unusedVariables false
set_option linter.unusedSimpArgs false
theorem copied {wr w2 : World} {C q : Nat} {M : ScM} {cs : Array Value} {f : Nat → Nat} {v : Nat → Value} {B : Nat} {p : Option Addr} {g : Nat} (hq : q < 16) (hb2 : w2.heap[C]? = some (.cells cs 97 (0, 0))) (hk : Keeps (fun _ => False) wr w2) (hcs : cs.size = 37) (hlo : ∀ j, j < q → cs[j]? = some (.pointer (if j < M.many then some ⟨f j, 0, none⟩ else none))) (hhi : ∀ j, q ≤ j → j < 37 → cs[j]? = some (v j))
    (hts : ∀ j, j < q → j < M.many → B ≤ f j ∧ ∃ u, wr.heap[f j]? = some (.cells #[.int .i64 (M.st j), .int .u32 (M.bits j : Int), u] 148 (0, 0))) (hp : p = if q < M.many then some ⟨g, 0, none⟩ else none) (hg : q < M.many → B ≤ g ∧ ∃ u, w2.heap[g]? = some (.cells #[.int .i64 (M.st q), .int .u32 (M.bits q : Int), u] 148 (0, 0))) :
    (w2.setCell ⟨C, q, none⟩ (.pointer p)).heap[C]? = some (.cells (cs.setIfInBounds q (.pointer p)) 97 (0, 0)) ∧ (cs.setIfInBounds q (.pointer p)).size = 37 ∧ (∀ j, j < q + 1 → (cs.setIfInBounds q (.pointer p))[j]? = some (.pointer (if j < M.many then some ⟨upd f q g j, 0, none⟩ else none))) ∧ (∀ j, q + 1 ≤ j → j < 37 → (cs.setIfInBounds q (.pointer p))[j]? = some (v j)) ∧
    (∀ j, j < q + 1 → j < M.many → B ≤ upd f q g j ∧ ∃ u, (w2.setCell ⟨C, q, none⟩ (.pointer p)).heap[upd f q g j]? = some (.cells #[.int .i64 (M.st j), .int .u32 (M.bits j : Int), u] 148 (0, 0))) := by
  have apart : ∀ (x : Nat) (u : Value) (a b : Value), w2.heap[x]? = some (.cells #[a, b, u] 148 (0, 0)) → x ≠ C := fun x u a b hx => Ty.ne (T := 148) (T' := 97) ⟨_, _, hx⟩ ⟨_, _, hb2⟩ (by decide)
  refine ⟨heap_set hb2 q _, by simpa using hcs, fun j hj => ?_, fun j h1 h2 => ?_, fun j hj hm => ?_⟩
  · by_cases e : j = q
    · subst e
      rw [Array.getElem?_setIfInBounds_self_of_lt (by omega), upd_at, hp]
    · rw [Array.getElem?_setIfInBounds_ne (fun h => e h.symm), upd_ne _ _ e]
      exact hlo j (by omega)
  · rw [Array.getElem?_setIfInBounds_ne (by omega)]
    exact hhi j (by omega) h2
  · by_cases e : j = q
    · subst e
      obtain ⟨h1, u, h2⟩ := hg hm
      rw [upd_at]
      exact ⟨h1, u, heap_other h2 (apart _ _ _ _ h2) _⟩
    · obtain ⟨h1, u, h2⟩ := hts j (by omega) hm
      rw [upd_ne _ _ e]
      have h3 := hk.at h2 fun e => e
      exact ⟨h1, u, heap_other h3 (apart _ _ _ _ h3) _⟩
end Go.Proofs.YtkhmfjfclpehfaaGreat
namespace Go.Proofs.YtkhmfjfclpehfaaGreat
open Go.ChangeShapes Go.WideShapes Go.ChangeAt Go.RowKit
set_option linter.unusedVariables false
set_option linter.unusedSimpArgs false
theorem ScV.cell {w : World} {a : ScA} {M : ScM} (h : ScV w a M) (k : Nat) {v : Value} (hv : ∀ cs, ScCells cs a M → cs[k]? = some v) : w.cell? ⟨a.s, k, none⟩ = some v := by
  obtain ⟨cs, hb, hc⟩ := h.blk
  exact (cell_of hb k).trans (hv cs hc)
theorem ScV.kept {w w' : World} {a : ScA} {M : ScM} {S : Nat → Prop} (h : ScV w a M) (hk : Keeps S w w') (h1 : ¬ S a.s) (h2 : ¬ S a.rk) (h3 : ∀ t, t < M.many → ¬ S (a.tb t)) : ScV w' a M := by
  obtain ⟨cs, hb, hc⟩ := h.blk
  exact ⟨⟨cs, hk.at hb h1, hc⟩, h.le, fun t ht => by obtain ⟨v, hv⟩ := h.task t ht; exact ⟨v, hk.at hv (h3 t ht)⟩, h.rank.keeps hk h2⟩
set_option maxRecDepth 20000 in
set_option maxHeartbeats 2000000 in
theorem swaits_any (w : World) (P : Nat → Prop) (a : ScA) (M : ScM) (h : ScW w P a M) (hm : M.W.length < 1000000) :
    Calls Tryz.prog 84 #[.pointer (some ⟨a.s, 0, none⟩)] w fun e w' => ∃ v, e = .returned v ∧ w'.ownsRow w.heap.size 120 4 v M.W.length (waitsC M.W) ∧ ScW w' P a M ∧ Keeps (fun _ => False) w w' := by
  have c36 := h.cQ
  have HS := Lib.hid (sc_qlist w P a M h hm)
  clear h
  go_enter Tryz.func84, Tryz.ntmps84
  go_wp2_with fail
  refine HS.out.mono ?_
  rintro e w2 ⟨v, rfl, hz⟩
  have HZ := Lib.hid hz
  clear hz HS
  go_wp2_with fail
  go_ret
  exact ⟨v, rfl, HZ.out⟩
structure StepX where
  k : Int
  t : Int
  rk : Int
  ro : Int
  m : Nat
  d : Nat
  b : Nat
  bits : Nat
structure StepX.Ok (x : StepX) : Prop where
  m : x.m < 4294967296
  d : x.d < 4294967296
  b : x.b < 4294967296
  bits : x.bits < 4294967296
end Go.Proofs.YtkhmfjfclpehfaaGreat
namespace Go.Proofs.YtkhmfjfclpehfaaGreat
open Go.ChangeShapes Go.WideShapes Go.ChangeAt Go.RowKit
set_option linter.unusedVariables false
set_option linter.unusedSimpArgs false
def rowW (M : ScM) : List Int := M.W.map fun v => v.1
section
variable {w : World} {P : Nat → Prop} {a : ScA} {M : ScM}
theorem ScW.w_nodup (h : ScW w P a M) : (rowW M).Nodup ∧ M.W.length ≤ 16 := by
  obtain ⟨N, b, hq, hg, hW, hl⟩ := h.queue
  have e : rowW M = N.map fun x => x.t := by
    unfold rowW
    rw [← hW, List.map_map]
    rfl
  refine ⟨by rw [e]; exact hg.one, ?_⟩
  rw [← hW, List.length_map]
  have h1 : (N.map fun x => x.t.toNat).Nodup := by
    have h2 := hg.one
    rw [List.Nodup, List.pairwise_map] at h2 ⊢
    refine List.Pairwise.imp_of_mem (fun {x y} hx hy hxy e => ?_) h2
    have := hg.rng x hx
    have := hg.rng y hy
    exact hxy (by omega)
  have := nodup_le 16 _ h1 fun x hx => by
    obtain ⟨y, hy, rfl⟩ := List.mem_map.1 hx
    have := hg.rng y hy
    omega
  simpa using this
def whenS (x y : Int) : Nat := if x = y then 1 else 0
end
structure Born (M : ScM) : Prop where
  inv : Inv M
  rin : ∀ t, M.R.2 t ≠ 0 → t < M.many
  T : M.T = fun _ => 0
  W : M.W = []
  two : ∀ t, t < M.many → M.st t = 1 ∨ M.st t = 4
theorem born_zero : Born zeroM := ⟨⟨Nat.zero_le _, fun t ht => absurd ht (Nat.not_lt_zero _), fun t ht => absurd ht (Nat.not_lt_zero _), fun v hv => (by cases hv), fun t ht => absurd ht (Nat.not_lt_zero _), fun t ht => absurd ht (Nat.not_lt_zero _), fun t ht => absurd ht (Nat.not_lt_zero _)⟩, fun t h => absurd rfl h, rfl, rfl, fun t ht => absurd ht (Nat.not_lt_zero _)⟩
theorem born_add {M : ScM} (h : Born M) (hm : M.many < 16) (p : Int) : Born (addM M p) := by
  have h0 : M.R.2 M.many = 0 := by
    by_cases e : M.R.2 M.many = 0
    · exact e
    · have := h.rin _ e; omega
  have hT : ∀ z, M.T z = 0 := fun z => by rw [h.T]
  unfold addM
  by_cases hc : canAdd M.R.2 (M.many : Int) p = true
  · rw [if_pos hc]
    have hp := (of_decide_eq_true (show decide _ = true from hc)).2.1
    have hR : ∀ x, (addT M.R (M.many : Int) p).2 x = if x = M.many then p.toNat + 1 else M.R.2 x := addT_at M.R M.many hm p hp h0
    refine ⟨⟨hm, fun t ht => ?_, fun t ht => ?_, fun v hv => ?_, fun t ht hTt => absurd (hT _) hTt, fun t ht hs => ?_, fun t ht => ?_⟩, fun t ht => ?_, h.T, h.W, fun t ht => ?_⟩
    · show upd M.st M.many 1 t = 1 ↔ (addT M.R (M.many : Int) p).2 t ≠ 0
      have ht' : t < M.many + 1 := ht
      rw [hR]
      by_cases e : t = M.many
      · rw [e, upd_at, if_pos rfl]; constructor <;> intro _ <;> omega
      · rw [upd_ne _ _ e, if_neg e]; exact h.inv.row t (by omega)
    · show upd M.st M.many 1 t = 2 ↔ ∃ v, v ∈ M.W ∧ v.1 = (t : Int)
      have ht' : t < M.many + 1 := ht
      rw [h.W]
      by_cases e : t = M.many
      · rw [e, upd_at]; constructor
        · intro h; omega
        · rintro ⟨v, hv, _⟩; cases hv
      · rw [upd_ne _ _ e]
        have := h.two t (by omega)
        constructor
        · intro h; omega
        · rintro ⟨v, hv, _⟩; cases hv
    · have hv' : v ∈ M.W := hv
      rw [h.W] at hv'; cases hv'
    · show 0 ≤ upd M.prio M.many p t ∧ upd M.prio M.many p t < 32
      have ht' : t < M.many + 1 := ht
      have hs' : upd M.st M.many 1 t ≠ 4 := hs
      by_cases e : t = M.many
      · rw [e, upd_at]; exact hp
      · rw [upd_ne _ _ e] at hs' ⊢; exact h.inv.pr t (by omega) hs'
    · show upd M.st M.many 1 t = 1 ∨ upd M.st M.many 1 t = 2 ∨ upd M.st M.many 1 t = 3 ∨ upd M.st M.many 1 t = 4
      have ht' : t < M.many + 1 := ht
      by_cases e : t = M.many
      · rw [e, upd_at]; exact .inl rfl
      · rw [upd_ne _ _ e]; exact h.inv.live t (by omega)
    · have ht' : (addT M.R (M.many : Int) p).2 t ≠ 0 := ht
      rw [hR] at ht'
      show t < M.many + 1
      by_cases e : t = M.many
      · omega
      · rw [if_neg e] at ht'; have := h.rin t ht'; omega
    · show upd M.st M.many 1 t = 1 ∨ upd M.st M.many 1 t = 4
      have ht' : t < M.many + 1 := ht
      by_cases e : t = M.many
      · rw [e, upd_at]; exact .inl rfl
      · rw [upd_ne _ _ e]; exact h.two t (by omega)
  · rw [if_neg hc]
    have hst : ∀ t, upd M.st M.many 4 t = if t = M.many then 4 else M.st t := fun t => rfl
    refine ⟨⟨hm, fun t ht => ?_, fun t ht => ?_, fun v hv => ?_, fun t ht hTt => absurd (hT _) hTt, fun t ht hs => ?_, fun t ht => ?_⟩, fun t ht => ?_, h.T, h.W, fun t ht => ?_⟩
    · show upd M.st M.many 4 t = 1 ↔ M.R.2 t ≠ 0
      have ht' : t < M.many + 1 := ht
      rw [hst]
      by_cases e : t = M.many
      · rw [if_pos e, e, h0]; constructor <;> intro h <;> omega
      · rw [if_neg e]; exact h.inv.row t (by omega)
    · show upd M.st M.many 4 t = 2 ↔ ∃ v, v ∈ M.W ∧ v.1 = (t : Int)
      have ht' : t < M.many + 1 := ht
      rw [hst, h.W]
      by_cases e : t = M.many
      · rw [if_pos e]; constructor
        · intro h; omega
        · rintro ⟨v, hv, _⟩; cases hv
      · rw [if_neg e]
        have := h.two t (by omega)
        constructor
        · intro h; omega
        · rintro ⟨v, hv, _⟩; cases hv
    · have hv' : v ∈ M.W := hv
      rw [h.W] at hv'; cases hv'
    · show 0 ≤ upd M.prio M.many p t ∧ upd M.prio M.many p t < 32
      have ht' : t < M.many + 1 := ht
      have hs' : upd M.st M.many 4 t ≠ 4 := hs
      rw [hst] at hs'
      by_cases e : t = M.many
      · rw [if_pos e] at hs'; exact absurd rfl hs'
      · rw [if_neg e] at hs'; rw [upd_ne _ _ e]; exact h.inv.pr t (by omega) hs'
    · show upd M.st M.many 4 t = 1 ∨ upd M.st M.many 4 t = 2 ∨ upd M.st M.many 4 t = 3 ∨ upd M.st M.many 4 t = 4
      have ht' : t < M.many + 1 := ht
      rw [hst]
      by_cases e : t = M.many
      · rw [if_pos e]; exact .inr (.inr (.inr rfl))
      · rw [if_neg e]; exact h.inv.live t (by omega)
    · have := h.rin t ht
      show t < M.many + 1
      omega
    · show upd M.st M.many 4 t = 1 ∨ upd M.st M.many 4 t = 4
      have ht' : t < M.many + 1 := ht
      rw [hst]
      by_cases e : t = M.many
      · rw [if_pos e]; exact .inr rfl
      · rw [if_neg e]; exact h.two t (by omega)
theorem born_adds : ∀ (L : List Int) (M : ScM), Born M → M.many + L.length ≤ 16 → Born (L.foldl addM M)
  | [], M, h, _ => h
  | p :: L, M, h, hl => by
    have hl' : M.many + (L.length + 1) ≤ 16 := by simpa using hl
    exact born_adds L _ (born_add h (by omega) p) (by rw [add_many]; omega)
theorem born_new (L : List Int) : Born (newM L) := born_adds _ _ born_zero (by show 0 + _ ≤ 16; rw [List.length_take]; omega)
theorem inv_new (L : List Int) : Inv (dispM (newM L)) := (born_new L).inv.disp
end Go.Proofs.YtkhmfjfclpehfaaGreat
namespace Go.Proofs.YtkhmfjfclpehfaaGreat
open Go.ChangeShapes Go.WideShapes Go.ChangeAt Go.RowKit
set_option linter.unusedVariables false
set_option linter.unusedSimpArgs false
section
variable (w : World) (P : Nat → Prop) (a : ScA) (M : ScM) (h : ScW w P a M) (hi : Inv M) (hn : a.n = M.many)
include h hi hn
end
theorem ScW.narrow2 {w w' : World} {P Q : Nat → Prop} {a : ScA} {M : ScM} (h : ScW w P a M) (hk : Keeps (fun _ => False) w w') (hq : ∀ k, k < w.heap.size → P k → Q k) (hn : ∀ k, w'.heap.size ≤ k → Q k) : ScW w' Q a M :=
  { h.quiet hk with
    delta := by
      obtain ⟨L, hd, ha, hl⟩ := h.delta
      exact ⟨L, hd.none hk, ha, fun i nd hi => hq _ (lt_of (hd.node i nd hi)) (hl i nd hi)⟩
    queue := by
      obtain ⟨N, b, hd, hg, hw, hl⟩ := h.queue
      refine ⟨N, b, hd.none hk, hg, hw, fun x hx => ?_⟩
      obtain ⟨i, hi⟩ := List.getElem?_of_mem hx
      exact hq _ (lt_of (hd.node i x hi)) (hl x hx)
    low := ⟨hq _ h.lt h.low.1, hq _ h.rank.lt h.low.2.1, by obtain ⟨L, hd, _⟩ := h.delta; exact hq _ hd.lt h.low.2.2.1, by obtain ⟨N, b, hd, _⟩ := h.queue; exact hq _ (lt_of hd.head) h.low.2.2.2.1, fun t ht => hq _ (h.task t ht).lt (h.low.2.2.2.2 t ht)⟩
    new := hn }
theorem w11 : ((whenS 1 1 : Nat) : Int) = 1 := rfl
theorem w12 : ((whenS 1 2 : Nat) : Int) = 0 := rfl
end Go.Proofs.YtkhmfjfclpehfaaGreat
