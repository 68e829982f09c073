import Derived.Test.YthnmlklgbggmbaaGreatDeltCz
import Derived.Test.YthnmlklgbggmbaaGreatBaseZ
import Derived.BigRegion
import Derived.Test.YthnmlklgbggmbaaGreatSchXz
import Derived.Deep.RegionHeld3
import Derived.Deep.MidRow
namespace Go.Proofs.YthnmlklgbggmbaaGreat
open Go.ChangeShapes Go.WideShapes Go.ChangeAt Go.RowKit
set_option linter.unusedVariables false
theorem list_one {L : List Nd} {a : Nd} (hl : L.length = 1) (h0 : L[0]? = some a) : L = [a] := by
  rcases L with _ | ⟨x, _ | ⟨y, r⟩⟩
  · simp at hl
  · simp at h0; rw [h0]
  · simp at hl
theorem list_two {L : List Nd} {a b : Nd} (hl : L.length = 2) (h0 : L[0]? = some a) (h1 : L[1]? = some b) : L = [a, b] := by
  rcases L with _ | ⟨x, _ | ⟨y, _ | ⟨z, r⟩⟩⟩
  · simp at hl
  · simp at hl
  · simp at h0 h1; rw [h0, h1]
  · simp at hl
theorem list_three {L : List Nd} {a b c : Nd} (hl : L.length = 3) (h0 : L[0]? = some a) (h1 : L[1]? = some b) (h2 : L[2]? = some c) : L = [a, b, c] := by
  rcases L with _ | ⟨x, _ | ⟨y, _ | ⟨z, _ | ⟨u, r⟩⟩⟩⟩
  · simp at hl
  · simp at hl
  · simp at hl
  · simp at h0 h1 h2; rw [h0, h1, h2]
  · simp at hl
theorem alive_one {L : List Nd} {k g : Nat} (h : Ins [] L k ⟨g, 1, 2 - sumX [] k⟩) : L = [⟨g, 1, 2⟩] := by
  have hk : k = 0 := by have := h.le; simpa using this
  subst hk
  exact list_one h.len h.at_
theorem alive_two {L : List Nd} {g1 k g : Nat} (h : Ins [⟨g1, 1, 2⟩] L k ⟨g, 2, 1 - sumX [⟨g1, 1, 2⟩] k⟩) (h1 : sumX [⟨g1, 1, 2⟩] k ≤ 1) : L = [⟨g, 2, 1⟩, ⟨g1, 1, 1⟩] := by
  have hk : k = 0 := by
    have := h.le
    simp at this
    rcases (by omega : k = 0 ∨ k = 1) with rfl | rfl
    · rfl
    · simp [sumX] at h1
  subst hk
  exact list_two h.len h.at_ h.nx
theorem alive_three {L : List Nd} {g1 g2 k g : Nat} (h : Ins [⟨g2, 2, 1⟩, ⟨g1, 1, 1⟩] L k ⟨g, 3, 2 - sumX [⟨g2, 2, 1⟩, ⟨g1, 1, 1⟩] k⟩) (h2 : ∀ a : Nd, ([⟨g2, 2, 1⟩, ⟨g1, 1, 1⟩] : List Nd)[k]? = some a → 2 < sumX [⟨g2, 2, 1⟩, ⟨g1, 1, 1⟩] (k + 1)) : L = [⟨g2, 2, 1⟩, ⟨g1, 1, 1⟩, ⟨g, 3, 0⟩] := by
  have hk : k = 2 := by
    have := h.le
    simp at this
    rcases (by omega : k = 0 ∨ k = 1 ∨ k = 2) with rfl | rfl | rfl
    · have := h2 _ rfl
      simp [sumX] at this
    · have := h2 _ rfl
      simp [sumX] at this
    · rfl
  subst hk
  exact list_three h.len (h.lo 0 (by omega)) (h.lo 1 (by omega)) h.at_
theorem new_pair (w : World) (x y : Value) (E : TypeId) : (w.alloc (.cells #[x, y] E)).cell? ⟨w.heap.size, 0, none⟩ = some x ∧ (w.alloc (.cells #[x, y] E)).cell? ⟨w.heap.size, 1, none⟩ = some y :=
  ⟨cell_of (heap_new w _) 0, cell_of (heap_new w _) 1⟩
end Go.Proofs.YthnmlklgbggmbaaGreat
namespace Go.Proofs.YthnmlklgbggmbaaGreat
open Go.ChangeShapes Go.WideShapes Go.ChangeAt Go.RowKit
set_option linter.unusedVariables false
theorem dapp (D : Nat) (L : List Nd) (task : Int) (x : Nat) (w1 : World) (h1 : IsDelta w1 D L) :
    ∃ L', Ins L L' L.length ⟨w1.heap.size, task, x⟩ ∧ IsDelta ((w1.alloc (.cells #[.int .i64 task, .int .u32 (x : Int), .pointer none] 172)).setCell (atA D L L.length) (.pointer (some ⟨w1.heap.size, 0, none⟩))) D L' ∧ Keeps (Own D L) w1 ((w1.alloc (.cells #[.int .i64 task, .int .u32 (x : Int), .pointer none] 172)).setCell (atA D L L.length) (.pointer (some ⟨w1.heap.size, 0, none⟩))) := by
  obtain ⟨L', hI⟩ := ins_make L L.length ⟨w1.heap.size, task, x⟩ (Nat.le_refl _)
  obtain ⟨a1, a2, a3⟩ := at_cell h1 (Nat.le_refl L.length)
  have hpn : ptrOf L L.length = none := ptrOf_none (Nat.le_refl _)
  refine ⟨L', hI, ins_delta h1 hI (Nat.le_refl _) ?_ ?_ ?_, ?_⟩
  · rw [hpn]
    exact heap_other (heap_new _ _) (show w1.heap.size ≠ (atA D L L.length).block by omega) _
  · by_cases e : L.length = 0
    · rw [if_pos e, e]
      exact heap_set (heap_old h1.head _) 0 _
    · rw [if_neg e]
      refine heap_other (heap_old h1.head _) ?_ _
      obtain ⟨z, hz⟩ : ∃ z, L.length = z + 1 := ⟨L.length - 1, by omega⟩
      rw [hz]
      have hlt : z < L.length := by omega
      have hg := List.getElem?_eq_getElem hlt
      show D ≠ gOf L z
      rw [gOf_some hg]
      exact (h1.ne hg).symm
  · intro j a ha
    have hj := get_lt ha
    rw [if_neg (by omega)]
    by_cases e : j + 1 = L.length
    · rw [if_pos e, ← e]
      show (World.setCell _ ⟨gOf L j, 2, none⟩ _).heap[a.g]? = _
      rw [gOf_some ha]
      exact heap_set (heap_old (h1.node j a ha) _) 2 _
    · rw [if_neg e]
      refine heap_other (heap_old (h1.node j a ha) _) ?_ _
      obtain ⟨z, hz⟩ : ∃ z, L.length = z + 1 := ⟨L.length - 1, by omega⟩
      have hlt : z < L.length := by omega
      have hg := List.getElem?_eq_getElem hlt
      rw [hz]
      show a.g ≠ gOf L z
      rw [gOf_some hg]
      intro he
      have := h1.inj j z a _ ha hg he
      omega
  · exact (((Keeps.refl (Own D L) w1).alloc _).setCell (p := atA D L L.length) (.inl (at_block (Nat.le_refl _))) _)
/-- Of a list, the first i nodes lie copied behind block C. -/
structure Cp (wo wr : World) (C : Nat) (M : List Nd) (i : Nat) : Prop where
  is : IsDelta wr C M
  len : M.length = i
  new : ∀ (j : Nat) (nd : Nd), M[j]? = some nd → wo.heap.size ≤ nd.g
  below : Below wo.heap.size wo wr
  lo : wo.heap.size ≤ C
theorem Cp.quiet {wo w1 w2 : World} {C i : Nat} {M : List Nd} (h : Cp wo w1 C M i) (hk : Keeps (fun _ => False) w1 w2) : Cp wo w2 C M i :=
  ⟨h.is.none hk, h.len, h.new, h.below.trans (hk.none.mono h.below.size), h.lo⟩
theorem Cp.own {wo wr : World} {C i : Nat} {M : List Nd} (h : Cp wo wr C M i) : ∀ k, k < wr.heap.size → Own C M k → wo.heap.size ≤ k := by
  intro k _ hk
  rcases hk with rfl | ⟨i, a, ha, rfl⟩
  · exact h.lo
  · exact h.new i a ha
theorem Cp.step {wo wr : World} {C i : Nat} {M : List Nd} (t : Int) (x : Nat) (h : Cp wo wr C M i) :
    ∃ M', Cp wo ((wr.alloc (.cells #[.int .i64 t, .int .u32 (x : Int), .pointer none] 172)).setCell (atA C M i) (.pointer (some ⟨wr.heap.size, 0, none⟩))) C M' (i + 1) ∧ atA C M' (i + 1) = ⟨wr.heap.size, 2, none⟩ := by
  have hl := h.len
  obtain ⟨M', hI, hd, hk⟩ := dapp C M t x wr h.is
  rw [hl] at hI hd hk
  refine ⟨M', ⟨hd, by rw [hI.len, hl], ?_, h.below.trans (hk.below h.below.size h.own), h.lo⟩, ?_⟩
  · intro j nd hj
    rcases hI.cases hj with ⟨c1, c2⟩ | ⟨rfl, rfl⟩ | ⟨rfl, b, c2, rfl⟩ | ⟨c1, c2⟩
    · exact h.new j nd c2
    · exact h.below.size
    · exact h.new i b c2
    · exact h.new (j - 1) nd c2
  · show (⟨gOf M' i, 2, none⟩ : Addr) = _
    rw [gOf_some hI.at_]
set_option maxRecDepth 20000 in
theorem dcopy (D : Nat) (L : List Nd) (w : World) (h : IsDelta w D L) (hlen : L.length ≤ 1000) :
    Calls Tryz.prog 36 #[.pointer (some ⟨D, 0, none⟩)] w fun e w' => e = .returned (.pointer (some ⟨w.heap.size, 0, none⟩)) ∧ ∃ M, Cp w w' w.heap.size M L.length := by
  have H := Lib.hid h
  have lD := h.lt
  have d0 : w.cell? ⟨D, 0, none⟩ = some (.pointer (ptrOf L 0)) := cell_of h.head 0
  have C0 : Cp w (w.alloc (.cells #[.pointer none] 157)) w.heap.size [] 0 := ⟨⟨heap_new _ _, fun i a h => by simp at h, fun i j a b h => by simp at h⟩, rfl, fun i a h => by simp at h, ((Keeps.refl (fun _ => False) w).alloc _).none, Nat.le_refl _⟩
  have HC0 := Lib.hid C0
  clear h C0
  go_enter Tryz.func36, Tryz.ntmps36
  go_wp2_with fail
  obtain ⟨wo, rfl⟩ : ∃ wo : World, wo = w := ⟨_, rfl⟩
  go_loopg [4, 5] L.length (fun g l p wr => ∃ (i : Nat) (M : List Nd), i + g = L.length ∧ l = .pointer (some (atA wo.heap.size M i)) ∧ p = .pointer (ptrOf L i) ∧ Cp wo wr wo.heap.size M i)
  case atStart => exact ⟨0, [], by omega, rfl, rfl, HC0.out⟩
  case round =>
    obtain ⟨i, M, hig, rfl, rfl, hC⟩ := hrel
    have HC := Lib.hid hC
    cases hi : L[i]? with
    | none =>
      have hil : i = L.length := by have := get_ge hi; omega
      have HL := Lib.hid hil
      rw [ptrOf_none (get_ge hi)]
      clear hi hil hC
      go_wp2
      go_ret
      exact ⟨rfl, M, by rw [← HL.out]; exact HC.out⟩
    | some a =>
      have hil := get_lt hi
      have hn := Below.at hC.below (H.out.node i a hi) (lt_of (H.out.node i a hi))
      obtain ⟨a1, a2, a3⟩ := at_cell hC.is (show i ≤ M.length from by rw [hC.len]; exact Nat.le_refl _)
      rw [ptrOf_none (by rw [hC.len]; exact Nat.le_refl _)] at a1
      have hne : a.g ≠ (atA wo.heap.size M i).block := by
        have h1 := lt_of (H.out.node i a hi)
        have h2 : wo.heap.size ≤ (atA wo.heap.size M i).block := hC.own _ a3 (at_block (by rw [hC.len]; exact Nat.le_refl _))
        omega
      have n0 : wr.cell? ⟨a.g, 0, none⟩ = some (.int .i64 a.t) := cell_of hn 0
      have n1 : wr.cell? ⟨a.g, 1, none⟩ = some (.int .u32 (a.x : Int)) := cell_of hn 1
      have ln := lt_of hn
      rw [ptrOf_some hi]
      obtain ⟨M', hS, hA'⟩ := hC.step a.t a.x
      have HS := Lib.hid (And.intro hS hA')
      have n2 : ((wr.alloc (.cells #[.int .i64 a.t, .int .u32 (a.x : Int), .pointer none] 172)).setCell (atA wo.heap.size M i) (.pointer (some ⟨wr.heap.size, 0, none⟩))).cell? ⟨a.g, 2, none⟩ = some (.pointer (ptrOf L (i + 1))) := cell_of (heap_other (heap_old hn _) hne _) 2
      have a4 := fun o => (alloc_at a1 a2 a3 o).1
      have a5 := fun o => (alloc_at a1 a2 a3 o).2
      clear hi hn hC hS hA'
      generalize hA : atA wo.heap.size M i = A at *
      clear hA
      obtain ⟨g, rfl⟩ : ∃ g, gk = g + 1 := ⟨gk - 1, by omega⟩
      go_wp2_with fail
      go_region
      go_wp2
      go_roundg g
      case measure => omega
      case rel => exact ⟨i + 1, M', by omega, by rw [HS.out.2], rfl, HS.out.1.quiet (Keeps.refl _ _).drew⟩
end Go.Proofs.YthnmlklgbggmbaaGreat
namespace Go.Proofs.YthnmlklgbggmbaaGreat
open Go.ChangeShapes Go.WideShapes Go.ChangeAt Go.RowKit
set_option linter.unusedVariables false
set_option linter.unusedSimpArgs false
theorem range_v {w : World} {b : Nat} {v : Nat → Value} (n : Nat) (h : ∀ j, j < n → w.cell? ⟨b, j, none⟩ = some (v j)) : w.rangeAt b 0 ((List.range n).map v) := fun j u hj => by
  rw [List.getElem?_map] at hj
  obtain ⟨q, hq, rfl⟩ := Option.map_eq_some_iff.1 hj
  have hjn : j < n := by
    rcases Nat.lt_or_ge j n with h | h
    · exact h
    · rw [List.getElem?_eq_none (by simpa using h)] at hq; cases hq
  rw [List.getElem?_range hjn] at hq
  obtain rfl := Option.some.inj hq
  rw [Nat.zero_add]
  exact h j hjn
theorem index16 (v : Nat → Value) (W : World) (k : Nat) (hk : k < 16) : (Instr.index 92 (.agg #[v 0, v 1, v 2, v 3, v 4, v 5, v 6, v 7, v 8, v 9, v 10, v 11, v 12, v 13, v 14, v 15]) (.int .i64 (k : Int))).run Tryz.prog W = .ok (v k) W := by
  rcases (by omega : k = 0 ∨ k = 1 ∨ k = 2 ∨ k = 3 ∨ k = 4 ∨ k = 5 ∨ k = 6 ∨ k = 7 ∨ k = 8 ∨ k = 9 ∨ k = 10 ∨ k = 11 ∨ k = 12 ∨ k = 13 ∨ k = 14 ∨ k = 15) with rfl | rfl | rfl | rfl | rfl | rfl | rfl | rfl | rfl | rfl | rfl | rfl | rfl | rfl | rfl | rfl <;> kernel_rfl
theorem copied {wr w2 : World} {C q : Nat} {M : ScM} {cs : Array Value} {f : Nat → Nat} {v : Nat → Value} {B : Nat} {p : Option Addr} {g : Nat} (hq : q < 16) (hb2 : w2.heap[C]? = some (.cells cs 100 (0, 0))) (hk : Keeps (fun _ => False) wr w2) (hcs : cs.size = 37) (hlo : ∀ j, j < q → cs[j]? = some (.pointer (if j < M.many then some ⟨f j, 0, none⟩ else none))) (hhi : ∀ j, q ≤ j → j < 37 → cs[j]? = some (v j))
    (hts : ∀ j, j < q → j < M.many → B ≤ f j ∧ ∃ u, wr.heap[f j]? = some (.cells #[.int .i64 (M.st j), .int .u32 (M.bits j : Int), u] 167 (0, 0))) (hp : p = if q < M.many then some ⟨g, 0, none⟩ else none) (hg : q < M.many → B ≤ g ∧ ∃ u, w2.heap[g]? = some (.cells #[.int .i64 (M.st q), .int .u32 (M.bits q : Int), u] 167 (0, 0))) :
    (w2.setCell ⟨C, q, none⟩ (.pointer p)).heap[C]? = some (.cells (cs.setIfInBounds q (.pointer p)) 100 (0, 0)) ∧ (cs.setIfInBounds q (.pointer p)).size = 37 ∧ (∀ j, j < q + 1 → (cs.setIfInBounds q (.pointer p))[j]? = some (.pointer (if j < M.many then some ⟨upd f q g j, 0, none⟩ else none))) ∧ (∀ j, q + 1 ≤ j → j < 37 → (cs.setIfInBounds q (.pointer p))[j]? = some (v j)) ∧
    (∀ j, j < q + 1 → j < M.many → B ≤ upd f q g j ∧ ∃ u, (w2.setCell ⟨C, q, none⟩ (.pointer p)).heap[upd f q g j]? = some (.cells #[.int .i64 (M.st j), .int .u32 (M.bits j : Int), u] 167 (0, 0))) := by
  have apart : ∀ (x : Nat) (u : Value) (a b : Value), w2.heap[x]? = some (.cells #[a, b, u] 167 (0, 0)) → x ≠ C := fun x u a b hx => Ty.ne (T := 167) (T' := 100) ⟨_, _, hx⟩ ⟨_, _, hb2⟩ (by decide)
  refine ⟨heap_set hb2 q _, by simpa using hcs, fun j hj => ?_, fun j h1 h2 => ?_, fun j hj hm => ?_⟩
  · by_cases e : j = q
    · subst e
      rw [Array.getElem?_setIfInBounds_self_of_lt (by omega), upd_at, hp]
    · rw [Array.getElem?_setIfInBounds_ne (fun h => e h.symm), upd_ne _ _ e]
      exact hlo j (by omega)
  · rw [Array.getElem?_setIfInBounds_ne (by omega)]
    exact hhi j (by omega) h2
  · by_cases e : j = q
    · subst e
      obtain ⟨h1, u, h2⟩ := hg hm
      rw [upd_at]
      exact ⟨h1, u, heap_other h2 (apart _ _ _ _ h2) _⟩
    · obtain ⟨h1, u, h2⟩ := hts j (by omega) hm
      rw [upd_ne _ _ e]
      have h3 := hk.at h2 fun e => e
      exact ⟨h1, u, heap_other h3 (apart _ _ _ _ h3) _⟩
theorem copied_all {wL : World} {C : Nat} {a : ScA} {M : ScM} {cs0 cs : Array Value} {v : Nat → Value} {f : Nat → Nat} {pr pd pq : Nat} (hle : M.many ≤ 16) (hc : ScCells cs0 a M) (hv : ∀ j, j < 37 → cs0[j]? = some (v j)) (hb : wL.heap[C]? = some (.cells cs 100 (0, 0))) (hcs : cs.size = 37) (hlo : ∀ j, j < 16 → cs[j]? = some (.pointer (if j < M.many then some ⟨f j, 0, none⟩ else none))) (hhi : ∀ j, 16 ≤ j → j < 37 → cs[j]? = some (v j))
    (hts : ∀ j, j < M.many → ∃ u, wL.heap[f j]? = some (.cells #[.int .i64 (M.st j), .int .u32 (M.bits j : Int), u] 167 (0, 0))) (hr : RkS wL pr M.R) :
    ScV (((wL.setCell ⟨C, 34, none⟩ (.pointer (some ⟨pr, 0, none⟩))).setCell ⟨C, 35, none⟩ (.pointer (some ⟨pd, 0, none⟩))).setCell ⟨C, 36, none⟩ (.pointer (some ⟨pq, 0, none⟩))) ⟨a.n, C, f, pr, pd, pq⟩ M := by
  have hk : KeepsTy [100] wL (((wL.setCell ⟨C, 34, none⟩ (.pointer (some ⟨pr, 0, none⟩))).setCell ⟨C, 35, none⟩ (.pointer (some ⟨pd, 0, none⟩))).setCell ⟨C, 36, none⟩ (.pointer (some ⟨pq, 0, none⟩))) :=
    (((Keeps.refl _ wL).setCell (p := ⟨C, 34, none⟩) (.inl ⟨_, .head _, _, _, hb⟩) _).setCell (p := ⟨C, 35, none⟩) (.inl ⟨_, .head _, _, _, hb⟩) _).setCell (p := ⟨C, 36, none⟩) (.inl ⟨_, .head _, _, _, hb⟩) _
  have eq_v : ∀ j x, j < 37 → cs0[j]? = some x → v j = x := fun j x hj h => Option.some.inj ((hv j hj).symm.trans h)
  refine ⟨⟨_, heap_set (heap_set (heap_set hb 34 _) 35 _) 36 _, ⟨by simpa using hcs, fun t ht => ?_, fun t ht => ?_, ?_, ?_, ?_, ?_, ?_⟩⟩, hle, fun t ht => ?_, rank_kept hr hk (by decide)⟩
  · rw [Array.getElem?_setIfInBounds_ne (by omega), Array.getElem?_setIfInBounds_ne (by omega), Array.getElem?_setIfInBounds_ne (by omega)]
    exact hlo t ht
  · rw [Array.getElem?_setIfInBounds_ne (by omega), Array.getElem?_setIfInBounds_ne (by omega), Array.getElem?_setIfInBounds_ne (by omega), hhi _ (by omega) (by omega), eq_v _ _ (by omega) (hc.prio t ht)]
  · rw [Array.getElem?_setIfInBounds_ne (by omega), Array.getElem?_setIfInBounds_ne (by omega), Array.getElem?_setIfInBounds_ne (by omega), hhi _ (by omega) (by omega), eq_v _ _ (by omega) hc.many]
  · rw [Array.getElem?_setIfInBounds_ne (by omega), Array.getElem?_setIfInBounds_ne (by omega), Array.getElem?_setIfInBounds_ne (by omega), hhi _ (by omega) (by omega), eq_v _ _ (by omega) hc.cur]
  · rw [Array.getElem?_setIfInBounds_ne (by omega), Array.getElem?_setIfInBounds_ne (by omega), Array.getElem?_setIfInBounds_self_of_lt (by omega)]
  · rw [Array.getElem?_setIfInBounds_ne (by omega), Array.getElem?_setIfInBounds_self_of_lt (by rw [Array.size_setIfInBounds]; omega)]
  · rw [Array.getElem?_setIfInBounds_self_of_lt (by rw [Array.size_setIfInBounds, Array.size_setIfInBounds]; omega)]
  · obtain ⟨u, h1⟩ := hts t ht
    exact ⟨u, KeepsTy.at hk h1 (by decide)⟩
theorem sc_rcopy (w : World) (P : Nat → Prop) (a : ScA) (M : ScM) (h : ScW w P a M) : Calls Tryz.prog 35 #[.pointer (some ⟨a.rk, 0, none⟩)] w fun e w' => e = .returned (.pointer (some ⟨w.heap.size, 0, none⟩)) ∧ RkS w' w.heap.size M.R ∧ Keeps (fun _ => False) w w' := rks_copy w a.rk M.R h.rank
theorem sc_dcopy (w : World) (P : Nat → Prop) (a : ScA) (M : ScM) (h : ScW w P a M) : Calls Tryz.prog 36 #[.pointer (some ⟨a.D, 0, none⟩)] w fun e w' => e = .returned (.pointer (some ⟨w.heap.size, 0, none⟩)) ∧ Keeps (fun _ => False) w w' := by
  obtain ⟨L, hd, ha, hl⟩ := h.delta
  have hlen : L.length ≤ 16 := by
    rw [ha.count 16 fun t ht => ?_]
    · exact cntT_le _ _
    · by_cases e : M.T t = 0
      · exact e
      · have := h.tin t e
        have := h.le
        omega
  refine (dcopy a.D L w hd (by omega)).mono ?_
  rintro e w' ⟨rfl, N, hcp⟩
  exact ⟨rfl, keeps_below hcp.below⟩
theorem sc_qcopy (w : World) (P : Nat → Prop) (a : ScA) (M : ScM) (h : ScW w P a M) : Calls Tryz.prog 37 #[.pointer (some ⟨a.Q, 0, none⟩)] w fun e w' => e = .returned (.pointer (some ⟨w.heap.size, 0, none⟩)) ∧ Keeps (fun _ => False) w w' := by
  obtain ⟨N, b, hq, hg, hW, hl⟩ := h.queue
  refine (Copy_any a.Q N b w hq hg.rng).mono ?_
  rintro e w' ⟨rfl, _, hk⟩
  exact ⟨rfl, keeps_below hk⟩
theorem far3 {W : World} {s C : Nat} {v1 v2 v3 : Option Value} (hne : s ≠ C) (h : W.cell? ⟨s, 34, none⟩ = v1 ∧ W.cell? ⟨s, 35, none⟩ = v2 ∧ W.cell? ⟨s, 36, none⟩ = v3) (i : Nat) (u : Value) :
    (W.setCell ⟨C, i, none⟩ u).cell? ⟨s, 34, none⟩ = v1 ∧ (W.setCell ⟨C, i, none⟩ u).cell? ⟨s, 35, none⟩ = v2 ∧ (W.setCell ⟨C, i, none⟩ u).cell? ⟨s, 36, none⟩ = v3 :=
  ⟨(World.cell?_of_block (a := ⟨s, 34, none⟩) (Below.heap_setCell W ⟨C, i, none⟩ u s hne)).trans h.1, (World.cell?_of_block (a := ⟨s, 35, none⟩) (Below.heap_setCell W ⟨C, i, none⟩ u s hne)).trans h.2.1, (World.cell?_of_block (a := ⟨s, 36, none⟩) (Below.heap_setCell W ⟨C, i, none⟩ u s hne)).trans h.2.2⟩
theorem shared_info : (Tryz.prog.info? 98).map (·.size) = some 37 := by kernel_rfl
theorem tasks_info : (Tryz.prog.info? 92).map (·.size) = some 16 := by kernel_rfl
set_option maxRecDepth 100000 in
set_option maxHeartbeats 16000000 in
theorem scopy_any (w : World) (P : Nat → Prop) (a : ScA) (M : ScM) (h : ScW w P a M) :
    Calls Tryz.prog 10 #[.pointer (some ⟨a.s, 0, none⟩)] w fun e w' => ∃ a', e = .returned (.pointer (some ⟨a'.s, 0, none⟩)) ∧ a'.n = a.n ∧ ScV w' a' M ∧ w.heap.size ≤ a'.s ∧ w.heap.size ≤ a'.rk ∧ (∀ t, t < M.many → w.heap.size ≤ a'.tb t) ∧ Keeps (fun _ => False) w w' := by
  obtain ⟨cs, hblk, hc⟩ := h.blk
  obtain ⟨v, hv⟩ : ∃ v : Nat → Value, ∀ j, j < 37 → cs[j]? = some (v j) := ⟨fun j => (cs[j]?).getD undef, fun j hj => by show cs[j]? = some ((cs[j]?).getD undef); rw [Array.getElem?_eq_getElem (by rw [hc.size]; exact hj)]; rfl⟩
  have hR : w.rangeAt a.s 0 [v 0, v 1, v 2, v 3, v 4, v 5, v 6, v 7, v 8, v 9, v 10, v 11, v 12, v 13, v 14, v 15, v 16, v 17, v 18, v 19, v 20, v 21, v 22, v 23, v 24, v 25, v 26, v 27, v 28, v 29, v 30, v 31, v 32, v 33, v 34, v 35, v 36] := range_v 37 fun j hj => (cell_of hblk j).trans (hv j hj)
  have HV := Lib.hid hv
  have HC := Lib.hid hc
  have HB := Lib.hid hblk
  have HR := Lib.hid hR
  have HH := Lib.hid h
  have hsl := h.lt
  have q0 : w.cell? ⟨a.s, 0, none⟩ = some (v 0) := (cell_of hblk 0).trans (hv 0 (by omega))
  have q1 : w.cell? ⟨a.s, 1, none⟩ = some (v 1) := (cell_of hblk 1).trans (hv 1 (by omega))
  have q2 : w.cell? ⟨a.s, 2, none⟩ = some (v 2) := (cell_of hblk 2).trans (hv 2 (by omega))
  have q3 : w.cell? ⟨a.s, 3, none⟩ = some (v 3) := (cell_of hblk 3).trans (hv 3 (by omega))
  have q4 : w.cell? ⟨a.s, 4, none⟩ = some (v 4) := (cell_of hblk 4).trans (hv 4 (by omega))
  have q5 : w.cell? ⟨a.s, 5, none⟩ = some (v 5) := (cell_of hblk 5).trans (hv 5 (by omega))
  have q6 : w.cell? ⟨a.s, 6, none⟩ = some (v 6) := (cell_of hblk 6).trans (hv 6 (by omega))
  have q7 : w.cell? ⟨a.s, 7, none⟩ = some (v 7) := (cell_of hblk 7).trans (hv 7 (by omega))
  have q8 : w.cell? ⟨a.s, 8, none⟩ = some (v 8) := (cell_of hblk 8).trans (hv 8 (by omega))
  have q9 : w.cell? ⟨a.s, 9, none⟩ = some (v 9) := (cell_of hblk 9).trans (hv 9 (by omega))
  have q10 : w.cell? ⟨a.s, 10, none⟩ = some (v 10) := (cell_of hblk 10).trans (hv 10 (by omega))
  have q11 : w.cell? ⟨a.s, 11, none⟩ = some (v 11) := (cell_of hblk 11).trans (hv 11 (by omega))
  have q12 : w.cell? ⟨a.s, 12, none⟩ = some (v 12) := (cell_of hblk 12).trans (hv 12 (by omega))
  have q13 : w.cell? ⟨a.s, 13, none⟩ = some (v 13) := (cell_of hblk 13).trans (hv 13 (by omega))
  have q14 : w.cell? ⟨a.s, 14, none⟩ = some (v 14) := (cell_of hblk 14).trans (hv 14 (by omega))
  have q15 : w.cell? ⟨a.s, 15, none⟩ = some (v 15) := (cell_of hblk 15).trans (hv 15 (by omega))
  clear h hblk hc hv hR
  go_enter Tryz.func10, Tryz.ntmps10
  go_wp2_with (refine wpList_load_mid rfl 98 (.tmp 10) rfl a.s 0 rfl [v 0, v 1, v 2, v 3, v 4, v 5, v 6, v 7, v 8, v 9, v 10, v 11, v 12, v 13, v 14, v 15, v 16, v 17, v 18, v 19, v 20, v 21, v 22, v 23, v 24, v 25, v 26, v 27, v 28, v 29, v 30, v 31, v 32, v 33, v 34, v 35, v 36] _ HR.out Tryz.underlying98 rfl shared_info ?_)
  generalize hW1 : World.alloc w _ = W1
  have hk1 : Keeps (fun _ => False) w W1 := by rw [← hW1]; exact (Keeps.refl _ w).alloc _
  have hb1 : ∃ cs : Array Value, W1.heap[w.heap.size]? = some (.cells cs 100 (0, 0)) ∧ cs.size = 37 ∧ ∀ j, j < 37 → cs[j]? = some (v j) := by
    rw [← hW1]
    refine ⟨_, heap_new w _, rfl, fun j hj => ?_⟩
    rcases (by omega : j = 0 ∨ j = 1 ∨ j = 2 ∨ j = 3 ∨ j = 4 ∨ j = 5 ∨ j = 6 ∨ j = 7 ∨ j = 8 ∨ j = 9 ∨ j = 10 ∨ j = 11 ∨ j = 12 ∨ j = 13 ∨ j = 14 ∨ j = 15 ∨ j = 16 ∨ j = 17 ∨ j = 18 ∨ j = 19 ∨ j = 20 ∨ j = 21 ∨ j = 22 ∨ j = 23 ∨ j = 24 ∨ j = 25 ∨ j = 26 ∨ j = 27 ∨ j = 28 ∨ j = 29 ∨ j = 30 ∨ j = 31 ∨ j = 32 ∨ j = 33 ∨ j = 34 ∨ j = 35 ∨ j = 36) with rfl | rfl | rfl | rfl | rfl | rfl | rfl | rfl | rfl | rfl | rfl | rfl | rfl | rfl | rfl | rfl | rfl | rfl | rfl | rfl | rfl | rfl | rfl | rfl | rfl | rfl | rfl | rfl | rfl | rfl | rfl | rfl | rfl | rfl | rfl | rfl | rfl <;> rfl
  have HI := Lib.hid (And.intro hk1 hb1)
  clear hk1 hb1 hW1 q0 q1 q2 q3 q4 q5 q6 q7 q8 q9 q10 q11 q12 q13 q14 q15
  have HLE := Lib.hid HH.out.le
  go_loopw [19] (fun i wr => ∃ q : Nat, q ≤ 16 ∧ i = .int .i64 (q : Int) ∧ ∃ (cs : Array Value) (f : Nat → Nat), wr.heap[w.heap.size]? = some (.cells cs 100 (0, 0)) ∧ cs.size = 37 ∧ (∀ j, j < q → cs[j]? = some (.pointer (if j < M.many then some ⟨f j, 0, none⟩ else none))) ∧ (∀ j, q ≤ j → j < 37 → cs[j]? = some (v j)) ∧ (∀ j, j < q → j < M.many → w.heap.size ≤ f j ∧ ∃ u, wr.heap[f j]? = some (.cells #[.int .i64 (M.st j), .int .u32 (M.bits j : Int), u] 167 (0, 0))) ∧ Keeps (fun _ => False) w wr) (fun i _ => 16 - (intOf i).toNat)
  case atStart =>
    obtain ⟨cs, h1, h2, h3⟩ := HI.out.2
    exact ⟨0, by omega, rfl, cs, fun _ => 0, h1, h2, fun j hj => absurd hj (Nat.not_lt_zero _), fun j _ hj => h3 j hj, fun j hj => absurd hj (Nat.not_lt_zero _), HI.out.1⟩
  case round =>
    obtain ⟨q, hq, rfl, cs, f, hb, hcs, hlo, hhi, hts, hK⟩ := hrel
    have HX := Lib.hid (And.intro hb (And.intro hcs (And.intro hlo (And.intro hhi (And.intro hts hK)))))
    by_cases hlt : q < 16
    · have d1 : decide (q < 16) = true := decide_eq_true hlt
      have d1' : decide ((q : Int) < 16) = true := decide_eq_true (by omega)
      have d3 : (0 : Int) ≤ (q : Int) := by omega
      have d4 : (q : Int) < 16 := by omega
      have hiq : ∀ W, (Instr.index 92 (.agg #[v 0, v 1, v 2, v 3, v 4, v 5, v 6, v 7, v 8, v 9, v 10, v 11, v 12, v 13, v 14, v 15]) (.int .i64 (q : Int))).run Tryz.prog W = .ok (v q) W := fun W => index16 v W q hlt
      have hvq : v q = .pointer (if q < M.many then some ⟨a.tb q, 0, none⟩ else none) := Option.some.inj ((HV.out q (by omega)).symm.trans (HC.out.task q hlt))
      rw [hvq] at hiq
      have hsw : w.heap.size < wr.heap.size := lt_of hb
      by_cases hm : q < M.many
      · rw [if_pos hm] at hiq
        have HCT := Lib.hid (fun W (hk : Keeps (fun _ => False) wr W) => copy_task (a.tb q) _ _ _ W (by have := HH.out.live q hm; simp; omega) ((HH.out.task q hm).keeps (hK.trans hk) fun k _ e => e))
        have HM := Lib.hid hm
        clear hb hcs hlo hhi hts hK hvq hm
        go_wp2_with fail
        go_region_held3 (fun w' => True)
          (first
            | go_keep
            | trivial)
          ((go_at_call 34; refine (HCT.out _ (by first | exact (Keeps.refl _ _).drew | exact (Keeps.refl _ _).drewN _ | exact Keeps.refl _ _)).mono ?_; rintro e w2 ⟨rfl, hT, hk2⟩; have hkk : Keeps (fun _ => False) wr w2 := Keeps.trans (by first | exact (Keeps.refl _ _).drew | exact (Keeps.refl _ _).drewN _ | exact Keeps.refl _ _) hk2; have hb2 := hkk.at HX.out.1 (fun e => e); have y1 : ∃ u, w2.cell? ⟨w.heap.size, q, none⟩ = some u := ⟨_, (cell_of hb2 q).trans (HX.out.2.2.2.1 q (Nat.le_refl _) (by omega))⟩; obtain ⟨y1, y2⟩ := y1; have y3 := free_of hb2 q; have y4 := lt_of hb2; have HY := Lib.hid (And.intro hT (And.intro hkk hb2)); clear hT hk2 hkk hb2))
        obtain ⟨tv, htv, _⟩ := HY.out.1
        have hcp := copied (M := M) (v := v) (B := w.heap.size) (p := some ⟨wr.heap.size, 0, none⟩) (g := wr.heap.size) hlt HY.out.2.2 HY.out.2.1 HX.out.2.1 HX.out.2.2.1 HX.out.2.2.2.1 HX.out.2.2.2.2.1 (by rw [if_pos HM.out]) fun _ => ⟨Nat.le_of_lt hsw, tv, htv⟩
        have HCP := Lib.hid hcp
        have HK3 := Lib.hid ((HX.out.2.2.2.2.2.trans HY.out.2.1).setCell (p := ⟨w.heap.size, q, none⟩) (.inr (Nat.le_refl _)) (.pointer (some ⟨wr.heap.size, 0, none⟩)))
        clear hcp htv
        generalize hW3 : World.setCell w2 _ _ = w3 at *
        clear hW3
        go_wp2_with fail
        go_roundw
        case rel => exact ⟨q + 1, by omega, by go_num, _, _, HCP.out.1, HCP.out.2.1, HCP.out.2.2.1, HCP.out.2.2.2.1, HCP.out.2.2.2.2, HK3.out⟩
        case measure => simp [intOf]; omega
      · rw [if_neg hm] at hiq
        have HM := Lib.hid hm
        have y2 := free_of hb q
        have y1 := (cell_of hb q).trans (hhi q (Nat.le_refl _) (by omega))
        have HCN := Lib.hid (fun W (hk : W = wr.drew) => copy_nil W)
        clear hb hcs hlo hhi hts hK hvq hm
        go_wp2_with fail
        go_region_held3 (fun w' => True)
          (first
            | go_keep
            | trivial)
          ((go_at_call 34; refine (copy_nil _).mono ?_; rintro e w2 ⟨rfl, rfl⟩))
        have hcp := copied (wr := wr) (w2 := wr) (M := M) (v := v) (B := w.heap.size) (p := none) (g := 0) hlt HX.out.1 (Keeps.refl _ wr) HX.out.2.1 HX.out.2.2.1 HX.out.2.2.2.1 HX.out.2.2.2.2.1 (by rw [if_neg HM.out]) fun h => absurd h HM.out
        have HCP := Lib.hid hcp
        have HK3 := Lib.hid ((HX.out.2.2.2.2.2.setCell (p := ⟨w.heap.size, q, none⟩) (.inr (Nat.le_refl _)) (.pointer none)).drew)
        clear hcp
        go_wp2_with fail
        go_roundw
        case rel => exact ⟨q + 1, by omega, by go_num, _, _, HCP.out.1, HCP.out.2.1, HCP.out.2.2.1, HCP.out.2.2.2.1, HCP.out.2.2.2.2, HK3.out⟩
        case measure => simp [intOf]; omega
    · obtain rfl : q = 16 := by omega
      have d1 : decide (16 < 16) = false := rfl
      have HSK := Lib.hid (HH.out.quiet (hK.mono (T := fun _ => False) fun k _ e => e))
      have KC := Lib.hid ((Keeps.refl (fun _ => False) wr).drew)
      have c34 := HSK.out.cRk
      have c35 := HSK.out.cD
      have c36 := HSK.out.cQ
      have hne : a.s ≠ w.heap.size := by omega
      have hcs34 := hhi 34 (by omega) (by omega)
      have hcs35 := hhi 35 (by omega) (by omega)
      have hcs36 := hhi 36 (by omega) (by omega)
      have HCS := Lib.hid (And.intro hcs34 (And.intro hcs35 hcs36))
      clear hb hcs hlo hhi hts hK hlt hcs34 hcs35 hcs36
      go_wp2_with fail
      go_region_held3 (fun w' => w'.cell? ⟨a.s, 34, none⟩ = some (.pointer (some ⟨a.rk, 0, none⟩)) ∧ w'.cell? ⟨a.s, 35, none⟩ = some (.pointer (some ⟨a.D, 0, none⟩)) ∧ w'.cell? ⟨a.s, 36, none⟩ = some (.pointer (some ⟨a.Q, 0, none⟩)))
        (first
          | go_keep
          | with_reducible exact ⟨c34, c35, c36⟩
          | with_reducible exact ⟨z34, z35, z36⟩
          | with_reducible exact far3 hne ⟨z34, z35, z36⟩ _ _
          | with_reducible exact far3 hne (far3 hne ⟨z34, z35, z36⟩ _ _) _ _
          | with_reducible exact far3 hne (far3 hne (far3 hne ⟨z34, z35, z36⟩ _ _) _ _) _ _)
        (first
          | (go_at_call 35; refine (sc_rcopy _ P a M (HSK.out.quiet KC.out)).mono ?_; rintro e wA ⟨rfl, hr, kr⟩; have HRS := Lib.hid hr; have HPR := Lib.hid (Nat.le_trans (HX.out.2.2.2.2.2.trans KC.out).size (Nat.le_refl _)); have KC := Lib.hid (KC.out.trans kr); have z34 := (HSK.out.quiet KC.out).cRk; have z35 := (HSK.out.quiet KC.out).cD; have z36 := (HSK.out.quiet KC.out).cQ; have hbC := KC.out.at HX.out.1 (fun e => e); have f34 := free_of hbC 34; have f35 := free_of hbC 35; have f36 := free_of hbC 36; have y34 := (cell_of hbC 34).trans HCS.out.1; have y35 := (cell_of hbC 35).trans HCS.out.2.1; have y36 := (cell_of hbC 36).trans HCS.out.2.2; have hlC := lt_of hbC; clear hbC; clear hr kr)
          | (go_at_call 36; refine (sc_dcopy _ P a M (HSK.out.quiet KC.out)).mono ?_; rintro e wB ⟨rfl, kd⟩; (try (have HRS := Lib.hid (HRS.out.keeps kd fun e => e))); have KC := Lib.hid (KC.out.trans kd); have z34 := (HSK.out.quiet KC.out).cRk; have z35 := (HSK.out.quiet KC.out).cD; have z36 := (HSK.out.quiet KC.out).cQ; have hbC := KC.out.at HX.out.1 (fun e => e); have f34 := free_of hbC 34; have f35 := free_of hbC 35; have f36 := free_of hbC 36; have y34 := (cell_of hbC 34).trans HCS.out.1; have y35 := (cell_of hbC 35).trans HCS.out.2.1; have y36 := (cell_of hbC 36).trans HCS.out.2.2; have hlC := lt_of hbC; clear hbC; clear kd)
          | (go_at_call 37; refine (sc_qcopy _ P a M (HSK.out.quiet KC.out)).mono ?_; rintro e wC ⟨rfl, kq⟩; (try (have HRS := Lib.hid (HRS.out.keeps kq fun e => e))); have KC := Lib.hid (KC.out.trans kq); have z34 := (HSK.out.quiet KC.out).cRk; have z35 := (HSK.out.quiet KC.out).cD; have z36 := (HSK.out.quiet KC.out).cQ; have hbC := KC.out.at HX.out.1 (fun e => e); have f34 := free_of hbC 34; have f35 := free_of hbC 35; have f36 := free_of hbC 36; have y34 := (cell_of hbC 34).trans HCS.out.1; have y35 := (cell_of hbC 35).trans HCS.out.2.1; have y36 := (cell_of hbC 36).trans HCS.out.2.2; have hlC := lt_of hbC; clear hbC; clear kq))
      have hfin : ScV (((wC.setCell ⟨w.heap.size, 34, none⟩ (.pointer (some ⟨wr.heap.size, 0, none⟩))).setCell ⟨w.heap.size, 35, none⟩ (.pointer (some ⟨wA.heap.size, 0, none⟩))).setCell ⟨w.heap.size, 36, none⟩ (.pointer (some ⟨wB.heap.size, 0, none⟩))) ⟨a.n, w.heap.size, f, wr.heap.size, wA.heap.size, wB.heap.size⟩ M := copied_all (a := a) (pd := wA.heap.size) (pq := wB.heap.size) HH.out.le HC.out HV.out (KC.out.at HX.out.1 (fun e => e)) HX.out.2.1 HX.out.2.2.1 HX.out.2.2.2.1 (fun j hj => by obtain ⟨_, u, h1⟩ := HX.out.2.2.2.2.1 j (Nat.lt_of_lt_of_le hj HLE.out) hj; exact ⟨u, KC.out.at h1 fun e => e⟩) HRS.out
      have HFIN := Lib.hid hfin
      have HKF := Lib.hid ((((HX.out.2.2.2.2.2.trans KC.out).setCell (p := ⟨w.heap.size, 34, none⟩) (.inr (Nat.le_refl _)) (.pointer (some ⟨wr.heap.size, 0, none⟩))).setCell (p := ⟨w.heap.size, 35, none⟩) (.inr (Nat.le_refl _)) (.pointer (some ⟨wA.heap.size, 0, none⟩))).setCell (p := ⟨w.heap.size, 36, none⟩) (.inr (Nat.le_refl _)) (.pointer (some ⟨wB.heap.size, 0, none⟩)))
      clear hfin c34 c35 c36 z34 z35 z36 y34 y35 y36 f34 f35 f36
      generalize hW9 : World.setCell (World.setCell (World.setCell wC _ _) _ _) _ _ = w9 at *
      clear hW9
      go_wp2_with fail
      go_ret
      exact ⟨⟨a.n, w.heap.size, f, wr.heap.size, wA.heap.size, wB.heap.size⟩, rfl, rfl, HFIN.out, Nat.le_refl _, HX.out.2.2.2.2.2.size, fun t ht => (HX.out.2.2.2.2.1 t (Nat.lt_of_lt_of_le ht HLE.out) ht).1, HKF.out⟩

end Go.Proofs.YthnmlklgbggmbaaGreat
namespace Go.Proofs.YthnmlklgbggmbaaGreat
open Go.ChangeShapes Go.WideShapes Go.ChangeAt Go.RowKit
set_option linter.unusedVariables false
set_option linter.unusedSimpArgs false
theorem ScV.cell {w : World} {a : ScA} {M : ScM} (h : ScV w a M) (k : Nat) {v : Value} (hv : ∀ cs, ScCells cs a M → cs[k]? = some v) : w.cell? ⟨a.s, k, none⟩ = some v := by
  obtain ⟨cs, hb, hc⟩ := h.blk
  exact (cell_of hb k).trans (hv cs hc)
theorem ScV.kept {w w' : World} {a : ScA} {M : ScM} {S : Nat → Prop} (h : ScV w a M) (hk : Keeps S w w') (h1 : ¬ S a.s) (h2 : ¬ S a.rk) (h3 : ∀ t, t < M.many → ¬ S (a.tb t)) : ScV w' a M := by
  obtain ⟨cs, hb, hc⟩ := h.blk
  exact ⟨⟨cs, hk.at hb h1, hc⟩, h.le, fun t ht => by obtain ⟨v, hv⟩ := h.task t ht; exact ⟨v, hk.at hv (h3 t ht)⟩, h.rank.keeps hk h2⟩
set_option maxRecDepth 20000 in
set_option maxHeartbeats 2000000 in
theorem vdisp (w : World) (a : ScA) (M : ScM) (h : ScV w a M) :
    Calls Tryz.prog 76 #[.pointer (some ⟨a.s, 0, none⟩)] w fun e w' => ∃ b, e = .returned (.tuple #[.int .i64 (firstM M), .bool b]) ∧ Keeps (fun k => k = a.s) w w' := by
  have c33 := h.cell 33 fun cs hc => hc.cur
  have f33 : w.frozen? ⟨a.s, 33, none⟩ = false := by obtain ⟨cs, hb, _⟩ := h.blk; exact free_of hb 33
  have c34 := h.cell 34 fun cs hc => hc.rk
  have HF := Lib.hid (rks_first w a.rk M.R h.rank)
  have HK := Lib.hid (fun v => (Keeps.refl (fun k => k = a.s) w).setCell (p := ⟨a.s, 33, none⟩) (.inl rfl) v)
  clear h
  unfold firstM
  cases hl : listT M.R with
  | nil =>
    rw [hl] at HF
    simp only [List.isEmpty_nil, if_true, Bool.not_true, List.headD_nil] at HF ⊢
    go_enter Tryz.func76, Tryz.ntmps76
    go_wp2_with fail
    refine HF.out.mono ?_
    rintro e w' ⟨rfl, rfl⟩
    go_wp2_with fail
    refine bodyPost_ret (v := .tuple #[.int .i64 (-1), .bool (-1 != M.cur)]) (by simp [results, Tryz.results76, go_sem]) rfl ⟨_, rfl, HK.out _⟩
  | cons x r =>
    rw [hl] at HF
    simp only [List.isEmpty_cons, List.headD_cons, Bool.false_eq_true, if_false, Bool.not_false] at HF ⊢
    go_enter Tryz.func76, Tryz.ntmps76
    go_wp2_with fail
    refine HF.out.mono ?_
    rintro e w' ⟨rfl, rfl⟩
    go_wp2_with fail
    refine bodyPost_ret (v := .tuple #[.int .i64 (x : Int), .bool ((x : Int) != M.cur)]) (by simp [results, Tryz.results76, go_sem]) rfl ⟨_, rfl, HK.out _⟩
/-- The blocks of a scheduler are among those that there are: another set will do as well. -/
theorem ScW.narrow {w : World} {P Q : Nat → Prop} {a : ScA} {M : ScM} (h : ScW w P a M) (hq : ∀ k, k < w.heap.size → P k → Q k) (hn : ∀ k, w.heap.size ≤ k → Q k) : ScW w Q a M :=
  { h with
    delta := by
      obtain ⟨L, hd, ha, hl⟩ := h.delta
      exact ⟨L, hd, ha, fun i nd hi => hq _ (lt_of (hd.node i nd hi)) (hl i nd hi)⟩
    queue := by
      obtain ⟨N, b, hd, hg, hw, hl⟩ := h.queue
      refine ⟨N, b, hd, hg, hw, fun x hx => ?_⟩
      obtain ⟨i, hi⟩ := List.getElem?_of_mem hx
      exact hq _ (lt_of (hd.node i x hi)) (hl x hx)
    low := ⟨hq _ h.lt h.low.1, hq _ h.rank.lt h.low.2.1, by obtain ⟨L, hd, _⟩ := h.delta; exact hq _ hd.lt h.low.2.2.1, by obtain ⟨N, b, hd, _⟩ := h.queue; exact hq _ (lt_of hd.head) h.low.2.2.2.1, fun t ht => hq _ (h.task t ht).lt (h.low.2.2.2.2 t ht)⟩
    new := hn }
set_option maxRecDepth 20000 in
set_option maxHeartbeats 2000000 in
theorem sready_any (w : World) (P : Nat → Prop) (a : ScA) (M : ScM) (h : ScW w P a M) :
    Calls Tryz.prog 18 #[.pointer (some ⟨a.s, 0, none⟩)] w fun e w' => ∃ v, e = .returned v ∧ w'.ownsRow w.heap.size 3 1 v (listT M.R).length (ints (listT M.R)) ∧ ScW w' P a M ∧ Keeps (fun _ => False) w w' := by
  have c34 := h.cRk
  have HS := Lib.hid (sc_rlist w P a M h)
  clear h
  go_enter Tryz.func18, Tryz.ntmps18
  go_wp2_with fail
  refine HS.out.mono ?_
  rintro e w2 ⟨v, rfl, hz⟩
  have HZ := Lib.hid hz
  clear hz HS
  go_wp2_with fail
  go_ret
  exact ⟨v, rfl, HZ.out⟩
set_option maxRecDepth 20000 in
set_option maxHeartbeats 2000000 in
theorem swaits_any (w : World) (P : Nat → Prop) (a : ScA) (M : ScM) (h : ScW w P a M) (hm : M.W.length < 1000000) :
    Calls Tryz.prog 19 #[.pointer (some ⟨a.s, 0, none⟩)] w fun e w' => ∃ v, e = .returned v ∧ w'.ownsRow w.heap.size 88 4 v M.W.length (waitsC M.W) ∧ ScW w' P a M ∧ Keeps (fun _ => False) w w' := by
  have c36 := h.cQ
  have HS := Lib.hid (sc_qlist w P a M h hm)
  clear h
  go_enter Tryz.func19, Tryz.ntmps19
  go_wp2_with fail
  refine HS.out.mono ?_
  rintro e w2 ⟨v, rfl, hz⟩
  have HZ := Lib.hid hz
  clear hz HS
  go_wp2_with fail
  go_ret
  exact ⟨v, rfl, HZ.out⟩
/-- The priorities of a row of tasks. -/
theorem prios_open {w : World} {cs : List Value} (h : Reads Tryz.prog w 22 cs) : ∃ (a : Option Addr) (n c : Nat) (L : List Int), cs = [.slice a n c] ∧ n ≤ maxLen ∧ PriosAt w a n L := by
  obtain ⟨a, n, c, e, hl, hm, r⟩ := h.rows Tryz.underlying22 (n := 3) (by kernel_rfl) (by omega)
  rcases Nat.eq_zero_or_pos n with rfl | hp
  · exact ⟨a, 0, c, [], e, by omega, rfl, fun h => by omega⟩
  · obtain ⟨b, off, rfl, hb, hr⟩ := r hp
    obtain ⟨F, hF⟩ := Deep.choose_lt (n := n) (p := fun i (x : Int) => w.cell? ⟨b, off + i * 3, none⟩ = some (.int .i64 x)) (fun i hi => by
      obtain ⟨cs', hl3, hc, hrd⟩ := hr i hi
      match cs', hl3 with
      | [a0, a1, a2], _ =>
        obtain ⟨x, e0, _⟩ := (hrd.field Tryz.underlying66 0 3 0 1 rfl (by kernel_rfl)).int Tryz.underlying3
        have e1 : a0 = .int .i64 x := by simpa using e0
        refine ⟨x, ?_⟩
        have := hc 0 (by omega)
        rw [Nat.add_zero] at this
        rw [this, e1]
        rfl)
    refine ⟨_, n, c, (List.range n).map F, e, by omega, by simp, fun _ => ⟨b, off, rfl, hb, fun k p hk => ?_⟩⟩
    rw [List.getElem?_map] at hk
    obtain ⟨j, hj, rfl⟩ := Option.map_eq_some_iff.1 hk
    have hin : k < n := by
      rcases Nat.lt_or_ge k n with h | h
      · exact h
      · rw [List.getElem?_eq_none (by simpa using h)] at hj; cases hj
    rw [List.getElem?_range hin] at hj
    obtain rfl := Option.some.inj hj
    exact hF _ hin
/-- A step: its kind, its task, its request, its bits. -/
structure StepX where
  k : Int
  t : Int
  rk : Int
  ro : Int
  m : Nat
  d : Nat
  b : Nat
  bits : Nat
structure StepX.Ok (x : StepX) : Prop where
  m : x.m < 4294967296
  d : x.d < 4294967296
  b : x.b < 4294967296
  bits : x.bits < 4294967296
def stepC (x : StepX) : List Value := [.int .i64 x.k, .int .i64 x.t, .int .i64 x.rk, .int .i64 x.ro, .int .u32 (x.m : Int), .int .u32 (x.d : Int), .int .u32 (x.b : Int), .int .u32 (x.bits : Int)]
theorem u32_nat {x : Int} (h : (Lit.int .u32 x).wf = true) : ∃ n : Nat, x = (n : Int) ∧ n < 4294967296 := by
  have := bounds_u32 h
  exact ⟨x.toNat, by omega, by omega⟩
structure StepsAt (w : World) (la : Option Addr) (n : Nat) (L : List StepX) : Prop where
  len : L.length = n
  ok : ∀ x, x ∈ L → x.Ok
  lies : 0 < n → ∃ b off, la = some ⟨b, off, none⟩ ∧ b < w.heap.size ∧ ∀ (k : Nat) (x : StepX), L[k]? = some x → w.rangeAt b (off + k * 8) (stepC x)
end Go.Proofs.YthnmlklgbggmbaaGreat
