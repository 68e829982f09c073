import Derived.Test.YthnmlklgbggmbaaGreatSchVq
import Derived.Test.YthnmlklgbggmbaaGreatObjq
import Derived.Deep.RegionHeld3
import Derived.Deep.LoopGhost
import Derived.Test.YthnmlklgbggmbaaGreatRows
import Derived.WalkKit
import Derived.ProofKit
import Derived.OpenShut
import Derived.WalkLawsBesides
import Derived.WalkSpells
import Derived.Lib.Hide
import Derived.Deep.QuietTactic
import Derived.BigQuiet
import Derived.Test.YthnmlklgbggmbaaGreatDeltaOpsq
import Derived.BigRegion
import Derived.Deep.MidRow
import Derived.Test.YthnmlklgbggmbaaGreatRowq
import Derived.Test.YthnmlklgbggmbaaGreatPlDq
import Derived.Test.YthnmlklgbggmbaaGreatRankBq
import Derived.ScopeJumps
import Derived.WalkMore
namespace Go.Proofs.YthnmlklgbggmbaaGreat
open Go.ChangeShapes Go.WideShapes Go.ChangeAt Go.RowKit
set_option linter.unusedVariables false
set_option linter.unusedSimpArgs false
theorem copy_none (b : Nat) (st bits : Int) (w : World) (hst : (st == 0) = false) (h : IsTask w b st bits none) :
    Calls Tryz.prog 34 #[.pointer (some ⟨b, 0, none⟩)] w fun e w' => e = .returned (.pointer (some ⟨w.heap.size, 0, none⟩)) ∧ IsTask w' w.heap.size st bits none ∧ Keeps (fun _ => False) w w' := by
  have HT := Lib.hid h
  obtain ⟨v, hb, rfl⟩ := h
  have hlt := lt_of hb
  have c0 : w.cell? ⟨b, 0, none⟩ = some (.int .i64 st) := cell_of hb 0
  have c1 : w.cell? ⟨b, 1, none⟩ = some (.int .u32 bits) := cell_of hb 1
  have c2 : w.cell? ⟨b, 2, none⟩ = some (.pointer none) := cell_of hb 2
  clear hb
  go_enter Tryz.func34, Tryz.ntmps34
  go_wp2_with (go_at_call 77; refine (state_any _ _ _ _ _ HT.out).mono ?_; rintro e w' ⟨rfl, rfl⟩)
  go_ret
  exact ⟨rfl, ⟨_, heap_new _ _, rfl⟩, (Keeps.refl _ _).alloc _⟩
theorem copy_task (b : Nat) (st bits : Int) (ans : Option (Bool × Int × Int)) (w : World) (hst : (st == 0) = false) (h : IsTask w b st bits ans) :
    Calls Tryz.prog 34 #[.pointer (some ⟨b, 0, none⟩)] w fun e w' => e = .returned (.pointer (some ⟨w.heap.size, 0, none⟩)) ∧ IsTask w' w.heap.size st bits ans ∧ Keeps (fun _ => False) w w' := by
  cases ans with
  | none => exact copy_none b st bits w hst h
  | some v =>
    obtain ⟨x, y, z⟩ := v
    exact copy_some b st bits x y z w hst h
structure ScV (w : World) (a : ScA) (M : ScM) : Prop where
  blk : ∃ cs, w.heap[a.s]? = some (.cells cs 100 (0, 0)) ∧ ScCells cs a M
  le : M.many ≤ 16
  task : ∀ t, t < M.many → ∃ v, w.heap[a.tb t]? = some (.cells #[.int .i64 (M.st t), .int .u32 (M.bits t : Int), v] 167 (0, 0))
  rank : RkS w a.rk M.R
end Go.Proofs.YthnmlklgbggmbaaGreat
namespace Go.Proofs.YthnmlklgbggmbaaGreat
open Go.ChangeShapes Go.WideShapes Go.ChangeAt Go.RowKit
set_option linter.unusedVariables false
theorem dapp (D : Nat) (L : List Nd) (task : Int) (x : Nat) (w1 : World) (h1 : IsDelta w1 D L) :
    ∃ L', Ins L L' L.length ⟨w1.heap.size, task, x⟩ ∧ IsDelta ((w1.alloc (.cells #[.int .i64 task, .int .u32 (x : Int), .pointer none] 172)).setCell (atA D L L.length) (.pointer (some ⟨w1.heap.size, 0, none⟩))) D L' ∧ Keeps (Own D L) w1 ((w1.alloc (.cells #[.int .i64 task, .int .u32 (x : Int), .pointer none] 172)).setCell (atA D L L.length) (.pointer (some ⟨w1.heap.size, 0, none⟩))) := by
  obtain ⟨L', hI⟩ := ins_make L L.length ⟨w1.heap.size, task, x⟩ (Nat.le_refl _)
  obtain ⟨a1, a2, a3⟩ := at_cell h1 (Nat.le_refl L.length)
  have hpn : ptrOf L L.length = none := ptrOf_none (Nat.le_refl _)
  refine ⟨L', hI, ins_delta h1 hI (Nat.le_refl _) ?_ ?_ ?_, ?_⟩
  · rw [hpn]
    exact heap_other (heap_new _ _) (show w1.heap.size ≠ (atA D L L.length).block by omega) _
  · by_cases e : L.length = 0
    · rw [if_pos e, e]
      exact heap_set (heap_old h1.head _) 0 _
    · rw [if_neg e]
      refine heap_other (heap_old h1.head _) ?_ _
      obtain ⟨z, hz⟩ : ∃ z, L.length = z + 1 := ⟨L.length - 1, by omega⟩
      rw [hz]
      have hlt : z < L.length := by omega
      have hg := List.getElem?_eq_getElem hlt
      show D ≠ gOf L z
      rw [gOf_some hg]
      exact (h1.ne hg).symm
  · intro j a ha
    have hj := get_lt ha
    rw [if_neg (by omega)]
    by_cases e : j + 1 = L.length
    · rw [if_pos e, ← e]
      show (World.setCell _ ⟨gOf L j, 2, none⟩ _).heap[a.g]? = _
      rw [gOf_some ha]
      exact heap_set (heap_old (h1.node j a ha) _) 2 _
    · rw [if_neg e]
      refine heap_other (heap_old (h1.node j a ha) _) ?_ _
      obtain ⟨z, hz⟩ : ∃ z, L.length = z + 1 := ⟨L.length - 1, by omega⟩
      have hlt : z < L.length := by omega
      have hg := List.getElem?_eq_getElem hlt
      rw [hz]
      show a.g ≠ gOf L z
      rw [gOf_some hg]
      intro he
      have := h1.inj j z a _ ha hg he
      omega
  · exact (((Keeps.refl (Own D L) w1).alloc _).setCell (p := atA D L L.length) (.inl (at_block (Nat.le_refl _))) _)
structure Cp (wo wr : World) (C : Nat) (M : List Nd) (i : Nat) : Prop where
  is : IsDelta wr C M
  len : M.length = i
  new : ∀ (j : Nat) (nd : Nd), M[j]? = some nd → wo.heap.size ≤ nd.g
  below : Below wo.heap.size wo wr
  lo : wo.heap.size ≤ C
theorem Cp.quiet {wo w1 w2 : World} {C i : Nat} {M : List Nd} (h : Cp wo w1 C M i) (hk : Keeps (fun _ => False) w1 w2) : Cp wo w2 C M i :=
  ⟨h.is.none hk, h.len, h.new, h.below.trans (hk.none.mono h.below.size), h.lo⟩
theorem Cp.own {wo wr : World} {C i : Nat} {M : List Nd} (h : Cp wo wr C M i) : ∀ k, k < wr.heap.size → Own C M k → wo.heap.size ≤ k := by
  intro k _ hk
  rcases hk with rfl | ⟨i, a, ha, rfl⟩
  · exact h.lo
  · exact h.new i a ha
theorem Cp.step {wo wr : World} {C i : Nat} {M : List Nd} (t : Int) (x : Nat) (h : Cp wo wr C M i) :
    ∃ M', Cp wo ((wr.alloc (.cells #[.int .i64 t, .int .u32 (x : Int), .pointer none] 172)).setCell (atA C M i) (.pointer (some ⟨wr.heap.size, 0, none⟩))) C M' (i + 1) ∧ atA C M' (i + 1) = ⟨wr.heap.size, 2, none⟩ := by
  have hl := h.len
  obtain ⟨M', hI, hd, hk⟩ := dapp C M t x wr h.is
  rw [hl] at hI hd hk
  refine ⟨M', ⟨hd, by rw [hI.len, hl], ?_, h.below.trans (hk.below h.below.size h.own), h.lo⟩, ?_⟩
  · intro j nd hj
    rcases hI.cases hj with ⟨c1, c2⟩ | ⟨rfl, rfl⟩ | ⟨rfl, b, c2, rfl⟩ | ⟨c1, c2⟩
    · exact h.new j nd c2
    · exact h.below.size
    · exact h.new i b c2
    · exact h.new (j - 1) nd c2
  · show (⟨gOf M' i, 2, none⟩ : Addr) = _
    rw [gOf_some hI.at_]
set_option maxRecDepth 20000 in
theorem dcopy (D : Nat) (L : List Nd) (w : World) (h : IsDelta w D L) (hlen : L.length ≤ 1000) :
    Calls Tryz.prog 36 #[.pointer (some ⟨D, 0, none⟩)] w fun e w' => e = .returned (.pointer (some ⟨w.heap.size, 0, none⟩)) ∧ ∃ M, Cp w w' w.heap.size M L.length := by
  have H := Lib.hid h
  have lD := h.lt
  have d0 : w.cell? ⟨D, 0, none⟩ = some (.pointer (ptrOf L 0)) := cell_of h.head 0
  have C0 : Cp w (w.alloc (.cells #[.pointer none] 157)) w.heap.size [] 0 := ⟨⟨heap_new _ _, fun i a h => by simp at h, fun i j a b h => by simp at h⟩, rfl, fun i a h => by simp at h, ((Keeps.refl (fun _ => False) w).alloc _).none, Nat.le_refl _⟩
  have HC0 := Lib.hid C0
  clear h C0
  go_enter Tryz.func36, Tryz.ntmps36
  go_wp2_with fail
  obtain ⟨wo, rfl⟩ : ∃ wo : World, wo = w := ⟨_, rfl⟩
  go_loopg [4, 5] L.length (fun g l p wr => ∃ (i : Nat) (M : List Nd), i + g = L.length ∧ l = .pointer (some (atA wo.heap.size M i)) ∧ p = .pointer (ptrOf L i) ∧ Cp wo wr wo.heap.size M i)
  case atStart => exact ⟨0, [], by omega, rfl, rfl, HC0.out⟩
  case round =>
    obtain ⟨i, M, hig, rfl, rfl, hC⟩ := hrel
    have HC := Lib.hid hC
    cases hi : L[i]? with
    | none =>
      have hil : i = L.length := by have := get_ge hi; omega
      have HL := Lib.hid hil
      rw [ptrOf_none (get_ge hi)]
      clear hi hil hC
      go_wp2
      go_ret
      exact ⟨rfl, M, by rw [← HL.out]; exact HC.out⟩
    | some a =>
      have hil := get_lt hi
      have hn := Below.at hC.below (H.out.node i a hi) (lt_of (H.out.node i a hi))
      obtain ⟨a1, a2, a3⟩ := at_cell hC.is (show i ≤ M.length from by rw [hC.len]; exact Nat.le_refl _)
      rw [ptrOf_none (by rw [hC.len]; exact Nat.le_refl _)] at a1
      have hne : a.g ≠ (atA wo.heap.size M i).block := by
        have h1 := lt_of (H.out.node i a hi)
        have h2 : wo.heap.size ≤ (atA wo.heap.size M i).block := hC.own _ a3 (at_block (by rw [hC.len]; exact Nat.le_refl _))
        omega
      have n0 : wr.cell? ⟨a.g, 0, none⟩ = some (.int .i64 a.t) := cell_of hn 0
      have n1 : wr.cell? ⟨a.g, 1, none⟩ = some (.int .u32 (a.x : Int)) := cell_of hn 1
      have ln := lt_of hn
      rw [ptrOf_some hi]
      obtain ⟨M', hS, hA'⟩ := hC.step a.t a.x
      have HS := Lib.hid (And.intro hS hA')
      have n2 : ((wr.alloc (.cells #[.int .i64 a.t, .int .u32 (a.x : Int), .pointer none] 172)).setCell (atA wo.heap.size M i) (.pointer (some ⟨wr.heap.size, 0, none⟩))).cell? ⟨a.g, 2, none⟩ = some (.pointer (ptrOf L (i + 1))) := cell_of (heap_other (heap_old hn _) hne _) 2
      have a4 := fun o => (alloc_at a1 a2 a3 o).1
      have a5 := fun o => (alloc_at a1 a2 a3 o).2
      clear hi hn hC hS hA'
      generalize hA : atA wo.heap.size M i = A at *
      clear hA
      obtain ⟨g, rfl⟩ : ∃ g, gk = g + 1 := ⟨gk - 1, by omega⟩
      go_wp2_with fail
      go_region
      go_wp2
      go_roundg g
      case measure => omega
      case rel => exact ⟨i + 1, M', by omega, by rw [HS.out.2], rfl, HS.out.1.quiet (Keeps.refl _ _).drew⟩
end Go.Proofs.YthnmlklgbggmbaaGreat
namespace Go.Proofs.YthnmlklgbggmbaaGreat
open Go.ChangeShapes Go.WideShapes Go.ChangeAt Go.RowKit
set_option linter.unusedVariables false
set_option linter.unusedSimpArgs false
theorem range_v {w : World} {b : Nat} {v : Nat → Value} (n : Nat) (h : ∀ j, j < n → w.cell? ⟨b, j, none⟩ = some (v j)) : w.rangeAt b 0 ((List.range n).map v) := fun j u hj => by
  rw [List.getElem?_map] at hj
  obtain ⟨q, hq, rfl⟩ := Option.map_eq_some_iff.1 hj
  have hjn : j < n := by
    rcases Nat.lt_or_ge j n with h | h
    · exact h
    · rw [List.getElem?_eq_none (by simpa using h)] at hq; cases hq
  rw [List.getElem?_range hjn] at hq
  obtain rfl := Option.some.inj hq
  rw [Nat.zero_add]
  exact h j hjn
theorem index16 (v : Nat → Value) (W : World) (k : Nat) (hk : k < 16) : (Instr.index 92 (.agg #[v 0, v 1, v 2, v 3, v 4, v 5, v 6, v 7, v 8, v 9, v 10, v 11, v 12, v 13, v 14, v 15]) (.int .i64 (k : Int))).run Tryz.prog W = .ok (v k) W := by
  rcases (by omega : k = 0 ∨ k = 1 ∨ k = 2 ∨ k = 3 ∨ k = 4 ∨ k = 5 ∨ k = 6 ∨ k = 7 ∨ k = 8 ∨ k = 9 ∨ k = 10 ∨ k = 11 ∨ k = 12 ∨ k = 13 ∨ k = 14 ∨ k = 15) with rfl | rfl | rfl | rfl | rfl | rfl | rfl | rfl | rfl | rfl | rfl | rfl | rfl | rfl | rfl | rfl <;> kernel_rfl
theorem copied {wr w2 : World} {C q : Nat} {M : ScM} {cs : Array Value} {f : Nat → Nat} {v : Nat → Value} {B : Nat} {p : Option Addr} {g : Nat} (hq : q < 16) (hb2 : w2.heap[C]? = some (.cells cs 100 (0, 0))) (hk : Keeps (fun _ => False) wr w2) (hcs : cs.size = 37) (hlo : ∀ j, j < q → cs[j]? = some (.pointer (if j < M.many then some ⟨f j, 0, none⟩ else none))) (hhi : ∀ j, q ≤ j → j < 37 → cs[j]? = some (v j))
    (hts : ∀ j, j < q → j < M.many → B ≤ f j ∧ ∃ u, wr.heap[f j]? = some (.cells #[.int .i64 (M.st j), .int .u32 (M.bits j : Int), u] 167 (0, 0))) (hp : p = if q < M.many then some ⟨g, 0, none⟩ else none) (hg : q < M.many → B ≤ g ∧ ∃ u, w2.heap[g]? = some (.cells #[.int .i64 (M.st q), .int .u32 (M.bits q : Int), u] 167 (0, 0))) :
    (w2.setCell ⟨C, q, none⟩ (.pointer p)).heap[C]? = some (.cells (cs.setIfInBounds q (.pointer p)) 100 (0, 0)) ∧ (cs.setIfInBounds q (.pointer p)).size = 37 ∧ (∀ j, j < q + 1 → (cs.setIfInBounds q (.pointer p))[j]? = some (.pointer (if j < M.many then some ⟨upd f q g j, 0, none⟩ else none))) ∧ (∀ j, q + 1 ≤ j → j < 37 → (cs.setIfInBounds q (.pointer p))[j]? = some (v j)) ∧
    (∀ j, j < q + 1 → j < M.many → B ≤ upd f q g j ∧ ∃ u, (w2.setCell ⟨C, q, none⟩ (.pointer p)).heap[upd f q g j]? = some (.cells #[.int .i64 (M.st j), .int .u32 (M.bits j : Int), u] 167 (0, 0))) := by
  have apart : ∀ (x : Nat) (u : Value) (a b : Value), w2.heap[x]? = some (.cells #[a, b, u] 167 (0, 0)) → x ≠ C := fun x u a b hx => Ty.ne (T := 167) (T' := 100) ⟨_, _, hx⟩ ⟨_, _, hb2⟩ (by decide)
  refine ⟨heap_set hb2 q _, by simpa using hcs, fun j hj => ?_, fun j h1 h2 => ?_, fun j hj hm => ?_⟩
  · by_cases e : j = q
    · subst e
      rw [Array.getElem?_setIfInBounds_self_of_lt (by omega), upd_at, hp]
    · rw [Array.getElem?_setIfInBounds_ne (fun h => e h.symm), upd_ne _ _ e]
      exact hlo j (by omega)
  · rw [Array.getElem?_setIfInBounds_ne (by omega)]
    exact hhi j (by omega) h2
  · by_cases e : j = q
    · subst e
      obtain ⟨h1, u, h2⟩ := hg hm
      rw [upd_at]
      exact ⟨h1, u, heap_other h2 (apart _ _ _ _ h2) _⟩
    · obtain ⟨h1, u, h2⟩ := hts j (by omega) hm
      rw [upd_ne _ _ e]
      have h3 := hk.at h2 fun e => e
      exact ⟨h1, u, heap_other h3 (apart _ _ _ _ h3) _⟩
theorem copied_all {wL : World} {C : Nat} {a : ScA} {M : ScM} {cs0 cs : Array Value} {v : Nat → Value} {f : Nat → Nat} {pr pd pq : Nat} (hle : M.many ≤ 16) (hc : ScCells cs0 a M) (hv : ∀ j, j < 37 → cs0[j]? = some (v j)) (hb : wL.heap[C]? = some (.cells cs 100 (0, 0))) (hcs : cs.size = 37) (hlo : ∀ j, j < 16 → cs[j]? = some (.pointer (if j < M.many then some ⟨f j, 0, none⟩ else none))) (hhi : ∀ j, 16 ≤ j → j < 37 → cs[j]? = some (v j))
    (hts : ∀ j, j < M.many → ∃ u, wL.heap[f j]? = some (.cells #[.int .i64 (M.st j), .int .u32 (M.bits j : Int), u] 167 (0, 0))) (hr : RkS wL pr M.R) :
    ScV (((wL.setCell ⟨C, 34, none⟩ (.pointer (some ⟨pr, 0, none⟩))).setCell ⟨C, 35, none⟩ (.pointer (some ⟨pd, 0, none⟩))).setCell ⟨C, 36, none⟩ (.pointer (some ⟨pq, 0, none⟩))) ⟨a.n, C, f, pr, pd, pq⟩ M := by
  have hk : KeepsTy [100] wL (((wL.setCell ⟨C, 34, none⟩ (.pointer (some ⟨pr, 0, none⟩))).setCell ⟨C, 35, none⟩ (.pointer (some ⟨pd, 0, none⟩))).setCell ⟨C, 36, none⟩ (.pointer (some ⟨pq, 0, none⟩))) :=
    (((Keeps.refl _ wL).setCell (p := ⟨C, 34, none⟩) (.inl ⟨_, .head _, _, _, hb⟩) _).setCell (p := ⟨C, 35, none⟩) (.inl ⟨_, .head _, _, _, hb⟩) _).setCell (p := ⟨C, 36, none⟩) (.inl ⟨_, .head _, _, _, hb⟩) _
  have eq_v : ∀ j x, j < 37 → cs0[j]? = some x → v j = x := fun j x hj h => Option.some.inj ((hv j hj).symm.trans h)
  refine ⟨⟨_, heap_set (heap_set (heap_set hb 34 _) 35 _) 36 _, ⟨by simpa using hcs, fun t ht => ?_, fun t ht => ?_, ?_, ?_, ?_, ?_, ?_⟩⟩, hle, fun t ht => ?_, rank_kept hr hk (by decide)⟩
  · rw [Array.getElem?_setIfInBounds_ne (by omega), Array.getElem?_setIfInBounds_ne (by omega), Array.getElem?_setIfInBounds_ne (by omega)]
    exact hlo t ht
  · rw [Array.getElem?_setIfInBounds_ne (by omega), Array.getElem?_setIfInBounds_ne (by omega), Array.getElem?_setIfInBounds_ne (by omega), hhi _ (by omega) (by omega), eq_v _ _ (by omega) (hc.prio t ht)]
  · rw [Array.getElem?_setIfInBounds_ne (by omega), Array.getElem?_setIfInBounds_ne (by omega), Array.getElem?_setIfInBounds_ne (by omega), hhi _ (by omega) (by omega), eq_v _ _ (by omega) hc.many]
  · rw [Array.getElem?_setIfInBounds_ne (by omega), Array.getElem?_setIfInBounds_ne (by omega), Array.getElem?_setIfInBounds_ne (by omega), hhi _ (by omega) (by omega), eq_v _ _ (by omega) hc.cur]
  · rw [Array.getElem?_setIfInBounds_ne (by omega), Array.getElem?_setIfInBounds_ne (by omega), Array.getElem?_setIfInBounds_self_of_lt (by omega)]
  · rw [Array.getElem?_setIfInBounds_ne (by omega), Array.getElem?_setIfInBounds_self_of_lt (by rw [Array.size_setIfInBounds]; omega)]
  · rw [Array.getElem?_setIfInBounds_self_of_lt (by rw [Array.size_setIfInBounds, Array.size_setIfInBounds]; omega)]
  · obtain ⟨u, h1⟩ := hts t ht
    exact ⟨u, KeepsTy.at hk h1 (by decide)⟩
theorem sc_rcopy (w : World) (P : Nat → Prop) (a : ScA) (M : ScM) (h : ScW w P a M) : Calls Tryz.prog 35 #[.pointer (some ⟨a.rk, 0, none⟩)] w fun e w' => e = .returned (.pointer (some ⟨w.heap.size, 0, none⟩)) ∧ RkS w' w.heap.size M.R ∧ Keeps (fun _ => False) w w' := rks_copy w a.rk M.R h.rank
theorem sc_dcopy (w : World) (P : Nat → Prop) (a : ScA) (M : ScM) (h : ScW w P a M) : Calls Tryz.prog 36 #[.pointer (some ⟨a.D, 0, none⟩)] w fun e w' => e = .returned (.pointer (some ⟨w.heap.size, 0, none⟩)) ∧ Keeps (fun _ => False) w w' := by
  obtain ⟨L, hd, ha, hl⟩ := h.delta
  have hlen : L.length ≤ 16 := by
    rw [ha.count 16 fun t ht => ?_]
    · exact cntT_le _ _
    · by_cases e : M.T t = 0
      · exact e
      · have := h.tin t e
        have := h.le
        omega
  refine (dcopy a.D L w hd (by omega)).mono ?_
  rintro e w' ⟨rfl, N, hcp⟩
  exact ⟨rfl, keeps_below hcp.below⟩
theorem far3 {W : World} {s C : Nat} {v1 v2 v3 : Option Value} (hne : s ≠ C) (h : W.cell? ⟨s, 34, none⟩ = v1 ∧ W.cell? ⟨s, 35, none⟩ = v2 ∧ W.cell? ⟨s, 36, none⟩ = v3) (i : Nat) (u : Value) :
    (W.setCell ⟨C, i, none⟩ u).cell? ⟨s, 34, none⟩ = v1 ∧ (W.setCell ⟨C, i, none⟩ u).cell? ⟨s, 35, none⟩ = v2 ∧ (W.setCell ⟨C, i, none⟩ u).cell? ⟨s, 36, none⟩ = v3 :=
  ⟨(World.cell?_of_block (a := ⟨s, 34, none⟩) (Below.heap_setCell W ⟨C, i, none⟩ u s hne)).trans h.1, (World.cell?_of_block (a := ⟨s, 35, none⟩) (Below.heap_setCell W ⟨C, i, none⟩ u s hne)).trans h.2.1, (World.cell?_of_block (a := ⟨s, 36, none⟩) (Below.heap_setCell W ⟨C, i, none⟩ u s hne)).trans h.2.2⟩
theorem shared_info : (Tryz.prog.info? 98).map (·.size) = some 37 := by kernel_rfl
end Go.Proofs.YthnmlklgbggmbaaGreat
namespace Go.Proofs.YthnmlklgbggmbaaGreat
open Go.ChangeShapes Go.WideShapes Go.ChangeAt Go.RowKit
set_option linter.unusedVariables false
set_option linter.unusedSimpArgs false
theorem ScV.cell {w : World} {a : ScA} {M : ScM} (h : ScV w a M) (k : Nat) {v : Value} (hv : ∀ cs, ScCells cs a M → cs[k]? = some v) : w.cell? ⟨a.s, k, none⟩ = some v := by
  obtain ⟨cs, hb, hc⟩ := h.blk
  exact (cell_of hb k).trans (hv cs hc)
theorem ScV.kept {w w' : World} {a : ScA} {M : ScM} {S : Nat → Prop} (h : ScV w a M) (hk : Keeps S w w') (h1 : ¬ S a.s) (h2 : ¬ S a.rk) (h3 : ∀ t, t < M.many → ¬ S (a.tb t)) : ScV w' a M := by
  obtain ⟨cs, hb, hc⟩ := h.blk
  exact ⟨⟨cs, hk.at hb h1, hc⟩, h.le, fun t ht => by obtain ⟨v, hv⟩ := h.task t ht; exact ⟨v, hk.at hv (h3 t ht)⟩, h.rank.keeps hk h2⟩
theorem ScW.narrow {w : World} {P Q : Nat → Prop} {a : ScA} {M : ScM} (h : ScW w P a M) (hq : ∀ k, k < w.heap.size → P k → Q k) (hn : ∀ k, w.heap.size ≤ k → Q k) : ScW w Q a M :=
  { h with
    delta := by
      obtain ⟨L, hd, ha, hl⟩ := h.delta
      exact ⟨L, hd, ha, fun i nd hi => hq _ (lt_of (hd.node i nd hi)) (hl i nd hi)⟩
    queue := by
      obtain ⟨N, b, hd, hg, hw, hl⟩ := h.queue
      refine ⟨N, b, hd, hg, hw, fun x hx => ?_⟩
      obtain ⟨i, hi⟩ := List.getElem?_of_mem hx
      exact hq _ (lt_of (hd.node i x hi)) (hl x hx)
    low := ⟨hq _ h.lt h.low.1, hq _ h.rank.lt h.low.2.1, by obtain ⟨L, hd, _⟩ := h.delta; exact hq _ hd.lt h.low.2.2.1, by obtain ⟨N, b, hd, _⟩ := h.queue; exact hq _ (lt_of hd.head) h.low.2.2.2.1, fun t ht => hq _ (h.task t ht).lt (h.low.2.2.2.2 t ht)⟩
    new := hn }
structure StepX where
  k : Int
  t : Int
  rk : Int
  ro : Int
  m : Nat
  d : Nat
  b : Nat
  bits : Nat
structure StepX.Ok (x : StepX) : Prop where
  m : x.m < 4294967296
  d : x.d < 4294967296
  b : x.b < 4294967296
  bits : x.bits < 4294967296
end Go.Proofs.YthnmlklgbggmbaaGreat
namespace Go.Proofs.YthnmlklgbggmbaaGreat
open Go.ChangeShapes Go.WideShapes Go.ChangeAt Go.RowKit
set_option linter.unusedVariables false
set_option linter.unusedSimpArgs false
def offP (part : Int) : Int × Int := if part = 1 then (0, 1) else if part = 2 then (1, 1) else if part = 4 then (0, 2) else if part = 5 then (1, 2) else if part = 6 then (2, 2) else if part = 7 then (0, 3) else (0, 4)
def singP (k part : Int) : Int := if (offP part).2 = k then (offP part).1 else -1
theorem single_any (k part : Int) (w : World) (hp : 1 ≤ part ∧ part ≤ 8) (h3 : part ≠ 3) : Calls Tryz.prog 178 #[.int .i64 k, .int .i64 part] w fun e w' => e = .returned (.int .i64 (singP k part)) ∧ w' = w := by
  unfold singP
  rcases (by omega : part = 1 ∨ part = 2 ∨ part = 4 ∨ part = 5 ∨ part = 6 ∨ part = 7 ∨ part = 8) with rfl | rfl | rfl | rfl | rfl | rfl | rfl
  · rw [show offP 1 = (0, 1) from rfl]
    dsimp only
    by_cases hk : (1 : Int) = k
    · rw [if_pos hk]
      subst hk
      go_enter Tryz.func178, Tryz.ntmps178
      go_wp2_with fail
      go_ret
      exact ⟨rfl, rfl⟩
    · rw [if_neg hk]
      have hk2 : ((1 : Int) == k) = false := by rw [beq_eq_false_iff_ne]; exact hk
      go_enter Tryz.func178, Tryz.ntmps178
      go_wp2_with fail
      go_ret
      exact ⟨rfl, rfl⟩
  · rw [show offP 2 = (1, 1) from rfl]
    dsimp only
    by_cases hk : (1 : Int) = k
    · rw [if_pos hk]
      subst hk
      go_enter Tryz.func178, Tryz.ntmps178
      go_wp2_with fail
      go_ret
      exact ⟨rfl, rfl⟩
    · rw [if_neg hk]
      have hk2 : ((1 : Int) == k) = false := by rw [beq_eq_false_iff_ne]; exact hk
      go_enter Tryz.func178, Tryz.ntmps178
      go_wp2_with fail
      go_ret
      exact ⟨rfl, rfl⟩
  · rw [show offP 4 = (0, 2) from rfl]
    dsimp only
    by_cases hk : (2 : Int) = k
    · rw [if_pos hk]
      subst hk
      go_enter Tryz.func178, Tryz.ntmps178
      go_wp2_with fail
      go_ret
      exact ⟨rfl, rfl⟩
    · rw [if_neg hk]
      have hk2 : ((2 : Int) == k) = false := by rw [beq_eq_false_iff_ne]; exact hk
      go_enter Tryz.func178, Tryz.ntmps178
      go_wp2_with fail
      go_ret
      exact ⟨rfl, rfl⟩
  · rw [show offP 5 = (1, 2) from rfl]
    dsimp only
    by_cases hk : (2 : Int) = k
    · rw [if_pos hk]
      subst hk
      go_enter Tryz.func178, Tryz.ntmps178
      go_wp2_with fail
      go_ret
      exact ⟨rfl, rfl⟩
    · rw [if_neg hk]
      have hk2 : ((2 : Int) == k) = false := by rw [beq_eq_false_iff_ne]; exact hk
      go_enter Tryz.func178, Tryz.ntmps178
      go_wp2_with fail
      go_ret
      exact ⟨rfl, rfl⟩
  · rw [show offP 6 = (2, 2) from rfl]
    dsimp only
    by_cases hk : (2 : Int) = k
    · rw [if_pos hk]
      subst hk
      go_enter Tryz.func178, Tryz.ntmps178
      go_wp2_with fail
      go_ret
      exact ⟨rfl, rfl⟩
    · rw [if_neg hk]
      have hk2 : ((2 : Int) == k) = false := by rw [beq_eq_false_iff_ne]; exact hk
      go_enter Tryz.func178, Tryz.ntmps178
      go_wp2_with fail
      go_ret
      exact ⟨rfl, rfl⟩
  · rw [show offP 7 = (0, 3) from rfl]
    dsimp only
    by_cases hk : (3 : Int) = k
    · rw [if_pos hk]
      subst hk
      go_enter Tryz.func178, Tryz.ntmps178
      go_wp2_with fail
      go_ret
      exact ⟨rfl, rfl⟩
    · rw [if_neg hk]
      have hk2 : ((3 : Int) == k) = false := by rw [beq_eq_false_iff_ne]; exact hk
      go_enter Tryz.func178, Tryz.ntmps178
      go_wp2_with fail
      go_ret
      exact ⟨rfl, rfl⟩
  · rw [show offP 8 = (0, 4) from rfl]
    dsimp only
    by_cases hk : (4 : Int) = k
    · rw [if_pos hk]
      subst hk
      go_enter Tryz.func178, Tryz.ntmps178
      go_wp2_with fail
      go_ret
      exact ⟨rfl, rfl⟩
    · rw [if_neg hk]
      have hk2 : ((4 : Int) == k) = false := by rw [beq_eq_false_iff_ne]; exact hk
      go_enter Tryz.func178, Tryz.ntmps178
      go_wp2_with fail
      go_ret
      exact ⟨rfl, rfl⟩
end Go.Proofs.YthnmlklgbggmbaaGreat
namespace Go.Proofs.YthnmlklgbggmbaaGreat
open Go.ChangeShapes Go.WideShapes Go.ChangeAt Go.RowKit
set_option linter.unusedVariables false
set_option linter.unusedSimpArgs false
attribute [local irreducible] wpList
@[go_sem] theorem run_store_nilFunc (P : Program) (w : World) (a : Addr) (m : Mode) : (store a .nilFunc m).run P w = stored P w a .nilFunc m := run_store P w a _ m rfl
@[go_sem] theorem run_store_func (P : Program) (w : World) (a : Addr) (m : Mode) (fn : Fn) (x y : Array Value) : (store a (.func fn x y) m).run P w = stored P w a (.func fn x y) m := run_store P w a _ m rfl
structure DrP where
  g : Nat
  nO : Nat
  la : Option Addr
  nL : Nat
  lc : Nat
  t : Int
  aa : Option Addr
  nT : Nat
  ac : Nat
  n : Int
  s : Nat
  h : Nat
@[reducible] def drC (p : DrP) (part op ad : Int) (f : Value) (task level : Int) : Array Value := #[.slice (some ⟨p.g, 0, none⟩) p.nO p.nO, .slice p.la p.nL p.lc, .int .i64 p.t, .slice p.aa p.nT p.ac, .int .i64 p.n, .pointer (some ⟨p.s, 0, none⟩), .int .u32 0, .slice (some ⟨p.h, 0, none⟩) p.nL p.nL, .int .i64 part, .int .i64 op, .int .i64 ad, .int .u32 0, f, .int .i64 task, .int .i64 level, .int .u32 0, .int .u32 0, .int .i64 0, .int .i64 0, .int .i64 0, .int .u32 0, .int .i64 0, .int .i64 0, .int .i64 0, .int .u32 0, .bool false, .int .u32 0]
def IsDr (w : World) (b : Nat) (p : DrP) (part op ad : Int) (f : Value) (task level : Int) : Prop := w.heap[b]? = some (.cells (drC p part op ad f task level) 90 (0, 0))
section
variable {w w' : World} {b : Nat} {p : DrP} {part op ad : Int} {f : Value} {task level : Int}
theorem IsDr.at (h : IsDr w b p part op ad f task level) {S : Nat → Prop} (k : Keeps S w w') (hb : ¬ S b) : IsDr w' b p part op ad f task level := k.at h hb
theorem IsDr.cell (h : IsDr w b p part op ad f task level) (i : Nat) : w.cell? ⟨b, i, none⟩ = (drC p part op ad f task level)[i]? := cell_of h i
theorem IsDr.free (h : IsDr w b p part op ad f task level) (i : Nat) : w.frozen? ⟨b, i, none⟩ = false := free_of h i
theorem IsDr.lt (h : IsDr w b p part op ad f task level) : b < w.heap.size := lt_of h
end
theorem sched_any (w : World) (b : Nat) (p : DrP) (part op ad : Int) (f : Value) (task level : Int) (h : IsDr w b p part op ad f task level) :
    Calls Tryz.prog 9 #[.pointer (some ⟨b, 0, none⟩)] w fun e w' => e = .returned (.pointer (some ⟨p.s, 0, none⟩)) ∧ w = w' := by
  have c5 : w.cell? ⟨b, 5, none⟩ = some (.pointer (some ⟨p.s, 0, none⟩)) := h.cell 5
  clear h
  go_enter Tryz.func9, Tryz.ntmps9
  go_wp2_with fail
  go_ret
  exact ⟨rfl, rfl⟩
theorem seen_any (w : World) (b : Nat) (p : DrP) (part op ad : Int) (f : Value) (task level : Int) (h : IsDr w b p part op ad f task level) :
    Calls Tryz.prog 16 #[.pointer (some ⟨b, 0, none⟩)] w fun e w' => e = .returned (.int .u32 0) ∧ w = w' := by
  have c6 : w.cell? ⟨b, 6, none⟩ = some (.int .u32 0) := h.cell 6
  clear h
  go_enter Tryz.func16, Tryz.ntmps16
  go_wp2_with fail
  go_ret
  exact ⟨rfl, rfl⟩
end Go.Proofs.YthnmlklgbggmbaaGreat
namespace Go.Proofs.YthnmlklgbggmbaaGreat
open Go.ChangeShapes Go.WideShapes Go.ChangeAt Go.RowKit
set_option linter.unusedVariables false
set_option linter.unusedSimpArgs false
attribute [local irreducible] wpList
structure DrS (w : World) (b : Nat) (p : DrP) (c : CfD) : Prop where
  t : 0 ≤ p.t ∧ p.t ≤ 1000000
  nT : p.nT = c.nT
  nL : p.nL = c.nL
  asks : 0 < p.nT → ∃ ab ao, p.aa = some ⟨ab, ao, none⟩ ∧ ab ≠ b ∧ ab < w.heap.size ∧ ∀ i, i < p.nT → w.cell? ⟨ab, ao + i, none⟩ = some (.int .i64 (p.t + 1 + (i : Int)))
  lines : 0 < p.nL → ∃ lb lo, p.la = some ⟨lb, lo, none⟩ ∧ lb ≠ b ∧ lb < w.heap.size ∧ ∀ i, i < p.nL → w.rangeAt lb (lo + i * 6) (lineC (baseP c) c.lr i)
  heads : p.h ≠ b ∧ p.h < w.heap.size ∧ ∀ i, i < p.nL → w.cell? ⟨p.h, i, none⟩ = some (.int .u32 0)
theorem DrS.at {w w' : World} {b : Nat} {p : DrP} {c : CfD} (h : DrS w b p c) (k : Keeps (fun j => j = b) w w') : DrS w' b p c := by
  refine ⟨h.t, h.nT, h.nL, fun hp => ?_, fun hp => ?_, h.heads.1, Nat.lt_of_lt_of_le h.heads.2.1 k.size, fun i hi => (World.cell?_of_block (k.block p.h h.heads.2.1 h.heads.1)).trans (h.heads.2.2 i hi)⟩
  · obtain ⟨ab, ao, e, hn, hl, hc⟩ := h.asks hp
    exact ⟨ab, ao, e, hn, Nat.lt_of_lt_of_le hl k.size, fun i hi => (World.cell?_of_block (k.block ab hl hn)).trans (hc i hi)⟩
  · obtain ⟨lb, lo, e, hn, hl, hc⟩ := h.lines hp
    exact ⟨lb, lo, e, hn, Nat.lt_of_lt_of_le hl k.size, fun i hi j v hj => (World.cell?_of_block (k.block lb hl hn)).trans (hc i hi j v hj)⟩
section
variable (w : World) (b : Nat) (p : DrP) (c : CfD) (part op ad : Int) (f : Value) (task : Int)
end
end Go.Proofs.YthnmlklgbggmbaaGreat
namespace Go.Proofs.YthnmlklgbggmbaaGreat
open Go
section
variable {P : Program} {Q : Exit → Act → World → Prop}
def ScopeN (P : Program) (c : Code) (Q : Exit → Act → World → Prop) : Nat → Exit → Act → World → Prop
  | n, .goto l, a, w => match n with
    | 0 => False
    | m + 1 => ∃ rest, findLabel c l = some rest ∧ rest.wp P (ScopeN P c Q m) a w
  | _, e, a, w => Q e a w
theorem scopeN_pass {c : Code} : ∀ (n : Nat) (rest : Code) (a : Act) (w : World), rest.wp P (ScopeN P c Q n) a w → ∀ b k cs, ∃ e a' w', Q e a' w' ∧ Arrives P (lone (b.at a (.code rest :: .inScope c :: k)) cs w) b k cs e a' w' := by
  intro n
  induction n with
  | zero =>
    intro rest a w h b k cs
    obtain ⟨e, a₁, w₁, hq, harr⟩ := h b (.inScope c :: k) cs
    cases e with
    | normal => exact ⟨.normal, a₁, w₁, hq, Steps.trans harr (.one step_inScope)⟩
    | exit id => exact ⟨.exit id, a₁, w₁, hq, fun k' hk => harr k' (by simp [exitTo, hk])⟩
    | goto l' => exact hq.elim
    | ret => exact ⟨_, a₁, w₁, hq, harr⟩
    | panic ch => exact ⟨_, a₁, w₁, hq, harr⟩
    | outgrown => exact ⟨_, a₁, w₁, hq, harr⟩
  | succ n ih =>
    intro rest a w h b k cs
    obtain ⟨e, a₁, w₁, hq, harr⟩ := h b (.inScope c :: k) cs
    cases e with
    | normal => exact ⟨.normal, a₁, w₁, hq, Steps.trans harr (.one step_inScope)⟩
    | exit id => exact ⟨.exit id, a₁, w₁, hq, fun k' hk => harr k' (by simp [exitTo, hk])⟩
    | goto l' =>
      obtain ⟨rest', hf, h'⟩ := hq
      have hg : gotoIn l' (.inScope c :: k) = some (.code rest' :: .inScope c :: k) := by simp [gotoIn, hf]
      obtain ⟨e₂, a₂, w₂, hq₂, harr₂⟩ := ih rest' a₁ w₁ h' b k cs
      exact ⟨e₂, a₂, w₂, hq₂, .of_steps (harr _ hg) harr₂⟩
    | ret => exact ⟨_, a₁, w₁, hq, harr⟩
    | panic ch => exact ⟨_, a₁, w₁, hq, harr⟩
    | outgrown => exact ⟨_, a₁, w₁, hq, harr⟩
theorem wp_scope_n {c : Code} (n : Nat) {a : Act} {w : World} (h : c.wp P (ScopeN P c Q n) a w) : (Code.scope c).wp P Q a w := by
  intro b k cs
  obtain ⟨e, a₁, w₁, hq, harr⟩ := scopeN_pass n c a w h b k cs
  exact ⟨e, a₁, w₁, hq, .of_steps (.one step_scope) harr⟩
theorem scopeN_ret {c : Code} {a : Act} {w : World} (n : Nat) (h : Q .ret a w) : ScopeN P c Q n .ret a w := by cases n <;> exact h
end
end Go.Proofs.YthnmlklgbggmbaaGreat
namespace Go.Proofs.YthnmlklgbggmbaaGreat
open Go.ChangeShapes Go.WideShapes Go.ChangeAt Go.RowKit
set_option linter.unusedVariables false
set_option linter.unusedSimpArgs false
attribute [local irreducible] wpList
theorem ScW.dr {w w' : World} {P : Nat → Prop} {a : ScA} {M : ScM} {b : Nat} (h : ScW w P a M) (hb : Ty w b 90) (k : Keeps (fun j => j = b) w w') : ScW w' P a M :=
  h.keepTy (Ts := [90]) (keepsTy k fun j _ e => ⟨_, .head _, by subst e; exact hb⟩) (by intro T hT; obtain rfl := List.mem_singleton.1 hT; decide)
def DK (P : Nat → Prop) (b : Nat) (w w' : World) : Prop := Keeps (fun k => k = b ∨ (P k ∧ ∃ T, T ∈ SchTys ∧ Ty w k T)) w w'
theorem DK.of {P : Nat → Prop} {b : Nat} {w W1 w2 : World} (k1 : Keeps (fun j => j = b) w W1) (hz : W1.heap.size = w.heap.size) (k2 : KeepsS P W1 w2) : DK P b w w2 := by
  refine (k1.mono fun _ _ e => .inl e).trans (k2.mono fun k hk e => ?_)
  by_cases hb : k = b
  · exact .inl hb
  · obtain ⟨hP, T, hT, cs, fr, h⟩ := e
    exact .inr ⟨hP, T, hT, cs, fr, (k1.block k (by rw [← hz]; exact hk) hb).symm.trans h⟩
theorem DK.at {P : Nat → Prop} {b i : Nat} {w w' : World} {cs : Array Value} {T : TypeId} {fr : Nat × Nat} (h : DK P b w w') (hi : w.heap[i]? = some (.cells cs T fr)) (h1 : i ≠ b) (h2 : T ∉ SchTys) : w'.heap[i]? = some (.cells cs T fr) :=
  Keeps.at h hi fun e => by
    rcases e with e | ⟨_, T', hT, cs', fr', h'⟩
    · exact h1 e
    · rw [hi] at h'
      injection h' with h'
      injection h' with _ e2 _
      exact h2 (e2 ▸ hT)
section
variable (w : World) (b : Nat) (p : DrP) (c : CfD) (part op ad : Int) (f : Value) (task : Int)
end
end Go.Proofs.YthnmlklgbggmbaaGreat
