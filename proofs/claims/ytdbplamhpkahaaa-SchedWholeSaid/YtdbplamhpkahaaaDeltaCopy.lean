import Derived.Test.YtdbplamhpkahaaaDeltaAlive
import Derived.BigRegion
namespace Go.Proofs.Ytdbplamhpkahaaa
open Go.ChangeShapes Go.WideShapes Go.ChangeAt Go.RowKit
set_option linter.unusedVariables false
theorem dapp (D : Nat) (L : List Nd) (task : Int) (x : Nat) (w1 : World) (h1 : IsDelta w1 D L) :
    ∃ L', Ins L L' L.length ⟨w1.heap.size, task, x⟩ ∧ IsDelta ((w1.alloc (.cells #[.int .i64 task, .int .u32 (x : Int), .pointer none] 112)).setCell (atA D L L.length) (.pointer (some ⟨w1.heap.size, 0, none⟩))) D L' ∧ Keeps (Own D L) w1 ((w1.alloc (.cells #[.int .i64 task, .int .u32 (x : Int), .pointer none] 112)).setCell (atA D L L.length) (.pointer (some ⟨w1.heap.size, 0, none⟩))) := by
  obtain ⟨L', hI⟩ := ins_make L L.length ⟨w1.heap.size, task, x⟩ (Nat.le_refl _)
  obtain ⟨a1, a2, a3⟩ := at_cell h1 (Nat.le_refl L.length)
  have hpn : ptrOf L L.length = none := ptrOf_none (Nat.le_refl _)
  refine ⟨L', hI, ins_delta h1 hI (Nat.le_refl _) ?_ ?_ ?_, ?_⟩
  · rw [hpn]
    exact heap_other (heap_new _ _) (show w1.heap.size ≠ (atA D L L.length).block by omega) _
  · by_cases e : L.length = 0
    · rw [if_pos e, e]
      exact heap_set (heap_old h1.head _) 0 _
    · rw [if_neg e]
      refine heap_other (heap_old h1.head _) ?_ _
      obtain ⟨z, hz⟩ : ∃ z, L.length = z + 1 := ⟨L.length - 1, by omega⟩
      rw [hz]
      have hlt : z < L.length := by omega
      have hg := List.getElem?_eq_getElem hlt
      show D ≠ gOf L z
      rw [gOf_some hg]
      exact (h1.ne hg).symm
  · intro j a ha
    have hj := get_lt ha
    rw [if_neg (by omega)]
    by_cases e : j + 1 = L.length
    · rw [if_pos e, ← e]
      show (World.setCell _ ⟨gOf L j, 2, none⟩ _).heap[a.g]? = _
      rw [gOf_some ha]
      exact heap_set (heap_old (h1.node j a ha) _) 2 _
    · rw [if_neg e]
      refine heap_other (heap_old (h1.node j a ha) _) ?_ _
      obtain ⟨z, hz⟩ : ∃ z, L.length = z + 1 := ⟨L.length - 1, by omega⟩
      have hlt : z < L.length := by omega
      have hg := List.getElem?_eq_getElem hlt
      rw [hz]
      show a.g ≠ gOf L z
      rw [gOf_some hg]
      intro he
      have := h1.inj j z a _ ha hg he
      omega
  · exact (((Keeps.refl (Own D L) w1).alloc _).setCell (p := atA D L L.length) (.inl (at_block (Nat.le_refl _))) _)
/-- Of a list, the first i nodes lie copied behind block C. -/
structure Cp (wo wr : World) (C : Nat) (M : List Nd) (i : Nat) : Prop where
  is : IsDelta wr C M
  len : M.length = i
  new : ∀ (j : Nat) (nd : Nd), M[j]? = some nd → wo.heap.size ≤ nd.g
  below : Below wo.heap.size wo wr
  lo : wo.heap.size ≤ C
theorem Cp.quiet {wo w1 w2 : World} {C i : Nat} {M : List Nd} (h : Cp wo w1 C M i) (hk : Keeps (fun _ => False) w1 w2) : Cp wo w2 C M i :=
  ⟨h.is.none hk, h.len, h.new, h.below.trans (hk.none.mono h.below.size), h.lo⟩
theorem Cp.own {wo wr : World} {C i : Nat} {M : List Nd} (h : Cp wo wr C M i) : ∀ k, k < wr.heap.size → Own C M k → wo.heap.size ≤ k := by
  intro k _ hk
  rcases hk with rfl | ⟨i, a, ha, rfl⟩
  · exact h.lo
  · exact h.new i a ha
theorem Cp.step {wo wr : World} {C i : Nat} {M : List Nd} (t : Int) (x : Nat) (h : Cp wo wr C M i) :
    ∃ M', Cp wo ((wr.alloc (.cells #[.int .i64 t, .int .u32 (x : Int), .pointer none] 112)).setCell (atA C M i) (.pointer (some ⟨wr.heap.size, 0, none⟩))) C M' (i + 1) ∧ atA C M' (i + 1) = ⟨wr.heap.size, 2, none⟩ := by
  have hl := h.len
  obtain ⟨M', hI, hd, hk⟩ := dapp C M t x wr h.is
  rw [hl] at hI hd hk
  refine ⟨M', ⟨hd, by rw [hI.len, hl], ?_, h.below.trans (hk.below h.below.size h.own), h.lo⟩, ?_⟩
  · intro j nd hj
    rcases hI.cases hj with ⟨c1, c2⟩ | ⟨rfl, rfl⟩ | ⟨rfl, b, c2, rfl⟩ | ⟨c1, c2⟩
    · exact h.new j nd c2
    · exact h.below.size
    · exact h.new i b c2
    · exact h.new (j - 1) nd c2
  · show (⟨gOf M' i, 2, none⟩ : Addr) = _
    rw [gOf_some hI.at_]
set_option maxRecDepth 20000 in
theorem dcopy (D : Nat) (L : List Nd) (w : World) (h : IsDelta w D L) (hlen : L.length ≤ 1000) :
    Calls Try.prog 25 #[.pointer (some ⟨D, 0, none⟩)] w fun e w' => e = .returned (.pointer (some ⟨w.heap.size, 0, none⟩)) ∧ ∃ M, Cp w w' w.heap.size M L.length := by
  have H := Lib.hid h
  have lD := h.lt
  have d0 : w.cell? ⟨D, 0, none⟩ = some (.pointer (ptrOf L 0)) := cell_of h.head 0
  have C0 : Cp w (w.alloc (.cells #[.pointer none] 48)) w.heap.size [] 0 := ⟨⟨heap_new _ _, fun i a h => by simp at h, fun i j a b h => by simp at h⟩, rfl, fun i a h => by simp at h, ((Keeps.refl (fun _ => False) w).alloc _).none, Nat.le_refl _⟩
  have HC0 := Lib.hid C0
  clear h C0
  go_enter Try.func25, Try.ntmps25
  go_wp2_with fail
  obtain ⟨wo, rfl⟩ : ∃ wo : World, wo = w := ⟨_, rfl⟩
  go_loopg [4, 5] L.length (fun g l p wr => ∃ (i : Nat) (M : List Nd), i + g = L.length ∧ l = .pointer (some (atA wo.heap.size M i)) ∧ p = .pointer (ptrOf L i) ∧ Cp wo wr wo.heap.size M i)
  case atStart => exact ⟨0, [], by omega, rfl, rfl, HC0.out⟩
  case round =>
    obtain ⟨i, M, hig, rfl, rfl, hC⟩ := hrel
    have HC := Lib.hid hC
    cases hi : L[i]? with
    | none =>
      have hil : i = L.length := by have := get_ge hi; omega
      have HL := Lib.hid hil
      rw [ptrOf_none (get_ge hi)]
      clear hi hil hC
      go_wp2
      go_ret
      exact ⟨rfl, M, by rw [← HL.out]; exact HC.out⟩
    | some a =>
      have hil := get_lt hi
      have hn := Below.at hC.below (H.out.node i a hi) (lt_of (H.out.node i a hi))
      obtain ⟨a1, a2, a3⟩ := at_cell hC.is (show i ≤ M.length from by rw [hC.len]; exact Nat.le_refl _)
      rw [ptrOf_none (by rw [hC.len]; exact Nat.le_refl _)] at a1
      have hne : a.g ≠ (atA wo.heap.size M i).block := by
        have h1 := lt_of (H.out.node i a hi)
        have h2 : wo.heap.size ≤ (atA wo.heap.size M i).block := hC.own _ a3 (at_block (by rw [hC.len]; exact Nat.le_refl _))
        omega
      have n0 : wr.cell? ⟨a.g, 0, none⟩ = some (.int .i64 a.t) := cell_of hn 0
      have n1 : wr.cell? ⟨a.g, 1, none⟩ = some (.int .u32 (a.x : Int)) := cell_of hn 1
      have ln := lt_of hn
      rw [ptrOf_some hi]
      obtain ⟨M', hS, hA'⟩ := hC.step a.t a.x
      have HS := Lib.hid (And.intro hS hA')
      have n2 : ((wr.alloc (.cells #[.int .i64 a.t, .int .u32 (a.x : Int), .pointer none] 112)).setCell (atA wo.heap.size M i) (.pointer (some ⟨wr.heap.size, 0, none⟩))).cell? ⟨a.g, 2, none⟩ = some (.pointer (ptrOf L (i + 1))) := cell_of (heap_other (heap_old hn _) hne _) 2
      have a4 := fun o => (alloc_at a1 a2 a3 o).1
      have a5 := fun o => (alloc_at a1 a2 a3 o).2
      clear hi hn hC hS hA'
      generalize hA : atA wo.heap.size M i = A at *
      clear hA
      obtain ⟨g, rfl⟩ : ∃ g, gk = g + 1 := ⟨gk - 1, by omega⟩
      go_wp2_with fail
      go_region
      go_wp2
      go_roundg g
      case measure => omega
      case rel => exact ⟨i + 1, M', by omega, by rw [HS.out.2], rfl, HS.out.1.quiet (Keeps.refl _ _).drew⟩
end Go.Proofs.Ytdbplamhpkahaaa
