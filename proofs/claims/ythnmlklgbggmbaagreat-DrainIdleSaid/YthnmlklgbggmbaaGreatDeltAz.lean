import Derived.Test.YthnmlklgbggmbaaGreatRows
import Derived.Test.YthnmlklgbggmbaaGreatBaseZ
import Derived.ProofKit
import Derived.OpenShut
import Derived.WalkLawsBesides
import Derived.WalkSpells
import Derived.Lib.Hide
import Derived.Deep.QuietTactic
import Derived.BigQuiet
import Derived.BigRegion
import Derived.Laws.AppendOwn
import Derived.Deep.RegionLaw
import Derived.Deep.RegionWith
import Derived.Handy
namespace Go.Proofs.YthnmlklgbggmbaaGreat
open Go.ChangeShapes Go.WideShapes Go.ChangeAt Go.RowKit
set_option linter.unusedVariables false
/-- A node: its block, its task, its ticks behind the node ahead. -/
structure Nd where
  g : Nat
  t : Int
  x : Nat
def ptrOf (L : List Nd) (i : Nat) : Option Addr := (L[i]?).map fun nd => ⟨nd.g, 0, none⟩
theorem ptrOf_some {L : List Nd} {i : Nat} {nd : Nd} (h : L[i]? = some nd) : ptrOf L i = some ⟨nd.g, 0, none⟩ := by simp [ptrOf, h]
theorem ptrOf_none {L : List Nd} {i : Nat} (h : L.length ≤ i) : ptrOf L i = none := by simp [ptrOf, h]
/-- Block D: a delta list of these nodes. -/
structure IsDelta (w : World) (D : Nat) (L : List Nd) : Prop where
  head : w.heap[D]? = some (.cells #[.pointer (ptrOf L 0)] 157 (0, 0))
  node : ∀ (i : Nat) (nd : Nd), L[i]? = some nd → w.heap[nd.g]? = some (.cells #[.int .i64 nd.t, .int .u32 (nd.x : Int), .pointer (ptrOf L (i + 1))] 172 (0, 0))
  inj : ∀ (i j : Nat) (a b : Nd), L[i]? = some a → L[j]? = some b → a.g = b.g → i = j
section
variable {w w' : World} {D : Nat} {L : List Nd}
theorem IsDelta.keeps {S : Nat → Prop} (h : IsDelta w D L) (hk : Keeps S w w') (hD : ¬ S D) (hN : ∀ (i : Nat) (nd : Nd), L[i]? = some nd → ¬ S nd.g) : IsDelta w' D L :=
  ⟨hk.at h.head hD, fun i nd hi => hk.at (h.node i nd hi) (hN i nd hi), h.inj⟩
theorem IsDelta.none (h : IsDelta w D L) (hk : Keeps (fun _ => False) w w') : IsDelta w' D L := h.keeps hk (fun h => h) fun _ _ _ h => h
theorem IsDelta.lt (h : IsDelta w D L) : D < w.heap.size := lt_of h.head
theorem IsDelta.ne (h : IsDelta w D L) {i : Nat} {nd : Nd} (hi : L[i]? = some nd) : nd.g ≠ D := by
  intro e
  have h1 := h.node i nd hi
  rw [e, h.head] at h1
  injection h1 with h1
  injection h1 with _ h1
  exact absurd h1 (by decide)
end
/-- The ticks of the first k nodes, together. -/
def sumX (L : List Nd) : Nat → Nat
  | 0 => 0
  | k + 1 => sumX L k + (match L[k]? with | some nd => nd.x | none => 0)
theorem sumX_succ {L : List Nd} {k : Nat} {nd : Nd} (h : L[k]? = some nd) : sumX L (k + 1) = sumX L k + nd.x := by simp [sumX, h]
theorem sumX_mono (L : List Nd) {i j : Nat} (h : i ≤ j) : sumX L i ≤ sumX L j := by
  induction h with
  | refl => exact Nat.le_refl _
  | step _ ih => exact Nat.le_trans ih (Nat.le_add_right _ _)
/-- Left's closure adds the ticks of a node. -/
theorem leftf_any (g bx x s : Nat) (t : Int) (p : Option Addr) (E : TypeId) (w : World) (hn : w.heap[g]? = some (.cells #[.int .i64 t, .int .u32 (x : Int), .pointer p] 172 (0, 0))) (hb : w.heap[bx]? = some (.cells #[.int .u32 (s : Int)] E (0, 0))) (hs : s + x < 4294967296) :
    Calls Tryz.prog 187 #[.pointer (some ⟨g, 0, none⟩), .pointer (some ⟨bx, 0, none⟩)] w fun e w' => e = .returned (.int .u32 ((s + x : Nat) : Int)) ∧ w'.heap[bx]? = some (.cells #[.int .u32 ((s + x : Nat) : Int)] E (0, 0)) ∧ Keeps (fun k => k = bx) w w' := by
  have c0 : w.cell? ⟨bx, 0, none⟩ = some (.int .u32 (s : Int)) := cell_of hb 0
  have f0 : w.frozen? ⟨bx, 0, none⟩ = false := free_of hb 0
  have c1 : w.cell? ⟨g, 1, none⟩ = some (.int .u32 (x : Int)) := cell_of hn 1
  have lb := lt_of hb
  have ln := lt_of hn
  have hwr : ((s : Int) + (x : Int)) % 4294967296 = (s : Int) + x := by omega
  have HB := Lib.hid hb
  clear hb hn
  go_enter Tryz.func187, Tryz.ntmps187
  go_wp2_with fail
  go_region
  all_goals
    go_wp2
    go_ret
    exact ⟨rfl, heap_drew (heap_set HB.out 0 _), ((Keeps.refl (fun k => k = bx) w).setCell (p := ⟨bx, 0, none⟩) (.inl rfl) _).drew⟩
end Go.Proofs.YthnmlklgbggmbaaGreat
namespace Go.Proofs.YthnmlklgbggmbaaGreat
open Go.ChangeShapes Go.WideShapes Go.ChangeAt Go.RowKit
set_option linter.unusedVariables false
theorem get_lt {L : List Nd} {i : Nat} {a : Nd} (h : L[i]? = some a) : i < L.length := by
  rcases Nat.lt_or_ge i L.length with h1 | h1
  · exact h1
  · rw [List.getElem?_eq_none h1] at h; cases h
theorem get_ge {L : List Nd} {i : Nat} (h : L[i]? = none) : L.length ≤ i := by
  rcases Nat.lt_or_ge i L.length with h1 | h1
  · rw [List.getElem?_eq_getElem h1] at h; cases h
  · exact h1
/-- L' is L with a node n before its k-th, whose ticks are fewer by n's. -/
structure Ins (L L' : List Nd) (k : Nat) (n : Nd) : Prop where
  len : L'.length = L.length + 1
  lo : ∀ i, i < k → L'[i]? = L[i]?
  at_ : L'[k]? = some n
  nx : L'[k + 1]? = (L[k]?).map fun a => ⟨a.g, a.t, a.x - n.x⟩
  hi : ∀ i, k < i → L'[i + 1]? = L[i]?
  le : k ≤ L.length
theorem ins_make (L : List Nd) (k : Nat) (n : Nd) (hk : k ≤ L.length) : ∃ L', Ins L L' k n := by
  have ht : (L.take k).length = k := by rw [List.length_take]; omega
  cases hd : L.drop k with
  | nil =>
    have hl : L.length = k := by
      have := congrArg List.length hd
      rw [List.length_drop] at this
      simp at this
      omega
    refine ⟨L ++ [n], ⟨by simp, ?_, ?_, ?_, ?_, hk⟩⟩
    · intro i hi; rw [List.getElem?_append_left (by omega)]
    · rw [List.getElem?_append_right (by omega), hl]; simp
    · rw [List.getElem?_append_right (by omega), hl, List.getElem?_eq_none (l := L) (by omega)]
      rw [show k + 1 - k = 1 by omega]; rfl
    · intro i hi; rw [List.getElem?_append_right (by omega), List.getElem?_eq_none (l := L) (by omega), List.getElem?_eq_none (by simp; omega)]
  | cons a r =>
    have hs : L = L.take k ++ a :: r := by rw [← hd, List.take_append_drop]
    have hg : ∀ j, L[k + j]? = (a :: r)[j]? := by
      intro j
      rw [hs, List.getElem?_append_right (by omega), ht]
      congr 1
      omega
    refine ⟨L.take k ++ n :: ⟨a.g, a.t, a.x - n.x⟩ :: r, ⟨?_, ?_, ?_, ?_, ?_, hk⟩⟩
    · have := congrArg List.length hs
      simp at this ⊢
      omega
    · intro i hi
      rw [List.getElem?_append_left (by omega), List.getElem?_take_of_lt hi]
    · rw [List.getElem?_append_right (by omega), ht]; simp
    · rw [List.getElem?_append_right (by omega), ht, show k + 1 - k = 1 by omega]
      have := hg 0
      rw [Nat.add_zero] at this
      rw [this]; rfl
    · intro i hi
      rw [List.getElem?_append_right (by omega), ht]
      obtain ⟨j, rfl⟩ : ∃ j, i = k + (j + 1) := ⟨i - k - 1, by omega⟩
      rw [hg, show k + (j + 1) + 1 - k = j + 2 by omega]
      rfl
theorem Ins.cases {L L' : List Nd} {k : Nat} {n : Nd} (h : Ins L L' k n) {i : Nat} {a : Nd} (ha : L'[i]? = some a) :
    (i < k ∧ L[i]? = some a) ∨ (i = k ∧ a = n) ∨ (i = k + 1 ∧ ∃ b, L[k]? = some b ∧ a = ⟨b.g, b.t, b.x - n.x⟩) ∨ (k + 1 < i ∧ L[i - 1]? = some a) := by
  rcases Nat.lt_trichotomy i k with h1 | h1 | h1
  · exact .inl ⟨h1, by rw [← h.lo i h1]; exact ha⟩
  · subst h1
    rw [h.at_] at ha
    cases ha
    exact .inr (.inl ⟨rfl, rfl⟩)
  · by_cases h2 : i = k + 1
    · subst h2
      rw [h.nx] at ha
      cases hb : L[k]? with
      | none => rw [hb] at ha; cases ha
      | some b =>
        rw [hb] at ha
        cases ha
        exact .inr (.inr (.inl ⟨rfl, b, rfl, rfl⟩))
    · obtain ⟨j, rfl⟩ : ∃ j, i = j + 1 := ⟨i - 1, by omega⟩
      rw [h.hi j (by omega)] at ha
      exact .inr (.inr (.inr ⟨by omega, ha⟩))
theorem Ins.sum_lo {L L' : List Nd} {k : Nat} {n : Nd} (h : Ins L L' k n) : ∀ i, i ≤ k → sumX L' i = sumX L i
  | 0, _ => rfl
  | i + 1, hi => by
    show sumX L' i + _ = sumX L i + _
    rw [h.sum_lo i (by omega), h.lo i (by omega)]
theorem Ins.sum_at {L L' : List Nd} {k : Nat} {n : Nd} (h : Ins L L' k n) : sumX L' (k + 1) = sumX L k + n.x := by
  rw [sumX_succ h.at_, h.sum_lo k (Nat.le_refl _)]
theorem Ins.sum_hi {L L' : List Nd} {k : Nat} {n : Nd} (h : Ins L L' k n) (hx : ∀ b, L[k]? = some b → n.x ≤ b.x) : ∀ i, k < i → i ≤ L.length → sumX L' (i + 1) = sumX L i := by
  intro i hi hl
  induction i with
  | zero => omega
  | succ i ih =>
    by_cases e : i = k
    · subst e
      cases hb : L[i]? with
      | none => have := get_ge hb; omega
      | some b =>
        have hn := h.nx
        rw [hb] at hn
        have hn' : L'[i + 1]? = some ⟨b.g, b.t, b.x - n.x⟩ := hn
        have := hx b hb
        rw [sumX_succ hn', h.sum_at, sumX_succ hb]
        show sumX L i + n.x + (b.x - n.x) = _
        omega
    · show sumX L' (i + 1) + _ = sumX L i + _
      rw [ih (by omega) (by omega), h.hi i (by omega)]
/-- The block of the i-th node. -/
def gOf (L : List Nd) (i : Nat) : Nat := match L[i]? with | some a => a.g | none => 0
theorem gOf_some {L : List Nd} {i : Nat} {a : Nd} (h : L[i]? = some a) : gOf L i = a.g := by simp [gOf, h]
/-- Where the pointer to the i-th node stands. -/
def atA (D : Nat) (L : List Nd) : Nat → Addr
  | 0 => ⟨D, 0, none⟩
  | i + 1 => ⟨gOf L i, 2, none⟩
theorem at_cell {w : World} {D : Nat} {L : List Nd} (h : IsDelta w D L) {i : Nat} (hi : i ≤ L.length) : w.cell? (atA D L i) = some (.pointer (ptrOf L i)) ∧ w.frozen? (atA D L i) = false ∧ (atA D L i).block < w.heap.size := by
  cases i with
  | zero => exact ⟨cell_of h.head 0, free_of h.head 0, lt_of h.head⟩
  | succ i =>
    cases ha : L[i]? with
    | none => have := get_ge ha; omega
    | some a =>
      have hn := h.node i a ha
      simp only [atA, gOf_some ha]
      exact ⟨cell_of hn 2, free_of hn 2, lt_of hn⟩
/-- What the list is behind an Add. -/
theorem ins_delta {w w' : World} {D k : Nat} {L L' : List Nd} {n : Nd} (h : IsDelta w D L) (hI : Ins L L' k n) (hnew : w.heap.size ≤ n.g)
    (hN : w'.heap[n.g]? = some (.cells #[.int .i64 n.t, .int .u32 (n.x : Int), .pointer (ptrOf L k)] 172 (0, 0)))
    (hD : w'.heap[D]? = some (.cells #[.pointer (if k = 0 then some ⟨n.g, 0, none⟩ else ptrOf L 0)] 157 (0, 0)))
    (hO : ∀ (j : Nat) (a : Nd), L[j]? = some a → w'.heap[a.g]? = some (.cells #[.int .i64 a.t, .int .u32 ((if j = k then a.x - n.x else a.x : Nat) : Int), .pointer (if j + 1 = k then some ⟨n.g, 0, none⟩ else ptrOf L (j + 1))] 172 (0, 0))) : IsDelta w' D L' := by
  have hp : ∀ i, i ≤ L.length → ptrOf L' i = if i = k then some ⟨n.g, 0, none⟩ else if i < k then ptrOf L i else ptrOf L (i - 1) := by
    intro i hi
    by_cases e : i = k
    · subst e; rw [if_pos rfl, ptrOf_some hI.at_]
    · rw [if_neg e]
      by_cases e2 : i < k
      · rw [if_pos e2]; simp only [ptrOf, hI.lo i e2]
      · rw [if_neg e2]
        obtain ⟨j, rfl⟩ : ∃ j, i = j + 1 := ⟨i - 1, by omega⟩
        simp only [Nat.add_sub_cancel]
        by_cases e3 : j = k
        · subst e3
          simp only [ptrOf, hI.nx]
          cases L[j]? <;> rfl
        · simp only [ptrOf, hI.hi j (by omega)]
  have hp2 : ∀ i, L.length < i → ptrOf L' (i + 1) = none := fun i hi => ptrOf_none (by rw [hI.len]; omega)
  have hpt : ∀ i, k < i → ptrOf L' (i + 1) = ptrOf L i := by
    intro i hi
    simp only [ptrOf, hI.hi i hi]
  have hpk : ptrOf L' (k + 1) = ptrOf L k := by
    simp only [ptrOf, hI.nx]
    cases L[k]? <;> rfl
  refine ⟨?_, ?_, ?_⟩
  · rw [hD]
    by_cases e : k = 0
    · subst e; rw [if_pos rfl, ptrOf_some hI.at_]
    · rw [if_neg e]
      simp only [ptrOf, hI.lo 0 (by omega)]
  · intro i a ha
    rcases hI.cases ha with ⟨h1, h2⟩ | ⟨rfl, rfl⟩ | ⟨rfl, b, h2, rfl⟩ | ⟨h1, h2⟩
    · rw [hO i a h2, if_neg (by omega)]
      by_cases e : i + 1 = k
      · rw [if_pos e, e, ptrOf_some hI.at_]
      · rw [if_neg e]
        simp only [ptrOf, hI.lo (i + 1) (by omega)]
    · rw [hN, hpk]
    · rw [hO k b h2, if_pos rfl, if_neg (by omega), hpt (k + 1) (by omega)]
    · obtain ⟨j, rfl⟩ : ∃ j, i = j + 1 := ⟨i - 1, by omega⟩
      simp only [Nat.add_sub_cancel] at h2
      rw [hO j a h2, if_neg (by omega), if_neg (by omega), hpt (j + 1) (by omega)]
  · intro i j a b ha hb hab
    have hlt : ∀ (z : Nat) (c : Nd), L[z]? = some c → c.g < n.g := fun z c hc => Nat.lt_of_lt_of_le (lt_of (h.node z c hc)) hnew
    have key : ∀ {i : Nat} {a : Nd}, L'[i]? = some a → (i = k ∧ a.g = n.g) ∨ ∃ (z : Nat) (c : Nd), L[z]? = some c ∧ c.g = a.g ∧ i = if z < k then z else z + 1 := by
      intro i a ha
      rcases hI.cases ha with ⟨h1, h2⟩ | ⟨rfl, rfl⟩ | ⟨rfl, b, h2, rfl⟩ | ⟨h1, h2⟩
      · exact .inr ⟨i, a, h2, rfl, by rw [if_pos h1]⟩
      · exact .inl ⟨rfl, rfl⟩
      · exact .inr ⟨k, b, h2, rfl, by rw [if_neg (by omega)]⟩
      · exact .inr ⟨i - 1, a, h2, rfl, by rw [if_neg (by omega)]; omega⟩
    rcases key ha with ⟨e1, e2⟩ | ⟨z, c, hc, hcg, e⟩
    · rcases key hb with ⟨e3, e4⟩ | ⟨z2, c2, hc2, hcg2, e5⟩
      · omega
      · have := hlt z2 c2 hc2; omega
    · rcases key hb with ⟨e3, e4⟩ | ⟨z2, c2, hc2, hcg2, e5⟩
      · have := hlt z c hc; omega
      · have := h.inj z z2 c c2 hc hc2 (by omega)
        subst this
        rw [e, e5]
end Go.Proofs.YthnmlklgbggmbaaGreat
namespace Go.Proofs.YthnmlklgbggmbaaGreat
open Go.ChangeShapes Go.WideShapes Go.ChangeAt Go.RowKit
set_option linter.unusedVariables false
/-- The task of the i-th node. -/
def tk (L : List Nd) (i : Nat) : Int := match L[i]? with | some a => a.t | none => 0
theorem tk_some {L : List Nd} {i : Nat} {a : Nd} (h : L[i]? = some a) : tk L i = a.t := by simp [tk, h]
theorem nums_snoc' (F : Nat → Int) (n : Nat) : nums F n ++ [Value.int .i64 (F n)] = nums F (n + 1) := by
  unfold nums
  rw [List.range_succ, List.map_append]
  rfl
theorem Tryz.infoD : (Tryz.prog.info? 3).map (fun i => (i.zero, i.size, i.bytes)) = some (some (.int .i64 0), 1, 8) := by kernel_rfl
theorem own_apart {w : World} {base : Nat} {e t : TypeId} {size n g : Nat} {v : Value} {xs : List Value} {cs : Array Value} (h : w.ownsRow base e size v n xs) (hg : w.heap[g]? = some (.cells cs t (0, 0))) (hne : e ≠ t) : v.ownBlock ≠ some g := by
  rcases h.2 with ⟨rfl, _⟩ | ⟨g', cap, cur, rfl, _, hh, _⟩
  · simp [Value.ownBlock]
  · intro he
    have e1 : g' = g := by simpa [Value.ownBlock] using he
    subst e1
    rw [hg] at hh
    injection hh with hh
    injection hh with _ ht
    exact hne ht.symm
theorem grown_cells {w w' : World} {row : Option Nat} {g : Nat} {o : Obj} (h : w.grownBy w' row) (hg : w.heap[g]? = some o) (hne : row ≠ some g) : w'.heap[g]? = some o :=
  (h.block g (lt_of hg) (fun e => hne e.symm)).trans hg
end Go.Proofs.YthnmlklgbggmbaaGreat
namespace Go.Proofs.YthnmlklgbggmbaaGreat
open Go.ChangeShapes Go.WideShapes Go.ChangeAt Go.RowKit
set_option linter.unusedVariables false
set_option maxRecDepth 20000 in
set_option maxHeartbeats 1000000 in
theorem dleft_no (D : Nat) (L : List Nd) (task : Int) (w : World) (h : IsDelta w D L) (hsum : sumX L L.length < 4294967296) (ht : ∀ (j : Nat) (a : Nd), L[j]? = some a → a.t ≠ task) :
    Calls Tryz.prog 180 #[.pointer (some ⟨D, 0, none⟩), .int .i64 task] w fun e w' => e = .returned (.tuple #[.int .u32 0, .bool false]) ∧ Keeps (fun _ => False) w w' := by
  have hmf : ∀ (fn : Fn) (first cap : Array Value) (w : World), (Instr.makeFunc fn first cap).run Tryz.prog w = .ok (.func fn first cap) w := fun _ _ _ _ => rfl
  have H := Lib.hid h
  have HT := Lib.hid ht
  have lD := h.lt
  have d0 : w.cell? ⟨D, 0, none⟩ = some (.pointer (ptrOf L 0)) := cell_of h.head 0
  obtain ⟨bx, hbx⟩ : ∃ bx, bx = w.heap.size := ⟨_, rfl⟩
  have HBX := Lib.hid hbx
  clear h ht
  go_enter Tryz.func180, Tryz.ntmps180
  go_wp2_with fail
  refine wp_scope_ghost 0 (fun m a' w' => ∃ (i : Nat) (u9 u10 u11 u12 u13 u14 u15 u16 u17 u18 u19 u20 u21 u22 u23 u24 u25 u26 u27 u28 u29 u30 u31 u32 : Value), a' = { tmps := #[.pointer (some ⟨D, 0, none⟩), .int .i64 task, undef, undef, .int .u32 0, .bool false, .pointer (some ⟨bx, 0, none⟩), .func (.func 187) #[] #[.pointer (some ⟨bx, 0, none⟩)], .pointer (ptrOf L i), u9, u10, u11, u12, u13, u14, u15, u16, u17, u18, u19, u20, u21, u22, u23, u24, u25, u26, u27, u28, u29, u30, u31, u32], defers := [] } ∧ i + m = L.length ∧ (∀ j a, j < i → L[j]? = some a → a.t ≠ task) ∧ w'.heap[bx]? = some (.cells #[.int .u32 (sumX L i : Int)] 38 (0, 0)) ∧ Keeps (fun _ => False) w w')
    rfl ?_ ?_
  · rintro m a' w' ⟨i, u9, u10, u11, u12, u13, u14, u15, u16, u17, u18, u19, u20, u21, u22, u23, u24, u25, u26, u27, u28, u29, u30, u31, u32, rfl, him, hno, hbox, hK⟩
    have HB := Lib.hid (And.intro hno (And.intro hbox hK))
    have hI := H.out.none hK
    have HI := Lib.hid hI
    have e0 : w'.cell? ⟨bx, 0, none⟩ = some (.int .u32 (sumX L i : Int)) := cell_of hbox 0
    have lbx := lt_of hbox
    clear hno hbox hK d0 hbx
    cases hi : L[i]? with
    | none =>
      have hle : L.length ≤ i := by
        rcases Nat.lt_or_ge i L.length with h1 | h1
        · rw [List.getElem?_eq_getElem h1] at hi; cases hi
        · exact h1
      rw [ptrOf_none hle]
      clear hi hI
      go_wp2
      simp only [Exit.jump]
      exact bodyPost_ret (v := .tuple #[.int .u32 0, .bool false]) (by simp [results, Tryz.results180, go_sem]) rfl ⟨rfl, HB.out.2.2⟩
    | some nd =>
      have hil : i < L.length := by
        rcases Nat.lt_or_ge i L.length with h1 | h1
        · exact h1
        · rw [List.getElem?_eq_none h1] at hi; cases hi
      have hsu := sumX_succ hi
      have hmono := sumX_mono L (show i + 1 ≤ L.length by omega)
      have hnd := hI.node i nd hi
      have hne : nd.g ≠ bx := by
        rw [HBX.out]
        have := lt_of (H.out.node i nd hi)
        omega
      have HL := Lib.hid (leftf_any nd.g bx nd.x (sumX L i) nd.t _ _ w' hnd HB.out.2.1 (by omega))
      have HND := Lib.hid (And.intro hi (And.intro hnd hsu))
      rw [ptrOf_some hi]
      have lnd := lt_of hnd
      clear hi hnd hsu hI
      go_wp2_with fail
      refine HL.out.mono ?_
      rintro e w1 ⟨rfl, b1, k1⟩
      have hk2 : Keeps (fun _ => False) w w1 := ⟨k1.os.trans HB.out.2.2.os, k1.tape.trans HB.out.2.2.tape, k1.output.trans HB.out.2.2.output, Nat.le_trans HB.out.2.2.size k1.size, fun k hk _ => (k1.block k (Nat.lt_of_lt_of_le hk HB.out.2.2.size) (fun e => by have := HBX.out; omega)).trans (HB.out.2.2.block k hk fun h => h)⟩
      have hnd1 := k1.at HND.out.2.1 hne
      have t1 : w1.cell? ⟨nd.g, 0, none⟩ = some (.int .i64 nd.t) := cell_of hnd1 0
      have t2 : w1.cell? ⟨nd.g, 2, none⟩ = some (.pointer (ptrOf L (i + 1))) := cell_of hnd1 2
      have lnd1 := lt_of hnd1
      have HK2 := Lib.hid (And.intro b1 hk2)
      clear b1 k1 hk2 hnd1 HL lnd lbx e0
      generalize hs1 : sumX L i + nd.x = s1 at *
      have HS1 := Lib.hid hs1
      clear hs1
      have hft : nd.t ≠ task := HT.out i nd HND.out.1
      have hjump : ∀ j a, j < i + 1 → L[j]? = some a → a.t ≠ task := by
        intro j a hj ha
        by_cases e : j = i
        · subst e
          rw [HND.out.1] at ha
          cases ha
          exact hft
        · exact HB.out.1 j a (by omega) ha
      have HJ := Lib.hid hjump
      have hft2 : (nd.t == task) = false := by simpa using hft
      clear hjump hft
      go_wp2
      go_step3
      refine ⟨rfl, m - 1, by omega, ⟨i + 1, _, _, _, _, _, _, _, _, _, _, _, _, _, _, _, _, _, _, _, _, _, _, _, _, rfl, by omega, HJ.out, by rw [HND.out.2.2]; exact HK2.out.1, HK2.out.2⟩⟩
  · intro hpass
    have hb0 := heap_new w (.cells #[.int .u32 0] 38)
    rw [← hbx] at hb0
    have HB0 := Lib.hid hb0
    clear hb0
    go_wp2_with fail
    rw [← hbx]
    go_wp2_with fail
    go_step3
    rename_i K hK
    exact hK _ _ <| hpass _ _ _ ⟨0, _, _, _, _, _, _, _, _, _, _, _, _, _, _, _, _, _, _, _, _, _, _, _, _, rfl, Nat.zero_add _, fun j a h => absurd h (Nat.not_lt_zero _), HB0.out, (Keeps.refl _ w).alloc _⟩
set_option maxRecDepth 20000 in
set_option maxHeartbeats 1000000 in
theorem dleft_yes (D : Nat) (L : List Nd) (task : Int) (w : World) (h : IsDelta w D L) (hsum : sumX L L.length < 4294967296) (kk : Nat) (nk : Nd) (ht : L[kk]? = some nk ∧ nk.t = task ∧ ∀ (j : Nat) (a : Nd), j < kk → L[j]? = some a → a.t ≠ task) :
    Calls Tryz.prog 180 #[.pointer (some ⟨D, 0, none⟩), .int .i64 task] w fun e w' => e = .returned (.tuple #[.int .u32 (sumX L (kk + 1) : Int), .bool true]) ∧ Keeps (fun _ => False) w w' := by
  have hmf : ∀ (fn : Fn) (first cap : Array Value) (w : World), (Instr.makeFunc fn first cap).run Tryz.prog w = .ok (.func fn first cap) w := fun _ _ _ _ => rfl
  have H := Lib.hid h
  have HT := Lib.hid ht
  have lD := h.lt
  have d0 : w.cell? ⟨D, 0, none⟩ = some (.pointer (ptrOf L 0)) := cell_of h.head 0
  obtain ⟨bx, hbx⟩ : ∃ bx, bx = w.heap.size := ⟨_, rfl⟩
  have HBX := Lib.hid hbx
  clear h ht
  go_enter Tryz.func180, Tryz.ntmps180
  go_wp2_with fail
  refine wp_scope_ghost 0 (fun m a' w' => ∃ (i : Nat) (u9 u10 u11 u12 u13 u14 u15 u16 u17 u18 u19 u20 u21 u22 u23 u24 u25 u26 u27 u28 u29 u30 u31 u32 : Value), a' = { tmps := #[.pointer (some ⟨D, 0, none⟩), .int .i64 task, undef, undef, .int .u32 0, .bool false, .pointer (some ⟨bx, 0, none⟩), .func (.func 187) #[] #[.pointer (some ⟨bx, 0, none⟩)], .pointer (ptrOf L i), u9, u10, u11, u12, u13, u14, u15, u16, u17, u18, u19, u20, u21, u22, u23, u24, u25, u26, u27, u28, u29, u30, u31, u32], defers := [] } ∧ i + m = L.length ∧ (∀ j a, j < i → L[j]? = some a → a.t ≠ task) ∧ w'.heap[bx]? = some (.cells #[.int .u32 (sumX L i : Int)] 38 (0, 0)) ∧ Keeps (fun _ => False) w w')
    rfl ?_ ?_
  · rintro m a' w' ⟨i, u9, u10, u11, u12, u13, u14, u15, u16, u17, u18, u19, u20, u21, u22, u23, u24, u25, u26, u27, u28, u29, u30, u31, u32, rfl, him, hno, hbox, hK⟩
    have HB := Lib.hid (And.intro hno (And.intro hbox hK))
    have hI := H.out.none hK
    have HI := Lib.hid hI
    have e0 : w'.cell? ⟨bx, 0, none⟩ = some (.int .u32 (sumX L i : Int)) := cell_of hbox 0
    have lbx := lt_of hbox
    clear hno hbox hK d0 hbx
    cases hi : L[i]? with
    | none =>
      have hle : L.length ≤ i := by
        rcases Nat.lt_or_ge i L.length with h1 | h1
        · rw [List.getElem?_eq_getElem h1] at hi; cases hi
        · exact h1
      rw [ptrOf_none hle]
      clear hi hI
      exfalso
      have hkl : kk < L.length := by
        rcases Nat.lt_or_ge kk L.length with h1 | h1
        · exact h1
        · rw [List.getElem?_eq_none h1] at HT; cases HT.out.1
      exact HB.out.1 kk nk (by omega) HT.out.1 HT.out.2.1
    | some nd =>
      have hil : i < L.length := by
        rcases Nat.lt_or_ge i L.length with h1 | h1
        · exact h1
        · rw [List.getElem?_eq_none h1] at hi; cases hi
      have hsu := sumX_succ hi
      have hmono := sumX_mono L (show i + 1 ≤ L.length by omega)
      have hnd := hI.node i nd hi
      have hne : nd.g ≠ bx := by
        rw [HBX.out]
        have := lt_of (H.out.node i nd hi)
        omega
      have HL := Lib.hid (leftf_any nd.g bx nd.x (sumX L i) nd.t _ _ w' hnd HB.out.2.1 (by omega))
      have HND := Lib.hid (And.intro hi (And.intro hnd hsu))
      rw [ptrOf_some hi]
      have lnd := lt_of hnd
      clear hi hnd hsu hI
      go_wp2_with fail
      refine HL.out.mono ?_
      rintro e w1 ⟨rfl, b1, k1⟩
      have hk2 : Keeps (fun _ => False) w w1 := ⟨k1.os.trans HB.out.2.2.os, k1.tape.trans HB.out.2.2.tape, k1.output.trans HB.out.2.2.output, Nat.le_trans HB.out.2.2.size k1.size, fun k hk _ => (k1.block k (Nat.lt_of_lt_of_le hk HB.out.2.2.size) (fun e => by have := HBX.out; omega)).trans (HB.out.2.2.block k hk fun h => h)⟩
      have hnd1 := k1.at HND.out.2.1 hne
      have t1 : w1.cell? ⟨nd.g, 0, none⟩ = some (.int .i64 nd.t) := cell_of hnd1 0
      have t2 : w1.cell? ⟨nd.g, 2, none⟩ = some (.pointer (ptrOf L (i + 1))) := cell_of hnd1 2
      have lnd1 := lt_of hnd1
      have HK2 := Lib.hid (And.intro b1 hk2)
      clear b1 k1 hk2 hnd1 HL lnd lbx e0
      generalize hs1 : sumX L i + nd.x = s1 at *
      have HS1 := Lib.hid hs1
      clear hs1
      by_cases hft : nd.t = task
      · have hik : i = kk := by
          rcases Nat.lt_trichotomy i kk with h1 | h1 | h1
          · exact absurd hft (HT.out.2.2 i nd h1 HND.out.1)
          · exact h1
          · exact absurd HT.out.2.1 (HB.out.1 kk nk h1 HT.out.1)
        have hft2 : (nd.t == task) = true := by simpa using hft
        have hres : sumX L (kk + 1) = s1 := by rw [← hik, HND.out.2.2]
        have HRES := Lib.hid hres
        clear hft hik hres
        go_wp2
        simp only [Exit.jump]
        exact bodyPost_ret (v := .tuple #[.int .u32 (s1 : Int), .bool true]) (by simp [results, Tryz.results180, go_sem]) rfl ⟨by rw [HRES.out], HK2.out.2⟩
      · have hjump : ∀ j a, j < i + 1 → L[j]? = some a → a.t ≠ task := by
          intro j a hj ha
          by_cases e : j = i
          · subst e
            rw [HND.out.1] at ha
            cases ha
            exact hft
          · exact HB.out.1 j a (by omega) ha
        have HJ := Lib.hid hjump
        have hft2 : (nd.t == task) = false := by simpa using hft
        clear hjump hft
        go_wp2
        go_step3
        refine ⟨rfl, m - 1, by omega, ⟨i + 1, _, _, _, _, _, _, _, _, _, _, _, _, _, _, _, _, _, _, _, _, _, _, _, _, rfl, by omega, HJ.out, by rw [HND.out.2.2]; exact HK2.out.1, HK2.out.2⟩⟩
  · intro hpass
    have hb0 := heap_new w (.cells #[.int .u32 0] 38)
    rw [← hbx] at hb0
    have HB0 := Lib.hid hb0
    clear hb0
    go_wp2_with fail
    rw [← hbx]
    go_wp2_with fail
    go_step3
    rename_i K hK
    exact hK _ _ <| hpass _ _ _ ⟨0, _, _, _, _, _, _, _, _, _, _, _, _, _, _, _, _, _, _, _, _, _, _, _, _, rfl, Nat.zero_add _, fun j a h => absurd h (Nat.not_lt_zero _), HB0.out, (Keeps.refl _ w).alloc _⟩
end Go.Proofs.YthnmlklgbggmbaaGreat
