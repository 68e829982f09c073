import Derived.Test.YthnmlklgbggmbaaGreatDeltAz
namespace Go.Proofs.YthnmlklgbggmbaaGreat
open Go.ChangeShapes Go.WideShapes Go.ChangeAt Go.RowKit
set_option linter.unusedVariables false
/-- The blocks of a list. -/
def Own (D : Nat) (L : List Nd) (k : Nat) : Prop := k = D ∨ ∃ (i : Nat) (a : Nd), L[i]? = some a ∧ k = a.g
/-- What Add has made of the list. -/
def Added (w w' : World) (D : Nat) (L : List Nd) (task : Int) (ticks : Nat) : Prop :=
  ∃ (L' : List Nd) (k g : Nat), Ins L L' k ⟨g, task, ticks - sumX L k⟩ ∧ sumX L k ≤ ticks ∧ (∀ a, L[k]? = some a → ticks < sumX L (k + 1)) ∧ w.heap.size ≤ g ∧ IsDelta w' D L' ∧ Keeps (Own D L) w w'
theorem dadd_none (D : Nat) (L : List Nd) (task : Int) (ticks k : Nat) (w w1 : World) (h1 : IsDelta w1 D L) (hK : Keeps (fun _ => False) w w1) (hk : L[k]? = none) (hkl : k ≤ L.length) (hs : sumX L k ≤ ticks) :
    Added w ((w1.alloc (.cells #[.int .i64 task, .int .u32 ((ticks - sumX L k : Nat) : Int), .pointer none] 172)).setCell (atA D L k) (.pointer (some ⟨w1.heap.size, 0, none⟩))) D L task ticks := by
  have hge := get_ge hk
  obtain rfl : k = L.length := by omega
  obtain ⟨L', hI⟩ := ins_make L L.length ⟨w1.heap.size, task, ticks - sumX L L.length⟩ (Nat.le_refl _)
  obtain ⟨a1, a2, a3⟩ := at_cell h1 (Nat.le_refl L.length)
  have hpn : ptrOf L L.length = none := ptrOf_none (Nat.le_refl _)
  refine ⟨L', L.length, w1.heap.size, hI, hs, (fun a ha => by rw [hk] at ha; cases ha), hK.size, ins_delta h1 hI (Nat.le_refl _) ?_ ?_ ?_, ?_⟩
  · rw [hpn]
    exact heap_other (heap_new _ _) (show w1.heap.size ≠ (atA D L L.length).block by omega) _
  · by_cases e : L.length = 0
    · rw [if_pos e, e]
      exact heap_set (heap_old h1.head _) 0 _
    · rw [if_neg e]
      refine heap_other (heap_old h1.head _) ?_ _
      obtain ⟨z, hz⟩ : ∃ z, L.length = z + 1 := ⟨L.length - 1, by omega⟩
      rw [hz]
      have hlt : z < L.length := by omega
      have hg := List.getElem?_eq_getElem hlt
      show D ≠ gOf L z
      rw [gOf_some hg]
      exact (h1.ne hg).symm
  · intro j a ha
    have hj := get_lt ha
    rw [if_neg (by omega)]
    by_cases e : j + 1 = L.length
    · rw [if_pos e, ← e]
      show (World.setCell _ ⟨gOf L j, 2, none⟩ _).heap[a.g]? = _
      rw [gOf_some ha]
      exact heap_set (heap_old (h1.node j a ha) _) 2 _
    · rw [if_neg e]
      refine heap_other (heap_old (h1.node j a ha) _) ?_ _
      obtain ⟨z, hz⟩ : ∃ z, L.length = z + 1 := ⟨L.length - 1, by omega⟩
      have hlt : z < L.length := by omega
      have hg := List.getElem?_eq_getElem hlt
      rw [hz]
      show a.g ≠ gOf L z
      rw [gOf_some hg]
      intro he
      have := h1.inj j z a _ ha hg he
      omega
  · refine (hK.mono fun _ _ h => h.elim).trans ?_
    refine (((Keeps.refl (Own D L) w1).alloc _).setCell (p := atA D L L.length) (.inl ?_) _)
    cases hL : L.length with
    | zero => exact .inl rfl
    | succ z =>
      have hlt : z < L.length := by omega
      have hg := List.getElem?_eq_getElem hlt
      exact .inr ⟨z, _, hg, gOf_some hg⟩
theorem at_block {D k : Nat} {L : List Nd} (hk : k ≤ L.length) : Own D L (atA D L k).block := by
  cases k with
  | zero => exact .inl rfl
  | succ z =>
    have hlt : z < L.length := by omega
    have hg := List.getElem?_eq_getElem hlt
    exact .inr ⟨z, _, hg, gOf_some hg⟩
theorem dadd_some (D : Nat) (L : List Nd) (task : Int) (ticks k : Nat) (b : Nd) (w w1 : World) (h1 : IsDelta w1 D L) (hK : Keeps (fun _ => False) w w1) (hk : L[k]? = some b) (hs : sumX L k ≤ ticks) (hlt : ticks - sumX L k < b.x) :
    Added w (((w1.setCell ⟨b.g, 1, none⟩ (.int .u32 ((b.x - (ticks - sumX L k) : Nat) : Int))).alloc (.cells #[.int .i64 task, .int .u32 ((ticks - sumX L k : Nat) : Int), .pointer (some ⟨b.g, 0, none⟩)] 172)).setCell (atA D L k) (.pointer (some ⟨w1.heap.size, 0, none⟩))) D L task ticks := by
  have hkl := get_lt hk
  obtain ⟨L', hI⟩ := ins_make L k ⟨w1.heap.size, task, ticks - sumX L k⟩ (by omega)
  obtain ⟨a1, a2, a3⟩ := at_cell h1 (show k ≤ L.length by omega)
  have hpk := ptrOf_some hk
  have hs2 : (w1.setCell ⟨b.g, 1, none⟩ (.int .u32 ((b.x - (ticks - sumX L k) : Nat) : Int))).heap.size = w1.heap.size := by simp [World.setCell]
  have hn2 := heap_new (w1.setCell ⟨b.g, 1, none⟩ (.int .u32 ((b.x - (ticks - sumX L k) : Nat) : Int))) (.cells #[.int .i64 task, .int .u32 ((ticks - sumX L k : Nat) : Int), .pointer (some ⟨b.g, 0, none⟩)] 172)
  rw [hs2] at hn2
  have hat : ∀ (j : Nat) (a : Nd), L[j]? = some a → j + 1 ≠ k → a.g ≠ (atA D L k).block := by
    intro j a ha hne
    cases k with
    | zero => exact h1.ne ha
    | succ z =>
      have hg := List.getElem?_eq_getElem (show z < L.length by omega)
      show a.g ≠ gOf L z
      rw [gOf_some hg]
      intro he
      have := h1.inj j z a _ ha hg he
      omega
  refine ⟨L', k, w1.heap.size, hI, hs, fun a ha => by rw [hk] at ha; cases ha; rw [sumX_succ hk]; omega, hK.size, ins_delta h1 hI (Nat.le_refl _) ?_ ?_ ?_, ?_⟩
  · rw [hpk]
    exact heap_other hn2 (show w1.heap.size ≠ (atA D L k).block by omega) _
  · have hbD : D ≠ b.g := (h1.ne hk).symm
    by_cases e : k = 0
    · subst e
      rw [if_pos rfl]
      exact heap_set (heap_old (heap_other h1.head hbD _) _) 0 _
    · rw [if_neg e]
      refine heap_other (heap_old (heap_other h1.head hbD _) _) ?_ _
      obtain ⟨z, rfl⟩ : ∃ z, k = z + 1 := ⟨k - 1, by omega⟩
      have hg := List.getElem?_eq_getElem (show z < L.length by omega)
      show D ≠ gOf L z
      rw [gOf_some hg]
      exact (h1.ne hg).symm
  · intro j a ha
    by_cases e : j = k
    · subst e
      rw [hk] at ha
      cases ha
      rw [if_pos rfl, if_neg (by omega)]
      exact heap_other (heap_old (heap_set (h1.node j b hk) 1 _) _) (hat j b hk (by omega)) _
    · rw [if_neg e]
      have hab : a.g ≠ b.g := fun he => e (h1.inj j k a b ha hk he)
      by_cases e2 : j + 1 = k
      · subst e2
        rw [if_pos rfl]
        show (World.setCell _ ⟨gOf L j, 2, none⟩ _).heap[a.g]? = _
        rw [gOf_some ha]
        exact heap_set (heap_old (heap_other (h1.node j a ha) hab _) _) 2 _
      · rw [if_neg e2]
        exact heap_other (heap_old (heap_other (h1.node j a ha) hab _) _) (hat j a ha e2) _
  · refine (hK.mono fun _ _ h => h.elim).trans ?_
    exact ((((Keeps.refl (Own D L) w1).setCell (p := ⟨b.g, 1, none⟩) (.inl (.inr ⟨k, b, hk, rfl⟩)) _).alloc _).setCell (p := atA D L k) (.inl (at_block (by omega))) _)
theorem alloc_at {w : World} {A : Addr} {v : Value} (h1 : w.cell? A = some v) (h2 : w.frozen? A = false) (h3 : A.block < w.heap.size) (o : Obj) : (w.alloc o).cell? A = some v ∧ (w.alloc o).frozen? A = false :=
  ⟨(World.cell?_of_block (w := w) (Below.heap_alloc _ _ _ h3)).trans h1, (World.frozen?_of_block (w := w) (Below.heap_alloc _ _ _ h3)).trans h2⟩
set_option maxRecDepth 20000 in
set_option maxHeartbeats 2000000 in
theorem dadd_yes (D : Nat) (L : List Nd) (task : Int) (ticks : Nat) (w : World) (h : IsDelta w D L) (hsum : sumX L L.length < 4294967296) (ht : ∀ (j : Nat) (a : Nd), L[j]? = some a → a.t ≠ task) (h0 : 0 ≤ task) (h16 : task < 16) (htk : 0 < ticks) (htk2 : ticks < 4294967296) (hx : ∀ (j : Nat) (a : Nd), L[j]? = some a → a.x < 4294967296) :
    Calls Tryz.prog 186 #[.pointer (some ⟨D, 0, none⟩), .int .i64 task, .int .u32 (ticks : Int)] w fun e w' => e = .returned (.bool true) ∧ Added w w' D L task ticks := by
  have HL := Lib.hid (dleft_no D L task w h hsum ht)
  have H := Lib.hid h
  have HX := Lib.hid hx
  have d0 : decide (task < 0) = false := decide_eq_false (by omega)
  have d1 : decide (16 ≤ task) = false := decide_eq_false (by omega)
  have d2 : ((ticks : Int) == 0) = false := by simp; omega
  clear h ht hx
  go_enter Tryz.func186, Tryz.ntmps186
  go_wp2_with fail
  obtain ⟨w1, hw1⟩ : ∃ w1 : World, w1 = w := ⟨_, rfl⟩
  refine wp_scope_ghost 0 (fun m a' w' => ∃ (i : Nat) (u10 u11 u12 u13 u14 u15 u16 u17 u18 u19 u20 u21 u22 u23 u24 u25 u26 u27 u28 u29 u30 u31 u32 u33 u34 u35 u36 u37 u38 u39 u40 u41 u42 u43 u44 u45 u46 u47 u48 u49 u50 u51 u52 u53 u54 u55 u56 u57 u58 u59 u60 u61 u62 u63 u64 u65 u66 u67 u68 u69 u70 u71 u72 u73 u74 u75 u76 u77 u78 u79 u80 u81 : Value), a' = { tmps := #[.pointer (some ⟨D, 0, none⟩), .int .i64 task, .int .u32 (ticks - sumX L i : Nat), undef, undef, undef, .bool false, .int .u32 0, .bool false, .pointer (some (atA D L i)), u10, u11, u12, u13, u14, u15, u16, u17, u18, u19, u20, u21, u22, u23, u24, u25, u26, u27, u28, u29, u30, u31, u32, u33, u34, u35, u36, u37, u38, u39, u40, u41, u42, u43, u44, u45, u46, u47, u48, u49, u50, u51, u52, u53, u54, u55, u56, u57, u58, u59, u60, u61, u62, u63, u64, u65, u66, u67, u68, u69, u70, u71, u72, u73, u74, u75, u76, u77, u78, u79, u80, u81], defers := [] } ∧ i + m = L.length ∧ sumX L i ≤ ticks ∧ Keeps (fun _ => False) w w') rfl ?_ ?_
  · rintro m a' w' ⟨i, u10, u11, u12, u13, u14, u15, u16, u17, u18, u19, u20, u21, u22, u23, u24, u25, u26, u27, u28, u29, u30, u31, u32, u33, u34, u35, u36, u37, u38, u39, u40, u41, u42, u43, u44, u45, u46, u47, u48, u49, u50, u51, u52, u53, u54, u55, u56, u57, u58, u59, u60, u61, u62, u63, u64, u65, u66, u67, u68, u69, u70, u71, u72, u73, u74, u75, u76, u77, u78, u79, u80, u81, rfl, him, hs, hK⟩
    have hI := H.out.none hK
    obtain ⟨a1, a2, a3⟩ := at_cell hI (show i ≤ L.length by omega)
    cases hi : L[i]? with
    | none =>
      have HC := Lib.hid (dadd_none D L task ticks i w w' hI hK hi (by omega) hs)
      rw [ptrOf_none (get_ge hi)] at a1
      have a6 : ∀ o, (w'.alloc o).cell? (atA D L i) = some (.pointer none) := fun o => (alloc_at a1 a2 a3 o).1
      have a7 : ∀ o, (w'.alloc o).frozen? (atA D L i) = false := fun o => (alloc_at a1 a2 a3 o).2
      clear hi hI hK HL
      generalize hA : atA D L i = A at *
      generalize htkk : ticks - sumX L i = tk at *
      clear hA htkk
      go_wp2
      try simp only [Exit.jump]
      go_ret
      exact ⟨rfl, HC.out⟩
    | some b =>
      have hnd := hI.node i b hi
      have hbx := HX.out i b hi
      have hsu := sumX_succ hi
      have hil := get_lt hi
      rw [ptrOf_some hi] at a1
      have n1 : w'.cell? ⟨b.g, 1, none⟩ = some (.int .u32 (b.x : Int)) := cell_of hnd 1
      have nf : w'.frozen? ⟨b.g, 1, none⟩ = false := free_of hnd 1
      have lb := lt_of hnd
      by_cases hle : b.x ≤ ticks - sumX L i
      · have hstep : ticks - sumX L i - b.x = ticks - sumX L (i + 1) := by omega
        have hat : atA D L (i + 1) = ⟨b.g, 2, none⟩ := by simp [atA, gOf_some hi]
        have HF := Lib.hid (And.intro hstep (And.intro hat hK))
        have hle2 : sumX L (i + 1) ≤ ticks := by omega
        have HLE := Lib.hid hle2
        have htlt : ticks - sumX L i < 4294967296 := by omega
        have hdec : decide ((b.x : Int) ≤ ((ticks - sumX L i : Nat) : Int)) = true := decide_eq_true (by omega)
        have hwr : (((ticks - sumX L i : Nat) : Int) - (b.x : Int)) % 4294967296 = ((ticks - sumX L (i + 1) : Nat) : Int) := by omega
        clear hi hI hK hsu hnd HL hstep hat hle2
        generalize hA : atA D L i = A at *
        generalize htkk : ticks - sumX L i = tk at *
        generalize htk3 : ticks - sumX L (i + 1) = tk2 at *
        have HTK := Lib.hid htk3
        have HVV : Hid (((tk2 : Nat) : Int) = (tk : Int) - (b.x : Int)) := Lib.hid (by have := HF.out.1; omega)
        clear hA htkk htk3
        go_wp2
        go_step3
        refine ⟨rfl, m - 1, by omega, ⟨i + 1, _, _, _, _, _, _, _, _, _, _, _, _, _, _, _, _, _, _, _, _, _, _, _, _, _, _, _, _, _, _, _, _, _, _, _, _, _, _, _, _, _, _, _, _, _, _, _, _, _, _, _, _, _, _, _, _, _, _, _, _, _, _, _, _, _, _, _, _, _, _, _, _, by rw [HF.out.2.1, HTK.out, HVV.out], by omega, HLE.out, HF.out.2.2⟩⟩
      · have hc := dadd_some D L task ticks i b w w' hI hK hi hs (by omega)
        rw [show ((b.x - (ticks - sumX L i) : Nat) : Int) = (b.x : Int) - ((ticks - sumX L i : Nat) : Int) by omega] at hc
        have HC := Lib.hid hc
        clear hc
        have hdec : decide ((b.x : Int) ≤ ((ticks - sumX L i : Nat) : Int)) = false := decide_eq_false (by omega)
        have hwr : ((b.x : Int) - ((ticks - sumX L i : Nat) : Int)) % 4294967296 = ((b.x - (ticks - sumX L i) : Nat) : Int) := by omega
        have hne : b.g ≠ (atA D L i).block := by
          cases i with
          | zero => exact hI.ne hi
          | succ z =>
            have hg := List.getElem?_eq_getElem (show z < L.length by omega)
            show b.g ≠ gOf L z
            rw [gOf_some hg]
            intro he
            have := hI.inj (z + 1) z b _ hi hg he
            omega
        have htlt : ticks - sumX L i < 4294967296 := by omega
        have hb2 : b.x - (ticks - sumX L i) < 4294967296 := by omega
        have a4 : ∀ v, (w'.setCell ⟨b.g, 1, none⟩ v).cell? (atA D L i) = some (.pointer (some ⟨b.g, 0, none⟩)) := fun v => (World.cell?_of_block (w := w') (Below.heap_setCell _ _ _ _ (fun e => hne e.symm))).trans a1
        have a5 : ∀ v, (w'.setCell ⟨b.g, 1, none⟩ v).frozen? (atA D L i) = false := fun v => (World.frozen?_of_block (w := w') (Below.heap_setCell _ _ _ _ (fun e => hne e.symm))).trans a2
        have a3' : ∀ v, (atA D L i).block < (w'.setCell ⟨b.g, 1, none⟩ v).heap.size := fun v => by simpa [World.setCell] using a3
        have a6 : ∀ v o, ((w'.setCell ⟨b.g, 1, none⟩ v).alloc o).cell? (atA D L i) = some (.pointer (some ⟨b.g, 0, none⟩)) := fun v o => (alloc_at (a4 v) (a5 v) (a3' v) o).1
        have a7 : ∀ v o, ((w'.setCell ⟨b.g, 1, none⟩ v).alloc o).frozen? (atA D L i) = false := fun v o => (alloc_at (a4 v) (a5 v) (a3' v) o).2
        clear hi hI hK hsu hnd HL
        generalize hA : atA D L i = A at *
        generalize htkk : ticks - sumX L i = tk at *
        clear hA htkk hne
        go_wp2
        try simp only [Exit.jump]
        go_ret
        exact ⟨rfl, HC.out⟩
  · intro hpass
    go_wp2_with fail
    refine HL.out.mono ?_
    rintro e w2 ⟨rfl, k2⟩
    have K2 := Lib.hid k2
    clear k2 hw1
    go_wp2_with fail
    go_step3
    rename_i K hK
    exact hK _ _ <| hpass _ _ _ ⟨0, _, _, _, _, _, _, _, _, _, _, _, _, _, _, _, _, _, _, _, _, _, _, _, _, _, _, _, _, _, _, _, _, _, _, _, _, _, _, _, _, _, _, _, _, _, _, _, _, _, _, _, _, _, _, _, _, _, _, _, _, _, _, _, _, _, _, _, _, _, _, _, _, rfl, Nat.zero_add _, Nat.zero_le _, K2.out⟩
end Go.Proofs.YthnmlklgbggmbaaGreat
