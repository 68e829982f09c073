import Derived.Test.YtdbplamhpkahaaaDeltaDel
namespace Go.Proofs.Ytdbplamhpkahaaa
open Go.ChangeShapes Go.WideShapes Go.ChangeAt Go.RowKit
set_option linter.unusedVariables false
theorem drem_no (D : Nat) (L : List Nd) (task : Int) (w : World) (h : IsDelta w D L) (hsum : sumX L L.length < 4294967296) (ht : ∀ (j : Nat) (a : Nd), L[j]? = some a → a.t ≠ task) :
    Calls Try.prog 24 #[.pointer (some ⟨D, 0, none⟩), .int .i64 task] w fun e w' => e = .returned (.tuple #[.int .u32 0, .bool false]) ∧ Keeps (fun _ => False) w w' := by
  have HL := Lib.hid (dleft_no D L task w h hsum ht)
  clear h ht
  go_enter Try.func24, Try.ntmps24
  go_wp2_with fail
  go_step3
  go_wp2_with fail
  refine HL.out.mono ?_
  rintro e w2 ⟨rfl, k2⟩
  go_wp2
  try rw [Exit.noGoto_ret]
  try simp only [Exit.jump]
  exact bodyPost_ret (v := .tuple #[.int .u32 0, .bool false]) (by simp [results, Try.results24, go_sem]) rfl ⟨rfl, k2⟩
set_option maxRecDepth 20000 in
set_option maxHeartbeats 2000000 in
theorem drem_yes (D : Nat) (L : List Nd) (task : Int) (kk : Nat) (nk : Nd) (w : World) (h : IsDelta w D L) (hsum : sumX L L.length < 4294967296) (hx : ∀ (j : Nat) (a : Nd), L[j]? = some a → a.x < 4294967296) (ht : L[kk]? = some nk ∧ nk.t = task ∧ ∀ (j : Nat) (a : Nd), j < kk → L[j]? = some a → a.t ≠ task) :
    Calls Try.prog 24 #[.pointer (some ⟨D, 0, none⟩), .int .i64 task] w fun e w' => e = .returned (.tuple #[.int .u32 (sumX L (kk + 1) : Int), .bool true]) ∧ Removed w w' D L kk nk := by
  have HL := Lib.hid (dleft_yes D L task w h hsum kk nk ht)
  have H := Lib.hid h
  have HT := Lib.hid ht
  have hkl := get_lt ht.1
  have HS := Lib.hid hsum
  clear h ht
  go_enter Try.func24, Try.ntmps24
  go_wp2_with fail
  refine wp_scope_ghost 0 (fun m a' w' => ∃ (i : Nat) (u9 u10 u11 u12 u13 u14 u15 u16 u17 u18 u19 u20 u21 u22 u23 u24 u25 u26 u27 u28 u29 u30 u31 u32 u33 u34 u35 u36 u37 u38 u39 u40 u41 u42 u43 u44 u45 u46 u47 u48 u49 u50 u51 u52 u53 u54 u55 u56 u57 u58 u59 u60 u61 u62 : Value), a' = { tmps := #[.pointer (some ⟨D, 0, none⟩), .int .i64 task, undef, undef, .int .u32 0, .bool false, .int .u32 (sumX L (kk + 1) : Int), .bool true, .pointer (some (atA D L i)), u9, u10, u11, u12, u13, u14, u15, u16, u17, u18, u19, u20, u21, u22, u23, u24, u25, u26, u27, u28, u29, u30, u31, u32, u33, u34, u35, u36, u37, u38, u39, u40, u41, u42, u43, u44, u45, u46, u47, u48, u49, u50, u51, u52, u53, u54, u55, u56, u57, u58, u59, u60, u61, u62], defers := [] } ∧ i + m = kk ∧ Keeps (fun _ => False) w w') rfl ?_ ?_
  · rintro m a' w' ⟨i, u9, u10, u11, u12, u13, u14, u15, u16, u17, u18, u19, u20, u21, u22, u23, u24, u25, u26, u27, u28, u29, u30, u31, u32, u33, u34, u35, u36, u37, u38, u39, u40, u41, u42, u43, u44, u45, u46, u47, u48, u49, u50, u51, u52, u53, u54, u55, u56, u57, u58, u59, u60, u61, u62, rfl, him, hK⟩
    have hI := H.out.none hK
    obtain ⟨a1, a2, a3⟩ := at_cell hI (show i ≤ L.length by omega)
    have hib := List.getElem?_eq_getElem (show i < L.length by omega)
    generalize hb : L[i]'(by omega) = b at hib
    have hnd := hI.node i b hib
    rw [ptrOf_some hib] at a1
    have n0 : w'.cell? ⟨b.g, 0, none⟩ = some (.int .i64 b.t) := cell_of hnd 0
    have lb := lt_of hnd
    clear hb
    by_cases hik : i = kk
    · subst hik
      have heq : b = nk := by have := HT.out.1; rw [hib] at this; exact Option.some.inj this
      subst heq
      have htt : (b.t != task) = false := by simp [HT.out.2.1]
      have n2 : w'.cell? ⟨b.g, 2, none⟩ = some (.pointer (ptrOf L (i + 1))) := cell_of hnd 2
      have n1 : w'.cell? ⟨b.g, 1, none⟩ = some (.int .u32 (b.x : Int)) := cell_of hnd 1
      have hbA : b.g ≠ (atA D L i).block := del_blocks hI hib i b hib (by omega)
      have m2 : ∀ v, (w'.setCell (atA D L i) v).cell? ⟨b.g, 2, none⟩ = some (.pointer (ptrOf L (i + 1))) := fun v => (World.cell?_of_block (w := w') (Below.heap_setCell _ _ _ _ hbA)).trans n2
      have m1 : ∀ v, (w'.setCell (atA D L i) v).cell? ⟨b.g, 1, none⟩ = some (.int .u32 (b.x : Int)) := fun v => (World.cell?_of_block (w := w') (Below.heap_setCell _ _ _ _ hbA)).trans n1
      cases hn : L[i + 1]? with
      | none =>
        have HC := Lib.hid (drem_last D L i b w w' hI hK hib hn)
        rw [ptrOf_none (get_ge hn)] at n2 m2
        generalize hsx : sumX L (i + 1) = sx at *
        have HSX := Lib.hid hsx
        clear hn hib hI hK hnd HL hsx hbA
        generalize hA : atA D L i = A at *
        clear hA
        go_wp2
        try simp only [Exit.jump]
        exact bodyPost_ret (v := .tuple #[.int .u32 (sx : Int), .bool true]) (by simp [results, Try.results24, go_sem]) rfl ⟨by rw [HSX.out], HC.out⟩
      | some c =>
        have hc := drem_more D L i b c w w' hI hK hib hn
        rw [show ((c.x + b.x : Nat) : Int) = (c.x : Int) + (b.x : Int) by omega] at hc
        have HC := Lib.hid hc
        have hcn := hI.node (i + 1) c hn
        have hcb : c.g ≠ b.g := fun he => by have := hI.inj (i + 1) i c b hn hib he; omega
        have hcA : c.g ≠ (atA D L i).block := del_blocks hI hib (i + 1) c hn (by omega)
        have hsu := sumX_succ hib
        have hsu2 := sumX_succ hn
        have hmo := sumX_mono L (show i + 1 + 1 ≤ L.length from by have := get_lt hn; omega)
        have hsm : c.x + b.x < 4294967296 := by have := HS.out; omega
        have hwr : ((c.x : Int) + (b.x : Int)) % 4294967296 = (c.x : Int) + b.x := by omega
        rw [ptrOf_some hn] at n2 m2
        have q1 : ∀ v, (w'.setCell (atA D L i) v).cell? ⟨c.g, 1, none⟩ = some (.int .u32 (c.x : Int)) := fun v => (World.cell?_of_block (w := w') (Below.heap_setCell _ _ _ _ hcA)).trans (cell_of hcn 1)
        have q2 : ∀ v, (w'.setCell (atA D L i) v).frozen? ⟨c.g, 1, none⟩ = false := fun v => (World.frozen?_of_block (w := w') (Below.heap_setCell _ _ _ _ hcA)).trans (free_of hcn 1)
        have lc := lt_of hcn
        have lc2 : ∀ v, c.g < (w'.setCell (atA D L i) v).heap.size := fun v => by simpa [World.setCell] using lc
        generalize hsx : sumX L (i + 1) = sx at *
        have HSX := Lib.hid hsx
        clear hc hn hib hI hK hnd HL hcn hsu hsu2 hmo hsx hbA hcA
        generalize hA : atA D L i = A at *
        clear hA
        go_wp2_with fail
        go_region
        all_goals
          go_wp2
          try simp only [Exit.jump]
          exact bodyPost_ret (v := .tuple #[.int .u32 (sx : Int), .bool true]) (by simp [results, Try.results24, go_sem]) rfl ⟨by rw [HSX.out], by obtain ⟨L', z1, z2, z3⟩ := HC.out; exact ⟨L', z1, ⟨z2.head, z2.node, z2.inj⟩, z3.drew⟩⟩
    · have hne : b.t ≠ task := HT.out.2.2 i b (by omega) hib
      have htt : (b.t != task) = true := by simpa using hne
      have hat : atA D L (i + 1) = ⟨b.g, 2, none⟩ := by simp [atA, gOf_some hib]
      have HF := Lib.hid (And.intro hat hK)
      generalize hsx : sumX L (kk + 1) = sx at *
      have HSX := Lib.hid hsx
      clear hib hI hK hnd HL hat hne hsx
      generalize hA : atA D L i = A at *
      clear hA
      go_wp2
      go_step3
      refine ⟨rfl, m - 1, by omega, ⟨i + 1, _, _, _, _, _, _, _, _, _, _, _, _, _, _, _, _, _, _, _, _, _, _, _, _, _, _, _, _, _, _, _, _, _, _, _, _, _, _, _, _, _, _, _, _, _, _, _, _, _, _, _, _, _, _, by rw [HF.out.1], by omega, HF.out.2⟩⟩
  · intro hpass
    go_wp2_with fail
    refine HL.out.mono ?_
    rintro e w2 ⟨rfl, k2⟩
    have K2 := Lib.hid k2
    clear k2
    go_wp2_with fail
    go_step3
    rename_i K hK
    exact hK _ _ <| hpass _ _ _ ⟨0, _, _, _, _, _, _, _, _, _, _, _, _, _, _, _, _, _, _, _, _, _, _, _, _, _, _, _, _, _, _, _, _, _, _, _, _, _, _, _, _, _, _, _, _, _, _, _, _, _, _, _, _, _, _, rfl, Nat.zero_add _, K2.out⟩
end Go.Proofs.Ytdbplamhpkahaaa
