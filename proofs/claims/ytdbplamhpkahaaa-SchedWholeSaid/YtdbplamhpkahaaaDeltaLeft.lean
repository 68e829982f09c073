import Derived.Test.YtdbplamhpkahaaaDelta
namespace Go.Proofs.Ytdbplamhpkahaaa
open Go.ChangeShapes Go.WideShapes Go.ChangeAt Go.RowKit
set_option linter.unusedVariables false
set_option maxRecDepth 20000 in
set_option maxHeartbeats 1000000 in
theorem dleft_no (D : Nat) (L : List Nd) (task : Int) (w : World) (h : IsDelta w D L) (hsum : sumX L L.length < 4294967296) (ht : ∀ (j : Nat) (a : Nd), L[j]? = some a → a.t ≠ task) :
    Calls Try.prog 27 #[.pointer (some ⟨D, 0, none⟩), .int .i64 task] w fun e w' => e = .returned (.tuple #[.int .u32 0, .bool false]) ∧ Keeps (fun _ => False) w w' := by
  have hmf : ∀ (fn : Fn) (first cap : Array Value) (w : World), (Instr.makeFunc fn first cap).run Try.prog w = .ok (.func fn first cap) w := fun _ _ _ _ => rfl
  have H := Lib.hid h
  have HT := Lib.hid ht
  have lD := h.lt
  have d0 : w.cell? ⟨D, 0, none⟩ = some (.pointer (ptrOf L 0)) := cell_of h.head 0
  obtain ⟨bx, hbx⟩ : ∃ bx, bx = w.heap.size := ⟨_, rfl⟩
  have HBX := Lib.hid hbx
  clear h ht
  go_enter Try.func27, Try.ntmps27
  go_wp2_with fail
  refine wp_scope_ghost 0 (fun m a' w' => ∃ (i : Nat) (u9 u10 u11 u12 u13 u14 u15 u16 u17 u18 u19 u20 u21 u22 u23 u24 u25 u26 u27 u28 u29 u30 u31 u32 : Value), a' = { tmps := #[.pointer (some ⟨D, 0, none⟩), .int .i64 task, undef, undef, .int .u32 0, .bool false, .pointer (some ⟨bx, 0, none⟩), .func (.func 71) #[] #[.pointer (some ⟨bx, 0, none⟩)], .pointer (ptrOf L i), u9, u10, u11, u12, u13, u14, u15, u16, u17, u18, u19, u20, u21, u22, u23, u24, u25, u26, u27, u28, u29, u30, u31, u32], defers := [] } ∧ i + m = L.length ∧ (∀ j a, j < i → L[j]? = some a → a.t ≠ task) ∧ w'.heap[bx]? = some (.cells #[.int .u32 (sumX L i : Int)] 30 (0, 0)) ∧ Keeps (fun _ => False) w w')
    rfl ?_ ?_
  · rintro m a' w' ⟨i, u9, u10, u11, u12, u13, u14, u15, u16, u17, u18, u19, u20, u21, u22, u23, u24, u25, u26, u27, u28, u29, u30, u31, u32, rfl, him, hno, hbox, hK⟩
    have HB := Lib.hid (And.intro hno (And.intro hbox hK))
    have hI := H.out.none hK
    have HI := Lib.hid hI
    have e0 : w'.cell? ⟨bx, 0, none⟩ = some (.int .u32 (sumX L i : Int)) := cell_of hbox 0
    have lbx := lt_of hbox
    clear hno hbox hK d0 hbx
    cases hi : L[i]? with
    | none =>
      have hle : L.length ≤ i := by
        rcases Nat.lt_or_ge i L.length with h1 | h1
        · rw [List.getElem?_eq_getElem h1] at hi; cases hi
        · exact h1
      rw [ptrOf_none hle]
      clear hi hI
      go_wp2
      simp only [Exit.jump]
      exact bodyPost_ret (v := .tuple #[.int .u32 0, .bool false]) (by simp [results, Try.results27, go_sem]) rfl ⟨rfl, HB.out.2.2⟩
    | some nd =>
      have hil : i < L.length := by
        rcases Nat.lt_or_ge i L.length with h1 | h1
        · exact h1
        · rw [List.getElem?_eq_none h1] at hi; cases hi
      have hsu := sumX_succ hi
      have hmono := sumX_mono L (show i + 1 ≤ L.length by omega)
      have hnd := hI.node i nd hi
      have hne : nd.g ≠ bx := by
        rw [HBX.out]
        have := lt_of (H.out.node i nd hi)
        omega
      have HL := Lib.hid (leftf_any nd.g bx nd.x (sumX L i) nd.t _ _ w' hnd HB.out.2.1 (by omega))
      have HND := Lib.hid (And.intro hi (And.intro hnd hsu))
      rw [ptrOf_some hi]
      have lnd := lt_of hnd
      clear hi hnd hsu hI
      go_wp2_with fail
      refine HL.out.mono ?_
      rintro e w1 ⟨rfl, b1, k1⟩
      have hk2 : Keeps (fun _ => False) w w1 := ⟨k1.os.trans HB.out.2.2.os, k1.tape.trans HB.out.2.2.tape, k1.output.trans HB.out.2.2.output, Nat.le_trans HB.out.2.2.size k1.size, fun k hk _ => (k1.block k (Nat.lt_of_lt_of_le hk HB.out.2.2.size) (fun e => by have := HBX.out; omega)).trans (HB.out.2.2.block k hk fun h => h)⟩
      have hnd1 := k1.at HND.out.2.1 hne
      have t1 : w1.cell? ⟨nd.g, 0, none⟩ = some (.int .i64 nd.t) := cell_of hnd1 0
      have t2 : w1.cell? ⟨nd.g, 2, none⟩ = some (.pointer (ptrOf L (i + 1))) := cell_of hnd1 2
      have lnd1 := lt_of hnd1
      have HK2 := Lib.hid (And.intro b1 hk2)
      clear b1 k1 hk2 hnd1 HL lnd lbx e0
      generalize hs1 : sumX L i + nd.x = s1 at *
      have HS1 := Lib.hid hs1
      clear hs1
      have hft : nd.t ≠ task := HT.out i nd HND.out.1
      have hjump : ∀ j a, j < i + 1 → L[j]? = some a → a.t ≠ task := by
        intro j a hj ha
        by_cases e : j = i
        · subst e
          rw [HND.out.1] at ha
          cases ha
          exact hft
        · exact HB.out.1 j a (by omega) ha
      have HJ := Lib.hid hjump
      have hft2 : (nd.t == task) = false := by simpa using hft
      clear hjump hft
      go_wp2
      go_step3
      refine ⟨rfl, m - 1, by omega, ⟨i + 1, _, _, _, _, _, _, _, _, _, _, _, _, _, _, _, _, _, _, _, _, _, _, _, _, rfl, by omega, HJ.out, by rw [HND.out.2.2]; exact HK2.out.1, HK2.out.2⟩⟩
  · intro hpass
    have hb0 := heap_new w (.cells #[.int .u32 0] 30)
    rw [← hbx] at hb0
    have HB0 := Lib.hid hb0
    clear hb0
    go_wp2_with fail
    rw [← hbx]
    go_wp2_with fail
    go_step3
    rename_i K hK
    exact hK _ _ <| hpass _ _ _ ⟨0, _, _, _, _, _, _, _, _, _, _, _, _, _, _, _, _, _, _, _, _, _, _, _, _, rfl, Nat.zero_add _, fun j a h => absurd h (Nat.not_lt_zero _), HB0.out, (Keeps.refl _ w).alloc _⟩
set_option maxRecDepth 20000 in
set_option maxHeartbeats 1000000 in
theorem dleft_yes (D : Nat) (L : List Nd) (task : Int) (w : World) (h : IsDelta w D L) (hsum : sumX L L.length < 4294967296) (kk : Nat) (nk : Nd) (ht : L[kk]? = some nk ∧ nk.t = task ∧ ∀ (j : Nat) (a : Nd), j < kk → L[j]? = some a → a.t ≠ task) :
    Calls Try.prog 27 #[.pointer (some ⟨D, 0, none⟩), .int .i64 task] w fun e w' => e = .returned (.tuple #[.int .u32 (sumX L (kk + 1) : Int), .bool true]) ∧ Keeps (fun _ => False) w w' := by
  have hmf : ∀ (fn : Fn) (first cap : Array Value) (w : World), (Instr.makeFunc fn first cap).run Try.prog w = .ok (.func fn first cap) w := fun _ _ _ _ => rfl
  have H := Lib.hid h
  have HT := Lib.hid ht
  have lD := h.lt
  have d0 : w.cell? ⟨D, 0, none⟩ = some (.pointer (ptrOf L 0)) := cell_of h.head 0
  obtain ⟨bx, hbx⟩ : ∃ bx, bx = w.heap.size := ⟨_, rfl⟩
  have HBX := Lib.hid hbx
  clear h ht
  go_enter Try.func27, Try.ntmps27
  go_wp2_with fail
  refine wp_scope_ghost 0 (fun m a' w' => ∃ (i : Nat) (u9 u10 u11 u12 u13 u14 u15 u16 u17 u18 u19 u20 u21 u22 u23 u24 u25 u26 u27 u28 u29 u30 u31 u32 : Value), a' = { tmps := #[.pointer (some ⟨D, 0, none⟩), .int .i64 task, undef, undef, .int .u32 0, .bool false, .pointer (some ⟨bx, 0, none⟩), .func (.func 71) #[] #[.pointer (some ⟨bx, 0, none⟩)], .pointer (ptrOf L i), u9, u10, u11, u12, u13, u14, u15, u16, u17, u18, u19, u20, u21, u22, u23, u24, u25, u26, u27, u28, u29, u30, u31, u32], defers := [] } ∧ i + m = L.length ∧ (∀ j a, j < i → L[j]? = some a → a.t ≠ task) ∧ w'.heap[bx]? = some (.cells #[.int .u32 (sumX L i : Int)] 30 (0, 0)) ∧ Keeps (fun _ => False) w w')
    rfl ?_ ?_
  · rintro m a' w' ⟨i, u9, u10, u11, u12, u13, u14, u15, u16, u17, u18, u19, u20, u21, u22, u23, u24, u25, u26, u27, u28, u29, u30, u31, u32, rfl, him, hno, hbox, hK⟩
    have HB := Lib.hid (And.intro hno (And.intro hbox hK))
    have hI := H.out.none hK
    have HI := Lib.hid hI
    have e0 : w'.cell? ⟨bx, 0, none⟩ = some (.int .u32 (sumX L i : Int)) := cell_of hbox 0
    have lbx := lt_of hbox
    clear hno hbox hK d0 hbx
    cases hi : L[i]? with
    | none =>
      have hle : L.length ≤ i := by
        rcases Nat.lt_or_ge i L.length with h1 | h1
        · rw [List.getElem?_eq_getElem h1] at hi; cases hi
        · exact h1
      rw [ptrOf_none hle]
      clear hi hI
      exfalso
      have hkl : kk < L.length := by
        rcases Nat.lt_or_ge kk L.length with h1 | h1
        · exact h1
        · rw [List.getElem?_eq_none h1] at HT; cases HT.out.1
      exact HB.out.1 kk nk (by omega) HT.out.1 HT.out.2.1
    | some nd =>
      have hil : i < L.length := by
        rcases Nat.lt_or_ge i L.length with h1 | h1
        · exact h1
        · rw [List.getElem?_eq_none h1] at hi; cases hi
      have hsu := sumX_succ hi
      have hmono := sumX_mono L (show i + 1 ≤ L.length by omega)
      have hnd := hI.node i nd hi
      have hne : nd.g ≠ bx := by
        rw [HBX.out]
        have := lt_of (H.out.node i nd hi)
        omega
      have HL := Lib.hid (leftf_any nd.g bx nd.x (sumX L i) nd.t _ _ w' hnd HB.out.2.1 (by omega))
      have HND := Lib.hid (And.intro hi (And.intro hnd hsu))
      rw [ptrOf_some hi]
      have lnd := lt_of hnd
      clear hi hnd hsu hI
      go_wp2_with fail
      refine HL.out.mono ?_
      rintro e w1 ⟨rfl, b1, k1⟩
      have hk2 : Keeps (fun _ => False) w w1 := ⟨k1.os.trans HB.out.2.2.os, k1.tape.trans HB.out.2.2.tape, k1.output.trans HB.out.2.2.output, Nat.le_trans HB.out.2.2.size k1.size, fun k hk _ => (k1.block k (Nat.lt_of_lt_of_le hk HB.out.2.2.size) (fun e => by have := HBX.out; omega)).trans (HB.out.2.2.block k hk fun h => h)⟩
      have hnd1 := k1.at HND.out.2.1 hne
      have t1 : w1.cell? ⟨nd.g, 0, none⟩ = some (.int .i64 nd.t) := cell_of hnd1 0
      have t2 : w1.cell? ⟨nd.g, 2, none⟩ = some (.pointer (ptrOf L (i + 1))) := cell_of hnd1 2
      have lnd1 := lt_of hnd1
      have HK2 := Lib.hid (And.intro b1 hk2)
      clear b1 k1 hk2 hnd1 HL lnd lbx e0
      generalize hs1 : sumX L i + nd.x = s1 at *
      have HS1 := Lib.hid hs1
      clear hs1
      by_cases hft : nd.t = task
      · have hik : i = kk := by
          rcases Nat.lt_trichotomy i kk with h1 | h1 | h1
          · exact absurd hft (HT.out.2.2 i nd h1 HND.out.1)
          · exact h1
          · exact absurd HT.out.2.1 (HB.out.1 kk nk h1 HT.out.1)
        have hft2 : (nd.t == task) = true := by simpa using hft
        have hres : sumX L (kk + 1) = s1 := by rw [← hik, HND.out.2.2]
        have HRES := Lib.hid hres
        clear hft hik hres
        go_wp2
        simp only [Exit.jump]
        exact bodyPost_ret (v := .tuple #[.int .u32 (s1 : Int), .bool true]) (by simp [results, Try.results27, go_sem]) rfl ⟨by rw [HRES.out], HK2.out.2⟩
      · have hjump : ∀ j a, j < i + 1 → L[j]? = some a → a.t ≠ task := by
          intro j a hj ha
          by_cases e : j = i
          · subst e
            rw [HND.out.1] at ha
            cases ha
            exact hft
          · exact HB.out.1 j a (by omega) ha
        have HJ := Lib.hid hjump
        have hft2 : (nd.t == task) = false := by simpa using hft
        clear hjump hft
        go_wp2
        go_step3
        refine ⟨rfl, m - 1, by omega, ⟨i + 1, _, _, _, _, _, _, _, _, _, _, _, _, _, _, _, _, _, _, _, _, _, _, _, _, rfl, by omega, HJ.out, by rw [HND.out.2.2]; exact HK2.out.1, HK2.out.2⟩⟩
  · intro hpass
    have hb0 := heap_new w (.cells #[.int .u32 0] 30)
    rw [← hbx] at hb0
    have HB0 := Lib.hid hb0
    clear hb0
    go_wp2_with fail
    rw [← hbx]
    go_wp2_with fail
    go_step3
    rename_i K hK
    exact hK _ _ <| hpass _ _ _ ⟨0, _, _, _, _, _, _, _, _, _, _, _, _, _, _, _, _, _, _, _, _, _, _, _, _, rfl, Nat.zero_add _, fun j a h => absurd h (Nat.not_lt_zero _), HB0.out, (Keeps.refl _ w).alloc _⟩
end Go.Proofs.Ytdbplamhpkahaaa
