import Derived.Test.YtfniicgfnlklbabDeltaNil
namespace Go.Proofs.Ytfniicgfnlklbab
open Go.ChangeShapes Go.WideShapes Go.ChangeAt Go.RowKit
set_option linter.unusedVariables false
/-- The reference's slice of n waits: the i-th: task P i, X i ticks left. -/
def RRow (w : World) (a : Option Addr) (n : Nat) (P : Nat → Int) (X : Nat → Nat) : Prop := 0 < n → ∃ b off, a = some ⟨b, off, none⟩ ∧ b < w.heap.size ∧ ∀ i, i < n → w.cell? ⟨b, off + i * 2, none⟩ = some (.int .i64 (P i)) ∧ w.cell? ⟨b, off + i * 2 + 1, none⟩ = some (.int .u64 (X i : Int))
theorem RRow.keeps {S : Nat → Prop} {w w' : World} {a : Option Addr} {n : Nat} {P : Nat → Int} {X : Nat → Nat} (h : RRow w a n P X) (hk : Keeps S w w') (hs : ∀ b off, a = some ⟨b, off, none⟩ → ¬ S b) : RRow w' a n P X := by
  intro hn
  obtain ⟨b, off, ha, hb, hc⟩ := h hn
  exact ⟨b, off, ha, Nat.lt_of_lt_of_le hb hk.size, fun i hi => ⟨(World.cell?_of_block (w := w) (hk.block b hb (hs b off ha))).trans (hc i hi).1, (World.cell?_of_block (w := w) (hk.block b hb (hs b off ha))).trans (hc i hi).2⟩⟩
theorem RRow.none {w w' : World} {a : Option Addr} {n : Nat} {P : Nat → Int} {X : Nat → Nat} (h : RRow w a n P X) (hk : Keeps (fun _ => False) w w') : RRow w' a n P X := h.keeps hk fun _ _ _ h => h
section
variable (a : Option Addr) (n c : Nat) (P : Nat → Int) (X : Nat → Nat) (t : Int) (w : World)
set_option maxRecDepth 20000 in
theorem rplace_no (hn : n ≤ 1000) (h : RRow w a n P X) (ht : ∀ i, i < n → P i ≠ t) :
    Calls Try.prog 20 #[.agg #[.slice a n c], .int .i64 t] w fun e w' => e = .returned (.int .i64 (-1)) ∧ Keeps (fun _ => False) w w' := by
  have HR := Lib.hid h
  have HT := Lib.hid ht
  clear h ht
  go_enter Try.func20, Try.ntmps20
  go_wp2_with fail
  obtain ⟨wo, rfl⟩ : ∃ wo : World, wo = w := ⟨_, rfl⟩
  go_loopw [5] (fun i wr => ∃ k : Nat, k ≤ n ∧ i = .int .i64 k ∧ Keeps (fun _ => False) (wo.alloc (.cells #[.slice a n c] 30)) wr) (fun i _ => n - (intOf i).toNat)
  case atStart => exact ⟨0, by omega, rfl, Keeps.refl _ _⟩
  case round =>
    obtain ⟨k, hk, rfl, hK⟩ := hrel
    have HK := Lib.hid hK
    have q0 : wr.cell? ⟨wo.heap.size, 0, none⟩ = some (.slice a n c) := cell_of (hK.at (heap_new wo _) fun h => h) 0
    by_cases hlt : k < n
    · obtain ⟨b, off, rfl, hb, hc⟩ := (HR.out.none (((Keeps.refl _ _).alloc _).trans hK)) (by omega)
      obtain ⟨z0, z1⟩ := hc k hlt
      have hne := HT.out k hlt
      have d0 : (P k == t) = false := beq_eq_false_iff_ne.mpr hne
      have d1 : (P k = t) = False := eq_false hne
      clear hc hK hne
      go_wp2
      go_roundw
      case rel => exact ⟨k + 1, by omega, by go_num, HK.out⟩
      case measure => simp [intOf]; omega
    · obtain rfl : k = n := by omega
      clear hK
      go_wp2
      go_ret
      exact ⟨rfl, ((Keeps.refl _ _).alloc _).trans HK.out⟩
set_option maxRecDepth 20000 in
theorem rplace_yes (hn : n ≤ 1000) (q : Nat) (hq : q < n) (h : RRow w a n P X) (ht : ∀ i, i < q → P i ≠ t) (he : P q = t) :
    Calls Try.prog 20 #[.agg #[.slice a n c], .int .i64 t] w fun e w' => e = .returned (.int .i64 (q : Int)) ∧ Keeps (fun _ => False) w w' := by
  have HR := Lib.hid h
  have HT := Lib.hid ht
  have HE := Lib.hid he
  clear h ht he
  go_enter Try.func20, Try.ntmps20
  go_wp2_with fail
  obtain ⟨wo, rfl⟩ : ∃ wo : World, wo = w := ⟨_, rfl⟩
  go_loopw [5] (fun i wr => ∃ k : Nat, k ≤ q ∧ i = .int .i64 k ∧ Keeps (fun _ => False) (wo.alloc (.cells #[.slice a n c] 30)) wr) (fun i _ => n - (intOf i).toNat)
  case atStart => exact ⟨0, by omega, rfl, Keeps.refl _ _⟩
  case round =>
    obtain ⟨k, hk, rfl, hK⟩ := hrel
    have HK := Lib.hid hK
    have q0 : wr.cell? ⟨wo.heap.size, 0, none⟩ = some (.slice a n c) := cell_of (hK.at (heap_new wo _) fun h => h) 0
    have hlt : k < n := by omega
    obtain ⟨b, off, rfl, hb, hc⟩ := (HR.out.none (((Keeps.refl _ _).alloc _).trans hK)) (by omega)
    obtain ⟨z0, z1⟩ := hc k hlt
    clear hc hK
    by_cases hkq : k < q
    · have hne := HT.out k hkq
      have d0 : (P k == t) = false := beq_eq_false_iff_ne.mpr hne
      have d1 : (P k = t) = False := eq_false hne
      clear hne
      go_wp2
      go_roundw
      case rel => exact ⟨k + 1, by omega, by go_num, HK.out⟩
      case measure => simp [intOf]; omega
    · obtain rfl : k = q := by omega
      have d0 : (P k == t) = true := beq_iff_eq.mpr HE.out
      have d1 : (P k = t) = True := eq_true HE.out
      go_wp2
      go_ret
      exact ⟨rfl, ((Keeps.refl _ _).alloc _).trans HK.out⟩
end
end Go.Proofs.Ytfniicgfnlklbab
