import Derived.Test.YtfniicgfnlklbaaQR
namespace Go.Proofs.Ytfniicgfnlklbaa
open Go.ChangeShapes Go.WideShapes Go.ChangeAt Go.RowKit
set_option linter.unusedVariables false
set_option linter.unusedSimpArgs false
section
variable (A : Option Addr) (c : Nat) (R : List (Nat × Nat)) (t : Int) (w : World)
set_option maxRecDepth 20000 in
theorem qplace_no (hn : R.length ≤ 1000) (h : QR w A c R) (ht : ∀ a, a ∈ R → (a.1 : Int) ≠ t) :
    Calls Try.prog 26 #[.agg #[.slice A R.length c], .int .i64 t] w fun e w' => e = .returned (.int .i64 (-1)) ∧ Keeps (fun _ => False) w w' := by
  obtain ⟨n, hne⟩ : ∃ n, R.length = n := ⟨_, rfl⟩
  rw [hne] at hn ⊢
  have HN := Lib.hid hne
  have HR := Lib.hid h
  have HT := Lib.hid ht
  clear h ht hne
  go_enter Try.func26, Try.ntmps26
  go_wp2_with fail
  obtain ⟨wo, rfl⟩ : ∃ wo : World, wo = w := ⟨_, rfl⟩
  go_loopw [5] (fun i wr => ∃ k : Nat, k ≤ n ∧ i = .int .i64 (k : Int) ∧ Keeps (fun _ => False) (wo.alloc (.cells #[.slice A n c] 35)) wr) (fun i _ => n - (intOf i).toNat)
  case atStart => exact ⟨0, by omega, rfl, Keeps.refl _ _⟩
  case round =>
    obtain ⟨k, hk, rfl, hK⟩ := hrel
    have HK := Lib.hid hK
    have q0 : wr.cell? ⟨wo.heap.size, 0, none⟩ = some (.slice A n c) := cell_of (hK.at (heap_new wo _) fun h => h) 0
    by_cases hlt : k < n
    · obtain ⟨x, hx⟩ : ∃ x, R[k]? = some x := ⟨_, List.getElem?_eq_getElem (by rw [HN.out]; exact hlt)⟩
      obtain ⟨b, rfl, hb, z0, z1⟩ := (HR.out.none (((Keeps.refl _ _).alloc _).trans hK)).get k x hx
      have hne := HT.out x (List.mem_of_getElem? hx)
      have d0 : ((x.1 : Int) == t) = false := beq_eq_false_iff_ne.mpr hne
      have d1 : ((x.1 : Int) = t) = False := eq_false hne
      clear hK hne hx
      go_wp2
      go_roundw
      case rel => exact ⟨k + 1, by omega, by go_num, HK.out⟩
      case measure => simp [intOf]; omega
    · obtain rfl : k = n := by omega
      clear hK
      go_wp2
      go_ret
      exact ⟨rfl, ((Keeps.refl _ _).alloc _).trans HK.out⟩
set_option maxRecDepth 20000 in
theorem qplace_yes (hn : R.length ≤ 1000) (h : QR w A c R) (q : Nat) (y : Nat × Nat) (hq : R[q]? = some y) (hy : (y.1 : Int) = t) (ht : ∀ i a, i < q → R[i]? = some a → (a.1 : Int) ≠ t) :
    Calls Try.prog 26 #[.agg #[.slice A R.length c], .int .i64 t] w fun e w' => e = .returned (.int .i64 (q : Int)) ∧ Keeps (fun _ => False) w w' := by
  have hql : q < R.length := (List.getElem?_eq_some_iff.1 hq).1
  obtain ⟨n, hne⟩ : ∃ n, R.length = n := ⟨_, rfl⟩
  rw [hne] at hn hql ⊢
  have HN := Lib.hid hne
  have HR := Lib.hid h
  have HT := Lib.hid ht
  have HQ := Lib.hid (And.intro hq hy)
  clear h ht hne hq hy
  go_enter Try.func26, Try.ntmps26
  go_wp2_with fail
  obtain ⟨wo, rfl⟩ : ∃ wo : World, wo = w := ⟨_, rfl⟩
  go_loopw [5] (fun i wr => ∃ k : Nat, k ≤ q ∧ i = .int .i64 (k : Int) ∧ Keeps (fun _ => False) (wo.alloc (.cells #[.slice A n c] 35)) wr) (fun i _ => n - (intOf i).toNat)
  case atStart => exact ⟨0, by omega, rfl, Keeps.refl _ _⟩
  case round =>
    obtain ⟨k, hk, rfl, hK⟩ := hrel
    have HK := Lib.hid hK
    have q0 : wr.cell? ⟨wo.heap.size, 0, none⟩ = some (.slice A n c) := cell_of (hK.at (heap_new wo _) fun h => h) 0
    have hlt : k < n := by omega
    obtain ⟨x, hx⟩ : ∃ x, R[k]? = some x := ⟨_, List.getElem?_eq_getElem (by rw [HN.out]; exact hlt)⟩
    obtain ⟨b, rfl, hb, z0, z1⟩ := (HR.out.none (((Keeps.refl _ _).alloc _).trans hK)).get k x hx
    by_cases hkq : k < q
    · have hne := HT.out k x hkq hx
      have d0 : ((x.1 : Int) == t) = false := beq_eq_false_iff_ne.mpr hne
      have d1 : ((x.1 : Int) = t) = False := eq_false hne
      clear hK hne hx
      go_wp2
      go_roundw
      case rel => exact ⟨k + 1, by omega, by go_num, HK.out⟩
      case measure => simp [intOf]; omega
    · obtain rfl : k = q := by omega
      have hxy : y = x := by have := HQ.out.1; rw [hx] at this; exact (Option.some.inj this).symm
      have d0 : ((x.1 : Int) == t) = true := beq_iff_eq.mpr (by rw [← hxy]; exact HQ.out.2)
      have d1 : ((x.1 : Int) = t) = True := eq_true (by rw [← hxy]; exact HQ.out.2)
      clear hK hx hxy
      go_wp2
      go_ret
      exact ⟨rfl, ((Keeps.refl _ _).alloc _).trans HK.out⟩
set_option maxRecDepth 20000 in
theorem qprio_no (hn : R.length ≤ 1000) (h : QR w A c R) (ht : ∀ a, a ∈ R → (a.1 : Int) ≠ t) :
    Calls Try.prog 16 #[.agg #[.slice A R.length c], .int .i64 t] w fun e w' => e = .returned (.tuple #[.int .i64 0, .bool false]) ∧ Keeps (fun _ => False) w w' := by
  have HP := Lib.hid (fun w1 h1 => qplace_no A c R t w1 hn h1 ht)
  have HR := Lib.hid h
  clear h ht
  go_enter Try.func16, Try.ntmps16
  go_wp2_with fail
  refine (HP.out _ (HR.out.none ((Keeps.refl _ _).alloc _))).mono ?_
  rintro e w1 ⟨rfl, k1⟩
  go_wp2
  exact bodyPost_ret (v := .tuple #[.int .i64 0, .bool false]) (by simp [results, Try.results16, go_sem]) rfl ⟨rfl, ((Keeps.refl _ _).alloc _).trans k1⟩
set_option maxRecDepth 20000 in
theorem qprio_yes (hn : R.length ≤ 1000) (h : QR w A c R) (q : Nat) (y : Nat × Nat) (hq : R[q]? = some y) (hy : (y.1 : Int) = t) (ht : ∀ i a, i < q → R[i]? = some a → (a.1 : Int) ≠ t) :
    Calls Try.prog 16 #[.agg #[.slice A R.length c], .int .i64 t] w fun e w' => e = .returned (.tuple #[.int .i64 (y.2 : Int), .bool true]) ∧ Keeps (fun _ => False) w w' := by
  have hql : q < R.length := (List.getElem?_eq_some_iff.1 hq).1
  have HP := Lib.hid (fun w1 h1 => qplace_yes A c R t w1 hn h1 q y hq hy ht)
  have HR := Lib.hid h
  have HQ := Lib.hid hq
  obtain ⟨n, hne⟩ : ∃ n, R.length = n := ⟨_, rfl⟩
  rw [hne] at hn hql HP ⊢
  clear h ht hq hy hne
  go_enter Try.func16, Try.ntmps16
  go_wp2_with fail
  refine (HP.out _ (HR.out.none ((Keeps.refl _ _).alloc _))).mono ?_
  rintro e w1 ⟨rfl, k1⟩
  have q0 : w1.cell? ⟨w.heap.size, 0, none⟩ = some (.slice A n c) := cell_of (k1.at (heap_new w _) fun h => h) 0
  obtain ⟨b, rfl, hb, z0, z1⟩ := (HR.out.none (((Keeps.refl _ _).alloc (.cells #[.slice A n c] 35)).trans k1)).get q y HQ.out
  have HK := Lib.hid k1
  clear k1
  go_wp2
  exact bodyPost_ret (v := .tuple #[.int .i64 (y.2 : Int), .bool true]) (by simp [results, Try.results16, go_sem]) rfl ⟨rfl, ((Keeps.refl _ _).alloc _).trans HK.out⟩
end
end Go.Proofs.Ytfniicgfnlklbaa
