import Derived.Test.YtdjfelabdofaaaaCodeK
namespace Go.Proofs.Ytdjfelabdofaaaa
open Go.ChangeShapes Go.WideShapes Go.ChangeAt Go.RowKit
set_option linter.unusedVariables false
set_option linter.unusedSimpArgs false
theorem allC_snoc : ∀ (L : List CallD) (c : CallD), allC (L ++ [c]) = allC L ++ printC c ++ [10]
  | [], c => by show printC c ++ [10] ++ [] = [] ++ printC c ++ [10]; simp
  | d :: t, c => by
    show printC d ++ [10] ++ allC (t ++ [c]) = printC d ++ [10] ++ allC t ++ printC c ++ [10]
    rw [allC_snoc t c]
    simp
theorem allC_take (L : List CallD) (k : Nat) (c : CallD) (h : L[k]? = some c) : allC (L.take (k + 1)) = allC (L.take k) ++ printC c ++ [10] := by
  rw [List.take_add_one, h]
  exact allC_snoc _ c
set_option maxRecDepth 20000 in
set_option maxHeartbeats 1000000 in
theorem rallc_none (w : World) (a : Option Addr) (c : Nat) :
    Calls Try.prog 23 #[.slice a 0 c] w fun e w' => e = .returned (.string ⟨(allC []).toArray⟩) ∧ Below w.heap.size w w' := by
  show Calls Try.prog 23 #[.slice a 0 c] w fun e w' => e = .returned (.string ⟨#[]⟩) ∧ Below w.heap.size w w'
  go_enter Try.func23, Try.ntmps23
  go_wp2_with fail
  go_loop [3, 4] (fun s i => s = .string ⟨#[]⟩ ∧ i = .int .i64 0) (fun _ _ => 0)
  case atStart => exact ⟨rfl, rfl⟩
  case round =>
    obtain ⟨rfl, rfl⟩ := hrel
    go_wp2
    go_ret
    exact ⟨rfl, Below.refl _ _⟩
set_option maxRecDepth 100000 in
set_option maxHeartbeats 2000000 in
theorem rallc_some (w : World) (g o n c : Nat) (L : List CallD) (hL : L.length = n) (hn : n ≤ 1000) (hok : ∀ x, x ∈ L → x.Ok) (hg : g < w.heap.size) (hcell : ∀ j v, (flatC L)[j]? = some v → w.cell? ⟨g, o + j, none⟩ = some v) :
    Calls Try.prog 23 #[.slice (some ⟨g, o, none⟩) n c] w fun e w' => e = .returned (.string ⟨(allC L).toArray⟩) ∧ Below w.heap.size w w' := by
  have HC := Lib.hid hcell
  have HL := Lib.hid hL
  have HOK := Lib.hid hok
  have HLEN := Lib.hid (fun k => allC_len (L.take k) fun x hx => hok x (List.mem_of_mem_take hx))
  clear hcell hL hok
  go_enter Try.func23, Try.ntmps23
  go_wp2_with fail
  go_loopw [3, 4] (fun s i wr => ∃ (k : Nat) (T : List UInt8), k ≤ n ∧ i = .int .i64 (k : Int) ∧ s = .string ⟨T.toArray⟩ ∧ T = allC (L.take k) ∧ Below w.heap.size w wr) (fun _ i _ => n - (intOf i).toNat)
  case atStart => exact ⟨0, [], by omega, rfl, rfl, rfl, Below.refl _ _⟩
  case round =>
    obtain ⟨k, T, hk, rfl, rfl, hT, hbel⟩ := hrel
    have hTl : T.length ≤ k * 155 := by have h := HLEN.out k; rw [← hT] at h; have h2 := List.length_take_le k L; omega
    have hsz := hbel.size
    have HB := Lib.hid hbel
    by_cases hlt : k < n
    · obtain ⟨r, hr⟩ : ∃ r, L[k]? = some r := ⟨_, List.getElem?_eq_getElem (by rw [HL.out]; exact hlt)⟩
      have hrm : r ∈ L := List.mem_of_getElem? hr
      have HA := Lib.hid (show allC (L.take (k + 1)) = T ++ printC r ++ [10] by rw [hT]; exact allC_take L k r hr)
      have hpl := printC_len r (HOK.out r hrm)
      have HP := Lib.hid (fun w => rprint_call w r (HOK.out r hrm))
      have c0 : wr.cell? ⟨g, o + k * 7, none⟩ = some (.int .i64 r.k) := (hbel.cell (p := ⟨g, o + k * 7, none⟩) hg).trans (HC.out _ _ (flatC_at L k r 0 _ hr rfl))
      have c1 : wr.cell? ⟨g, o + k * 7 + 1, none⟩ = some (.int .i64 r.o) := by rw [Nat.add_assoc]; exact (hbel.cell (p := ⟨g, o + (k * 7 + 1), none⟩) hg).trans (HC.out _ _ (flatC_at L k r 1 _ hr rfl))
      have c2 : wr.cell? ⟨g, o + k * 7 + 2, none⟩ = some (.int .u32 r.v0) := by rw [Nat.add_assoc]; exact (hbel.cell (p := ⟨g, o + (k * 7 + 2), none⟩) hg).trans (HC.out _ _ (flatC_at L k r 2 _ hr rfl))
      have c3 : wr.cell? ⟨g, o + k * 7 + 3, none⟩ = some (.int .u32 r.v1) := by rw [Nat.add_assoc]; exact (hbel.cell (p := ⟨g, o + (k * 7 + 3), none⟩) hg).trans (HC.out _ _ (flatC_at L k r 3 _ hr rfl))
      have c4 : wr.cell? ⟨g, o + k * 7 + 4, none⟩ = some (.int .u32 r.v2) := by rw [Nat.add_assoc]; exact (hbel.cell (p := ⟨g, o + (k * 7 + 4), none⟩) hg).trans (HC.out _ _ (flatC_at L k r 4 _ hr rfl))
      have c5 : wr.cell? ⟨g, o + k * 7 + 5, none⟩ = some (.int .u32 r.v3) := by rw [Nat.add_assoc]; exact (hbel.cell (p := ⟨g, o + (k * 7 + 5), none⟩) hg).trans (HC.out _ _ (flatC_at L k r 5 _ hr rfl))
      have c6 : wr.cell? ⟨g, o + k * 7 + 6, none⟩ = some (.int .u32 r.n) := by rw [Nat.add_assoc]; exact (hbel.cell (p := ⟨g, o + (k * 7 + 6), none⟩) hg).trans (HC.out _ _ (flatC_at L k r 6 _ hr rfl))
      unfold callC at HP
      clear hr hrm hbel hT
      generalize printC r = P at HP HA hpl
      have hS1 := fun w => run_string_add_sum (P := Try.prog) w ⟨T.toArray⟩ ⟨P.toArray⟩ (by rw [str_size, str_size]; omega)
      rw [str_app] at hS1
      have hS2 := fun w => run_string_add_sum (P := Try.prog) w ⟨(T ++ P).toArray⟩ ⟨#[10]⟩ (by rw [str_size, List.length_append]; show _ + 1 ≤ _; omega)
      have e2 : (ByteArray.mk (T ++ P).toArray) ++ (ByteArray.mk #[10]) = ⟨(T ++ P ++ [10]).toArray⟩ := str_app _ [10]
      rw [e2] at hS2
      clear e2
      generalize T ++ P ++ [10] = U at hS2 HA
      generalize T ++ P = V at hS1 hS2
      go_wp2_with fail
      refine (HP.out _).mono ?_
      rintro e1 w1 ⟨rfl, hb1⟩
      have HB1 := Lib.hid (HB.out.trans (hb1.mono (by omega)))
      clear c0 c1 c2 c3 c4 c5 c6 hb1
      go_wp2_with fail
      go_roundw
      case rel => exact ⟨k + 1, U, hlt, by go_num, rfl, HA.out.symm, HB1.out⟩
      case measure => simp [intOf]; omega
    · obtain rfl : k = n := by omega
      have HF := Lib.hid (show allC L = T by rw [hT, List.take_of_length_le (by rw [HL.out]; exact Nat.le_refl _)])
      clear hbel hT
      go_wp2_with fail
      go_ret
      exact ⟨by rw [HF.out]; rfl, HB.out⟩
end Go.Proofs.Ytdjfelabdofaaaa
