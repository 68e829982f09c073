import Derived.Test.YtdjfelabdofaaaaEqC
namespace Go.Proofs.Ytdjfelabdofaaaa
open Go.ChangeShapes Go.WideShapes Go.ChangeAt Go.RowKit
set_option linter.unusedVariables false
set_option linter.unusedSimpArgs false
/-- The cells of a call, and of calls. -/
def cellsC (c : CallD) : List Value := [.int .i64 c.k, .int .i64 c.o, .int .u32 c.v0, .int .u32 c.v1, .int .u32 c.v2, .int .u32 c.v3, .int .u32 c.n]
def flatC (L : List CallD) : List Value := L.flatMap cellsC
theorem flatC_snoc (L : List CallD) (c : CallD) : flatC (L ++ [c]) = flatC L ++ cellsC c := by simp [flatC]
theorem flatC_len (L : List CallD) : (flatC L).length = L.length * 7 := by
  induction L with
  | nil => rfl
  | cons c t ih => 
    show (cellsC c ++ flatC t).length = _
    rw [List.length_append, ih, List.length_cons]
    show 7 + _ = _
    omega
theorem flatC_at : ∀ (L : List CallD) (i : Nat) (c : CallD) (j : Nat) (v : Value), L[i]? = some c → (cellsC c)[j]? = some v → (flatC L)[i * 7 + j]? = some v
  | [], i, c, j, v, h, _ => by simp at h
  | d :: L, i, c, j, v, h, hv => by
    have hj : j < 7 := by
      rcases Nat.lt_or_ge j 7 with h | h
      · exact h
      · rw [List.getElem?_eq_none (by show 7 ≤ j; exact h)] at hv; cases hv
    show (cellsC d ++ flatC L)[i * 7 + j]? = _
    cases i with
    | zero =>
      simp at h
      subst h
      rw [List.getElem?_append_left (by show 0 * 7 + j < 7; omega), show 0 * 7 + j = j by omega]
      exact hv
    | succ i =>
      rw [List.getElem?_append_right (by show 7 ≤ (i + 1) * 7 + j; omega), show (i + 1) * 7 + j - (cellsC d).length = i * 7 + j by show (i + 1) * 7 + j - 7 = _; omega]
      exact flatC_at L i c j v (by simpa using h) hv
theorem cellsC_one (c : CallD) : ∀ u ∈ cellsC c, u.oneCell' = true := by
  intro u hu
  simp [cellsC] at hu
  rcases hu with rfl | rfl | rfl | rfl | rfl | rfl | rfl <;> rfl
theorem info_call : (Try.prog.info? 81).map (fun i => (i.zero, i.size, i.bytes)) = some (some (.agg #[.int .i64 0, .int .i64 0, .int .u32 0, .int .u32 0, .int .u32 0, .int .u32 0, .int .u32 0]), 7, 40) := by kernel_rfl
theorem rsamec_zero (a b : Option Addr) (c0 c1 : Nat) (w : World) : Calls Try.prog 29 #[.slice a 0 c0, .slice b 0 c1] w fun e w' => e = .returned (.bool true) ∧ Keeps (fun _ => False) w w' := by
  go_enter Try.func29, Try.ntmps29
  go_wp2_with fail
  obtain ⟨wo, rfl⟩ : ∃ wo : World, wo = w := ⟨_, rfl⟩
  go_loopw [5] (fun i wr => i = .int .i64 0 ∧ wr = wo) (fun _ _ => 0)
  case atStart => exact ⟨rfl, rfl⟩
  case round =>
    obtain ⟨rfl, rfl⟩ := hrel
    go_wp2
    go_ret
    exact ⟨rfl, Keeps.refl _ _⟩
set_option maxRecDepth 20000 in
theorem rsamec_some (g0 o0 g1 o1 n c0 c1 : Nat) (L : List CallD) (w : World) (hL : L.length = n) (hn : n ≤ 1000000) (h0 : ∀ j v, (flatC L)[j]? = some v → w.cell? ⟨g0, o0 + j, none⟩ = some v) (h1 : ∀ j v, (flatC L)[j]? = some v → w.cell? ⟨g1, o1 + j, none⟩ = some v) :
    Calls Try.prog 29 #[.slice (some ⟨g0, o0, none⟩) n c0, .slice (some ⟨g1, o1, none⟩) n c1] w fun e w' => e = .returned (.bool true) ∧ Keeps (fun _ => False) w w' := by
  have H0 := Lib.hid h0
  have H1 := Lib.hid h1
  have HL := Lib.hid hL
  clear h0 h1 hL
  go_enter Try.func29, Try.ntmps29
  go_wp2_with fail
  obtain ⟨wo, rfl⟩ : ∃ wo : World, wo = w := ⟨_, rfl⟩
  go_loopw [5] (fun i wr => ∃ k m : Nat, k ≤ n ∧ i = .int .i64 k ∧ wr = wo.drewN m) (fun i _ => n - (intOf i).toNat)
  case atStart => exact ⟨0, 0, by omega, rfl, rfl⟩
  case round =>
    obtain ⟨k, m, hk, rfl, rfl⟩ := hrel
    by_cases hlt : k < n
    · obtain ⟨c, hc⟩ : ∃ c, L[k]? = some c := ⟨_, List.getElem?_eq_getElem (by rw [HL.out]; exact hlt)⟩
      have p0 : wo.cell? ⟨g0, o0 + k * 7, none⟩ = some (.int .i64 c.k) := H0.out _ _ (flatC_at L k c 0 _ hc rfl)
      have p1 : wo.cell? ⟨g0, o0 + k * 7 + 1, none⟩ = some (.int .i64 c.o) := by rw [Nat.add_assoc]; exact H0.out _ _ (flatC_at L k c 1 _ hc rfl)
      have p2 : wo.cell? ⟨g0, o0 + k * 7 + 2, none⟩ = some (.int .u32 c.v0) := by rw [Nat.add_assoc]; exact H0.out _ _ (flatC_at L k c 2 _ hc rfl)
      have p3 : wo.cell? ⟨g0, o0 + k * 7 + 3, none⟩ = some (.int .u32 c.v1) := by rw [Nat.add_assoc]; exact H0.out _ _ (flatC_at L k c 3 _ hc rfl)
      have p4 : wo.cell? ⟨g0, o0 + k * 7 + 4, none⟩ = some (.int .u32 c.v2) := by rw [Nat.add_assoc]; exact H0.out _ _ (flatC_at L k c 4 _ hc rfl)
      have p5 : wo.cell? ⟨g0, o0 + k * 7 + 5, none⟩ = some (.int .u32 c.v3) := by rw [Nat.add_assoc]; exact H0.out _ _ (flatC_at L k c 5 _ hc rfl)
      have p6 : wo.cell? ⟨g0, o0 + k * 7 + 6, none⟩ = some (.int .u32 c.n) := by rw [Nat.add_assoc]; exact H0.out _ _ (flatC_at L k c 6 _ hc rfl)
      have q0 : wo.cell? ⟨g1, o1 + k * 7, none⟩ = some (.int .i64 c.k) := H1.out _ _ (flatC_at L k c 0 _ hc rfl)
      have q1 : wo.cell? ⟨g1, o1 + k * 7 + 1, none⟩ = some (.int .i64 c.o) := by rw [Nat.add_assoc]; exact H1.out _ _ (flatC_at L k c 1 _ hc rfl)
      have q2 : wo.cell? ⟨g1, o1 + k * 7 + 2, none⟩ = some (.int .u32 c.v0) := by rw [Nat.add_assoc]; exact H1.out _ _ (flatC_at L k c 2 _ hc rfl)
      have q3 : wo.cell? ⟨g1, o1 + k * 7 + 3, none⟩ = some (.int .u32 c.v1) := by rw [Nat.add_assoc]; exact H1.out _ _ (flatC_at L k c 3 _ hc rfl)
      have q4 : wo.cell? ⟨g1, o1 + k * 7 + 4, none⟩ = some (.int .u32 c.v2) := by rw [Nat.add_assoc]; exact H1.out _ _ (flatC_at L k c 4 _ hc rfl)
      have q5 : wo.cell? ⟨g1, o1 + k * 7 + 5, none⟩ = some (.int .u32 c.v3) := by rw [Nat.add_assoc]; exact H1.out _ _ (flatC_at L k c 5 _ hc rfl)
      have q6 : wo.cell? ⟨g1, o1 + k * 7 + 6, none⟩ = some (.int .u32 c.n) := by rw [Nat.add_assoc]; exact H1.out _ _ (flatC_at L k c 6 _ hc rfl)
      have hq := eq_call c
      unfold callC at hq
      clear hc
      go_wp2_with fail
      go_quiet (fail)
      go_wp2
      go_roundw
      case rel => exact ⟨k + 1, m + nq, by omega, by go_num, rfl⟩
      case measure => simp [intOf]; omega
    · obtain rfl : k = n := by omega
      go_wp2
      go_ret
      exact ⟨rfl, (Keeps.refl _ _).drewN m⟩
end Go.Proofs.Ytdjfelabdofaaaa
