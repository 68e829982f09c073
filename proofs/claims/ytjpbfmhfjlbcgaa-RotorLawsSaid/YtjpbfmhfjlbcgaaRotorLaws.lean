import Derived.Test.YtjpbfmhfjlbcgaaRotorLw
import Derived.Test.YtjpbfmhfjlbcgaaOpen
namespace Go.Proofs.Ytjpbfmhfjlbcgaa
open Go.ChangeShapes Go.WideShapes Go.ChangeAt Go.RowKit
set_option linter.unusedVariables false
/-- The place of a point among the p times p. -/
theorem idx_inj {p : Int} {z z' : Int × Int} (hp : 0 < p) (h : InP p z) (h' : InP p z') (he : z.1.toNat * p.toNat + z.2.toNat = z'.1.toNat * p.toNat + z'.2.toNat) : z = z' := by
  obtain ⟨⟨a1, a2⟩, a3, a4⟩ := h
  obtain ⟨⟨b1, b2⟩, b3, b4⟩ := h'
  have hP : 0 < p.toNat := by omega
  have m1 : (z.1.toNat * p.toNat + z.2.toNat) / p.toNat = z.1.toNat := by
    rw [Nat.mul_comm, Nat.mul_add_div hP, Nat.div_eq_of_lt (by omega), Nat.add_zero]
  have m2 : (z'.1.toNat * p.toNat + z'.2.toNat) / p.toNat = z'.1.toNat := by
    rw [Nat.mul_comm, Nat.mul_add_div hP, Nat.div_eq_of_lt (by omega), Nat.add_zero]
  have e1 : z.1.toNat = z'.1.toNat := by rw [← m1, ← m2, he]
  have e2 : z.2.toNat = z'.2.toNat := by rw [e1] at he; omega
  exact Prod.ext (by omega) (by omega)
theorem it_orbit (p : Int) (F : Mv) (z : Int × Int) (hp : 0 < p) (hz : InP p z) :
    ∃ T L, 0 < L ∧ T + L ≤ p.toNat * p.toNat ∧ ∀ i j, F.it p i z = F.it p j z ↔ (i = j ∨ (T ≤ i ∧ T ≤ j) ∧ i % L = j % L) := by
  refine orbit (fun i => F.it p i z) (fun i j s h => ?_) (p.toNat * p.toNat) ?_
  · show F.it p (i + s) z = F.it p (j + s) z
    rw [Nat.add_comm i s, Nat.add_comm j s, Mv.it_add, Mv.it_add]
    exact congrArg _ h
  · obtain ⟨i, j, hij, hj, he⟩ := pigeon (p.toNat * p.toNat) (fun k => (F.it p k z).1.toNat * p.toNat + (F.it p k z).2.toNat) (fun k _ => by
      obtain ⟨⟨a1, a2⟩, a3, a4⟩ := Mv.it_in p F k z hp hz
      show (F.it p k z).1.toNat * p.toNat + (F.it p k z).2.toNat < p.toNat * p.toNat
      have h1 : (F.it p k z).1.toNat + 1 ≤ p.toNat := by omega
      have h2 := Nat.mul_le_mul_right p.toNat h1
      rw [Nat.add_mul, Nat.one_mul] at h2
      omega)
    exact ⟨i, j, hij, hj, idx_inj hp (Mv.it_in p F i z hp hz) (Mv.it_in p F j z hp hz) he⟩
theorem rlaws_in (x y a b c d p : Int) (n m : Nat) (w : World) (hr : rightR x y a b c d p = true) (hn : n ≤ 1073741824) (hm : m ≤ 1073741824) (hp : p ≤ 60) :
    Calls Try.prog 5 #[.agg (rCells x y a b c d p), .int .i64 (n : Int), .int .i64 (m : Int)] w fun e w' => e = .returned (.bool true) ∧ Keeps (fun _ => False) w w' := by
  obtain ⟨⟨hp1, hp2⟩, hx, hy, _⟩ := rightR_bds hr
  obtain ⟨T, L, hL, hTL, horb⟩ := it_orbit p ⟨a, b, c, d⟩ (x, y) (by omega) ⟨hx, hy⟩
  have hTLi : (T : Int) + (L : Int) ≤ p * p := by
    have h1 : ((p.toNat : Nat) : Int) = p := Int.toNat_of_nonneg (by omega)
    have h2 : ((T + L : Nat) : Int) ≤ ((p.toNat * p.toNat : Nat) : Int) := Int.ofNat_le.2 hTL
    rw [Int.natCast_mul, h1] at h2
    omega
  have hsm : T + L ≤ 1000000000 := by
    have h1 : p.toNat ≤ 60 := by omega
    have h2 := Nat.mul_le_mul h1 h1
    omega
  obtain ⟨Z, hZ⟩ : ∃ Z : Nat → Int × Int, Z = fun i => Mv.it p ⟨a, b, c, d⟩ i (x, y) := ⟨_, rfl⟩
  have hZo : ∀ i j, Z i = Z j ↔ (i = j ∨ (T ≤ i ∧ T ≤ j) ∧ i % L = j % L) := by rw [hZ]; exact horb
  have hZr : ∀ i, rightR (Z i).1 (Z i).2 a b c d p = true := fun i => by rw [hZ]; exact rightR_it hr i
  have hZa : ∀ i k, Mv.it p ⟨a, b, c, d⟩ k ((Z i).1, (Z i).2) = Z (i + k) := fun i k => by
    rw [hZ]
    show Mv.it p ⟨a, b, c, d⟩ k (Mv.it p ⟨a, b, c, d⟩ i (x, y)) = Mv.it p ⟨a, b, c, d⟩ (i + k) (x, y)
    rw [Nat.add_comm, Mv.it_add]
  have hZ0 : Z 0 = (x, y) := by rw [hZ]; rfl
  have h0 := rlaws_words a b c d p n m T L (fun i => (Z i).1) (fun i => (Z i).2) w hn hm ⟨hp1, hp⟩ hL hTLi
    (fun i k j kk w hk hlim hz => by
      subst hk
      have h := pskip_yes (Z i).1 (Z i).2 a b c d p k w (hZr i) (by omega)
      rw [hZa i k] at h
      have e1 : (Z (i + k)).1 = (Z j).1 := congrArg Prod.fst hz
      have e2 : (Z (i + k)).2 = (Z j).2 := congrArg Prod.snd hz
      rw [e1, e2] at h
      exact h)
    (fun i w => by
      have h := fun w => pskip_yes (Z i).1 (Z i).2 a b c d p 1 w (hZr i) (by omega)
      have h2 := pnext_of (Z i).1 (Z i).2 a b c d p _ _ _ _ _ _ _ true w h
      rw [hZa i 1] at h2
      exact h2)
    (fun i w => by
      have h := pright_any (Z i).1 (Z i).2 a b c d p w
      rw [hZr i] at h
      exact h)
    (fun w => by
      have e0 : rCells (Z 0).1 (Z 0).2 a b c d p = rCells x y a b c d p := by rw [hZ0]
      show Calls Try.prog 17 #[.agg (rCells (Z 0).1 (Z 0).2 a b c d p)] w _
      rw [e0]
      exact cycle_any x y a b c d p T L w hL hsm hr horb)
    (by
      have : Z (0 + (T + L)) = Z T := (hZo _ _).2 (.inr ⟨⟨by omega, by omega⟩, by rw [Nat.zero_add, Nat.add_mod_right]⟩)
      show ((Z (0 + (T + L))).1, (Z (0 + (T + L))).2) = ((Z T).1, (Z T).2)
      rw [this])
    (by
      have : Z (0 + (T + n % L)) = Z (T + n) := (hZo _ _).2 (.inr ⟨⟨by omega, by omega⟩, by rw [Nat.zero_add, Nat.add_mod_mod]⟩)
      show ((Z (0 + (T + n % L))).1, (Z (0 + (T + n % L))).2) = ((Z (T + n)).1, (Z (T + n)).2)
      rw [this])
    (fun ht h => by
      have hz : Z (T - 1) = Z (T + L - 1) := Prod.ext h.1 h.2
      rcases (hZo _ _).1 hz with h1 | ⟨⟨h1, _⟩, _⟩
      · omega
      · omega)
  have e0 : rCells (Z 0).1 (Z 0).2 a b c d p = rCells x y a b c d p := by rw [hZ0]
  have h0' : Calls Try.prog 5 #[.agg (rCells (Z 0).1 (Z 0).2 a b c d p), .int .i64 (n : Int), .int .i64 (m : Int)] w fun e w' => e = .returned (.bool true) ∧ Keeps (fun _ => False) w w' := h0
  rw [e0] at h0'
  exact h0'
set_option maxRecDepth 100000 in
theorem rotor_cells {w : World} {cs : List Value} (h : Reads Try.prog w 25 cs) : ∃ x y a b c d p : Int, cs = [.int .i64 x, .int .i64 y, .int .i64 a, .int .i64 b, .int .i64 c, .int .i64 d, .int .i64 p] := by
  obtain ⟨hl, hf⟩ := h.struct Try.underlying25
  have hc : Try.prog.cellsOf 25 = 7 := by kernel_rfl
  have hn : Try.prog.cellsOf 23 = 2 := by kernel_rfl
  have hi : Try.prog.cellsOf 3 = 1 := by kernel_rfl
  rw [hc] at hl
  match cs, hl with
  | [v0, v1, v2, v3, v4, v5, v6], _ =>
    have h0 := h.field Try.underlying25 0 23 0 2 rfl hn
    have h1 := h.field Try.underlying25 1 23 2 2 rfl hn
    have h2 := h.field Try.underlying25 2 23 4 2 rfl hn
    obtain ⟨q0, e0, _⟩ := (h0.field Try.underlying23 0 3 0 1 rfl hi).int Try.underlying3
    obtain ⟨q1, e1, _⟩ := (h0.field Try.underlying23 1 3 1 1 rfl hi).int Try.underlying3
    obtain ⟨q2, e2, _⟩ := (h1.field Try.underlying23 0 3 0 1 rfl hi).int Try.underlying3
    obtain ⟨q3, e3, _⟩ := (h1.field Try.underlying23 1 3 1 1 rfl hi).int Try.underlying3
    obtain ⟨q4, e4, _⟩ := (h2.field Try.underlying23 0 3 0 1 rfl hi).int Try.underlying3
    obtain ⟨q5, e5, _⟩ := (h2.field Try.underlying23 1 3 1 1 rfl hi).int Try.underlying3
    obtain ⟨q6, e6, _⟩ := (h.field Try.underlying25 3 3 6 1 rfl hi).int Try.underlying3
    simp at e0 e1 e2 e3 e4 e5 e6
    exact ⟨q0, q1, q2, q3, q4, q5, q6, by simp [e0, e1, e2, e3, e4, e5, e6]⟩
set_option maxRecDepth 100000 in
theorem rotorLaws_walk {H : Type} {enc : TypeId × Value → H} (W : World) (base : Nat) {v0 v1 v2 : Value} {d0 d1 d2 : DataW H} {p0 p1 p2 : List MemPlace}
    (k0 : Value.okWide Try.prog W .any base 25 v0) (h0 : DataW.Trod enc Try.prog W 0 (fun _ => true) true 25 v0 d0 p0)
    (k1 : Value.okWide Try.prog W .any base 3 v1) (h1 : DataW.Trod enc Try.prog W 0 (fun _ => true) true 3 v1 d1 p1)
    (k2 : Value.okWide Try.prog W .any base 3 v2) (h2 : DataW.Trod enc Try.prog W 0 (fun _ => true) true 3 v2 d2 p2) :
    Calls Try.prog 5 #[v0, v1, v2] W fun e w' => e = .returned (.bool true) ∧ Below W.heap.size W w' := by
  obtain ⟨cs0, rfl, _⟩ := okWide_struct Try.underlying25 k0
  obtain ⟨n, rfl, _, _, _⟩ := open_int Try.underlying3 k1 h1
  obtain ⟨m, rfl, _, _, _⟩ := open_int Try.underlying3 k2 h2
  obtain ⟨x, y, a, b, c, d, p, e0⟩ := rotor_cells (reads_of h0)
  obtain rfl : cs0 = rCells x y a b c d p := by
    have : cs0.toList = [.int .i64 x, .int .i64 y, .int .i64 a, .int .i64 b, .int .i64 c, .int .i64 d, .int .i64 p] := by simpa [Value.cells] using e0
    cases cs0; simp_all
  by_cases h : rightR x y a b c d p = true ∧ 0 ≤ n ∧ n ≤ 1073741824 ∧ 0 ≤ m ∧ m ≤ 1073741824 ∧ p ≤ 60
  · obtain ⟨hr, hn0, hn1, hm0, hm1, hp⟩ := h
    obtain ⟨n', rfl⟩ : ∃ n' : Nat, n = (n' : Int) := ⟨n.toNat, by omega⟩
    obtain ⟨m', rfl⟩ : ∃ m' : Nat, m = (m' : Int) := ⟨m.toNat, by omega⟩
    exact (rlaws_in x y a b c d p n' m' W hr (by omega) (by omega) hp).mono fun e w' ⟨h1, h2⟩ => ⟨h1, h2.none⟩
  · exact (rlaws_out x y a b c d p n m W h).mono fun e w' ⟨h1, h2⟩ => ⟨h1, h2.none⟩
end Go.Proofs.Ytjpbfmhfjlbcgaa
