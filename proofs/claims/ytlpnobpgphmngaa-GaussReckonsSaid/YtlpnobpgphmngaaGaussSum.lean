import Derived.Test.YtlpnobpgphmngaaGaussTurn
namespace Go.Proofs.Ytlpnobpgphmngaa
open Go.ChangeShapes Go.WideShapes Go.ChangeAt Go.RowKit
set_option linter.unusedVariables false
/-- A slice of n pairs of numbers. -/
def RowP (w : World) (a : Option Addr) (n : Nat) (F G : Nat → Int) : Prop := 0 < n → ∃ b off, a = some ⟨b, off, none⟩ ∧ b < w.heap.size ∧ ∀ i, i < n → w.cell? ⟨b, off + i * 2, none⟩ = some (.int .i64 (F i)) ∧ w.cell? ⟨b, off + i * 2 + 1, none⟩ = some (.int .i64 (G i))
theorem RowP.none {w w' : World} {a : Option Addr} {n : Nat} {F G : Nat → Int} (h : RowP w a n F G) (hk : Keeps (fun _ => False) w w') : RowP w' a n F G := by
  intro hn
  obtain ⟨b, off, ha, hb, hc⟩ := h hn
  exact ⟨b, off, ha, Nat.lt_of_lt_of_le hb hk.size, fun i hi => ⟨(World.cell?_of_block (w := w) (hk.block b hb fun h => h)).trans (hc i hi).1, (World.cell?_of_block (w := w) (hk.block b hb fun h => h)).trans (hc i hi).2⟩⟩
/-- The sum of the first k, if there is one. -/
def sumS (F G : Nat → Int) : Nat → Option (Int × Int)
  | 0 => some (0, 0)
  | k + 1 => match sumS F G k with
    | some (p, q) => if (rightB p q && rightB (F k) (G k)) && rightB (p + F k) (q + G k) then some (p + F k, q + G k) else none
    | none => none
def sumV : Option (Int × Int) → Value
  | some (p, q) => .tuple #[.agg #[.int .i64 p, .int .i64 q], .bool true]
  | none => .tuple #[.agg #[.int .i64 0, .int .i64 0], .bool false]
/-- What Add gives, in three values. -/
theorem gadd_three (a b c d : Int) (w : World) :
    Calls Try.prog 31 #[.agg #[.int .i64 a, .int .i64 b], .agg #[.int .i64 c, .int .i64 d]] w fun e w' => ∃ p q r, e = .returned (.tuple #[.agg #[.int .i64 p, .int .i64 q], .bool r]) ∧ r = ((rightB a b && rightB c d) && rightB (a + c) (b + d)) ∧ p = (if r then a + c else 0) ∧ q = (if r then b + d else 0) ∧ Keeps (fun _ => False) w w' := by
  refine (gadd_any a b c d w).mono ?_
  rintro e w' ⟨rfl, k⟩
  cases h : rightB a b && rightB c d
  · exact ⟨0, 0, false, rfl, rfl, rfl, rfl, k⟩
  · cases h2 : rightB (a + c) (b + d)
    · exact ⟨0, 0, false, by simp [toldA, toldB, h2], rfl, rfl, rfl, k⟩
    · exact ⟨a + c, b + d, true, by simp [toldA, toldB, h2], rfl, rfl, rfl, k⟩
theorem sumS_none (F G : Nat → Int) (k j : Nat) (h : sumS F G k = none) : sumS F G (k + j) = none := by
  induction j with
  | zero => exact h
  | succ j ih => show (match sumS F G (k + j) with | some (p, q) => _ | none => none) = none; rw [ih]

structure SumAt (w wr : World) (p q : Int) : Prop where
  keeps : Keeps (fun _ => False) w wr
  r : wr.heap[w.heap.size]? = some (.cells #[.int .i64 0, .int .i64 0] 55 (0, 0))
  s : wr.heap[w.heap.size + 1]? = some (.cells #[.int .i64 p, .int .i64 q] 55 (0, 0))
theorem SumAt.none {w w1 w2 : World} {p q : Int} (h : SumAt w w1 p q) (k : Keeps (fun _ => False) w1 w2) : SumAt w w2 p q :=
  ⟨h.keeps.trans k, k.at h.r fun h => h, k.at h.s fun h => h⟩
theorem SumAt.new (w : World) : SumAt w ((w.alloc (.cells #[.int .i64 0, .int .i64 0] 55)).alloc (.cells #[.int .i64 0, .int .i64 0] 55)) 0 0 := by
  obtain ⟨h1, h2, h3⟩ := kept2 (Keeps.refl (fun _ => False) ((w.alloc (.cells #[.int .i64 0, .int .i64 0] 55)).alloc (.cells #[.int .i64 0, .int .i64 0] 55)))
  exact ⟨h3, h1, h2⟩
theorem SumAt.set {w w1 : World} {p q p' q' : Int} (h : SumAt w w1 p q) : SumAt w ((w1.setCell ⟨w.heap.size + 1, 0, Option.none⟩ (.int .i64 p')).setCell ⟨w.heap.size + 1, 1, Option.none⟩ (.int .i64 q')) p' q' :=
  ⟨(h.keeps.setCell (.inr (by simp)) _).setCell (.inr (by simp)) _, heap_other (heap_other h.r (by simp) _) (by simp) _, heap_set (heap_set h.s 0 _) 1 _⟩
set_option maxHeartbeats 1000000 in
theorem gsum_any (a : Option Addr) (n cap : Nat) (F G : Nat → Int) (w : World) (hn : n ≤ 9223372036854775807) (hr : RowP w a n F G) :
    Calls Try.prog 39 #[.slice a n cap] w fun e w' => e = .returned (sumV (sumS F G n)) ∧ Keeps (fun _ => False) w w' := by
  have HR := Lib.hid hr
  have H0 := Lib.hid (SumAt.new w)
  clear hr
  go_enter Try.func39, Try.ntmps39
  go_wp2_with fail
  obtain ⟨wo, rfl⟩ : ∃ wo : World, wo = w := ⟨_, rfl⟩
  go_loopw [12] (fun i wr => ∃ (k : Nat) (p q : Int), k ≤ n ∧ i = .int .i64 k ∧ sumS F G k = some (p, q) ∧ SumAt wo wr p q) (fun i _ => n - (intOf i).toNat)
  case atStart => exact ⟨0, 0, 0, by omega, rfl, rfl, H0.out⟩
  case round =>
    obtain ⟨k, p, q, hk, rfl, hs, hA⟩ := hrel
    have HS := Lib.hid hs
    have HA := Lib.hid hA
    obtain ⟨s0, s1, g0, g1, ls⟩ := two_cells hA.s
    clear hs hA
    by_cases hlt : k < n
    · obtain ⟨b, off, rfl, hb, hc⟩ := (HR.out.none HA.out.keeps) (by omega)
      obtain ⟨x0, x1⟩ := hc k hlt
      clear hc
      go_wp2_with fail
      refine (gadd_three p q (F k) (G k) _).mono ?_
      rintro e w2 ⟨p', q', r, rfl, hr, hp', hq', k2⟩
      have HA2 := Lib.hid ((HA.out.none ((Keeps.refl _ _).alloc _)).none k2)
      have HP := Lib.hid (And.intro hr (And.intro hp' hq'))
      obtain ⟨s0', s1', g0', g1', ls'⟩ := two_cells HA2.out.s
      obtain ⟨r0', r1', f0', f1', lr'⟩ := two_cells HA2.out.r
      clear hr hp' hq' k2 HA s0 s1 g0 g1 ls
      cases r
      · have hnone : sumS F G n = none := by
          have e1 : sumS F G (k + 1) = none := by
            show (match sumS F G k with | some (p, q) => _ | none => none) = none
            rw [HS.out]
            simp only [← HP.out.1]
            rfl
          have := sumS_none F G (k + 1) (n - (k + 1)) e1
          rwa [show k + 1 + (n - (k + 1)) = n by omega] at this
        have HN := Lib.hid hnone
        clear hnone
        go_wp2
        refine bodyPost_ret (v := .tuple #[.agg #[.int .i64 0, .int .i64 0], .bool false]) (by simp [results, Try.results39, go_sem, *]) rfl ⟨by rw [HN.out]; rfl, ?_⟩
        exact ((HA2.out.keeps.setCell (.inr (Nat.le_refl _)) _).setCell (.inr (Nat.le_refl _)) _).alloc _
      · go_wp2
        go_roundw
        case rel =>
          refine ⟨k + 1, p', q', by omega, by go_num, ?_, ?_⟩
          · show (match sumS F G k with | some (p, q) => _ | none => none) = _
            rw [HS.out]
            simp only [← HP.out.1]
            rw [HP.out.2.1, HP.out.2.2]
            rfl
          · exact HA2.out.set.none ((Keeps.refl _ _).alloc _)
        case measure => simp [intOf]; omega
    · obtain rfl : k = n := by omega
      obtain ⟨r0, r1, f0, f1, lr⟩ := two_cells HA.out.r
      go_wp2
      refine bodyPost_ret (v := .tuple #[.agg #[.int .i64 p, .int .i64 q], .bool true]) (by simp [results, Try.results39, go_sem, *]) rfl ⟨by rw [HS.out]; rfl, ?_⟩
      exact (HA.out.keeps.setCell (.inr (by simp)) _).setCell (.inr (by simp)) _
end Go.Proofs.Ytlpnobpgphmngaa
