import Derived.Test.YtjpbfmhfjlbcgaaRotorE
import Derived.Laws.Cover3
import Derived.Test.YtjpbfmhfjlbcgaaGhost
import Derived.Deep.LoopGhost
namespace Go.Proofs.Ytjpbfmhfjlbcgaa
open Go.ChangeShapes Go.WideShapes Go.ChangeAt Go.RowKit
set_option linter.unusedVariables false
set_option linter.unusedSimpArgs false
theorem two_of {w : World} {b : Nat} {x y : Value} {E : TypeId} (h : w.heap[b]? = some (.cells #[x, y] E (0, 0))) : w.cell? ⟨b, 0, none⟩ = some x ∧ w.cell? ⟨b, 1, none⟩ = some y := ⟨cell_of h 0, cell_of h 1⟩
theorem drew_size (w : World) : w.drew.heap.size = w.heap.size := rfl
theorem first_two {w : World} {b : Nat} {x y : Value} {l : List Value} {E : TypeId} (h : w.heap[b]? = some (.cells (⟨x :: y :: l⟩ : Array Value) E (0, 0))) :
    w.cell? ⟨b, 0, none⟩ = some x ∧ w.cell? ⟨b, 1, none⟩ = some y ∧ w.frozen? ⟨b, 0, none⟩ = false ∧ w.frozen? ⟨b, 1, none⟩ = false ∧ b < w.heap.size :=
  ⟨cell_of h 0, cell_of h 1, free_of h 0, free_of h 1, lt_of h⟩
/-- What the program's Cycle stands on. -/
structure CB (w wr : World) (x y a b c d p : Int) (PB G : Nat) (S1 S2 S3 S4 : Nat) : Prop where
  keeps : Keeps (fun _ => False) w wr
  box : wr.heap[w.heap.size]? = some (.cells (rCells x y a b c d p) 29 (0, 0))
  red : Red wr PB p
  g : wr.heap[G]? = some (.cells #[.complex .f64 S1 S2, .complex .f64 S3 S4] 57 (0, 0))
theorem CB.none {w wr w2 : World} {x y a b c d p : Int} {PB G S1 S2 S3 S4 : Nat} (h : CB w wr x y a b c d p PB G S1 S2 S3 S4) (k : Keeps (fun _ => False) wr w2) : CB w w2 x y a b c d p PB G S1 S2 S3 S4 :=
  ⟨h.keeps.trans k, k.at h.box fun h => h, h.red.none k, k.at h.g fun h => h⟩
theorem CB.last {w wr : World} {x y a b c d p : Int} {PB S1 S2 S3 S4 : Nat} (h : Has w wr [(w.heap.size, .cells (rCells x y a b c d p) 29 (0, 0))]) (hR : Red wr PB p) : CB w (wr.alloc (.cells #[.complex .f64 S1 S2, .complex .f64 S3 S4] 57)) x y a b c d p PB wr.heap.size S1 S2 S3 S4 :=
  ⟨h.keeps.alloc _, heap_old h.hd _, hR.none ((Keeps.refl _ _).alloc _), heap_new _ _⟩
theorem CB.early {w wr : World} {x y a b c d p : Int} {PB X S1 S2 S3 S4 : Nat} {z z' : Value} (h : Has w wr [(X, .cells #[z, z'] 57 (0, 0)), (w.heap.size, .cells (rCells x y a b c d p) 29 (0, 0))]) (hR : Red wr PB p) (hX : w.heap.size ≤ X) : CB w ((wr.setCell ⟨X, 0, Option.none⟩ (.complex .f64 S1 S2)).setCell ⟨X, 1, Option.none⟩ (.complex .f64 S3 S4)) x y a b c d p PB X S1 S2 S3 S4 := by
  have e0 := heap_set h.hd 0 (.complex .f64 S1 S2)
  have e1 := heap_set e0 1 (.complex .f64 S3 S4)
  have hd := differ h.tl.hd h.hd (by decide)
  exact ⟨(h.keeps.setCell (p := ⟨X, 0, Option.none⟩) (.inr hX) _).setCell (p := ⟨X, 1, Option.none⟩) (.inr hX) _, heap_other (heap_other h.tl.hd hd _) hd _, (hR.other h.hd (by decide) (by decide) 0 _).other e0 (by decide) (by decide) 1 _, e1⟩
/-- Two places of an orbit are one. -/
def orb (T L i j : Nat) : Bool := decide (i = j ∨ (T ≤ i ∧ T ≤ j) ∧ i % L = j % L)
set_option maxRecDepth 20000 in
set_option maxHeartbeats 4000000 in
theorem cycle_words (x y a b c d p : Int) (w : World) (S1 S2 S3 S4 : Nat) (zx zy : Nat → Nat) (T L : Nat) (hL : 0 < L) (hTL : T + L ≤ 1000000000) (h : rightR x y a b c d p = true)
    (ho : ∀ w, Calls Try.prog 22 #[.agg (rCells x y a b c d p)] w fun e w' => e = .returned (.agg #[.complex .f64 S1 S2, .complex .f64 S3 S4]) ∧ Keeps (fun _ => False) w w')
    (hpl : ∀ w, Calls Try.prog 26 #[.agg #[.int .i64 x, .int .i64 y]] w fun e w' => e = .returned (.complex .f64 (zx 0) (zy 0)) ∧ Keeps (fun _ => False) w w')
    (hof : ∀ (PB : Nat) (i : Nat) (w : World), Red w PB p → Calls Try.prog 25 #[.agg #[.complex .f64 S1 S2, .complex .f64 S3 S4], .complex .f64 (zx i) (zy i), .func (.func 29) #[] #[.pointer (some ⟨PB, 0, none⟩)]] w fun e w' => e = .returned (.complex .f64 (zx (i + 1)) (zy (i + 1))) ∧ Keeps (fun _ => False) w w')
    (heq : ∀ (i j : Nat) (w : World), (binOp .eql 55 (.complex .f64 (zx i) (zy i)) (.complex .f64 (zx j) (zy j))).run Try.prog w = .ok (.bool (orb T L i j)) w)
    (hne : ∀ (i j : Nat) (w : World), (binOp .neq 55 (.complex .f64 (zx i) (zy i)) (.complex .f64 (zx j) (zy j))).run Try.prog w = .ok (.bool (!orb T L i j)) w) :
    Calls Try.prog 17 #[.agg (rCells x y a b c d p)] w fun e w' => e = .returned (.tuple #[.int .i64 (T : Int), .int .i64 (L : Int), .bool true]) ∧ Keeps (fun _ => False) w w' := by
  have HB := Lib.hid ((Has.start w).alloc (.cells (rCells x y a b c d p) 29))
  have H := Lib.hid h
  have HO := Lib.hid ho
  have HPl := Lib.hid hpl
  have HOf := Lib.hid hof
  have HEq := Lib.hid heq
  have HNe := Lib.hid hne
  have HL := Lib.hid (And.intro hL hTL)
  have hst := store_cx
  clear h ho hpl hof heq hne hL hTL
  go_enter Try.func17, Try.ntmps17
  go_wp2_with fail
  go_step3
  go_wp2_with fail
  refine (pright_any _ _ _ _ _ _ _ _).mono ?_
  rintro e w1 ⟨rfl, k1⟩
  rw [H.out]
  replace HB := Lib.hid ((HB.out.none k1).drew)
  obtain ⟨x0, x1, x2, x3, x4, x5, x6⟩ := seven_cells (Has.at (HB.out) 0 rfl)
  clear k1
  go_wp2_with fail
  rename_i K hK
  have REST : ∀ (PB G : Nat) (wr : World) (u10 u11 u12 u13 u14 u15 u16 u17 : Value), CB w wr x y a b c d p PB G S1 S2 S3 S4 → K { tmps := #[.agg (rCells x y a b c d p), .pointer (some ⟨w.heap.size, 0, none⟩), .int .i64 0, .int .i64 0, .bool false, .func (.func 29) #[] #[.pointer (some ⟨PB, 0, none⟩)], .pointer (some ⟨G, 0, none⟩), undef, undef, undef, u10, u11, u12, u13, u14, u15, u16, u17, undef, undef, undef, undef, undef, undef, undef, undef, undef, undef, undef, undef, undef, undef, undef, undef, undef, undef, undef, undef, undef, undef, undef, undef, undef, undef, undef, undef, undef, undef, undef, undef, undef, undef, undef, undef, undef, undef, undef, undef, undef, undef, undef, undef, undef, undef, undef], defers := [] } wr := by
    intro PB G wr u10 u11 u12 u13 u14 u15 u16 u17 hC
    have HC := Lib.hid hC
    refine hK _ _ ?_
    clear hK HB hC x0 x1 x2 x3 x4 x5 x6
    obtain ⟨x0, x1, x2, x3, x4, x5, x6⟩ := seven_cells HC.out.box
    go_wp2_with fail
    refine (HPl.out _).mono ?_
    rintro e w2 ⟨rfl, k2⟩
    replace HC := Lib.hid (HC.out.none k2)
    clear k2 x0 x1 x2 x3 x4 x5 x6
    go_wp2_with fail
    go_step3
    go_wp2_with fail
    obtain ⟨hL0, hTL0⟩ := HL.out
    obtain ⟨K0, hK0⟩ : ∃ K0, K0 = L * (T / L + 1) := ⟨_, rfl⟩
    have hdm := Nat.div_add_mod T L
    have hml := Nat.mod_lt T hL0
    have hKT : T ≤ K0 := by rw [hK0, Nat.mul_add, Nat.mul_one]; generalize L * (T / L) = q at *; generalize T % L = r at *; omega
    have hKL : K0 % L = 0 := by rw [hK0]; exact Nat.mul_mod_right _ _
    have hKp : 0 < K0 := by rw [hK0]; exact Nat.mul_pos hL0 (Nat.succ_pos _)
    have HK := Lib.hid (And.intro hKT (And.intro hKL hKp))
    clear hK0 hdm hml hKT hKL
    go_loopg [8, 9] K0 (fun g s f wr => ∃ k : Nat, k + g = K0 ∧ 0 < g ∧ s = .complex .f64 (zx (k)) (zy (k)) ∧ f = .complex .f64 (zx (2 * k)) (zy (2 * k)) ∧ CB w wr x y a b c d p PB G S1 S2 S3 S4)
    case atStart => exact ⟨0, by omega, hKp, rfl, rfl, HC.out⟩
    case round =>
      obtain ⟨k, hkg, hg0, rfl, rfl, hC⟩ := hrel
      replace HC := Lib.hid hC
      clear hC
      obtain ⟨g0, g1, f0, f1, lg⟩ := two_cells HC.out.g
      go_wp2_with fail
      refine (HOf.out PB k _ HC.out.red).mono ?_
      rintro e w3 ⟨rfl, k3⟩
      replace HC := Lib.hid (HC.out.none k3)
      clear k3 g0 g1 f0 f1 lg
      obtain ⟨g0, g1, f0, f1, lg⟩ := two_cells HC.out.g
      go_wp2_with fail
      replace HC := Lib.hid (HC.out.none (Keeps.refl _ _).drew)
      go_region_held3 (fun w' => w'.cell? ⟨G, 0, none⟩ = some (.complex .f64 S1 S2) ∧ w'.cell? ⟨G, 1, none⟩ = some (.complex .f64 S3 S4))
        (first
          | exact two_of HC.out.g
          | go_keep)
        ((go_at_call 25; refine (HOf.out PB _ _ HC.out.red).mono ?_; rintro e w4 ⟨rfl, k4⟩; replace HC := Lib.hid (HC.out.none k4); clear k4))
      have hq := HEq.out (k + 1) (2 * k + 1 + 1)
      cases hb : orb T L (k + 1) (2 * k + 1 + 1)
      · rw [hb] at hq
        have HQ := Lib.hid hb
        clear hb
        have hg1 : 0 < gk - 1 := by
          rcases Nat.eq_zero_or_pos (gk - 1) with hz | hz
          · exfalso
            have hkk : k + 1 = K0 := by omega
            have h2 := HQ.out
            unfold orb at h2
            rw [decide_eq_false_iff_not] at h2
            refine h2 (.inr ⟨⟨by have := HK.out.1; omega, by have := HK.out.1; omega⟩, ?_⟩)
            rw [show 2 * k + 1 + 1 = (k + 1) + (k + 1) by omega, hkk, Nat.add_mod, HK.out.2.1]
            simp
          · exact hz
        go_wp2
        go_roundg (gk - 1)
        case measure => omega
        case rel => exact ⟨k + 1, by omega, hg1, rfl, by rw [show 2 * (k + 1) = 2 * k + 1 + 1 by omega], HC.out⟩
      · rw [hb] at hq
        have hmm : T ≤ k + 1 ∧ (k + 1) % L = 0 := by
          unfold orb at hb
          rw [decide_eq_true_eq] at hb
          rcases hb with hb | ⟨⟨h1, _⟩, h2⟩
          · omega
          · refine ⟨h1, ?_⟩
            rw [show 2 * k + 1 + 1 = (k + 1) + (k + 1) by omega] at h2
            have h3 := Nat.sub_mod_eq_zero_of_mod_eq h2.symm
            rwa [Nat.add_sub_cancel] at h3
        have HM := Lib.hid hmm
        obtain ⟨N, hN⟩ : ∃ N, N = 2 * k + 1 + 1 := ⟨_, rfl⟩
        have hNN : T ≤ N ∧ N % L = 0 ∧ 0 < N := ⟨by omega, by rw [hN, show 2 * k + 1 + 1 = (k + 1) + (k + 1) by omega, Nat.add_mod, hmm.2]; simp, by omega⟩
        rw [← hN] at hq ⊢
        have HN := Lib.hid hNN
        clear hb hmm hN hNN hkg hg0 HM
        go_wp2_with fail
        clear hq
        go_loopw [2, 8, 9] (fun t s f wr => ∃ i : Nat, i ≤ T ∧ t = .int .i64 i ∧ s = .complex .f64 (zx (i)) (zy (i)) ∧ f = .complex .f64 (zx (N + i)) (zy (N + i)) ∧ CB w wr x y a b c d p PB G S1 S2 S3 S4) (fun t _ _ _ => T - (intOf t).toNat)
        case atStart => exact ⟨0, by omega, rfl, rfl, rfl, HC.out⟩
        case round =>
          obtain ⟨i, hi, rfl, rfl, rfl, hC⟩ := hrel
          replace HC := Lib.hid hC
          clear hC g0 g1 f0 f1 lg
          obtain ⟨g0, g1, f0, f1, lg⟩ := two_cells HC.out.g
          have hq := HNe.out i (N + i)
          by_cases hlt : i < T
          · have hb : orb T L i (N + i) = false := decide_eq_false (by have := HN.out.2.2; omega)
            rw [hb] at hq
            clear hb
            go_wp2_with fail
            replace HC := Lib.hid (HC.out.none (Keeps.refl _ _).drew)
            go_region_held3 (fun w' => w'.cell? ⟨G, 0, none⟩ = some (.complex .f64 S1 S2) ∧ w'.cell? ⟨G, 1, none⟩ = some (.complex .f64 S3 S4))
              (first
                | exact two_of HC.out.g
                | go_keep)
              ((go_at_call 25; refine (HOf.out PB _ _ HC.out.red).mono ?_; rintro e w4 ⟨rfl, k4⟩; replace HC := Lib.hid (HC.out.none k4); clear k4))
            go_wp2
            go_roundw
            case rel => exact ⟨i + 1, by omega, by go_num, rfl, by rw [show N + (i + 1) = N + i + 1 by omega], HC.out⟩
            case measure => simp [intOf]; omega
          · obtain rfl : i = T := by omega
            have hb : orb i L i (N + i) = true := decide_eq_true (.inr ⟨by omega, by rw [Nat.add_mod, HN.out.2.1]; simp⟩)
            rw [hb] at hq
            clear hb
            go_wp2_with fail
            clear hq
            go_loopw [3, 9] (fun l f wr => ∃ j : Nat, j < L ∧ l = .int .i64 ((j : Int) + 1) ∧ f = .complex .f64 (zx (N + i + j)) (zy (N + i + j)) ∧ CB w wr x y a b c d p PB G S1 S2 S3 S4) (fun l _ _ => L - (intOf l).toNat)
            case atStart => exact ⟨0, hL0, rfl, rfl, HC.out⟩
            case round =>
              obtain ⟨j, hj, rfl, rfl, hC⟩ := hrel
              replace HC := Lib.hid hC
              clear hC g0 g1 f0 f1 lg
              obtain ⟨g0, g1, f0, f1, lg⟩ := two_cells HC.out.g
              have hq := HNe.out (N + i + j + 1) i
              by_cases hend : j + 1 = L
              · have hb : orb i L (N + i + j + 1) i = true := decide_eq_true (.inr ⟨by omega, by rw [show N + i + j + 1 = N + i + (j + 1) by omega, hend, Nat.add_mod_right, Nat.add_mod, HN.out.2.1]; simp⟩)
                rw [hb] at hq
                have HE := Lib.hid hend
                clear hb hend
                go_wp2_with fail
                refine (HOf.out PB (N + i + j) _ HC.out.red).mono ?_
                rintro e w3 ⟨rfl, k3⟩
                replace HC := Lib.hid (HC.out.none k3)
                clear k3
                go_wp2
                (try rw [Exit.noGoto_ret])
                have hjl : (j : Int) + 1 = (L : Int) := by have := HE.out; omega
                rw [hjl]
                exact bodyPost_ret (v := .tuple #[.int .i64 (i : Int), .int .i64 (L : Int), .bool true]) (by simp [results, Try.results17, go_sem]) rfl ⟨rfl, HC.out.keeps⟩
              · have hb : orb i L (N + i + j + 1) i = false := decide_eq_false (fun h => by
                  rcases h with h | ⟨_, h⟩
                  · omega
                  · have h3 := Nat.sub_mod_eq_zero_of_mod_eq h
                    rw [show N + i + j + 1 - i = N + (j + 1) by omega, Nat.add_mod, HN.out.2.1, Nat.zero_add, Nat.mod_mod, Nat.mod_eq_of_lt (by omega)] at h3
                    omega)
                rw [hb] at hq
                clear hb
                go_wp2_with fail
                refine (HOf.out PB (N + i + j) _ HC.out.red).mono ?_
                rintro e w3 ⟨rfl, k3⟩
                replace HC := Lib.hid (HC.out.none k3)
                clear k3 g0 g1 f0 f1 lg
                obtain ⟨g0, g1, f0, f1, lg⟩ := two_cells HC.out.g
                go_wp2_with fail
                refine (HOf.out PB (N + i + j) _ HC.out.red).mono ?_
                rintro e w5 ⟨rfl, k5⟩
                replace HC := Lib.hid (HC.out.none k5)
                clear k5 g0 g1 f0 f1 lg
                go_wp2
                go_roundw
                case rel => exact ⟨j + 1, by omega, by go_num, rfl, HC.out⟩
                case measure => simp [intOf]; omega
  clear hK
  have lX : w.heap.size ≤ w.heap.size + 1 := by omega
  go_region_held3 (fun w' => w'.cell? ⟨w.heap.size, 0, none⟩ = some (.int .i64 x) ∧ w'.cell? ⟨w.heap.size, 1, none⟩ = some (.int .i64 y) ∧ w'.cell? ⟨w.heap.size, 2, none⟩ = some (.int .i64 a) ∧ w'.cell? ⟨w.heap.size, 3, none⟩ = some (.int .i64 b) ∧ w'.cell? ⟨w.heap.size, 4, none⟩ = some (.int .i64 c) ∧ w'.cell? ⟨w.heap.size, 5, none⟩ = some (.int .i64 d) ∧ w'.cell? ⟨w.heap.size, 6, none⟩ = some (.int .i64 p))
    (first
      | exact seven_cells (HB.out.at 0 rfl)
      | exact seven_cells (HB.out.at 1 rfl)
      | exact seven_cells ((HB.out.alloc _).at 1 rfl)
      | exact seven_cells ((CB.early HB.out HRd.out lX).box)
      | go_keep)
    (first
      | (go_at_call 21; refine (reducer_any _ _).mono ?_; rintro e w3 ⟨PB, rfl, hR, k3⟩; have HRd := Lib.hid hR; (first | (replace HB := Lib.hid (HB.out.none k3)) | (have lX := HB.out.keeps.size; replace HB := Lib.hid ((HB.out.alloc _).none k3); (try rw [drew_size] at HB lX))); clear k3 hR; obtain ⟨z0, z1, f0, f1, lz⟩ := first_two (HB.out.at 0 rfl))
      | (go_at_call 22; refine (HO.out _).mono ?_; rintro e w3 ⟨rfl, k3⟩; (first | (replace HRd := Lib.hid (HRd.out.none k3)) | (replace HRd := Lib.hid ((HRd.out.none ((Keeps.refl _ _).alloc _)).none k3)) | skip); (first | (replace HB := Lib.hid (HB.out.none k3)) | (have lX := HB.out.keeps.size; replace HB := Lib.hid ((HB.out.alloc _).none k3); (try rw [drew_size] at HB lX))); clear k3; obtain ⟨z0, z1, f0, f1, lz⟩ := first_two (HB.out.at 0 rfl)))
  all_goals
    go_wp2_with fail
    first | exact CB.last HB.out HRd.out | exact CB.early HB.out HRd.out lX
end Go.Proofs.Ytjpbfmhfjlbcgaa
