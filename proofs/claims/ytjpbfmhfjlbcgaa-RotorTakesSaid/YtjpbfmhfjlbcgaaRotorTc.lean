import Derived.Test.YtjpbfmhfjlbcgaaRotorTq
import Derived.Test.YtjpbfmhfjlbcgaaRotorG
import Derived.Deep.OwnRows
namespace Go.Proofs.Ytjpbfmhfjlbcgaa
open Go.ChangeShapes Go.WideShapes Go.ChangeAt Go.RowKit
set_option linter.unusedVariables false
set_option linter.unusedSimpArgs false
/-- When each index came first, behind j rounds: its round's number and one, or 0. -/
def whenF (ix : Nat → Nat) : Nat → Nat → Int
  | 0, _ => 0
  | j + 1, q => if q = ix j then (j : Int) + 1 else whenF ix j q
theorem whenF_zero (ix : Nat → Nat) (q : Nat) : ∀ j, (∀ k, k < j → ix k ≠ q) → whenF ix j q = 0
  | 0, _ => rfl
  | j + 1, h => by
    unfold whenF
    rw [if_neg fun e => h j (Nat.lt_succ_self j) e.symm]
    exact whenF_zero ix q j fun k hk => h k (Nat.lt_succ_of_lt hk)
theorem whenF_at (ix : Nat → Nat) (t : Nat) : ∀ j, t < j → (∀ k, t < k → k < j → ix k ≠ ix t) → whenF ix j (ix t) = (t : Int) + 1
  | 0, h, _ => by omega
  | j + 1, h, hd => by
    unfold whenF
    by_cases e : t = j
    · subst e; rw [if_pos rfl]
    · rw [if_neg fun h2 => hd j (by omega) (Nat.lt_succ_self j) h2.symm]
      exact whenF_at ix t j (by omega) fun k h1 h2 => hd k h1 (by omega)
/-- What the reference's Cycle stands on. -/
structure FC (w wr : World) (x y a b c d p : Int) (GL n : Nat) (row : Nat → Int) : Prop where
  keeps : Keeps (fun _ => False) w wr
  one : wr.heap[w.heap.size]? = some (.cells (rCells x y a b c d p) 25 (0, 0))
  l : ∃ cs : Array Value, wr.heap[GL]? = some (.cells cs 3 (0, 0)) ∧ cs.size = n ∧ ∀ k, k < n → cs[k]? = some (.int .i64 (row k))
  le : w.heap.size ≤ GL
section
variable {w wr w2 : World} {x y a b c d p x' y' a' b' c' d' p' : Int} {GL n : Nat} {row row' : Nat → Int}
theorem FC.none (h : FC w wr x y a b c d p GL n row) (k : Keeps (fun _ => False) wr w2) : FC w w2 x y a b c d p GL n row := by
  obtain ⟨cs, h1, h2, h3⟩ := h.l
  exact ⟨h.keeps.trans k, k.at h.one fun h => h, ⟨cs, k.at h1 fun h => h, h2, h3⟩, h.le⟩
theorem FC.set (h : FC w wr x y a b c d p GL n row) (j : Nat) (hj : j < n) (u : Int) (hr : ∀ k, k < n → row' k = if k = j then u else row k) : FC w (wr.setCell ⟨GL, j, Option.none⟩ (.int .i64 u)) x y a b c d p GL n row' := by
  obtain ⟨cs, h1, h2, h3⟩ := h.l
  refine ⟨h.keeps.setCell (p := ⟨GL, j, Option.none⟩) (.inr h.le) _, heap_other h.one (differ h.one h1 (by decide)) _, ⟨_, heap_set h1 j _, by simp [h2], fun k hk => ?_⟩, h.le⟩
  rw [hr k hk, Array.getElem?_setIfInBounds]
  by_cases e : k = j
  · subst e
    simp [h2, hj]
  · rw [if_neg (fun h => e h.symm), if_neg e]
    exact h3 k hk
theorem FC.put (h : FC w wr x y a b c d p GL n row) : FC w (((((((wr.setCell ⟨w.heap.size, 0, Option.none⟩ (.int .i64 x')).setCell ⟨w.heap.size, 1, Option.none⟩ (.int .i64 y')).setCell ⟨w.heap.size, 2, Option.none⟩ (.int .i64 a')).setCell ⟨w.heap.size, 3, Option.none⟩ (.int .i64 b')).setCell ⟨w.heap.size, 4, Option.none⟩ (.int .i64 c')).setCell ⟨w.heap.size, 5, Option.none⟩ (.int .i64 d')).setCell ⟨w.heap.size, 6, Option.none⟩ (.int .i64 p')) x' y' a' b' c' d' p' GL n row := by
  obtain ⟨cs, h1, h2, h3⟩ := h.l
  have hne : GL ≠ w.heap.size := differ h1 h.one (by decide)
  have e0 := heap_set h.one 0 (.int .i64 x')
  simp only [List.setIfInBounds_toArray, List.set_cons_zero, List.set_cons_succ] at e0
  have e1 := heap_set e0 1 (.int .i64 y')
  simp only [List.setIfInBounds_toArray, List.set_cons_zero, List.set_cons_succ] at e1
  have e2 := heap_set e1 2 (.int .i64 a')
  simp only [List.setIfInBounds_toArray, List.set_cons_zero, List.set_cons_succ] at e2
  have e3 := heap_set e2 3 (.int .i64 b')
  simp only [List.setIfInBounds_toArray, List.set_cons_zero, List.set_cons_succ] at e3
  have e4 := heap_set e3 4 (.int .i64 c')
  simp only [List.setIfInBounds_toArray, List.set_cons_zero, List.set_cons_succ] at e4
  have e5 := heap_set e4 5 (.int .i64 d')
  simp only [List.setIfInBounds_toArray, List.set_cons_zero, List.set_cons_succ] at e5
  have e6 := heap_set e5 6 (.int .i64 p')
  simp only [List.setIfInBounds_toArray, List.set_cons_zero, List.set_cons_succ] at e6
  exact ⟨((((((h.keeps.setCell (p := ⟨w.heap.size, 0, Option.none⟩) (.inr (Nat.le_refl _)) _).setCell (p := ⟨w.heap.size, 1, Option.none⟩) (.inr (Nat.le_refl _)) _).setCell (p := ⟨w.heap.size, 2, Option.none⟩) (.inr (Nat.le_refl _)) _).setCell (p := ⟨w.heap.size, 3, Option.none⟩) (.inr (Nat.le_refl _)) _).setCell (p := ⟨w.heap.size, 4, Option.none⟩) (.inr (Nat.le_refl _)) _).setCell (p := ⟨w.heap.size, 5, Option.none⟩) (.inr (Nat.le_refl _)) _).setCell (p := ⟨w.heap.size, 6, Option.none⟩) (.inr (Nat.le_refl _)) _,
   e6,
   ⟨cs, heap_other (heap_other (heap_other (heap_other (heap_other (heap_other (heap_other h1 hne _) hne _) hne _) hne _) hne _) hne _) hne _, h2, h3⟩, h.le⟩
end
set_option maxRecDepth 20000 in
set_option maxHeartbeats 2000000 in
theorem fcycle_words (x y a b c d : Int) (N T L : Nat) (w : World) (hN : N ≤ 1000) (hL : 0 < L) (hTL : T + L ≤ 1000000000) (h : rightR x y a b c d N = true)
    (Z : Nat → Int × Int) (hZ0 : Z 0 = (x, y)) (hZr : ∀ j, rightR (Z j).1 (Z j).2 a b c d N = true)
    (hZn : ∀ j w, Calls Try.prog 9 #[.agg (rCells (Z j).1 (Z j).2 a b c d N)] w fun e w' => e = .returned (.tuple #[.agg (rCells (Z (j + 1)).1 (Z (j + 1)).2 a b c d N), .bool true]) ∧ Keeps (fun _ => False) w w')
    (ix : Nat → Nat) (hix : ∀ j, (Z j).1 * (N : Int) + (Z j).2 = (ix j : Int)) (hixl : ∀ j, ix j < N * N)
    (hfree : ∀ j, j < T + L → ∀ k, k < j → ix k ≠ ix j) (hlast : ix (T + L) = ix T) (hxl : ∀ j, 0 ≤ (Z j).1 * (N : Int) ∧ (Z j).1 * (N : Int) ≤ 1000000) :
    Calls Try.prog 18 #[.agg (rCells x y a b c d N)] w fun e w' => e = .returned (.tuple #[.int .i64 (T : Int), .int .i64 (L : Int), .bool true]) ∧ Keeps (fun _ => False) w w' := by
  have hNN : N * N ≤ 1000000 := Nat.mul_le_mul hN hN
  have W1 : IntKind.i64.wrap ((N : Int) * (N : Int)) = ((N * N : Nat) : Int) := by rw [← Int.natCast_mul]; exact wrap_in _ ⟨by omega, by omega⟩
  have W1' : wrap64 ((N : Int) * (N : Int)) = ((N * N : Nat) : Int) := by rw [← Int.natCast_mul]; exact IntWalk.wrap64_in _ ⟨by omega, by omega⟩
  have H := Lib.hid h
  have HZ := Lib.hid (And.intro hZ0 (And.intro hZr hZn))
  have HI := Lib.hid (And.intro hix (And.intro hixl (And.intro hfree (And.intro hlast hxl))))
  clear h hZ0 hZr hZn hix hixl hfree hlast hxl
  generalize hM : N * N = M at *
  have hmk := fun w => run_make_row' (P := Try.prog) 41 3 (.int .i64 0) 8 Try.underlying41 Try.infoD rfl .i64 .i64 M (by omega) (by omega) w
  have H0 := Lib.hid (And.intro (Keeps.refl (fun _ => False) w |>.alloc (.cells (rCells x y a b c d N) 25)) (heap_new w (.cells (rCells x y a b c d N) 25)))
  go_enter Try.func18, Try.ntmps18
  go_wp2_with fail
  refine (fright_any _ _ _ _ _ _ _ _).mono ?_
  rintro e w1 ⟨rfl, k1⟩
  rw [H.out]
  replace H0 := Lib.hid (And.intro (H0.out.1.trans k1) (k1.at H0.out.2 fun h => h))
  clear k1
  obtain ⟨x0, x1, x2, x3, x4, x5, x6⟩ := seven_cells H0.out.2
  obtain ⟨f0, f1, f2, f3, f4, f5, f6, lx⟩ := seven_free H0.out.2
  go_wp2_with fail
  have HU : FC w (w1.alloc (.cells (madeCells #[.int .i64 0] M) 3)) x y a b c d N w1.heap.size M (whenF ix 0) :=
    ⟨H0.out.1.alloc _, heap_old H0.out.2 _, ⟨_, heap_new w1 _, size_madeCells _ _, fun k hk => by simp [madeCells, hk, Nat.mod_one, whenF]⟩, H0.out.1.size⟩
  replace HU := Lib.hid HU
  clear H0 x0 x1 x2 x3 x4 x5 x6 f0 f1 f2 f3 f4 f5 f6 lx hmk
  generalize w1.heap.size = GL at HU ⊢
  obtain ⟨wo, rfl⟩ : ∃ wo : World, wo = w := ⟨_, rfl⟩
  go_loopw [6] (fun i wr => ∃ j : Nat, j ≤ T + L ∧ i = .int .i64 ((j : Int) + 1) ∧ FC wo wr (Z j).1 (Z j).2 a b c d N GL M (whenF ix j)) (fun i _ => T + L + 1 - (intOf i).toNat)
  case atStart => exact ⟨0, by omega, by simp, by rw [HZ.out.1]; exact HU.out⟩
  case round =>
    obtain ⟨j, hj, rfl, hB⟩ := hrel
    have HB := Lib.hid hB
    clear hB HU
    obtain ⟨x0, x1, x2, x3, x4, x5, x6⟩ := seven_cells HB.out.one
    obtain ⟨f0, f1, f2, f3, f4, f5, f6, lx⟩ := seven_free HB.out.one
    obtain ⟨cs, h5, hs5, hr5⟩ := HB.out.l
    have hql := HI.out.2.1 j
    have c5 : wr.cell? ⟨GL, ix j, none⟩ = some (.int .i64 (whenF ix j (ix j))) := (cell_of h5 (ix j)).trans (hr5 (ix j) hql)
    have g5 := free_of h5 (ix j)
    have l5 := lt_of h5
    have hm := HI.out.2.2.2.2 j
    have hm2 := HI.out.1 j
    have A1 : IntKind.i64.wrap ((Z j).1 * (N : Int)) = (Z j).1 * (N : Int) := wrap_in _ ⟨by omega, by omega⟩
    have A1' : wrap64 ((Z j).1 * (N : Int)) = (Z j).1 * (N : Int) := IntWalk.wrap64_in _ ⟨by omega, by omega⟩
    have A2 : IntKind.i64.wrap ((Z j).1 * (N : Int) + (Z j).2) = (ix j : Int) := by rw [hm2]; exact wrap_in _ ⟨by omega, by omega⟩
    have A2' : wrap64 ((Z j).1 * (N : Int) + (Z j).2) = (ix j : Int) := by rw [hm2]; exact IntWalk.wrap64_in _ ⟨by omega, by omega⟩
    clear hm hm2 h5 hs5 hr5 cs
    have HXN := Lib.hid (HZ.out.2.2 j)
    have hd : (j < T + L ∧ whenF ix j (ix j) = 0) ∨ (j = T + L ∧ whenF ix j (ix j) = (T : Int) + 1) := by
      rcases Nat.lt_or_ge j (T + L) with hlt | hge
      · exact .inl ⟨hlt, whenF_zero ix _ j (HI.out.2.2.1 j hlt)⟩
      · obtain rfl : j = T + L := by omega
        refine .inr ⟨rfl, ?_⟩
        rw [HI.out.2.2.2.1]
        exact whenF_at ix T _ (by omega) fun k h1 h2 e => HI.out.2.2.1 k h2 T h1 e.symm
    have HW := Lib.hid (show ∀ k, k < M → whenF ix (j + 1) k = if k = ix j then (j : Int) + 1 else whenF ix j k from fun k _ => rfl)
    generalize hq : ix j = q at *
    rcases hd with ⟨hlt, h0⟩ | ⟨hlt, h0⟩
    · rw [h0] at c5
      have H0 := Lib.hid h0
      clear h0
      have HS := Lib.hid (HB.out.set q hql ((j : Int) + 1) HW.out)
      obtain ⟨y0, y1, y2, y3, y4, y5, y6⟩ := seven_cells HS.out.one
      obtain ⟨e0, e1, e2, e3, e4, e5, e6, le⟩ := seven_free HS.out.one
      go_wp2_with fail
      refine (HXN.out _).mono ?_
      rintro e w2 ⟨rfl, k2⟩
      replace HS := Lib.hid (HS.out.none k2)
      clear k2 y0 y1 y2 y3 y4 y5 y6 e0 e1 e2 e3 e4 e5 e6 le
      obtain ⟨y0, y1, y2, y3, y4, y5, y6⟩ := seven_cells HS.out.one
      obtain ⟨e0, e1, e2, e3, e4, e5, e6, le⟩ := seven_free HS.out.one
      go_wp2
      go_roundw
      case rel => exact ⟨j + 1, by omega, by go_num, HS.out.put⟩
      case measure => simp [intOf]; omega
    · rw [h0] at c5
      have H0 := Lib.hid (And.intro h0 hlt)
      clear h0 hlt
      have dT : decide (0 < (T : Int) + 1) = true := decide_eq_true (by omega)
      have B1 : wrap64 ((T : Int) + 1 - 1) = (T : Int) := by rw [IntWalk.wrap64_in _ ⟨by omega, by omega⟩]; omega
      have B1' : IntKind.i64.wrap ((T : Int) + 1 - 1) = (T : Int) := by rw [wrap_in _ ⟨by omega, by omega⟩]; omega
      have B2 : wrap64 ((j : Int) + 1 - ((T : Int) + 1)) = (L : Int) := by have := H0.out.2; rw [IntWalk.wrap64_in _ ⟨by omega, by omega⟩]; omega
      have B2' : IntKind.i64.wrap ((j : Int) + 1 - ((T : Int) + 1)) = (L : Int) := by have := H0.out.2; rw [wrap_in _ ⟨by omega, by omega⟩]; omega
      go_wp2_with fail
      go_quiet (fail)
      all_goals
        go_wp2
        exact bodyPost_ret (v := .tuple #[.int .i64 (T : Int), .int .i64 (L : Int), .bool true]) (by simp [results, Try.results18, go_sem, *]) rfl ⟨rfl, HB.out.keeps.drewN _⟩
end Go.Proofs.Ytjpbfmhfjlbcgaa
