import Derived.Test.YtffhmlngnnfaeacNestMore
import Derived.Test.YtffhmlngnnfaeacOpen
namespace Go.Proofs.Ytffhmlngnnfaeac
open Go.ChangeShapes Go.WideShapes Go.ChangeAt Go.RowKit
set_option linter.unusedVariables false

theorem nest_new (w : World) : IsNest (w.alloc (.cells #[.int .i64 0, .int .i64 0, .int .i64 0, .int .i64 0, .int .i64 0, .int .i64 0, .int .i64 0, .int .i64 0, .int .i64 0, .int .i64 0, .int .i64 0, .int .i64 0, .int .i64 0, .int .i64 0, .int .i64 0, .int .i64 0, .int .i64 0, .int .i64 0, .int .i64 0, .int .i64 0, .int .i64 0, .int .i64 0, .int .i64 0, .int .i64 0, .int .i64 0, .int .i64 0, .int .i64 0, .int .i64 0, .int .i64 0, .int .i64 0, .int .i64 0, .int .i64 0, .int .i64 0, .int .i64 0] 46)) w.heap.size (fun _ => 0) 0 0 := by
  refine ⟨_, heap_new _ _, rfl, ?_, rfl, rfl⟩
  intro i hi
  repeat (rcases i with _ | i; · rfl)
  omega
theorem rises_zero (L : Nat → Int) : Rises L 0 := ⟨fun i h => by omega, fun i h => by omega, fun i h => by omega⟩
theorem rises_enter {L : Nat → Int} {d : Nat} (h : Rises L d) (k : Int) (hk : topV L d < k ∧ 0 ≤ k ∧ k ≤ 31) : d < 32 ∧ Rises (fun i => if i = d then k else L i) (d + 1) := by
  have hdk : (d : Int) ≤ k := by
    match d, h, hk with
    | 0, h, hk => omega
    | d + 1, h, hk => have := h.lo d (by omega); simp only [topV] at hk; omega
  refine ⟨by omega, ⟨fun i hi => ?_, fun i hi => ?_, fun i hi => ?_⟩⟩
  · show _ ≤ if i = d then k else L i
    split
    · omega
    · exact h.lo i (by omega)
  · show (if i = d then k else L i) ≤ _
    split
    · omega
    · exact h.hi i (by omega)
  · show (if i = d then k else L i) < (if i + 1 = d then k else L (i + 1))
    rw [if_neg (by omega)]
    split
    · rename_i e
      subst e
      exact hk.1
    · exact h.up i (by omega)
/-- Enter, whatever comes. -/
theorem enter_any (b : Nat) (L : Nat → Int) (d m : Nat) (k : Int) (w : World) (hr : Rises L d) (h : IsNest w b L d m) :
    Calls Try.prog 19 #[.pointer (some ⟨b, 0, none⟩), .int .i64 k] w fun e w' => ∃ r L' d' m', e = .returned (.bool r) ∧ Rises L' d' ∧ IsNest w' b L' d' m' ∧ Keeps (fun k => k = b) w w' := by
  by_cases hy : topV L d < k ∧ 0 ≤ k ∧ k ≤ 31
  · have he := rises_enter hr k hy
    exact (enter_yes b L d m k w he.1 h hy).mono fun e w' ⟨h1, h2, h3⟩ => ⟨true, _, _, _, h1, he.2, h2, h3⟩
  · exact (enter_no b L d m k w hr.le h hy).mono fun e w' ⟨h1, h2⟩ => ⟨false, L, d, m, h1, hr, h.none h2, h2.mono fun _ _ h => h.elim⟩

theorem alive08_any (w : World) : Calls Try.prog 18 #[] w fun e w' => e = .returned (.bool true) ∧ Below w.heap.size w w' := by
  have H0 := Lib.hid (nest_new w)
  have hk0 : Keeps (fun _ => False) w (w.alloc (.cells #[.int .i64 0, .int .i64 0, .int .i64 0, .int .i64 0, .int .i64 0, .int .i64 0, .int .i64 0, .int .i64 0, .int .i64 0, .int .i64 0, .int .i64 0, .int .i64 0, .int .i64 0, .int .i64 0, .int .i64 0, .int .i64 0, .int .i64 0, .int .i64 0, .int .i64 0, .int .i64 0, .int .i64 0, .int .i64 0, .int .i64 0, .int .i64 0, .int .i64 0, .int .i64 0, .int .i64 0, .int .i64 0, .int .i64 0, .int .i64 0, .int .i64 0, .int .i64 0, .int .i64 0, .int .i64 0] 46)) := (Keeps.refl _ _).alloc _
  have K0 := Lib.hid hk0
  clear hk0
  go_enter Try.func18, Try.ntmps18
  go_wp2_with fail
  refine (enter_yes _ _ 0 _ 2 _ (by omega) H0.out (by simp [topV])).mono ?_
  rintro e w1 ⟨rfl, h1, k1⟩
  have H1 := Lib.hid h1
  clear h1 H0
  go_wp2_with fail
  refine (enter_no _ _ 1 _ 2 _ (by omega) H1.out (by simp [topV])).mono ?_
  rintro e w2 ⟨rfl, k2⟩
  have H2 := Lib.hid (H1.out.none k2)
  clear H1
  go_wp2_with fail
  refine (enter_yes _ _ 1 _ 5 _ (by omega) H2.out (by simp [topV])).mono ?_
  rintro e w3 ⟨rfl, h3, k3⟩
  have H3 := Lib.hid h3
  clear h3 H2
  go_wp2_with fail
  refine (leave_some _ _ 1 _ _ (by omega) H3.out).mono ?_
  rintro e w4 ⟨rfl, h4, k4⟩
  have H4 := Lib.hid h4
  clear h4 H3
  go_wp2_with fail
  refine (top_some _ _ 0 _ _ (by omega) H4.out).mono ?_
  rintro e w5 ⟨rfl, n5, rfl⟩
  go_wp2
  go_ret
  have g1 := (K0.out.mono (T := fun k => k = w.heap.size) fun _ _ h => h.elim).trans k1
  have g4 := ((g1.trans (k2.mono fun _ _ h => h.elim)).trans k3).trans k4
  exact ⟨rfl, (g4.drewN n5).below (Nat.le_refl _) fun k _ h => by omega⟩

theorem same_zero (a b : Option Addr) (c0 c1 : Nat) (w : World) : Calls Try.prog 27 #[.slice a 0 c0, .slice b 0 c1] w fun e w' => e = .returned (.bool true) ∧ w = w' := by
  go_enter Try.func27, Try.ntmps27
  go_wp2_with fail
  obtain ⟨wo, rfl⟩ : ∃ wo : World, wo = w := ⟨_, rfl⟩
  go_loopw [5] (fun i wr => i = .int .i64 0 ∧ wr = wo) (fun _ _ => 0)
  case atStart => exact ⟨rfl, rfl⟩
  case round =>
    obtain ⟨rfl, rfl⟩ := hrel
    go_wp2
    go_ret
    exact ⟨rfl, rfl⟩
theorem same_diff (g0 g1 n : Nat) (x y : Int) (w : World) (hn : 0 < n) (h63 : n ≤ 32) (hxy : (x != y) = true) (h0 : w.cell? ⟨g0, 0, none⟩ = some (.int .i64 x)) (h1 : w.cell? ⟨g1, 0, none⟩ = some (.int .i64 y)) :
    Calls Try.prog 27 #[.slice (some ⟨g0, 0, none⟩) n n, .slice (some ⟨g1, 0, none⟩) n n] w fun e w' => e = .returned (.bool false) ∧ Keeps (fun _ => False) w w' := by
  have hne : ¬ x = y := by simpa using hxy
  have hd : (0 : Int) < (n : Int) := by omega
  go_enter Try.func27, Try.ntmps27
  go_wp2_with fail
  obtain ⟨wo, rfl⟩ : ∃ wo : World, wo = w := ⟨_, rfl⟩
  go_loopw [5] (fun i wr => i = .int .i64 0 ∧ wr = wo) (fun _ _ => 0)
  case atStart => exact ⟨rfl, rfl⟩
  case round =>
    obtain ⟨rfl, rfl⟩ := hrel
    go_wp2_with fail
    go_quiet (fail)
    go_wp2
    go_ret
    exact ⟨rfl, (Keeps.refl _ _).drewN nq⟩

def row (L : Nat → Int) (d k : Nat) : Array Value := ((List.range d).map fun i => Value.int .i64 (if i < k then L i else 99)).toArray
theorem row_full (L : Nat → Int) (d : Nat) : row L d d = ((List.range d).map fun i => Value.int .i64 (L i)).toArray := by
  unfold row
  congr 1
  apply List.map_congr_left
  intro i hi
  rw [if_pos (by simpa using hi)]
theorem row_get (L : Nat → Int) (d k i : Nat) (hi : i < d) : (row L d k)[i]? = some (.int .i64 (if i < k then L i else 99)) := by
  simp [row, hi]
theorem row_set (L : Nat → Int) (d k : Nat) (hk : k < d) : (row L d (k + 1)).setIfInBounds k (.int .i64 99) = row L d k := by
  apply Array.ext_getElem?
  intro i
  rw [Array.getElem?_setIfInBounds]
  by_cases hid : i < d
  · rw [row_get L d k i hid, row_get L d (k + 1) i hid]
    by_cases hik : k = i
    · subst hik
      simp [row, hid]
    · rw [if_neg hik]
      by_cases h1 : i < k
      · rw [if_pos h1, if_pos (by omega)]
      · rw [if_neg h1, if_neg (by omega)]
  · rw [if_neg (by omega), Array.getElem?_eq_none (by simp [row]; omega), Array.getElem?_eq_none (by simp [row]; omega)]

structure Down (w wr : World) (b c g : Nat) (L : Nat → Int) (d m k : Nat) : Prop where
  below : Below w.heap.size w wr
  nest : IsNest wr b L k m
  copy : IsNest wr c L d m
  list : wr.heap[g]? = some (.cells (row L d k) 3 (0, 0))
  gb : w.heap.size ≤ b
  gg : w.heap.size ≤ g
  cb : c ≠ b
  gnb : g ≠ b
  gnc : g ≠ c
theorem Down.leave {w w1 w2 : World} {b c g : Nat} {L : Nat → Int} {d m k k' : Nat} (h : Down w w1 b c g L d m k) (hn : IsNest w2 b L k' m) (hk : Keeps (fun k => k = b) w1 w2) (x : Nat) :
    Below w.heap.size w w2 ∧ IsNest w2 c L d m ∧ w2.heap[g]? = some (.cells (row L d k) 3 (0, 0)) := by
  have gb := h.gb
  obtain ⟨cs, hc, hx⟩ := h.copy
  exact ⟨h.below.trans (hk.below h.below.size fun k _ h => by omega), ⟨cs, hk.at hc h.cb, hx⟩, hk.at h.list h.gnb⟩

theorem Down.drewN {w wr : World} {b c g : Nat} {L : Nat → Int} {d m k : Nat} (h : Down w wr b c g L d m k) (n : Nat) : Down w (wr.drewN n) b c g L d m k :=
  ⟨h.below.trans (((Keeps.refl (fun _ => False) wr).drewN n).below h.below.size fun _ _ h => h.elim), h.nest, h.copy, h.list, h.gb, h.gg, h.cb, h.gnb, h.gnc⟩
theorem Down.none {w w1 w2 : World} {b c g : Nat} {L : Nat → Int} {d m k : Nat} (h : Down w w1 b c g L d m k) (hk : Keeps (fun _ => False) w1 w2) : Down w w2 b c g L d m k :=
  ⟨h.below.trans (hk.below h.below.size fun _ _ h => h.elim), h.nest.none hk, h.copy.none hk, hk.at h.list fun h => h, h.gb, h.gg, h.cb, h.gnb, h.gnc⟩
/-- A round's end: the level is gone, and its place in the list is written over. -/
theorem Down.round {w w1 w2 : World} {b c g : Nat} {L : Nat → Int} {d m k : Nat} (h : Down w w1 b c g L d m (k + 1)) (hn : IsNest w2 b L k m) (hk : Keeps (fun k => k = b) w1 w2) (hkd : k < d) : Down w (w2.setCell ⟨g, k, Option.none⟩ (.int .i64 99)) b c g L d m k := by
  obtain ⟨h1, h2, h3⟩ := h.leave hn hk 0
  have gb := h.gb
  have gg := h.gg
  have kg := (Keeps.refl (fun k => k = g) w2).setCell (p := ⟨g, k, Option.none⟩) (.inl rfl) (.int .i64 99)
  obtain ⟨cs, hc, hx⟩ := h2
  obtain ⟨ds, hd, hy⟩ := hn
  refine ⟨h1.trans (kg.below h1.size fun k _ h => by omega), ⟨ds, kg.at hd (fun e => h.gnb e.symm), hy⟩, ⟨cs, kg.at hc (fun e => h.gnc e.symm), hx⟩, ?_, h.gb, h.gg, h.cb, h.gnb, h.gnc⟩
  rw [heap_set h3, row_set L d k hkd]

set_option maxRecDepth 20000 in
theorem nestRises_plain (a0 : Option Addr) (n cap0 : Nat) (F : Nat → Int) (w : World) (hn : n ≤ 200)
    (h0 : 0 < n → ∃ b off, a0 = some ⟨b, off, none⟩ ∧ b < w.heap.size ∧ ∀ i, i < n → w.cell? ⟨b, off + i, none⟩ = some (.int .i64 (F i))) :
    Calls Try.prog 6 #[.slice a0 n cap0] w fun e w' => e = .returned (.bool true) ∧ Below w.heap.size w w' := by
  have d1 : decide (200 < (n : Int)) = false := by simp; omega
  have hk0 : Keeps (fun _ => False) w (w.alloc (.cells #[.int .i64 0, .int .i64 0, .int .i64 0, .int .i64 0, .int .i64 0, .int .i64 0, .int .i64 0, .int .i64 0, .int .i64 0, .int .i64 0, .int .i64 0, .int .i64 0, .int .i64 0, .int .i64 0, .int .i64 0, .int .i64 0, .int .i64 0, .int .i64 0, .int .i64 0, .int .i64 0, .int .i64 0, .int .i64 0, .int .i64 0, .int .i64 0, .int .i64 0, .int .i64 0, .int .i64 0, .int .i64 0, .int .i64 0, .int .i64 0, .int .i64 0, .int .i64 0, .int .i64 0, .int .i64 0] 46)) := (Keeps.refl _ _).alloc _
  have H0 := Lib.hid (And.intro hk0.none (nest_new w))
  clear hk0
  go_enter Try.func6, Try.ntmps6
  go_wp2_with fail
  go_loopw [4] (fun i wr => ∃ k d m L, k ≤ n ∧ i = .int .i64 (k : Nat) ∧ Rises L d ∧ IsNest wr w.heap.size L d m ∧ Below w.heap.size w wr) (fun i _ => n - (intOf i).toNat)
  case atStart => exact ⟨0, 0, 0, _, by omega, rfl, rises_zero _, H0.out.2, H0.out.1⟩
  case round =>
    clear H0
    obtain ⟨k, d, m, L, hk, rfl, hr, hN, hB⟩ := hrel
    have HR := Lib.hid hr
    have HN := Lib.hid hN
    have HB := Lib.hid hB
    have hd32 := hr.le
    have hdd : decide ((32 : Int) < (d : Int)) = false := by simp; omega
    clear hr hN hB
    by_cases hlt : k < n
    · obtain ⟨b0, off, rfl, hb, hcs⟩ := h0 (by omega)
      have c1 := hcs k hlt
      have hb2 : b0 < wr.heap.size := Nat.lt_of_lt_of_le hb HB.out.size
      rw [← World.cell?_of_block (w := w) (w' := wr) (HB.out.block b0 hb)] at c1
      clear hcs h0
      go_wp2_with fail
      refine (enter_any _ _ _ _ _ _ HR.out HN.out).mono ?_
      rintro e w2 ⟨r, L', d', m', rfl, hr, hN, hk2⟩
      have HE := Lib.hid (And.intro hr (And.intro hN (HB.out.trans (hk2.below HB.out.size fun k _ h => by omega))))
      clear hr hN hk2
      go_wp2
      go_roundw
      case rel => exact ⟨k + 1, d', m', L', by omega, by go_num, HE.out.1, HE.out.2.1, HE.out.2.2⟩
      case measure => simp [intOf]; omega
    · clear h0
      go_wp2_with fail
      refine (list_any _ _ _ _ _ hd32 HN.out).mono ?_
      rintro e w1 ⟨g, rfl, hg, hl, k1⟩
      have HN1 := Lib.hid (HN.out.none k1)
      have HB1 := Lib.hid (HB.out.trans (k1.below HB.out.size fun _ _ h => h.elim))
      have HL1 := Lib.hid hl
      have gn := HN.out.lt
      have gl := lt_of hl
      have sz := HB.out.size
      clear hl k1 HN HB
      go_wp2_with fail
      refine (copy_any _ _ _ _ _ HN1.out).mono ?_
      rintro e w2 ⟨rfl, hc, k2⟩
      have HD : Hid (Down w w2 w.heap.size w1.heap.size g L d m d) := Lib.hid ⟨HB1.out.trans (k2.below HB1.out.size fun _ _ h => h.elim), HN1.out.none k2, hc, by rw [row_full]; exact k2.at HL1.out fun h => h, by omega, by omega, by omega, by omega, by omega⟩
      generalize hcn : w1.heap.size = c at HD ⊢
      clear hc k2 HB1 HL1 HN1 hcn
      go_wp2_with fail
      refine (deep_any _ _ _ _ _ HD.out.copy).mono ?_
      rintro e w3 ⟨rfl, rfl⟩
      go_wp2_with fail
      obtain ⟨wo, hwo⟩ : ∃ wo : World, wo = w2 := ⟨_, rfl⟩
      go_loopw [7] (fun i wr => ∃ k : Nat, k ≤ d ∧ i = .int .i64 ((k : Int) - 1) ∧ Down w wr w.heap.size c g L d m k) (fun i _ => (intOf i + 1).toNat)
      case atStart => exact ⟨d, by omega, rfl, HD.out⟩
      case round =>
        clear HD hwo
        obtain ⟨k2, hk2, rfl, hD⟩ := hrel
        have HD := Lib.hid hD
        clear hD
        by_cases hk0 : k2 = 0
        · subst hk0
          simp only [Int.natCast_zero, Int.zero_sub]
          by_cases hd0 : d = 0
          · subst hd0
            go_wp2_with fail
            refine (leave_none _ _ _ _ HD.out.nest).mono ?_
            rintro e w' ⟨rfl, rfl⟩
            go_wp2_with fail
            refine (leave_nil _).mono ?_
            rintro e w' ⟨rfl, rfl⟩
            go_wp2_with fail
            refine (top_zero _ _ _ _ HD.out.nest).mono ?_
            rintro e w' ⟨rfl, rfl⟩
            go_wp2_with fail
            refine (deep_any _ _ _ _ _ HD.out.copy).mono ?_
            rintro e w' ⟨rfl, rfl⟩
            go_wp2_with fail
            refine (list_any _ _ _ _ _ (by omega) HD.out.copy).mono ?_
            rintro e w4 ⟨g2, rfl, hg2, hl2, k4⟩
            have HD4 := Lib.hid (HD.out.none k4)
            clear HD k4 hl2 hg2
            go_wp2_with fail
            refine (same_zero _ _ _ _ _).mono ?_
            rintro e w' ⟨rfl, rfl⟩
            go_wp2_with fail
            refine (enter_nil _ _).mono ?_
            rintro e w6 ⟨rfl, k6⟩
            have HD6 := Lib.hid (HD4.out.none k6)
            clear HD4 k6
            go_wp2_with fail
            refine (top_nil _).mono ?_
            rintro e w' ⟨rfl, rfl⟩
            go_wp2_with fail
            refine (deep_nil _).mono ?_
            rintro e w' ⟨rfl, rfl⟩
            go_wp2_with fail
            refine (most_nil _).mono ?_
            rintro e w' ⟨rfl, rfl⟩
            go_wp2_with fail
            refine (list_nil _).mono ?_
            rintro e w' ⟨rfl, rfl⟩
            go_wp2_with fail
            refine (copy_nil _).mono ?_
            rintro e w' ⟨rfl, rfl⟩
            go_wp2_with fail
            refine (alive08_any _).mono ?_
            rintro e w7 ⟨rfl, hb⟩
            go_wp2
            go_ret
            exact ⟨rfl, HD6.out.below.trans (hb.mono HD6.out.below.size)⟩
          · have hpos : decide ((0 : Int) < (d : Int)) = true := by simp; omega
            go_wp2_with fail
            refine (leave_none _ _ _ _ HD.out.nest).mono ?_
            rintro e w' ⟨rfl, rfl⟩
            go_wp2_with fail
            refine (leave_nil _).mono ?_
            rintro e w' ⟨rfl, rfl⟩
            go_wp2_with fail
            refine (top_zero _ _ _ _ HD.out.nest).mono ?_
            rintro e w' ⟨rfl, rfl⟩
            go_wp2_with fail
            refine (deep_any _ _ _ _ _ HD.out.copy).mono ?_
            rintro e w' ⟨rfl, rfl⟩
            go_wp2_with fail
            refine (list_any _ _ _ _ _ (by omega) HD.out.copy).mono ?_
            rintro e w4 ⟨g2, rfl, hg2, hl2, k4⟩
            have HD4 := Lib.hid (HD.out.none k4)
            have x0 : w4.cell? ⟨g2, 0, none⟩ = some (.int .i64 (L 0)) := by
              rw [cell_of hl2]
              rw [← row_full, row_get L d d 0 (by omega), if_pos (by omega)]
            have y0 : w4.cell? ⟨g, 0, none⟩ = some (.int .i64 99) := by
              rw [cell_of HD4.out.list, row_get L d 0 0 (by omega), if_neg (by omega)]
            have l0 := HR.out.hi 0 (by omega)
            clear HD k4 hl2 hg2
            go_wp2_with fail
            refine (same_diff _ _ _ (L 0) 99 _ (by omega) hd32 (by simp; omega) x0 y0).mono ?_
            rintro e w5 ⟨rfl, k5⟩
            have HD5 := Lib.hid (HD4.out.none k5)
            clear HD4 x0 y0 k5
            go_wp2_with fail
            refine (enter_nil _ _).mono ?_
            rintro e w6 ⟨rfl, k6⟩
            have HD6 := Lib.hid (HD5.out.none k6)
            clear HD5 k6
            go_wp2_with fail
            refine (top_nil _).mono ?_
            rintro e w' ⟨rfl, rfl⟩
            go_wp2_with fail
            refine (deep_nil _).mono ?_
            rintro e w' ⟨rfl, rfl⟩
            go_wp2_with fail
            refine (most_nil _).mono ?_
            rintro e w' ⟨rfl, rfl⟩
            go_wp2_with fail
            refine (list_nil _).mono ?_
            rintro e w' ⟨rfl, rfl⟩
            go_wp2_with fail
            refine (copy_nil _).mono ?_
            rintro e w' ⟨rfl, rfl⟩
            go_wp2_with fail
            refine (alive08_any _).mono ?_
            rintro e w7 ⟨rfl, hb⟩
            go_wp2
            go_ret
            exact ⟨rfl, HD6.out.below.trans (hb.mono HD6.out.below.size)⟩
        · obtain ⟨j, rfl⟩ : ∃ j, k2 = j + 1 := ⟨k2 - 1, by omega⟩
          have ej : (((j + 1 : Nat) : Int) - 1) = (j : Int) := by omega
          rw [ej]
          have lo := HR.out.lo j (by omega)
          have hi := HR.out.hi j (by omega)
          have hneg : decide (L j < 0) = false := by simp; omega
          have hbig : decide (31 < L j) = false := by simp; omega
          have cj : wr.cell? ⟨g, j, none⟩ = some (.int .i64 (L j)) := by
            rw [cell_of HD.out.list, row_get L d _ j (by omega), if_pos (by omega)]
          have gl2 := lt_of HD.out.list
          by_cases hj : 0 < j
          · have up := HR.out.up (j - 1) (by omega)
            rw [show j - 1 + 1 = j by omega] at up
            have hup : decide (L j ≤ L (j - 1)) = false := by simp; omega
            have ci : wr.cell? ⟨g, j - 1, none⟩ = some (.int .i64 (L (j - 1))) := by
              rw [cell_of HD.out.list, row_get L d _ (j - 1) (by omega), if_pos (by omega)]
            go_wp2_with fail
            go_quiet (fail)
            have HD1 := Lib.hid (HD.out.drewN nq)
            clear HD
            go_wp2_with fail
            refine (leave_some _ _ j _ _ (by omega) HD1.out.nest).mono ?_
            rintro e w3 ⟨rfl, h3, k3⟩
            obtain ⟨q1, q2, q3⟩ := HD1.out.leave h3 k3 0
            have cj3 : w3.cell? ⟨g, j, none⟩ = some (.int .i64 (L j)) := by
              rw [cell_of q3, row_get L d _ j (by omega), if_pos (by omega)]
            have fj3 : w3.frozen? ⟨g, j, none⟩ = false := free_of q3 j
            have gl3 := lt_of q3
            have HE := Lib.hid (HD1.out.round h3 k3 (by omega))
            clear h3 k3 q1 q2 q3 HD1
            go_wp2
            go_roundw
            case rel => exact ⟨j, by omega, rfl, HE.out⟩
            case measure => simp [intOf]
          · have hnj : decide ((0 : Int) < (j : Int)) = false := by simp; omega
            go_wp2_with fail
            go_quiet (fail)
            have HD1 := Lib.hid (HD.out.drewN nq)
            clear HD
            go_wp2_with fail
            refine (leave_some _ _ j _ _ (by omega) HD1.out.nest).mono ?_
            rintro e w3 ⟨rfl, h3, k3⟩
            obtain ⟨q1, q2, q3⟩ := HD1.out.leave h3 k3 0
            have cj3 : w3.cell? ⟨g, j, none⟩ = some (.int .i64 (L j)) := by
              rw [cell_of q3, row_get L d _ j (by omega), if_pos (by omega)]
            have fj3 : w3.frozen? ⟨g, j, none⟩ = false := free_of q3 j
            have gl3 := lt_of q3
            have HE := Lib.hid (HD1.out.round h3 k3 (by omega))
            clear h3 k3 q1 q2 q3 HD1
            go_wp2
            go_roundw
            case rel => exact ⟨j, by omega, rfl, HE.out⟩
            case measure => simp [intOf]

set_option maxRecDepth 20000 in
theorem nestRises_large (a0 : Option Addr) (n cap0 : Nat) (w : World) (hn : n ≤ maxLen) (h : 200 < n) :
    Calls Try.prog 6 #[.slice a0 n cap0] w fun e w' => e = .returned (.bool true) ∧ Below w.heap.size w w' := by
  unfold maxLen at hn
  go_enter Try.func6, Try.ntmps6
  go_wp2_with fail
  refine (alive08_any _).mono ?_
  rintro e w6 ⟨rfl, hb⟩
  go_wp2
  go_ret
  exact ⟨rfl, hb⟩

set_option maxRecDepth 100000 in
theorem nestRises_walk {H : Type} {enc : TypeId × Value → H} (W : World) (base : Nat) {v0 : Value} {d0 : DataW H} {p0 : List MemPlace}
    (k0 : Value.okWide Try.prog W .any base 35 v0) (h0 : DataW.Trod enc Try.prog W 0 (fun _ => true) true 35 v0 d0 p0) :
    Calls Try.prog 6 #[v0] W fun e w' => e = .returned (.bool true) ∧ Below W.heap.size W w' := by
  obtain ⟨a0, n0, c0, rfl⟩ := okWide_slice Try.underlying35 k0
  obtain ⟨a, n, c, e, hl0, hm0, r0⟩ := (reads_of h0).rows Try.underlying35 (n := 1) (by kernel_rfl) (by omega)
  simp [Value.cells] at e
  obtain ⟨rfl, rfl, rfl⟩ := e
  by_cases hlarge : 200 < n0
  · exact nestRises_large _ _ _ W (by omega) hlarge
  · have q0 : ∃ F : Nat → Int, 0 < n0 → ∃ b off, a0 = some ⟨b, off, none⟩ ∧ b < W.heap.size ∧ ∀ i, i < n0 → W.cell? ⟨b, off + i, none⟩ = some (.int .i64 (F i)) := by
      by_cases hp : 0 < n0
      · obtain ⟨b, off, rfl, hb, hr⟩ := r0 hp
        obtain ⟨F, hF⟩ := Deep.choose_lt (n := n0) (p := fun i (x : Int) => W.cell? ⟨b, off + i, none⟩ = some (.int .i64 x)) (fun i hi => by
          obtain ⟨cs', _, hc, hrd⟩ := hr i hi
          obtain ⟨x, rfl, hx⟩ := hrd.int Try.underlying3
          have := hc 0 (by omega)
          simp at this
          exact ⟨x, this⟩)
        exact ⟨F, fun _ => ⟨b, off, rfl, hb, hF⟩⟩
      · exact ⟨fun _ => 0, fun h => absurd h hp⟩
    obtain ⟨F, q0⟩ := q0
    exact nestRises_plain _ _ _ F W (by omega) q0
end Go.Proofs.Ytffhmlngnnfaeac
