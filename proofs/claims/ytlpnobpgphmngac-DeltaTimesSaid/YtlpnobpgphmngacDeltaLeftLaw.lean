import Derived.Test.YtlpnobpgphmngacDeltaAlive
namespace Go.Proofs.Ytlpnobpgphmngac
open Go.ChangeShapes Go.WideShapes Go.ChangeAt Go.RowKit
set_option linter.unusedVariables false
/-- A slice of n words, of which X tells. -/
def URow (w : World) (a : Option Addr) (n : Nat) (X : Nat → Nat) : Prop := 0 < n → ∃ b off, a = some ⟨b, off, none⟩ ∧ b < w.heap.size ∧ ∀ i, i < n → w.cell? ⟨b, off + i, none⟩ = some (.int .u32 (X i : Int))
set_option maxRecDepth 100000 in
/-- A slice of words, read. -/
theorem urow_of {H : Type} {enc : TypeId × Value → H} {W : World} {base : Nat} {v : Value} {d : DataW H} {p : List MemPlace}
    (k : Value.okWide Try.prog W .any base 48 v) (h : DataW.Trod enc Try.prog W 0 (fun _ => true) true 48 v d p) :
    ∃ (a : Option Addr) (n cap : Nat) (X : Nat → Nat), v = .slice a n cap ∧ n ≤ maxLen ∧ URow W a n X ∧ ∀ i, i < n → X i < 4294967296 := by
  obtain ⟨a0, n0, c0, rfl⟩ := okWide_slice Try.underlying48 k
  obtain ⟨a, n, c, e, hl, hm, r⟩ := (reads_of h).rows Try.underlying48 (n := 1) (by kernel_rfl) (by omega)
  simp [Value.cells] at e
  obtain ⟨rfl, rfl, rfl⟩ := e
  rcases Nat.eq_zero_or_pos n0 with rfl | hp
  · exact ⟨a0, 0, c0, fun _ => 0, rfl, by omega, fun h => by omega, fun i hi => by omega⟩
  · obtain ⟨b, off, rfl, hb, hr⟩ := r hp
    obtain ⟨F, hF⟩ := Deep.choose_lt (n := n0) (p := fun i (x : Nat) => W.cell? ⟨b, off + i, none⟩ = some (.int .u32 (x : Int)) ∧ x < 4294967296) (fun i hi => by
      obtain ⟨cs', _, hc, hrd⟩ := hr i hi
      obtain ⟨x, rfl, hx⟩ := hrd.int Try.underlying31
      have := hc 0 (by omega)
      simp at this
      have hx2 : 0 ≤ x ∧ x ≤ 4294967295 := by simpa [Lit.wf, IntKind.min, IntKind.max, IntKind.signed, IntKind.bits] using hx
      obtain ⟨y, rfl⟩ := Int.eq_ofNat_of_zero_le hx2.1
      exact ⟨y, this, by omega⟩)
    exact ⟨_, n0, c0, F, rfl, by omega, fun _ => ⟨b, off, rfl, hb, fun i hi => (hF i hi).1⟩, fun i hi => (hF i hi).2⟩
theorem DAt.congr {w w1 : World} {D m : Nat} {T T' : Int → Nat} (h : DAt w w1 D T m) (e : ∀ t, T' t = T t) : DAt w w1 D T' m := by
  rw [show T' = T from funext e]; exact h
theorem DAt.mono {w w1 : World} {D m m' : Nat} {T : Int → Nat} (h : DAt w w1 D T m) (e : m ≤ m') : DAt w w1 D T m' := by
  obtain ⟨L, h⟩ := h
  exact ⟨L, h.is, h.abs, Nat.le_trans h.len e, h.below, h.newD, h.newN⟩
theorem DAt.le {w w1 : World} {D m : Nat} {T : Int → Nat} (h : DAt w w1 D T m) : w.heap.size ≤ w1.heap.size := h.below.size
/-- The first k are added. -/
def T1 (X : Nat → Nat) (k : Nat) (t : Int) : Nat := if 0 ≤ t ∧ t < k then X t.toNat else 0
/-- Behind k rounds of loop 2. -/
def T2 (M : Int → Nat) (g : Int) (h k : Nat) (t : Int) : Nat := (if t = g ∧ h < k then 0 else M t) - k
def T3 (M : Int → Nat) (g : Int) (n : Nat) (t : Int) : Nat := (if t = g then 0 else M t) - n
theorem T1_add (X : Nat → Nat) (k : Nat) (t : Int) : T1 X (k + 1) t = if t = (k : Int) then X k else T1 X k t := by
  unfold T1
  by_cases e : t = (k : Int)
  · subst e
    rw [if_pos rfl, if_pos (by omega)]
    rfl
  · rw [if_neg e]
    by_cases h : 0 ≤ t ∧ t < k
    · rw [if_pos h, if_pos (by omega)]
    · rw [if_neg h, if_neg (by omega)]
theorem T1_not (X : Nat → Nat) (k : Nat) (h : X k = 0) (t : Int) : T1 X (k + 1) t = T1 X k t := by
  rw [T1_add]
  split
  · rename_i e
    subst e
    rw [h, T1, if_neg (by omega)]
  · rfl
theorem T2_yes (M : Int → Nat) (g : Int) (h j : Nat) (e : j = h) (t : Int) : T2 M g h (j + 1) t = (if t = g then 0 else T2 M g h j t) - 1 := by
  unfold T2
  by_cases e1 : t = g
  · rw [if_pos ⟨e1, by omega⟩, if_pos e1]; omega
  · rw [if_neg (fun c => e1 c.1), if_neg e1, if_neg (fun c => e1 c.1)]; omega
theorem T2_no (M : Int → Nat) (g : Int) (h j : Nat) (e : j ≠ h) (t : Int) : T2 M g h (j + 1) t = T2 M g h j t - 1 := by
  unfold T2
  by_cases e1 : t = g ∧ h < j
  · rw [if_pos ⟨e1.1, by omega⟩, if_pos e1]; omega
  · rw [if_neg (fun c => e1 ⟨c.1, by omega⟩), if_neg e1]; omega
theorem T2_zero (M : Int → Nat) (g : Int) (n : Nat) (e : n = 0) (t : Int) : T3 M g n t = if t = g then 0 else T2 M g (n / 2) n t := by
  subst e
  unfold T2 T3
  by_cases e1 : t = g
  · rw [if_pos e1, if_pos e1]
  · rw [if_neg e1, if_neg e1, if_neg (fun c => e1 c.1)]
theorem T2_end (M : Int → Nat) (g : Int) (n : Nat) (e : 0 < n) (t : Int) : T3 M g n t = T2 M g (n / 2) n t := by
  unfold T2 T3
  by_cases e1 : t = g
  · rw [if_pos e1, if_pos ⟨e1, by omega⟩]
  · rw [if_neg e1, if_neg (fun c => e1 c.1)]
theorem T3_far (X : Nat → Nat) (g : Int) (k n : Nat) (t : Int) (h : (k : Int) ≤ t) : T3 (T1 X k) g n t = 0 := by
  have e : T1 X k t = 0 := by rw [T1, if_neg (by omega)]
  rw [T3, e]
  split <;> omega
theorem d_left_zero (w w1 : World) (D m : Nat) (T : Int → Nat) (t : Int) (h : DAt w w1 D T m) (h0 : T t = 0) :
    Calls Try.prog 17 #[.pointer (some ⟨D, 0, none⟩), .int .i64 t] w1 fun e w' => e = .returned (.tuple #[.int .u32 0, .bool false]) ∧ DAt w w' D T m := by
  refine (d_left w w1 D m T t h).mono fun e w' ⟨h1, h2⟩ => ⟨?_, h.none h2⟩
  rw [h1, h0]
  rfl
theorem d_left_some (w w1 : World) (D m : Nat) (T : Int → Nat) (t : Int) (x : Nat) (h : DAt w w1 D T m) (h0 : T t = x) (hx : 0 < x) :
    Calls Try.prog 17 #[.pointer (some ⟨D, 0, none⟩), .int .i64 t] w1 fun e w' => e = .returned (.tuple #[.int .u32 (x : Int), .bool true]) ∧ DAt w w' D T m := by
  refine (d_left w w1 D m T t h).mono fun e w' ⟨h1, h2⟩ => ⟨?_, h.none h2⟩
  rw [h1, h0, decide_eq_true (by omega)]
theorem cntT_le (T : Int → Nat) (n : Nat) : cntT T n ≤ n := by
  induction n with
  | zero => exact Nat.le_refl _
  | succ n ih =>
    show cntT T n + (if T n = 0 then 0 else 1) ≤ n + 1
    split <;> omega
theorem cntT_no {T : Int → Nat} {n : Nat} (h : T n = 0) : cntT T (n + 1) = cntT T n := by
  show cntT T n + (if T n = 0 then 0 else 1) = _
  rw [if_pos h, Nat.add_zero]
theorem cntT_yes {T : Int → Nat} {n : Nat} (h : T n ≠ 0) : cntT T (n + 1) = cntT T n + 1 := by
  show cntT T n + (if T n = 0 then 0 else 1) = _
  rw [if_neg h]
section
variable (a0 : Option Addr) (n0 c0 : Nat) (nn gg : Int) (w : World)
set_option maxRecDepth 20000 in
theorem deltaLeft_long (hn : n0 ≤ maxLen) (h : 16 < n0) :
    Calls Try.prog 5 #[.slice a0 n0 c0, .int .i64 nn, .int .i64 gg] w fun e w' => e = .returned (.bool true) ∧ Below w.heap.size w w' := by
  unfold maxLen at hn
  have d0 : decide ((16 : Int) < (n0 : Int)) = true := decide_eq_true (by omega)
  go_enter Try.func5, Try.ntmps5
  go_wp2_with fail
  refine (alive24_any _).mono ?_
  rintro e w1 ⟨rfl, k1⟩
  go_wp2
  go_ret
  exact ⟨rfl, k1.none⟩
set_option maxRecDepth 20000 in
theorem deltaLeft_neg (hn : n0 ≤ 16) (h : nn < 0) :
    Calls Try.prog 5 #[.slice a0 n0 c0, .int .i64 nn, .int .i64 gg] w fun e w' => e = .returned (.bool true) ∧ Below w.heap.size w w' := by
  have d0 : decide ((16 : Int) < (n0 : Int)) = false := decide_eq_false (by omega)
  have d1 : decide (nn < 0) = true := decide_eq_true h
  go_enter Try.func5, Try.ntmps5
  go_wp2_with fail
  refine (alive24_any _).mono ?_
  rintro e w1 ⟨rfl, k1⟩
  go_wp2
  go_ret
  exact ⟨rfl, k1.none⟩
set_option maxRecDepth 20000 in
theorem deltaLeft_big (hn : n0 ≤ 16) (h : 60 < nn) :
    Calls Try.prog 5 #[.slice a0 n0 c0, .int .i64 nn, .int .i64 gg] w fun e w' => e = .returned (.bool true) ∧ Below w.heap.size w w' := by
  have d0 : decide ((16 : Int) < (n0 : Int)) = false := decide_eq_false (by omega)
  have d1 : decide (nn < 0) = false := decide_eq_false (by omega)
  have d2 : decide (60 < nn) = true := decide_eq_true h
  go_enter Try.func5, Try.ntmps5
  go_wp2_with fail
  refine (alive24_any _).mono ?_
  rintro e w1 ⟨rfl, k1⟩
  go_wp2
  go_ret
  exact ⟨rfl, k1.none⟩
end
set_option maxHeartbeats 1000000 in
set_option maxRecDepth 20000 in
theorem deltaLeft_plain (a0 : Option Addr) (n0 c0 n : Nat) (gg : Int) (X : Nat → Nat) (w : World) (hn : n0 ≤ 16) (hk : n ≤ 60) (r0 : URow w a0 n0 X) (hX : ∀ i, i < n0 → X i < 4294967296) :
    Calls Try.prog 5 #[.slice a0 n0 c0, .int .i64 (n : Int), .int .i64 gg] w fun e w' => e = .returned (.bool true) ∧ Below w.heap.size w w' := by
  have d0 : decide ((16 : Int) < (n0 : Int)) = false := decide_eq_false (by omega)
  have d1 : decide ((n : Int) < 0) = false := decide_eq_false (by omega)
  have d2 : decide ((60 : Int) < (n : Int)) = false := decide_eq_false (by omega)
  have R0 := Lib.hid r0
  have D0 := Lib.hid (delta_made w)
  have HX := Lib.hid hX
  clear r0 hX
  go_enter Try.func5, Try.ntmps5
  go_wp2_with fail
  obtain ⟨wo, rfl⟩ : ∃ wo : World, wo = w := ⟨_, rfl⟩
  go_loopw [8] (fun i wr => ∃ k : Nat, k ≤ n0 ∧ i = .int .i64 k ∧ DAt wo wr wo.heap.size (T1 X k) k) (fun i _ => n0 - (intOf i).toNat)
  case atStart => exact ⟨0, by omega, rfl, DAt.congr ⟨[], D0.out⟩ fun t => by rw [T1, if_neg (by omega)]⟩
  case round =>
    obtain ⟨k, hk, rfl, hD⟩ := hrel
    have HD := Lib.hid hD
    clear hD
    by_cases hlt : k < n0
    · have d3 : decide ((k : Int) < (n0 : Int)) = true := decide_eq_true (by omega)
      obtain ⟨b, off, rfl, hb, hc⟩ := R0.out (by omega)
      have ck := (HD.out.below.cell (p := ⟨b, off + k, none⟩) hb).trans (hc k hlt)
      clear hc
      go_wp2_with fail
      by_cases h0 : X k = 0
      · refine (d_add_no wo _ wo.heap.size k (T1 X k) (k : Int) (X k) HD.out (fun hh => Nat.lt_irrefl 0 (h0 ▸ hh.2.2))).mono ?_
        rintro e w2 ⟨rfl, h2⟩
        have HE := Lib.hid ((h2.mono (Nat.le_succ k)).congr (T1_not X k h0))
        clear h2 HD
        go_wp2
        go_roundw
        case rel => exact ⟨k + 1, by omega, by go_num, HE.out⟩
        case measure => simp [intOf]; omega
      · have hX := HX.out k hlt
        have ht0 : T1 X k (k : Int) = 0 := by rw [T1, if_neg (by omega)]
        refine (d_add' wo _ wo.heap.size k (T1 X k) (k : Int) (X k) HD.out ht0 ⟨by omega, by omega⟩ (Nat.pos_of_ne_zero h0) hX).mono ?_
        rintro e w2 ⟨rfl, h2⟩
        have HE := Lib.hid (h2.congr (T1_add X k))
        clear h2 HD
        go_wp2
        go_roundw
        case rel => exact ⟨k + 1, by omega, by go_num, HE.out⟩
        case measure => simp [intOf]; omega
    · obtain rfl : k = n0 := by omega
      have d3 : decide ((k : Int) < (k : Int)) = false := decide_eq_false (by omega)
      go_wp2_with fail
      go_loopw [9] (fun i wr2 => ∃ j : Nat, j ≤ n ∧ i = .int .i64 j ∧ DAt wo wr2 wo.heap.size (T2 (T1 X k) gg (n / 2) j) k) (fun i _ => n - (intOf i).toNat)
      case atStart => exact ⟨0, by omega, rfl, HD.out.congr fun t => by unfold T2; rw [if_neg (by omega)]; rfl⟩
      case round =>
        obtain ⟨j, hj, rfl, hE⟩ := hrel
        have HE := Lib.hid hE
        clear hE HD
        by_cases hjn : j < n
        · have d4 : decide ((j : Int) < (n : Int)) = true := decide_eq_true (by omega)
          by_cases hq : j = n / 2
          · have d5 : ((j : Int) == (n : Int) / 2) = true := beq_iff_eq.mpr (by omega)
            have HT := Lib.hid (T2_yes (T1 X k) gg (n / 2) j hq)
            clear hq
            go_wp2_with fail
            refine (d_rem wo _ wo.heap.size k _ gg HE.out).mono ?_
            rintro e w2 ⟨rfl, h2⟩
            have HF := Lib.hid h2
            clear h2 HE
            go_wp2_with fail
            refine (d_tick wo _ wo.heap.size k _ HF.out (by omega)).mono ?_
            rintro e w3 ⟨v3, rfl, h3⟩
            have HG := Lib.hid (h3.congr HT.out)
            clear h3 HF
            go_wp2
            go_roundw
            case rel => exact ⟨j + 1, by omega, by go_num, HG.out⟩
            case measure => simp [intOf]; omega
          · have d5 : ((j : Int) == (n : Int) / 2) = false := beq_eq_false_iff_ne.mpr (by omega)
            have HT := Lib.hid (T2_no (T1 X k) gg (n / 2) j hq)
            clear hq
            go_wp2_with fail
            refine (d_tick wo _ wo.heap.size k _ HE.out (by omega)).mono ?_
            rintro e w3 ⟨v3, rfl, h3⟩
            have HG := Lib.hid (h3.congr HT.out)
            clear h3 HE
            go_wp2
            go_roundw
            case rel => exact ⟨j + 1, by omega, by go_num, HG.out⟩
            case measure => simp [intOf]; omega
        · obtain rfl : j = n := by omega
          have d4 : decide ((j : Int) < (j : Int)) = false := decide_eq_false (by omega)
          by_cases hz : j = 0
          · have d5 : ((j : Int) == 0) = true := beq_iff_eq.mpr (by omega)
            have HT := Lib.hid (T2_zero (T1 X k) gg j hz)
            clear hz
            go_wp2_with fail
            refine (d_rem wo _ wo.heap.size k _ gg HE.out).mono ?_
            rintro e w2 ⟨rfl, h2⟩
            have HF := Lib.hid (h2.congr HT.out)
            clear h2 HE HT
            go_wp2_with fail
            go_loopw [10, 11] (fun s i wr3 => ∃ q : Nat, q ≤ k ∧ s = .int .i64 ((cntT (T3 (T1 X k) gg j) q : Nat) : Int) ∧ i = .int .i64 q ∧ DAt wo wr3 wo.heap.size (T3 (T1 X k) gg j) k) (fun _ i _ => k - (intOf i).toNat)
            case atStart => exact ⟨0, by omega, rfl, rfl, HF.out⟩
            case round =>
              obtain ⟨q, hqk, rfl, rfl, hG⟩ := hrel
              have HG := Lib.hid hG
              clear hG HF
              by_cases hlt3 : q < k
              · have d7 : decide ((q : Int) < (k : Int)) = true := decide_eq_true (by omega)
                obtain ⟨b, off, rfl, hb, hc⟩ := R0.out (by omega)
                have HC := Lib.hid hc
                clear hc
                have hXq := HX.out q hlt3
                have hcs := cntT_le (T3 (T1 X k) gg j) q
                by_cases hg : (q : Int) = gg
                · have d8 : ((q : Int) == gg) = true := beq_iff_eq.mpr hg
                  have d9 : ((q : Int) = gg) = True := eq_true hg
                  have d12 : ((q : Int) != gg) = false := by rw [bne, d8]; rfl
                  have hT : T3 (T1 X k) gg j (q : Int) = 0 := by rw [T3, if_pos hg, Nat.zero_sub]
                  have HK := Lib.hid (cntT_no hT)
                  clear hg
                  go_wp2_with fail
                  refine (d_left_zero wo _ wo.heap.size k _ (q : Int) HG.out hT).mono ?_
                  rintro e w4 ⟨rfl, h4⟩
                  have HH := Lib.hid h4
                  clear h4 HG hT
                  go_wp2
                  go_roundw
                  case rel => exact ⟨q + 1, by omega, by rw [HK.out], by go_num, HH.out⟩
                  case measure => simp [intOf]; omega
                · have d8 : ((q : Int) == gg) = false := beq_eq_false_iff_ne.mpr hg
                  have d9 : ((q : Int) = gg) = False := eq_false hg
                  have d12 : ((q : Int) != gg) = true := by rw [bne, d8]; rfl
                  by_cases hx : j < X q
                  · have hT : T3 (T1 X k) gg j (q : Int) = X q - j := by rw [T3, if_neg hg, T1, if_pos ⟨by omega, by omega⟩]; rfl
                    have HK := Lib.hid (cntT_yes (T := T3 (T1 X k) gg j) (n := q) (by rw [hT]; omega))
                    clear hg
                    go_wp2_with fail
                    refine (d_left_some wo _ wo.heap.size k _ (q : Int) (X q - j) HG.out hT (by omega)).mono ?_
                    rintro e w4 ⟨rfl, h4⟩
                    have HH := Lib.hid h4
                    clear h4 HG hT
                    have hc4 : w4.cell? ⟨b, off + q, none⟩ = some (.int .u32 (X q : Int)) := (HH.out.below.cell (p := ⟨b, off + q, none⟩) hb).trans (HC.out q hlt3)
                    have d10 : decide ((j : Int) < (X q : Int)) = true := decide_eq_true (by omega)
                    have d11 : ((X q - j : Nat) : Int) = (X q : Int) - (j : Int) := by omega
                    go_wp2
                    go_roundw
                    case rel => exact ⟨q + 1, by omega, by rw [HK.out]; go_num, by go_num, HH.out⟩
                    case measure => simp [intOf]; omega
                  · have hT : T3 (T1 X k) gg j (q : Int) = 0 := by rw [T3, if_neg hg, T1, if_pos ⟨by omega, by omega⟩]; show X q - j = 0; omega
                    have HK := Lib.hid (cntT_no hT)
                    clear hg
                    go_wp2_with fail
                    refine (d_left_zero wo _ wo.heap.size k _ (q : Int) HG.out hT).mono ?_
                    rintro e w4 ⟨rfl, h4⟩
                    have HH := Lib.hid h4
                    clear h4 HG hT
                    have hc4 : w4.cell? ⟨b, off + q, none⟩ = some (.int .u32 (X q : Int)) := (HH.out.below.cell (p := ⟨b, off + q, none⟩) hb).trans (HC.out q hlt3)
                    have d10 : decide ((j : Int) < (X q : Int)) = false := decide_eq_false (by omega)
                    go_wp2
                    go_roundw
                    case rel => exact ⟨q + 1, by omega, by rw [HK.out], by go_num, HH.out⟩
                    case measure => simp [intOf]; omega
              · obtain rfl : q = k := by omega
                have d7 : decide ((q : Int) < (q : Int)) = false := decide_eq_false (by omega)
                have HN := Lib.hid (T3_far X gg q j)
                go_wp2_with fail
                refine (d_len wo _ wo.heap.size q q _ HG.out (by omega) HN.out).mono ?_
                rintro e w5 ⟨rfl, k5⟩
                have HH := Lib.hid (HG.out.none k5)
                clear k5 HG
                go_wp2_with fail
                refine (alive24_any _).mono ?_
                rintro e w6 ⟨rfl, k6⟩
                go_wp2
                go_ret
                exact ⟨rfl, (HH.out.none k6).below⟩
          · have d5 : ((j : Int) == 0) = false := beq_eq_false_iff_ne.mpr (by omega)
            have HF := Lib.hid (HE.out.congr (T2_end (T1 X k) gg j (by omega)))
            clear hz HE
            go_wp2_with fail
            go_loopw [10, 11] (fun s i wr3 => ∃ q : Nat, q ≤ k ∧ s = .int .i64 ((cntT (T3 (T1 X k) gg j) q : Nat) : Int) ∧ i = .int .i64 q ∧ DAt wo wr3 wo.heap.size (T3 (T1 X k) gg j) k) (fun _ i _ => k - (intOf i).toNat)
            case atStart => exact ⟨0, by omega, rfl, rfl, HF.out⟩
            case round =>
              obtain ⟨q, hqk, rfl, rfl, hG⟩ := hrel
              have HG := Lib.hid hG
              clear hG HF
              by_cases hlt3 : q < k
              · have d7 : decide ((q : Int) < (k : Int)) = true := decide_eq_true (by omega)
                obtain ⟨b, off, rfl, hb, hc⟩ := R0.out (by omega)
                have HC := Lib.hid hc
                clear hc
                have hXq := HX.out q hlt3
                have hcs := cntT_le (T3 (T1 X k) gg j) q
                by_cases hg : (q : Int) = gg
                · have d8 : ((q : Int) == gg) = true := beq_iff_eq.mpr hg
                  have d9 : ((q : Int) = gg) = True := eq_true hg
                  have d12 : ((q : Int) != gg) = false := by rw [bne, d8]; rfl
                  have hT : T3 (T1 X k) gg j (q : Int) = 0 := by rw [T3, if_pos hg, Nat.zero_sub]
                  have HK := Lib.hid (cntT_no hT)
                  clear hg
                  go_wp2_with fail
                  refine (d_left_zero wo _ wo.heap.size k _ (q : Int) HG.out hT).mono ?_
                  rintro e w4 ⟨rfl, h4⟩
                  have HH := Lib.hid h4
                  clear h4 HG hT
                  go_wp2
                  go_roundw
                  case rel => exact ⟨q + 1, by omega, by rw [HK.out], by go_num, HH.out⟩
                  case measure => simp [intOf]; omega
                · have d8 : ((q : Int) == gg) = false := beq_eq_false_iff_ne.mpr hg
                  have d9 : ((q : Int) = gg) = False := eq_false hg
                  have d12 : ((q : Int) != gg) = true := by rw [bne, d8]; rfl
                  by_cases hx : j < X q
                  · have hT : T3 (T1 X k) gg j (q : Int) = X q - j := by rw [T3, if_neg hg, T1, if_pos ⟨by omega, by omega⟩]; rfl
                    have HK := Lib.hid (cntT_yes (T := T3 (T1 X k) gg j) (n := q) (by rw [hT]; omega))
                    clear hg
                    go_wp2_with fail
                    refine (d_left_some wo _ wo.heap.size k _ (q : Int) (X q - j) HG.out hT (by omega)).mono ?_
                    rintro e w4 ⟨rfl, h4⟩
                    have HH := Lib.hid h4
                    clear h4 HG hT
                    have hc4 : w4.cell? ⟨b, off + q, none⟩ = some (.int .u32 (X q : Int)) := (HH.out.below.cell (p := ⟨b, off + q, none⟩) hb).trans (HC.out q hlt3)
                    have d10 : decide ((j : Int) < (X q : Int)) = true := decide_eq_true (by omega)
                    have d11 : ((X q - j : Nat) : Int) = (X q : Int) - (j : Int) := by omega
                    go_wp2
                    go_roundw
                    case rel => exact ⟨q + 1, by omega, by rw [HK.out]; go_num, by go_num, HH.out⟩
                    case measure => simp [intOf]; omega
                  · have hT : T3 (T1 X k) gg j (q : Int) = 0 := by rw [T3, if_neg hg, T1, if_pos ⟨by omega, by omega⟩]; show X q - j = 0; omega
                    have HK := Lib.hid (cntT_no hT)
                    clear hg
                    go_wp2_with fail
                    refine (d_left_zero wo _ wo.heap.size k _ (q : Int) HG.out hT).mono ?_
                    rintro e w4 ⟨rfl, h4⟩
                    have HH := Lib.hid h4
                    clear h4 HG hT
                    have hc4 : w4.cell? ⟨b, off + q, none⟩ = some (.int .u32 (X q : Int)) := (HH.out.below.cell (p := ⟨b, off + q, none⟩) hb).trans (HC.out q hlt3)
                    have d10 : decide ((j : Int) < (X q : Int)) = false := decide_eq_false (by omega)
                    go_wp2
                    go_roundw
                    case rel => exact ⟨q + 1, by omega, by rw [HK.out], by go_num, HH.out⟩
                    case measure => simp [intOf]; omega
              · obtain rfl : q = k := by omega
                have d7 : decide ((q : Int) < (q : Int)) = false := decide_eq_false (by omega)
                have HN := Lib.hid (T3_far X gg q j)
                go_wp2_with fail
                refine (d_len wo _ wo.heap.size q q _ HG.out (by omega) HN.out).mono ?_
                rintro e w5 ⟨rfl, k5⟩
                have HH := Lib.hid (HG.out.none k5)
                clear k5 HG
                go_wp2_with fail
                refine (alive24_any _).mono ?_
                rintro e w6 ⟨rfl, k6⟩
                go_wp2
                go_ret
                exact ⟨rfl, (HH.out.none k6).below⟩
set_option maxRecDepth 100000 in
theorem deltaLeft_walk {H : Type} {enc : TypeId × Value → H} (W : World) (base : Nat) {v0 v1 v2 : Value} {d0 d1 d2 : DataW H} {p0 p1 p2 : List MemPlace}
    (k0 : Value.okWide Try.prog W .any base 48 v0) (h0 : DataW.Trod enc Try.prog W 0 (fun _ => true) true 48 v0 d0 p0)
    (k1 : Value.okWide Try.prog W .any base 3 v1) (h1 : DataW.Trod enc Try.prog W 0 (fun _ => true) true 3 v1 d1 p1)
    (k2 : Value.okWide Try.prog W .any base 3 v2) (h2 : DataW.Trod enc Try.prog W 0 (fun _ => true) true 3 v2 d2 p2) :
    Calls Try.prog 5 #[v0, v1, v2] W fun e w' => e = .returned (.bool true) ∧ Below W.heap.size W w' := by
  obtain ⟨a, n0, c0, X, rfl, hn, r0, hX⟩ := urow_of k0 h0
  obtain ⟨nn, rfl⟩ := okWide_int Try.underlying3 k1
  obtain ⟨gg, rfl⟩ := okWide_int Try.underlying3 k2
  by_cases c1 : 16 < n0
  · exact deltaLeft_long a n0 c0 nn gg W hn c1
  · by_cases c2 : nn < 0
    · exact deltaLeft_neg a n0 c0 nn gg W (by omega) c2
    · by_cases c3 : 60 < nn
      · exact deltaLeft_big a n0 c0 nn gg W (by omega) c3
      · obtain ⟨n, rfl⟩ := Int.eq_ofNat_of_zero_le (Int.not_lt.mp c2)
        exact deltaLeft_plain a n0 c0 n gg X W (by omega) (by omega) r0 hX
end Go.Proofs.Ytlpnobpgphmngac
