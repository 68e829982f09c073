import Derived.Test.YtlpnobpgphmngacDeltaOrd
import Derived.Deep.RegionHeld3
namespace Go.Proofs.Ytlpnobpgphmngac
open Go.ChangeShapes Go.WideShapes Go.ChangeAt Go.RowKit
set_option linter.unusedVariables false
set_option maxRecDepth 20000 in
theorem deltaTimes_long (a0 : Option Addr) (n0 c0 : Nat) (gg : Int) (w : World) (hn : n0 ≤ maxLen) (h : 16 < n0) :
    Calls Try.prog 4 #[.slice a0 n0 c0, .int .i64 gg] w fun e w' => e = .returned (.bool true) ∧ Below w.heap.size w w' := by
  unfold maxLen at hn
  have d0 : decide ((16 : Int) < (n0 : Int)) = true := decide_eq_true (by omega)
  go_enter Try.func4, Try.ntmps4
  go_wp2_with fail
  refine (alive24_any _).mono ?_
  rintro e w1 ⟨rfl, k1⟩
  go_wp2
  go_ret
  exact ⟨rfl, k1.none⟩
theorem T1_lt {X : Nat → Nat} {k : Nat} (t : Int) (h : T1 X k t ≠ 0) : t < (k : Int) := by
  rcases Int.lt_or_le t k with c | c
  · exact c
  · exact absurd (by rw [T1, if_neg (by omega)]) h
theorem T1_at (X : Nat → Nat) (k : Nat) : T1 X k (k : Int) = 0 := by rw [T1, if_neg (by omega)]
theorem so_rem0 (w w1 : World) (D m : Nat) (T : Int → Nat) (t : Int) (h : DSo w w1 D T m) (h0 : T t = 0) :
    Calls Try.prog 12 #[.pointer (some ⟨D, 0, none⟩), .int .i64 t] w1 fun e w' => e = .returned (.tuple #[.int .u32 0, .bool false]) ∧ DSo w w' D (T3 T t 0) m := by
  refine (so_rem w w1 D m T t h).mono fun e w' ⟨h1, h2⟩ => ⟨?_, h2.congr fun z => rfl⟩
  rw [h1, h0]
  rfl
theorem so_rem1 (w w1 : World) (D m : Nat) (T : Int → Nat) (t : Int) (x : Nat) (h : DSo w w1 D T m) (h0 : T t = x) (hx : 0 < x) :
    Calls Try.prog 12 #[.pointer (some ⟨D, 0, none⟩), .int .i64 t] w1 fun e w' => e = .returned (.tuple #[.int .u32 (x : Int), .bool true]) ∧ DSo w w' D (T3 T t 0) m := by
  refine (so_rem w w1 D m T t h).mono fun e w' ⟨h1, h2⟩ => ⟨?_, h2.congr fun z => rfl⟩
  rw [h1, h0, decide_eq_true (by omega)]
theorem cntT_zero {T : Int → Nat} (h : ∀ t, T t = 0) (n : Nat) : cntT T n = 0 := by
  induction n with
  | zero => rfl
  | succ n ih => rw [cntT_no (h n), ih]
theorem d_len_zero (w w1 : World) (D m : Nat) (T : Int → Nat) (h : DAt w w1 D T m) (hm : m ≤ 1000) (hz : ∀ t, T t = 0) :
    Calls Try.prog 19 #[.pointer (some ⟨D, 0, none⟩)] w1 fun e w' => e = .returned (.int .i64 0) ∧ Keeps (fun _ => False) w1 w' := by
  refine (d_len w w1 D m 0 T h hm fun t _ => hz t).mono fun e w' ⟨h1, h2⟩ => ⟨h1, h2⟩
theorem T3_step (M : Int → Nat) (g : Int) (z : Nat) (t : Int) : T3 M g (z + 1) t = T3 M g z t - 1 := by
  unfold T3; omega
theorem T3_done (X : Nat → Nat) (g : Int) (k : Nat) (h : ∀ i, i < k → X i ≤ 60) (t : Int) : T3 (T1 X k) g 60 t = 0 := by
  have : T1 X k t ≤ 60 := by
    unfold T1
    split
    · rename_i c
      exact h t.toNat (by omega)
    · omega
  unfold T3
  split <;> omega
theorem T3_one {X : Nat → Nat} {g : Int} {k z i : Nat} (hi : i < k) : T3 (T1 X k) g z (i : Int) = 1 ↔ (X i = z + 1 ∧ (i : Int) ≠ g) := by
  have e : T1 X k (i : Int) = X i := by rw [T1, if_pos ⟨by omega, by omega⟩]; rfl
  unfold T3
  rw [e]
  by_cases c : (i : Int) = g
  · rw [if_pos c]; omega
  · rw [if_neg c]; omega
/-- How far the answer of Tick has been read, before task i. -/
structure Read (n : Nat) (F : Nat → Int) (m i : Nat) : Prop where
  le : m ≤ n
  lo : ∀ j, j < m → F j < (i : Int)
  hi : ∀ j, m ≤ j → j < n → (i : Int) ≤ F j
theorem Read.zero {T : Int → Nat} {n : Nat} {F : Nat → Int} (h : Told T n F) (hp : ∀ t : Int, T t ≠ 0 → 0 ≤ t) : Read n F 0 0 :=
  ⟨Nat.zero_le _, fun j hj => absurd hj (Nat.not_lt_zero _), fun j _ hj => hp _ (by rw [h.one j hj]; omega)⟩
theorem Read.hit {T : Int → Nat} {n : Nat} {F : Nat → Int} {m i : Nat} (h : Told T n F) (r : Read n F m i) (hi : T (i : Int) = 1) : m < n ∧ F m = (i : Int) ∧ Read n F (m + 1) (i + 1) := by
  obtain ⟨j, hj, he⟩ := h.all i hi
  have h1 : m ≤ j := by
    rcases Nat.lt_or_ge j m with c | c
    · have := r.lo j c; omega
    · exact c
  have h2 : j = m := by
    rcases Nat.lt_or_ge m j with c | c
    · have := h.up m j c hj
      have := r.hi m (Nat.le_refl _) (by omega)
      omega
    · omega
  subst h2
  refine ⟨hj, he, ⟨hj, fun q hq => ?_, fun q hq hqn => ?_⟩⟩
  · by_cases c : q = j
    · subst c; omega
    · have := r.lo q (by omega); omega
  · have := h.up j q (by omega) hqn; omega
theorem Read.miss {T : Int → Nat} {n : Nat} {F : Nat → Int} {m i : Nat} (h : Told T n F) (r : Read n F m i) (hi : T (i : Int) ≠ 1) : Read n F m (i + 1) := by
  refine ⟨r.le, fun q hq => by have := r.lo q hq; omega, fun q hq hqn => ?_⟩
  have h1 := r.hi q hq hqn
  have h2 := h.one q hqn
  have h3 : F q ≠ (i : Int) := fun e => hi (by rw [← e]; exact h2)
  omega
theorem Read.done {T : Int → Nat} {n k : Nat} {F : Nat → Int} {m : Nat} (h : Told T n F) (r : Read n F m k) (hp : ∀ t : Int, T t ≠ 0 → t < k) : m = n := by
  have := r.le
  rcases Nat.lt_or_ge m n with c | c
  · have h1 := r.hi m (Nat.le_refl _) c
    have h2 := h.one m c
    have h3 := hp (F m) (by omega)
    omega
  · omega
theorem T3_in {X : Nat → Nat} {g : Int} {k z : Nat} (t : Int) (h : T3 (T1 X k) g z t ≠ 0) : 0 ≤ t ∧ t < (k : Int) := by
  have h1 : T1 X k t ≠ 0 := by
    intro e
    unfold T3 at h
    rw [e] at h
    split at h <;> omega
  refine ⟨?_, T1_lt t h1⟩
  rcases Int.lt_or_le t 0 with c | c
  · exact absurd (by rw [T1, if_neg (by omega)]) h1
  · exact c
set_option maxHeartbeats 4000000 in
set_option maxRecDepth 20000 in
theorem deltaTimes_plain (a0 : Option Addr) (n0 c0 : Nat) (gg : Int) (X : Nat → Nat) (w : World) (hn : n0 ≤ 16) (r0 : URow w a0 n0 X) (hX : ∀ i, i < n0 → X i < 4294967296) :
    Calls Try.prog 4 #[.slice a0 n0 c0, .int .i64 gg] w fun e w' => e = .returned (.bool true) ∧ Below w.heap.size w w' := by
  have d0 : decide ((16 : Int) < (n0 : Int)) = false := decide_eq_false (by omega)
  have R0 := Lib.hid r0
  have D0 := Lib.hid (so_made w)
  have HX := Lib.hid hX
  clear r0 hX
  go_enter Try.func4, Try.ntmps4
  go_wp2_with fail
  obtain ⟨wo, rfl⟩ : ∃ wo : World, wo = w := ⟨_, rfl⟩
  go_loopw [6] (fun i wr => ∃ k : Nat, k ≤ n0 ∧ i = .int .i64 k ∧ (∀ i, i < k → X i ≤ 60) ∧ DSo wo wr wo.heap.size (T1 X k) k) (fun i _ => n0 - (intOf i).toNat)
  case atStart => exact ⟨0, by omega, rfl, fun i h => absurd h (Nat.not_lt_zero _), DSo.congr D0.out fun t => by rw [T1, if_neg (by omega)]⟩
  case round =>
    obtain ⟨k, hk, rfl, hle, hD⟩ := hrel
    have HD := Lib.hid (And.intro hle hD)
    clear hD hle
    by_cases hlt : k < n0
    · have d3 : decide ((k : Int) < (n0 : Int)) = true := decide_eq_true (by omega)
      obtain ⟨b, off, rfl, hb, hc⟩ := R0.out (by omega)
      have hck := hc k hlt
      have ck := (HD.out.2.at.below.cell (p := ⟨b, off + k, none⟩) hb).trans hck
      clear hc
      by_cases hbig : 60 < X k
      · have d4 : decide ((60 : Int) < (X k : Int)) = true := decide_eq_true (by omega)
        clear hck
        go_wp2_with fail
        go_quiet (fail)
        have ck1 : (wr.drewN nq).cell? ⟨b, off + k, none⟩ = some (.int .u32 (X k : Int)) := ck
        go_wp2_with fail
        refine (alive24_any _).mono ?_
        rintro e w1 ⟨rfl, k1⟩
        have HB := Lib.hid ((HD.out.2.at.none (((Keeps.refl _ _).drewN nq).trans k1)).below)
        go_wp2
        go_ret
        exact ⟨rfl, HB.out⟩
      · have d4 : decide ((60 : Int) < (X k : Int)) = false := decide_eq_false (by omega)
        by_cases hz : X k = 0
        · rw [hz] at ck d4 hck
          have HCK := Lib.hid hck
          have HZ := Lib.hid hz
          clear hz hck
          go_wp2_with fail
          go_region_held3 (fun w' => w'.cell? ⟨b, off + k, none⟩ = some (.int .u32 0))
            (first
              | go_keep
              | exact ck9)
            ((go_at_call 10; refine (so_add_no wo _ wo.heap.size k (T1 X k) (k : Int) 0 (HD.out.2.none (Keeps.refl _ _).drew) (T1_at X k) ⟨by omega, by omega⟩ rfl).mono ?_; rintro e w9 ⟨rfl, h9⟩; have HE := Lib.hid h9; have ck9 : w9.cell? ⟨b, off + k, none⟩ = some (.int .u32 0) := (h9.at.below.cell (p := ⟨b, off + k, none⟩) hb).trans HCK.out; clear h9))
          go_wp2
          go_roundw
          case rel => exact ⟨k + 1, by omega, by go_num, fun i hi => by
            rcases Nat.lt_or_ge i k with c | c
            · exact HD.out.1 i c
            · rw [show i = k by omega, HZ.out]; omega, (HE.out.mono (Nat.le_succ k)).congr (T1_not X k HZ.out)⟩
          case measure => simp [intOf]; omega
        · have HCK := Lib.hid hck
          have d5 : decide ((0 : Int) < (X k : Int)) = true := decide_eq_true (by omega)
          have d6 : decide (0 < X k) = true := decide_eq_true (by omega)
          have HZ := Lib.hid (show X k ≤ 60 by omega)
          have hXk : X k < 4294967296 := by omega
          have HP := Lib.hid (Nat.pos_of_ne_zero hz)
          clear hz hck
          go_wp2_with fail
          go_region_held3 (fun w' => w'.cell? ⟨b, off + k, none⟩ = some (.int .u32 (X k : Int)))
            (first
              | go_keep
              | exact ck9)
            ((go_at_call 10; refine (so_add wo _ wo.heap.size k (T1 X k) (k : Int) (X k) (HD.out.2.none (Keeps.refl _ _).drew) (T1_at X k) ⟨by omega, by omega⟩ HP.out hXk T1_lt).mono ?_; rintro e w9 ⟨rfl, h9⟩; have HE := Lib.hid h9; have ck9 : w9.cell? ⟨b, off + k, none⟩ = some (.int .u32 (X k : Int)) := (h9.at.below.cell (p := ⟨b, off + k, none⟩) hb).trans HCK.out; clear h9))
          go_wp2
          go_roundw
          case rel => exact ⟨k + 1, by omega, by go_num, fun i hi => by
            rcases Nat.lt_or_ge i k with c | c
            · exact HD.out.1 i c
            · rw [show i = k by omega]; exact HZ.out, HE.out.congr (T1_add X k)⟩
          case measure => simp [intOf]; omega
    · obtain rfl : k = n0 := by omega
      have d3 : decide ((k : Int) < (k : Int)) = false := decide_eq_false (by omega)
      have HLE := Lib.hid HD.out.1
      have HE := Lib.hid HD.out.2
      clear HD
      go_wp2_with fail
      by_cases hg0 : gg < 0
      · have d5 : decide ((0 : Int) ≤ gg) = false := decide_eq_false (by omega)
        have hT : T1 X k gg = 0 := by rw [T1, if_neg (by omega)]
        clear hg0
        refine (so_rem0 wo _ wo.heap.size k (T1 X k) gg HE.out hT).mono ?_
        rintro e w2 ⟨rfl, h2⟩
        have HF := Lib.hid h2
        clear h2 HE hT
        go_wp2_with fail
        refine (so_copy wo _ wo.heap.size k _ HF.out (by omega)).mono ?_
        rintro e w3 ⟨C, M, rfl, hM, h3⟩
        have HG := Lib.hid h3
        clear h3 HF
        go_wp2_with fail
        go_loopw [10] (fun i wr2 => ∃ z : Nat, z ≤ 60 ∧ i = .int .i64 ((z : Int) + 1) ∧ DCo wo wr2 wo.heap.size (T3 (T1 X k) gg z) k C M) (fun i _ => 61 - (intOf i).toNat)
        case atStart => exact ⟨0, by omega, rfl, HG.out⟩
        case round =>
          obtain ⟨z, hz, rfl, hH⟩ := hrel
          have HH := Lib.hid hH
          clear hH HG
          by_cases hz60 : z < 60
          · have d10 : decide ((z : Int) + 1 ≤ 60) = true := decide_eq_true (by omega)
            go_wp2_with fail
            refine (co_tick wo _ wo.heap.size k C M _ HH.out (by omega)).mono ?_
            rintro e w4 ⟨ta, tn, tc, F, rfl, htn, hrow, htold, h4⟩
            have HI := Lib.hid h4
            have HTOLD := Lib.hid htold
            have HROW := Lib.hid hrow
            clear h4 htold hrow HH
            go_wp2_with fail
            go_loopw [12, 13] (fun s i wr3 => ∃ m i0 : Nat, i0 ≤ k ∧ s = .int .i64 m ∧ i = .int .i64 i0 ∧ Read tn F m i0 ∧ wr3 = w4) (fun _ i _ => k - (intOf i).toNat)
            case atStart => exact ⟨0, 0, by omega, rfl, rfl, Read.zero HTOLD.out fun t ht => (T3_in t ht).1, rfl⟩
            case round =>
              obtain ⟨m, i0, hi0, rfl, rfl, hread, rfl⟩ := hrel
              have hmn := hread.le
              have HREAD := Lib.hid hread
              clear hread
              by_cases hik : i0 < k
              · have d11 : decide ((i0 : Int) < (k : Int)) = true := decide_eq_true (by omega)
                obtain ⟨b, off, rfl, hb, hc3⟩ := R0.out (by omega)
                have ci := (HI.out.at.below.cell (p := ⟨b, off + i0, none⟩) hb).trans (hc3 i0 hik)
                clear hc3
                have hXi := HX.out i0 hik
                by_cases hxz : X i0 = z + 1
                · rw [hxz] at ci
                  have HXZ := Lib.hid hxz
                  clear hxz hXi
                  by_cases hig : (i0 : Int) = gg
                  · have d12 : ((i0 : Int) == gg) = true := beq_iff_eq.mpr hig
                    have d13 : ((i0 : Int) = gg) = True := eq_true hig
                    have d14 : ((i0 : Int) != gg) = false := by rw [bne, d12]; rfl
                    have HM := Lib.hid (HREAD.out.miss HTOLD.out (fun c => (T3_one (g := gg) (z := z) hik).mp c |>.2 hig))
                    clear hig
                    go_wp2
                    go_roundw
                    case rel => exact ⟨m, i0 + 1, by omega, rfl, by go_num, HM.out, trivial⟩
                    case measure => simp [intOf]; omega
                  · have d12 : ((i0 : Int) == gg) = false := beq_eq_false_iff_ne.mpr hig
                    have d13 : ((i0 : Int) = gg) = False := eq_false hig
                    have d14 : ((i0 : Int) != gg) = true := by rw [bne, d12]; rfl
                    obtain ⟨hmt, hFm, hr3⟩ := HREAD.out.hit HTOLD.out ((T3_one (g := gg) (z := z) hik).mpr ⟨HXZ.out, hig⟩)
                    have HM := Lib.hid hr3
                    have d15 : decide ((tn : Int) ≤ (m : Int)) = false := decide_eq_false (by omega)
                    obtain ⟨tb, to, rfl, htb, htc⟩ := HROW.out (by omega)
                    have cm := htc m hmt
                    rw [hFm] at cm
                    clear hig hr3 htc hFm
                    go_wp2
                    go_roundw
                    case rel => exact ⟨m + 1, i0 + 1, by omega, by go_num, by go_num, HM.out, trivial⟩
                    case measure => simp [intOf]; omega
                · have d16 : ((X i0 : Int) == (z : Int) + 1) = false := beq_eq_false_iff_ne.mpr (by omega)
                  have HM := Lib.hid (HREAD.out.miss HTOLD.out (fun c => hxz ((T3_one (g := gg) (z := z) hik).mp c).1))
                  have hxz2 : ¬ ((X i0 : Int) = (z : Int) + 1) := by omega
                  go_wp2
                  go_roundw
                  case rel => exact ⟨m, i0 + 1, by omega, rfl, by go_num, HM.out, trivial⟩
                  case measure => simp [intOf]; omega
              · obtain rfl : i0 = k := by omega
                have d11 : decide ((i0 : Int) < (i0 : Int)) = false := decide_eq_false (by omega)
                have hmn2 : m = tn := HREAD.out.done HTOLD.out fun t ht => (T3_in t ht).2
                subst hmn2
                have HJ := Lib.hid (HI.out.congr (T3_step (T1 X i0) gg z))
                go_wp2
                go_roundw
                case rel => exact ⟨z + 1, by omega, by go_num, HJ.out⟩
                case measure => simp [intOf]; omega
          · obtain rfl : z = 60 := by omega
            have HZ0 := Lib.hid (T3_done X gg k HLE.out)
            go_wp2_with fail
            refine (nrem _ _).mono ?_
            rintro e w5 ⟨rfl, k5⟩
            go_wp2_with fail
            refine (nleft _ _).mono ?_
            rintro e w6 ⟨rfl, k6⟩
            have HI := Lib.hid (HH.out.none (k5.trans k6))
            clear k5 k6 HH
            go_wp2_with fail
            refine (d_len_zero wo _ wo.heap.size k _ HI.out.at (by omega) HZ0.out).mono ?_
            rintro e w7 ⟨rfl, k7⟩
            have HJ := Lib.hid (HI.out.none k7)
            clear k7 HI
            go_wp2_with fail
            refine (dlen C M _ HJ.out.cp (by omega)).mono ?_
            rintro e w8 ⟨rfl, k8⟩
            have HK := Lib.hid (HJ.out.none k8)
            clear k8 HJ
            go_wp2_with fail
            refine (dlist C M _ HK.out.cp (by omega)).mono ?_
            rintro e w9 ⟨v9, rfl, ho9, k9⟩
            obtain ⟨a9, c9, rfl, _⟩ := Row.ofOwn ho9
            have HL := Lib.hid (HK.out.none k9)
            clear k9 HK ho9
            go_wp2_with fail
            refine (nadd _ _ _).mono ?_
            rintro e w10 ⟨rfl, k10⟩
            go_wp2_with fail
            refine (ntick _).mono ?_
            rintro e w11 ⟨rfl, k11⟩
            go_wp2_with fail
            refine (nlen _).mono ?_
            rintro e w12 ⟨rfl, k12⟩
            go_wp2_with fail
            refine (nlist _).mono ?_
            rintro e w13 ⟨rfl, k13⟩
            go_wp2_with fail
            refine (ncopy _).mono ?_
            rintro e w14 ⟨rfl, k14⟩
            go_wp2_with fail
            refine (alive24_any _).mono ?_
            rintro e w15 ⟨rfl, k15⟩
            have HB := Lib.hid ((HL.out.none (((((k10.trans k11).trans k12).trans k13).trans k14).trans k15)).at.below)
            clear k10 k11 k12 k13 k14 k15 HL
            go_wp2
            go_ret
            exact ⟨rfl, HB.out⟩
      · have d5 : decide ((0 : Int) ≤ gg) = true := decide_eq_true (by omega)
        obtain ⟨q, rfl⟩ := Int.eq_ofNat_of_zero_le (Int.not_lt.mp hg0)
        clear hg0
        by_cases hgk : q < k
        · have d6 : decide ((q : Int) < (k : Int)) = true := decide_eq_true (by omega)
          obtain ⟨b, off, rfl, hb, hc⟩ := R0.out (by omega)
          have HC := Lib.hid hc
          clear hc
          by_cases hq : X q = 0
          · have hT : T1 X k (q : Int) = 0 := by rw [T1, if_pos ⟨by omega, by omega⟩]; exact hq
            refine (so_rem0 wo _ wo.heap.size k (T1 X k) (q : Int) HE.out hT).mono ?_
            rintro e w2 ⟨rfl, h2⟩
            have HF := Lib.hid h2
            have cq : w2.cell? ⟨b, off + q, none⟩ = some (.int .u32 0) := (h2.at.below.cell (p := ⟨b, off + q, none⟩) hb).trans (by rw [HC.out q hgk, hq]; rfl)
            clear h2 HE hT hq
            go_wp2_with fail
            refine (so_copy wo _ wo.heap.size k _ HF.out (by omega)).mono ?_
            rintro e w3 ⟨C, M, rfl, hM, h3⟩
            have HG := Lib.hid h3
            clear h3 HF
            go_wp2_with fail
            go_loopw [10] (fun i wr2 => ∃ z : Nat, z ≤ 60 ∧ i = .int .i64 ((z : Int) + 1) ∧ DCo wo wr2 wo.heap.size (T3 (T1 X k) (q : Int) z) k C M) (fun i _ => 61 - (intOf i).toNat)
            case atStart => exact ⟨0, by omega, rfl, HG.out⟩
            case round =>
              obtain ⟨z, hz, rfl, hH⟩ := hrel
              have HH := Lib.hid hH
              clear hH HG
              by_cases hz60 : z < 60
              · have d10 : decide ((z : Int) + 1 ≤ 60) = true := decide_eq_true (by omega)
                go_wp2_with fail
                refine (co_tick wo _ wo.heap.size k C M _ HH.out (by omega)).mono ?_
                rintro e w4 ⟨ta, tn, tc, F, rfl, htn, hrow, htold, h4⟩
                have HI := Lib.hid h4
                have HTOLD := Lib.hid htold
                have HROW := Lib.hid hrow
                clear h4 htold hrow HH
                go_wp2_with fail
                go_loopw [12, 13] (fun s i wr3 => ∃ m i0 : Nat, i0 ≤ k ∧ s = .int .i64 m ∧ i = .int .i64 i0 ∧ Read tn F m i0 ∧ wr3 = w4) (fun _ i _ => k - (intOf i).toNat)
                case atStart => exact ⟨0, 0, by omega, rfl, rfl, Read.zero HTOLD.out fun t ht => (T3_in t ht).1, rfl⟩
                case round =>
                  obtain ⟨m, i0, hi0, rfl, rfl, hread, rfl⟩ := hrel
                  have hmn := hread.le
                  have HREAD := Lib.hid hread
                  clear hread
                  by_cases hik : i0 < k
                  · have d11 : decide ((i0 : Int) < (k : Int)) = true := decide_eq_true (by omega)
                    have hc3 := HC.out
                    have ci := (HI.out.at.below.cell (p := ⟨b, off + i0, none⟩) hb).trans (hc3 i0 hik)
                    clear hc3
                    have hXi := HX.out i0 hik
                    by_cases hxz : X i0 = z + 1
                    · rw [hxz] at ci
                      have HXZ := Lib.hid hxz
                      clear hxz hXi
                      by_cases hig : (i0 : Int) = (q : Int)
                      · have d12 : ((i0 : Int) == (q : Int)) = true := beq_iff_eq.mpr hig
                        have d13 : ((i0 : Int) = (q : Int)) = True := eq_true hig
                        have d14 : ((i0 : Int) != (q : Int)) = false := by rw [bne, d12]; rfl
                        have HM := Lib.hid (HREAD.out.miss HTOLD.out (fun c => (T3_one (g := (q : Int)) (z := z) hik).mp c |>.2 hig))
                        clear hig
                        go_wp2
                        go_roundw
                        case rel => exact ⟨m, i0 + 1, by omega, rfl, by go_num, HM.out, trivial⟩
                        case measure => simp [intOf]; omega
                      · have d12 : ((i0 : Int) == (q : Int)) = false := beq_eq_false_iff_ne.mpr hig
                        have d13 : ((i0 : Int) = (q : Int)) = False := eq_false hig
                        have d14 : ((i0 : Int) != (q : Int)) = true := by rw [bne, d12]; rfl
                        obtain ⟨hmt, hFm, hr3⟩ := HREAD.out.hit HTOLD.out ((T3_one (g := (q : Int)) (z := z) hik).mpr ⟨HXZ.out, hig⟩)
                        have HM := Lib.hid hr3
                        have d15 : decide ((tn : Int) ≤ (m : Int)) = false := decide_eq_false (by omega)
                        obtain ⟨tb, to, rfl, htb, htc⟩ := HROW.out (by omega)
                        have cm := htc m hmt
                        rw [hFm] at cm
                        clear hig hr3 htc hFm
                        go_wp2
                        go_roundw
                        case rel => exact ⟨m + 1, i0 + 1, by omega, by go_num, by go_num, HM.out, trivial⟩
                        case measure => simp [intOf]; omega
                    · have d16 : ((X i0 : Int) == (z : Int) + 1) = false := beq_eq_false_iff_ne.mpr (by omega)
                      have HM := Lib.hid (HREAD.out.miss HTOLD.out (fun c => hxz ((T3_one (g := (q : Int)) (z := z) hik).mp c).1))
                      have hxz2 : ¬ ((X i0 : Int) = (z : Int) + 1) := by omega
                      go_wp2
                      go_roundw
                      case rel => exact ⟨m, i0 + 1, by omega, rfl, by go_num, HM.out, trivial⟩
                      case measure => simp [intOf]; omega
                  · obtain rfl : i0 = k := by omega
                    have d11 : decide ((i0 : Int) < (i0 : Int)) = false := decide_eq_false (by omega)
                    have hmn2 : m = tn := HREAD.out.done HTOLD.out fun t ht => (T3_in t ht).2
                    subst hmn2
                    have HJ := Lib.hid (HI.out.congr (T3_step (T1 X i0) (q : Int) z))
                    go_wp2
                    go_roundw
                    case rel => exact ⟨z + 1, by omega, by go_num, HJ.out⟩
                    case measure => simp [intOf]; omega
              · obtain rfl : z = 60 := by omega
                have HZ0 := Lib.hid (T3_done X (q : Int) k HLE.out)
                go_wp2_with fail
                refine (nrem _ _).mono ?_
                rintro e w5 ⟨rfl, k5⟩
                go_wp2_with fail
                refine (nleft _ _).mono ?_
                rintro e w6 ⟨rfl, k6⟩
                have HI := Lib.hid (HH.out.none (k5.trans k6))
                clear k5 k6 HH
                go_wp2_with fail
                refine (d_len_zero wo _ wo.heap.size k _ HI.out.at (by omega) HZ0.out).mono ?_
                rintro e w7 ⟨rfl, k7⟩
                have HJ := Lib.hid (HI.out.none k7)
                clear k7 HI
                go_wp2_with fail
                refine (dlen C M _ HJ.out.cp (by omega)).mono ?_
                rintro e w8 ⟨rfl, k8⟩
                have HK := Lib.hid (HJ.out.none k8)
                clear k8 HJ
                go_wp2_with fail
                refine (dlist C M _ HK.out.cp (by omega)).mono ?_
                rintro e w9 ⟨v9, rfl, ho9, k9⟩
                obtain ⟨a9, c9, rfl, _⟩ := Row.ofOwn ho9
                have HL := Lib.hid (HK.out.none k9)
                clear k9 HK ho9
                go_wp2_with fail
                refine (nadd _ _ _).mono ?_
                rintro e w10 ⟨rfl, k10⟩
                go_wp2_with fail
                refine (ntick _).mono ?_
                rintro e w11 ⟨rfl, k11⟩
                go_wp2_with fail
                refine (nlen _).mono ?_
                rintro e w12 ⟨rfl, k12⟩
                go_wp2_with fail
                refine (nlist _).mono ?_
                rintro e w13 ⟨rfl, k13⟩
                go_wp2_with fail
                refine (ncopy _).mono ?_
                rintro e w14 ⟨rfl, k14⟩
                go_wp2_with fail
                refine (alive24_any _).mono ?_
                rintro e w15 ⟨rfl, k15⟩
                have HB := Lib.hid ((HL.out.none (((((k10.trans k11).trans k12).trans k13).trans k14).trans k15)).at.below)
                clear k10 k11 k12 k13 k14 k15 HL
                go_wp2
                go_ret
                exact ⟨rfl, HB.out⟩
          · have hT : T1 X k (q : Int) = X q := by rw [T1, if_pos ⟨by omega, by omega⟩]; rfl
            have d7 : decide ((0 : Int) < (X q : Int)) = true := decide_eq_true (by omega)
            have d8 : 0 < X q := by omega
            refine (so_rem1 wo _ wo.heap.size k (T1 X k) (q : Int) (X q) HE.out hT (by omega)).mono ?_
            rintro e w2 ⟨rfl, h2⟩
            have HF := Lib.hid h2
            have cq : w2.cell? ⟨b, off + q, none⟩ = some (.int .u32 (X q : Int)) := (h2.at.below.cell (p := ⟨b, off + q, none⟩) hb).trans (HC.out q hgk)
            clear h2 HE hT hq
            go_wp2_with fail
            refine (so_copy wo _ wo.heap.size k _ HF.out (by omega)).mono ?_
            rintro e w3 ⟨C, M, rfl, hM, h3⟩
            have HG := Lib.hid h3
            clear h3 HF
            go_wp2_with fail
            go_loopw [10] (fun i wr2 => ∃ z : Nat, z ≤ 60 ∧ i = .int .i64 ((z : Int) + 1) ∧ DCo wo wr2 wo.heap.size (T3 (T1 X k) (q : Int) z) k C M) (fun i _ => 61 - (intOf i).toNat)
            case atStart => exact ⟨0, by omega, rfl, HG.out⟩
            case round =>
              obtain ⟨z, hz, rfl, hH⟩ := hrel
              have HH := Lib.hid hH
              clear hH HG
              by_cases hz60 : z < 60
              · have d10 : decide ((z : Int) + 1 ≤ 60) = true := decide_eq_true (by omega)
                go_wp2_with fail
                refine (co_tick wo _ wo.heap.size k C M _ HH.out (by omega)).mono ?_
                rintro e w4 ⟨ta, tn, tc, F, rfl, htn, hrow, htold, h4⟩
                have HI := Lib.hid h4
                have HTOLD := Lib.hid htold
                have HROW := Lib.hid hrow
                clear h4 htold hrow HH
                go_wp2_with fail
                go_loopw [12, 13] (fun s i wr3 => ∃ m i0 : Nat, i0 ≤ k ∧ s = .int .i64 m ∧ i = .int .i64 i0 ∧ Read tn F m i0 ∧ wr3 = w4) (fun _ i _ => k - (intOf i).toNat)
                case atStart => exact ⟨0, 0, by omega, rfl, rfl, Read.zero HTOLD.out fun t ht => (T3_in t ht).1, rfl⟩
                case round =>
                  obtain ⟨m, i0, hi0, rfl, rfl, hread, rfl⟩ := hrel
                  have hmn := hread.le
                  have HREAD := Lib.hid hread
                  clear hread
                  by_cases hik : i0 < k
                  · have d11 : decide ((i0 : Int) < (k : Int)) = true := decide_eq_true (by omega)
                    have hc3 := HC.out
                    have ci := (HI.out.at.below.cell (p := ⟨b, off + i0, none⟩) hb).trans (hc3 i0 hik)
                    clear hc3
                    have hXi := HX.out i0 hik
                    by_cases hxz : X i0 = z + 1
                    · rw [hxz] at ci
                      have HXZ := Lib.hid hxz
                      clear hxz hXi
                      by_cases hig : (i0 : Int) = (q : Int)
                      · have d12 : ((i0 : Int) == (q : Int)) = true := beq_iff_eq.mpr hig
                        have d13 : ((i0 : Int) = (q : Int)) = True := eq_true hig
                        have d14 : ((i0 : Int) != (q : Int)) = false := by rw [bne, d12]; rfl
                        have HM := Lib.hid (HREAD.out.miss HTOLD.out (fun c => (T3_one (g := (q : Int)) (z := z) hik).mp c |>.2 hig))
                        clear hig
                        go_wp2
                        go_roundw
                        case rel => exact ⟨m, i0 + 1, by omega, rfl, by go_num, HM.out, trivial⟩
                        case measure => simp [intOf]; omega
                      · have d12 : ((i0 : Int) == (q : Int)) = false := beq_eq_false_iff_ne.mpr hig
                        have d13 : ((i0 : Int) = (q : Int)) = False := eq_false hig
                        have d14 : ((i0 : Int) != (q : Int)) = true := by rw [bne, d12]; rfl
                        obtain ⟨hmt, hFm, hr3⟩ := HREAD.out.hit HTOLD.out ((T3_one (g := (q : Int)) (z := z) hik).mpr ⟨HXZ.out, hig⟩)
                        have HM := Lib.hid hr3
                        have d15 : decide ((tn : Int) ≤ (m : Int)) = false := decide_eq_false (by omega)
                        obtain ⟨tb, to, rfl, htb, htc⟩ := HROW.out (by omega)
                        have cm := htc m hmt
                        rw [hFm] at cm
                        clear hig hr3 htc hFm
                        go_wp2
                        go_roundw
                        case rel => exact ⟨m + 1, i0 + 1, by omega, by go_num, by go_num, HM.out, trivial⟩
                        case measure => simp [intOf]; omega
                    · have d16 : ((X i0 : Int) == (z : Int) + 1) = false := beq_eq_false_iff_ne.mpr (by omega)
                      have HM := Lib.hid (HREAD.out.miss HTOLD.out (fun c => hxz ((T3_one (g := (q : Int)) (z := z) hik).mp c).1))
                      have hxz2 : ¬ ((X i0 : Int) = (z : Int) + 1) := by omega
                      go_wp2
                      go_roundw
                      case rel => exact ⟨m, i0 + 1, by omega, rfl, by go_num, HM.out, trivial⟩
                      case measure => simp [intOf]; omega
                  · obtain rfl : i0 = k := by omega
                    have d11 : decide ((i0 : Int) < (i0 : Int)) = false := decide_eq_false (by omega)
                    have hmn2 : m = tn := HREAD.out.done HTOLD.out fun t ht => (T3_in t ht).2
                    subst hmn2
                    have HJ := Lib.hid (HI.out.congr (T3_step (T1 X i0) (q : Int) z))
                    go_wp2
                    go_roundw
                    case rel => exact ⟨z + 1, by omega, by go_num, HJ.out⟩
                    case measure => simp [intOf]; omega
              · obtain rfl : z = 60 := by omega
                have HZ0 := Lib.hid (T3_done X (q : Int) k HLE.out)
                go_wp2_with fail
                refine (nrem _ _).mono ?_
                rintro e w5 ⟨rfl, k5⟩
                go_wp2_with fail
                refine (nleft _ _).mono ?_
                rintro e w6 ⟨rfl, k6⟩
                have HI := Lib.hid (HH.out.none (k5.trans k6))
                clear k5 k6 HH
                go_wp2_with fail
                refine (d_len_zero wo _ wo.heap.size k _ HI.out.at (by omega) HZ0.out).mono ?_
                rintro e w7 ⟨rfl, k7⟩
                have HJ := Lib.hid (HI.out.none k7)
                clear k7 HI
                go_wp2_with fail
                refine (dlen C M _ HJ.out.cp (by omega)).mono ?_
                rintro e w8 ⟨rfl, k8⟩
                have HK := Lib.hid (HJ.out.none k8)
                clear k8 HJ
                go_wp2_with fail
                refine (dlist C M _ HK.out.cp (by omega)).mono ?_
                rintro e w9 ⟨v9, rfl, ho9, k9⟩
                obtain ⟨a9, c9, rfl, _⟩ := Row.ofOwn ho9
                have HL := Lib.hid (HK.out.none k9)
                clear k9 HK ho9
                go_wp2_with fail
                refine (nadd _ _ _).mono ?_
                rintro e w10 ⟨rfl, k10⟩
                go_wp2_with fail
                refine (ntick _).mono ?_
                rintro e w11 ⟨rfl, k11⟩
                go_wp2_with fail
                refine (nlen _).mono ?_
                rintro e w12 ⟨rfl, k12⟩
                go_wp2_with fail
                refine (nlist _).mono ?_
                rintro e w13 ⟨rfl, k13⟩
                go_wp2_with fail
                refine (ncopy _).mono ?_
                rintro e w14 ⟨rfl, k14⟩
                go_wp2_with fail
                refine (alive24_any _).mono ?_
                rintro e w15 ⟨rfl, k15⟩
                have HB := Lib.hid ((HL.out.none (((((k10.trans k11).trans k12).trans k13).trans k14).trans k15)).at.below)
                clear k10 k11 k12 k13 k14 k15 HL
                go_wp2
                go_ret
                exact ⟨rfl, HB.out⟩
        · have d6 : decide ((q : Int) < (k : Int)) = false := decide_eq_false (by omega)
          have hT : T1 X k (q : Int) = 0 := by rw [T1, if_neg (by omega)]
          refine (so_rem0 wo _ wo.heap.size k (T1 X k) (q : Int) HE.out hT).mono ?_
          rintro e w2 ⟨rfl, h2⟩
          have HF := Lib.hid h2
          clear h2 HE hT
          go_wp2_with fail
          refine (so_copy wo _ wo.heap.size k _ HF.out (by omega)).mono ?_
          rintro e w3 ⟨C, M, rfl, hM, h3⟩
          have HG := Lib.hid h3
          clear h3 HF
          go_wp2_with fail
          go_loopw [10] (fun i wr2 => ∃ z : Nat, z ≤ 60 ∧ i = .int .i64 ((z : Int) + 1) ∧ DCo wo wr2 wo.heap.size (T3 (T1 X k) (q : Int) z) k C M) (fun i _ => 61 - (intOf i).toNat)
          case atStart => exact ⟨0, by omega, rfl, HG.out⟩
          case round =>
            obtain ⟨z, hz, rfl, hH⟩ := hrel
            have HH := Lib.hid hH
            clear hH HG
            by_cases hz60 : z < 60
            · have d10 : decide ((z : Int) + 1 ≤ 60) = true := decide_eq_true (by omega)
              go_wp2_with fail
              refine (co_tick wo _ wo.heap.size k C M _ HH.out (by omega)).mono ?_
              rintro e w4 ⟨ta, tn, tc, F, rfl, htn, hrow, htold, h4⟩
              have HI := Lib.hid h4
              have HTOLD := Lib.hid htold
              have HROW := Lib.hid hrow
              clear h4 htold hrow HH
              go_wp2_with fail
              go_loopw [12, 13] (fun s i wr3 => ∃ m i0 : Nat, i0 ≤ k ∧ s = .int .i64 m ∧ i = .int .i64 i0 ∧ Read tn F m i0 ∧ wr3 = w4) (fun _ i _ => k - (intOf i).toNat)
              case atStart => exact ⟨0, 0, by omega, rfl, rfl, Read.zero HTOLD.out fun t ht => (T3_in t ht).1, rfl⟩
              case round =>
                obtain ⟨m, i0, hi0, rfl, rfl, hread, rfl⟩ := hrel
                have hmn := hread.le
                have HREAD := Lib.hid hread
                clear hread
                by_cases hik : i0 < k
                · have d11 : decide ((i0 : Int) < (k : Int)) = true := decide_eq_true (by omega)
                  obtain ⟨b, off, rfl, hb, hc3⟩ := R0.out (by omega)
                  have ci := (HI.out.at.below.cell (p := ⟨b, off + i0, none⟩) hb).trans (hc3 i0 hik)
                  clear hc3
                  have hXi := HX.out i0 hik
                  by_cases hxz : X i0 = z + 1
                  · rw [hxz] at ci
                    have HXZ := Lib.hid hxz
                    clear hxz hXi
                    by_cases hig : (i0 : Int) = (q : Int)
                    · have d12 : ((i0 : Int) == (q : Int)) = true := beq_iff_eq.mpr hig
                      have d13 : ((i0 : Int) = (q : Int)) = True := eq_true hig
                      have d14 : ((i0 : Int) != (q : Int)) = false := by rw [bne, d12]; rfl
                      have HM := Lib.hid (HREAD.out.miss HTOLD.out (fun c => (T3_one (g := (q : Int)) (z := z) hik).mp c |>.2 hig))
                      clear hig
                      go_wp2
                      go_roundw
                      case rel => exact ⟨m, i0 + 1, by omega, rfl, by go_num, HM.out, trivial⟩
                      case measure => simp [intOf]; omega
                    · have d12 : ((i0 : Int) == (q : Int)) = false := beq_eq_false_iff_ne.mpr hig
                      have d13 : ((i0 : Int) = (q : Int)) = False := eq_false hig
                      have d14 : ((i0 : Int) != (q : Int)) = true := by rw [bne, d12]; rfl
                      obtain ⟨hmt, hFm, hr3⟩ := HREAD.out.hit HTOLD.out ((T3_one (g := (q : Int)) (z := z) hik).mpr ⟨HXZ.out, hig⟩)
                      have HM := Lib.hid hr3
                      have d15 : decide ((tn : Int) ≤ (m : Int)) = false := decide_eq_false (by omega)
                      obtain ⟨tb, to, rfl, htb, htc⟩ := HROW.out (by omega)
                      have cm := htc m hmt
                      rw [hFm] at cm
                      clear hig hr3 htc hFm
                      go_wp2
                      go_roundw
                      case rel => exact ⟨m + 1, i0 + 1, by omega, by go_num, by go_num, HM.out, trivial⟩
                      case measure => simp [intOf]; omega
                  · have d16 : ((X i0 : Int) == (z : Int) + 1) = false := beq_eq_false_iff_ne.mpr (by omega)
                    have HM := Lib.hid (HREAD.out.miss HTOLD.out (fun c => hxz ((T3_one (g := (q : Int)) (z := z) hik).mp c).1))
                    have hxz2 : ¬ ((X i0 : Int) = (z : Int) + 1) := by omega
                    go_wp2
                    go_roundw
                    case rel => exact ⟨m, i0 + 1, by omega, rfl, by go_num, HM.out, trivial⟩
                    case measure => simp [intOf]; omega
                · obtain rfl : i0 = k := by omega
                  have d11 : decide ((i0 : Int) < (i0 : Int)) = false := decide_eq_false (by omega)
                  have hmn2 : m = tn := HREAD.out.done HTOLD.out fun t ht => (T3_in t ht).2
                  subst hmn2
                  have HJ := Lib.hid (HI.out.congr (T3_step (T1 X i0) (q : Int) z))
                  go_wp2
                  go_roundw
                  case rel => exact ⟨z + 1, by omega, by go_num, HJ.out⟩
                  case measure => simp [intOf]; omega
            · obtain rfl : z = 60 := by omega
              have HZ0 := Lib.hid (T3_done X (q : Int) k HLE.out)
              go_wp2_with fail
              refine (nrem _ _).mono ?_
              rintro e w5 ⟨rfl, k5⟩
              go_wp2_with fail
              refine (nleft _ _).mono ?_
              rintro e w6 ⟨rfl, k6⟩
              have HI := Lib.hid (HH.out.none (k5.trans k6))
              clear k5 k6 HH
              go_wp2_with fail
              refine (d_len_zero wo _ wo.heap.size k _ HI.out.at (by omega) HZ0.out).mono ?_
              rintro e w7 ⟨rfl, k7⟩
              have HJ := Lib.hid (HI.out.none k7)
              clear k7 HI
              go_wp2_with fail
              refine (dlen C M _ HJ.out.cp (by omega)).mono ?_
              rintro e w8 ⟨rfl, k8⟩
              have HK := Lib.hid (HJ.out.none k8)
              clear k8 HJ
              go_wp2_with fail
              refine (dlist C M _ HK.out.cp (by omega)).mono ?_
              rintro e w9 ⟨v9, rfl, ho9, k9⟩
              obtain ⟨a9, c9, rfl, _⟩ := Row.ofOwn ho9
              have HL := Lib.hid (HK.out.none k9)
              clear k9 HK ho9
              go_wp2_with fail
              refine (nadd _ _ _).mono ?_
              rintro e w10 ⟨rfl, k10⟩
              go_wp2_with fail
              refine (ntick _).mono ?_
              rintro e w11 ⟨rfl, k11⟩
              go_wp2_with fail
              refine (nlen _).mono ?_
              rintro e w12 ⟨rfl, k12⟩
              go_wp2_with fail
              refine (nlist _).mono ?_
              rintro e w13 ⟨rfl, k13⟩
              go_wp2_with fail
              refine (ncopy _).mono ?_
              rintro e w14 ⟨rfl, k14⟩
              go_wp2_with fail
              refine (alive24_any _).mono ?_
              rintro e w15 ⟨rfl, k15⟩
              have HB := Lib.hid ((HL.out.none (((((k10.trans k11).trans k12).trans k13).trans k14).trans k15)).at.below)
              clear k10 k11 k12 k13 k14 k15 HL
              go_wp2
              go_ret
              exact ⟨rfl, HB.out⟩
set_option maxRecDepth 100000 in
theorem deltaTimes_walk {H : Type} {enc : TypeId × Value → H} (W : World) (base : Nat) {v0 v1 : Value} {d0 d1 : DataW H} {p0 p1 : List MemPlace}
    (k0 : Value.okWide Try.prog W .any base 48 v0) (h0 : DataW.Trod enc Try.prog W 0 (fun _ => true) true 48 v0 d0 p0)
    (k1 : Value.okWide Try.prog W .any base 3 v1) (h1 : DataW.Trod enc Try.prog W 0 (fun _ => true) true 3 v1 d1 p1) :
    Calls Try.prog 4 #[v0, v1] W fun e w' => e = .returned (.bool true) ∧ Below W.heap.size W w' := by
  obtain ⟨a, n0, c0, X, rfl, hn, r0, hX⟩ := urow_of k0 h0
  obtain ⟨gg, rfl⟩ := okWide_int Try.underlying3 k1
  by_cases c1 : 16 < n0
  · exact deltaTimes_long a n0 c0 gg W hn c1
  · exact deltaTimes_plain a n0 c0 gg X W (by omega) r0 hX
end Go.Proofs.Ytlpnobpgphmngac
