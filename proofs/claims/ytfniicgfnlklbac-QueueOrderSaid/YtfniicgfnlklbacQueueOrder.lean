import Derived.Test.YtfniicgfnlklbacQuP
namespace Go.Proofs.Ytfniicgfnlklbac
open Go.ChangeShapes Go.WideShapes Go.ChangeAt Go.RowKit
set_option linter.unusedVariables false
attribute [local go_sem ↓ 2000] app_pre
attribute [local go_sem] app_run
/-- A queue, and its copy. -/
structure QD (w wr : World) (B Q C : Nat) (L N : List QN) : Prop where
  own : OwnQ B wr Q L
  keep : Keeps (fun j => B ≤ j) w wr
  cown : OwnQ C wr C N
  ltQ : Q < C
  lt : ∀ x, x ∈ L → x.g < C
  good : Good L
  le : L.length ≤ N.length
  few : N.length ≤ 40
theorem QD.below {w wr wn : World} {B Q C : Nat} {L N : List QN} (h : QD w wr B Q C L N) (hk : Below wr.heap.size wr wn) : QD w wn B Q C L N :=
  ⟨h.own.below hk, h.keep.trans (keeps_of_below hk (Nat.le_refl _) _), h.cown.below hk, h.ltQ, h.lt, h.good, h.le, h.few⟩
theorem QD.next {w wr : World} {B Q C : Nat} {L N : List QN} (h : QD w wr B Q C L N) (k : Nat) (hk : k ≤ L.length) :
    Calls Try.prog 11 #[.pointer (some ⟨Q, 0, none⟩), .int .i64 (atT L k)] wr fun e W' => e = .returned (.tuple #[wv L[k]?, .bool L[k]?.isSome]) ∧ Below wr.heap.size wr W' := by
  obtain ⟨X, b0, h1, h2, h3⟩ := next_at h.good k hk
  have := Next_scan (some ⟨Q, 0, none⟩) L (atT L k) X b0 wr h.own.qp h1 h2
  rw [h3] at this
  exact this
theorem QD.rem {w wr : World} {B Q C : Nat} {P R N : List QN} {x : QN} (h : QD w wr B Q C (P ++ x :: R) N) :
    Calls Try.prog 7 #[.pointer (some ⟨Q, 0, none⟩), .int .i64 x.t] wr fun e W' => e = .returned (.tuple #[qv x, .bool true]) ∧ QD w W' B Q C (P ++ R) N ∧ Keeps (RS Q (P ++ x :: R)) wr W' := by
  refine (ownq_rem B Q P R x x.t wr w h.own h.keep rfl (good_apart h.good).1).mono ?_
  rintro e W' ⟨rfl, h1, h2, h3⟩
  have hlt : ∀ k, RS Q (P ++ x :: R) k → k < C := fun k hk => by
    rcases hk with rfl | ⟨y, hy, rfl⟩
    · exact h.ltQ
    · exact h.lt y hy
  obtain ⟨b, hc⟩ := h.cown.ring
  refine ⟨rfl, ⟨h1, h2, ⟨⟨b, hc.keeps h3 (fun hk => by have := hlt _ hk; have := h.cown.lowQ; omega) (fun i y hy hk => by have := hlt _ hk; have := h.cown.low y (List.mem_of_getElem? hy); omega)⟩, h.cown.lowQ, h.cown.low⟩, h.ltQ, fun y hy => h.lt y ?_, good_drop h.good, ?_, h.few⟩, h3⟩
  · simp at hy ⊢
    rcases hy with h1 | h1
    · exact .inl h1
    · exact .inr (.inr h1)
  · have := h.le
    simp at this ⊢
    omega
theorem low_cell {w wr : World} {b off : Nat} {u : Value} (hk : Keeps (fun j => w.heap.size ≤ j) w wr) (hb : b < w.heap.size) (h : w.cell? ⟨b, off, none⟩ = some u) : wr.cell? ⟨b, off, none⟩ = some u := (World.cell?_of_block (w := w) (hk.block b hb (by omega))).trans h
theorem QD.start {w wr w' : World} {L : List QN} (hg : Good L) (hq : OwnQ w.heap.size wr w.heap.size L) (hk : Keeps (fun j => w.heap.size ≤ j) w wr) (hl : L.length ≤ 40) (hc : CopyAt wr w' wr.heap.size (joinAll (L.map QN.wait))) (hb : Below wr.heap.size wr w') :
    ∃ N, QD w w' w.heap.size w.heap.size wr.heap.size L N := by
  rw [joinAll_good hg.one] at hc
  obtain ⟨⟨N, h, hN, hmap, hlow⟩, _⟩ := hc
  obtain ⟨b, hr⟩ := hq.ring
  have hlen : N.length = L.length := by have := congrArg List.length hmap; simpa using this
  refine ⟨N, hq.below hb, hk.trans (keeps_of_below hb (Nat.le_refl _) _), ⟨⟨h, hN⟩, Nat.le_refl _, hlow⟩, lt_of hr.head, fun x hx => ?_, hg, by omega, by omega⟩
  obtain ⟨i, hi⟩ := List.getElem?_of_mem hx
  exact lt_of (hr.node i x hi)
theorem QD.gone {w wr : World} {B Q C : Nat} {L N : List QN} (h : QD w wr B Q C L N) (g : Int) {v : Value} {n : Nat} {xs : List Value} (hrow : wr.ownsRow B 3 1 v n xs) :
    ∃ (y : QN) (ok : Bool), ok = decide ((wo L g).length < L.length) ∧ Calls Try.prog 7 #[.pointer (some ⟨Q, 0, none⟩), .int .i64 g] wr fun e W' => e = .returned (.tuple #[qv y, .bool ok]) ∧ QD w W' B Q C (wo L g) N ∧ W'.ownsRow B 3 1 v n xs := by
  cases hf : fnd L g with
  | none =>
    refine ⟨⟨0, 0, 0, 0, 0⟩, false, by rw [wo_none hf]; simp, ?_⟩
    refine (Remove_no _ L g wr h.own.qp hf).mono ?_
    rintro e W' ⟨rfl, hk⟩
    rw [wo_none hf]
    exact ⟨rfl, h.below hk, owns_keeps hrow (keeps_of_below hk (Nat.le_refl _) (fun _ => False)) (fun _ h => h.elim)⟩
  | some x =>
    obtain ⟨P, R, rfl, rfl, hP⟩ := fnd_split hf
    refine ⟨x, true, by rw [wo_drop h.good]; simp, ?_⟩
    obtain ⟨b, hr⟩ := h.own.ring
    refine h.rem.mono ?_
    rintro e W' ⟨rfl, h1, h2⟩
    rw [wo_drop h.good]
    exact ⟨rfl, h1, owns_keeps hrow h2 (RS_int hr)⟩
set_option maxRecDepth 20000 in
theorem queueOrder_long (a b : Option Addr) (n m c c2 : Nat) (W : World) (hn : n ≤ maxLen) (hm : m ≤ maxLen) (h : 40 < n ∨ 40 < m) :
    Calls Try.prog 4 #[.slice a n c, .slice b m c2] W fun e w' => e = .returned (.bool true) ∧ Below W.heap.size W w' := by
  have HA := Lib.hid (alive25_any W)
  by_cases h1 : 40 < n
  · have d0 : decide ((40 : Int) < (n : Int)) = true := decide_eq_true (by omega)
    have d1 : decide (40 < n) = true := decide_eq_true h1
    clear h
    go_enter Try.func4, Try.ntmps4
    go_wp2_with fail
    refine HA.out.mono ?_
    rintro e w' ⟨rfl, hk⟩
    go_wp2
    go_ret
    exact ⟨rfl, hk.none⟩
  · have d0 : decide ((40 : Int) < (n : Int)) = false := decide_eq_false (by omega)
    have d1 : decide (40 < n) = false := decide_eq_false h1
    have d2 : decide ((40 : Int) < (m : Int)) = true := decide_eq_true (by omega)
    have d3 : decide (40 < m) = true := decide_eq_true (by omega)
    clear h
    go_enter Try.func4, Try.ntmps4
    go_wp2_with fail
    refine HA.out.mono ?_
    rintro e w' ⟨rfl, hk⟩
    go_wp2
    go_ret
    exact ⟨rfl, hk.none⟩
set_option maxRecDepth 20000 in
set_option maxHeartbeats 4000000 in
theorem queueOrder_plain (a b : Option Addr) (n m c c2 : Nat) (F G : Nat → Int) (W : World) (hn : n ≤ 40) (hm : m ≤ 40) (hF : Row W a n F) (hG : Row W b m G) :
    Calls Try.prog 4 #[.slice a n c, .slice b m c2] W fun e w' => e = .returned (.bool true) ∧ Below W.heap.size W w' := by
  have HF := Lib.hid hF
  have HG := Lib.hid hG
  have HM := Lib.hid (ownq_made W)
  have d0 : decide ((40 : Int) < (n : Int)) = false := decide_eq_false (by omega)
  have d1 : decide (40 < n) = false := decide_eq_false (by omega)
  have d2 : decide ((40 : Int) < (m : Int)) = false := decide_eq_false (by omega)
  have d3 : decide (40 < m) = false := decide_eq_false (by omega)
  clear hF hG
  go_enter Try.func4, Try.ntmps4
  go_wp2_with fail
  obtain ⟨w, rfl⟩ : ∃ w : World, w = W := ⟨_, rfl⟩
  go_loopw [6, 7] (fun v i wr => ∃ (k : Nat) (L : List QN), k ≤ n ∧ i = .int .i64 (k : Int) ∧ L.length ≤ k ∧ Good L ∧ OwnQ w.heap.size wr w.heap.size L ∧ Keeps (fun j => w.heap.size ≤ j) w wr ∧ wr.ownsRow w.heap.size 3 1 v L.length (tv L)) (fun _ i _ => n - (intOf i).toNat)
  case atStart => exact ⟨0, [], by omega, rfl, Nat.le_refl _, good_nil, HM.out, (Keeps.refl _ _).alloc _, World.ownsRow_nil _ _ _ _⟩
  case round =>
    obtain ⟨k, L, hk, rfl, hLk, hgood, hq, hkeep, hrow⟩ := hrel
    have HH := Lib.hid (And.intro hgood (And.intro hq (And.intro hkeep hrow)))
    clear hgood hq hkeep hrow HM
    by_cases hlt : k < n
    · have d4 : decide ((k : Int) < (n : Int)) = true := decide_eq_true (by omega)
      obtain ⟨b1, off, rfl, hb, hc0⟩ := HF.out (by omega)
      have hck := hc0 k hlt
      have HC := Lib.hid (And.intro hb hck)
      have ck := low_cell HH.out.2.2.1 hb hck
      clear hc0 hck hb
      by_cases hadd : (0 ≤ F k ∧ F k < 16) ∧ fnd L (F k) = none
      · have HP := Lib.hid hadd
        clear hadd
        go_wp2_with fail
        refine (ownq_add w.heap.size w.heap.size L (F k) 0 (k : Int) 0 wr w HH.out.2.1 HH.out.2.2.1 (Nat.le_refl _) HP.out.1 HP.out.2).mono ?_
        rintro e w2 ⟨rfl, g, h1, h2, h3⟩
        obtain ⟨bb, hring⟩ := HH.out.2.1.ring
        have hrow2 := owns_keeps HH.out.2.2.2 h3 (RS_int hring)
        have ck2 := low_cell h2 HC.out.1 HC.out.2
        obtain ⟨g1, cap, w3, hrun, hown3, hk3⟩ := app_int (F k) hrow2 h2.size (by omega)
        have HZ := Lib.hid (And.intro h1 (And.intro h2 (And.intro hown3 hk3)))
        clear h1 h2 h3 hrow2 hown3 hk3 ck hring
        go_wp2
        obtain ⟨h1, h2, hown3, hk3⟩ := HZ.out
        go_roundw
        case rel => exact ⟨k + 1, L ++ [⟨g, F k, 0, (k : Int), 0⟩], by omega, by go_num, by simp; omega, good_add HH.out.1 _ HP.out.1 HP.out.2, h1.ints hk3, h2.trans (hk3.mono fun j _ hj => hj.1), by rw [tv_snoc, List.length_append]; exact hown3⟩
        case measure => simp [intOf]; omega
      · have HP := Lib.hid (show F k < 0 ∨ 16 ≤ F k ∨ fnd L (F k) ≠ none by
          by_cases h1 : 0 ≤ F k ∧ F k < 16
          · exact .inr (.inr fun h2 => hadd ⟨h1, h2⟩)
          · omega)
        clear hadd
        go_wp2_with fail
        refine (ownq_no w.heap.size w.heap.size L (F k) 0 (k : Int) 0 wr w HH.out.2.1 HH.out.2.2.1 HP.out).mono ?_
        rintro e w2 ⟨rfl, h1, h2, h3⟩
        have HZ := Lib.hid (And.intro h1 (And.intro h2 (owns_keeps HH.out.2.2.2 h3 (fun _ h => h.elim))))
        clear h1 h2 h3
        go_wp2
        go_roundw
        case rel => exact ⟨k + 1, L, by omega, by go_num, by omega, HH.out.1, HZ.out.1, HZ.out.2.1, HZ.out.2.2⟩
        case measure => simp [intOf]; omega
    · obtain rfl : k = n := by omega
      have d4 : decide ((k : Int) < (k : Int)) = false := decide_eq_false (by omega)
      clear hlt
      obtain ⟨bb, hring⟩ := HH.out.2.1.ring
      have HCP := Lib.hid (Copy_any w.heap.size L bb wr hring HH.out.1.rng)
      clear hring
      go_wp2_with fail
      refine HCP.out.mono ?_
      rintro e wc ⟨rfl, hcp, hbc⟩
      obtain ⟨N, hQD⟩ := QD.start HH.out.1 HH.out.2.1 HH.out.2.2.1 (by omega) hcp hbc
      have HD := Lib.hid (And.intro hQD (owns_keeps HH.out.2.2.2 (keeps_of_below hbc (Nat.le_refl _) (fun _ => False)) (fun _ h => h.elim)))
      generalize wr.heap.size = C at *
      clear hcp hbc hQD HCP HH
      go_wp2_with fail
      go_loopw [6, 9] (fun v i wr => ∃ (q : Nat) (L : List QN), q ≤ m ∧ i = .int .i64 (q : Int) ∧ QD w wr w.heap.size w.heap.size C L N ∧ wr.ownsRow w.heap.size 3 1 v L.length (tv L)) (fun _ i _ => m - (intOf i).toNat)
      case atStart => exact ⟨0, L, by omega, rfl, HD.out.1, HD.out.2⟩
      case round =>
        clear HD
        obtain ⟨q, L, hq, rfl, hQD, hrow⟩ := hrel
        have HD := Lib.hid (And.intro hQD hrow)
        clear hQD hrow
        by_cases hlt : q < m
        · have d5 : decide ((q : Int) < (m : Int)) = true := decide_eq_true (by omega)
          obtain ⟨b1, off, rfl, hb, hc0⟩ := HG.out (by omega)
          have hck := hc0 q hlt
          have HC := Lib.hid (And.intro hb hck)
          have ck := low_cell HD.out.1.keep hb hck
          clear hc0 hck hb
          obtain ⟨a6, c6, rfl⟩ := owns_slice HD.out.2
          have hfew : L.length ≤ 40 := Nat.le_trans HD.out.1.le HD.out.1.few
          obtain ⟨y, ok, hok, hcall⟩ := HD.out.1.gone (G q) HD.out.2
          have HR := Lib.hid hcall
          have HO := Lib.hid hok
          clear hok hcall HF
          go_wp2_with fail
          refine HR.out.mono ?_
          rintro e w2 ⟨rfl, h1, h2⟩
          have HE := Lib.hid (And.intro h1 h2)
          clear h1 h2 HR ck
          unfold qv
          go_wp2_with fail
          obtain ⟨wi, hwi⟩ : ∃ wi, w2.alloc (.cells #[.int .i64 y.t, .int .i64 y.k, .int .i64 y.o, .int .u32 (y.m : Int)] 27) = wi := ⟨_, rfl⟩
          have hb2 : Below w2.heap.size w2 wi := by rw [← hwi]; exact (Below.refl _ _).alloc (Nat.le_refl _) _
          have HI := Lib.hid (And.intro (HE.out.1.below hb2) (owns_keeps HE.out.2 (keeps_of_below hb2 (Nat.le_refl _) (fun _ => False)) (fun _ h => h.elim)))
          rw [hwi]
          clear hwi hb2 HE HD
          go_loopw [12, 13] (fun v2 j wr2 => ∃ (p : Nat), p ≤ L.length ∧ j = .int .i64 (p : Int) ∧ Below wi.heap.size wi wr2 ∧ wr2.ownsRow wi.heap.size 3 1 v2 (wo (L.take p) (G q)).length (tv (wo (L.take p) (G q)))) (fun _ j _ => L.length - (intOf j).toNat)
          case atStart => exact ⟨0, by omega, rfl, Below.refl _ _, World.ownsRow_nil _ _ _ _⟩
          case round =>
            obtain ⟨p, hp, rfl, hbw, hrow2⟩ := hrel
            have HL := Lib.hid (And.intro hbw hrow2)
            clear hbw hrow2
            by_cases hlt2 : p < L.length
            · have d6 : decide ((p : Int) < (L.length : Int)) = true := decide_eq_true (by omega)
              obtain ⟨x, hx⟩ : ∃ x, L[p]? = some x := ⟨_, List.getElem?_eq_getElem hlt2⟩
              obtain ⟨b6, rfl, hb6, hcx⟩ := owns_cell HI.out.2 hlt2
              rw [tv_get hx] at hcx
              have cx := (HL.out.1.cell (p := ⟨b6, p, none⟩) hb6).trans hcx
              have ck := low_cell (HI.out.1.keep.trans (keeps_of_below HL.out.1 (Nat.le_refl _) _)) HC.out.1 HC.out.2
              have HX := Lib.hid hx
              clear hx hcx
              have hwl := wo_le (L.take p) (G q)
              have htl : (L.take p).length ≤ 40 := by rw [List.length_take]; omega
              go_wp2_with fail
              go_region
              all_goals
                obtain ⟨w4, hw4⟩ : ∃ w4, wr.drew = w4 := ⟨_, rfl⟩
                have hrow4 : w4.ownsRow wi.heap.size 3 1 u12 (wo (L.take p) (G q)).length (tv (wo (L.take p) (G q))) := by rw [← hw4]; exact HL.out.2
                have hb4 : Below wi.heap.size wi w4 := by rw [← hw4]; exact HL.out.1.drew
                have cx4 : w4.cell? ⟨b6, p, none⟩ = some (.int .i64 x.t) := by rw [← hw4]; exact cx
                have lx4 : b6 < w4.heap.size := Nat.lt_of_lt_of_le hb6 hb4.size
                obtain ⟨g1, cap, w5, hrun, hown5, hk5⟩ := app_int x.t hrow4 hb4.size (by omega)
                have HZ := Lib.hid (And.intro hb4 (And.intro hrow4 (And.intro hown5 hk5)))
                rw [hw4]
                clear hw4 hrow4 hb4 hown5 hk5 cx ck
                by_cases hne : x.t = G q
                · have d8 : (x.t == G q) = true := beq_iff_eq.mpr hne
                  have d9 : (x.t != G q) = false := by rw [bne, d8]; rfl
                  have d10 : (x.t = G q) = True := eq_true hne
                  have HN := Lib.hid hne
                  clear hne hrun
                  go_wp2
                  go_roundw
                  case rel => exact ⟨p + 1, by omega, by go_num, HZ.out.1, by rw [wo_take_miss HX.out HN.out]; exact HZ.out.2.1⟩
                  case measure => simp [intOf]; omega
                · have d8 : (x.t == G q) = false := beq_eq_false_iff_ne.mpr hne
                  have d9 : (x.t != G q) = true := by rw [bne, d8]; rfl
                  have d10 : (x.t = G q) = False := eq_false hne
                  have HN := Lib.hid hne
                  clear hne
                  go_wp2
                  go_roundw
                  case rel =>
                    refine ⟨p + 1, by omega, by go_num, HZ.out.1.trans (HZ.out.2.2.2.below HZ.out.1.size fun j _ hj => hj.1), ?_⟩
                    rw [wo_take_hit HX.out HN.out, tv_snoc, List.length_append]
                    exact HZ.out.2.2.1
                  case measure => simp [intOf]; omega
            · obtain rfl : p = L.length := by omega
              have d6 : decide ((L.length : Int) < (L.length : Int)) = false := decide_eq_false (by omega)
              obtain ⟨a12, c12, rfl⟩ := owns_slice HL.out.2
              have hrow2 := HL.out.2
              rw [List.take_length] at hrow2
              have HY := Lib.hid (And.intro (HI.out.1.below HL.out.1) (owns_base hrow2 HI.out.1.keep.size))
              rw [List.take_length]
              clear hrow2 HL HI hlt2 hp
              generalize hnl : (wo L (G q)).length = nl at *
              have HNL := Lib.hid hnl
              clear hnl
              by_cases hl : nl < L.length
              · have d7 : decide ((nl : Int) < (L.length : Int)) = true := decide_eq_true (by omega)
                have hok : ok = true := by rw [HO.out]; exact decide_eq_true hl
                have d7n : decide (nl < L.length) = true := decide_eq_true hl
                have d7p : (nl < L.length) = True := eq_true hl
                subst hok
                clear hl
                go_wp2
                go_roundw
                case rel => exact ⟨q + 1, wo L (G q), by omega, by go_num, HY.out.1, by rw [HNL.out]; exact HY.out.2⟩
                case measure => simp [intOf]; omega
              · have d7 : decide ((nl : Int) < (L.length : Int)) = false := decide_eq_false (by omega)
                have hok : ok = false := by rw [HO.out]; exact decide_eq_false hl
                have d7n : decide (nl < L.length) = false := decide_eq_false hl
                have d7p : (nl < L.length) = False := eq_false hl
                subst hok
                clear hl
                go_wp2
                go_roundw
                case rel => exact ⟨q + 1, wo L (G q), by omega, by go_num, HY.out.1, by rw [HNL.out]; exact HY.out.2⟩
                case measure => simp [intOf]; omega
        · obtain rfl : q = m := by omega
          have d5 : decide ((q : Int) < (q : Int)) = false := decide_eq_false (by omega)
          clear hlt
          have hfew : L.length ≤ 40 := Nat.le_trans HD.out.1.le HD.out.1.few
          obtain ⟨a6, c6, rfl⟩ := owns_slice HD.out.2
          obtain ⟨wz, rfl⟩ : ∃ wz : World, wz = wr := ⟨_, rfl⟩
          go_wp2_with fail
          go_loopw [14, 15] (fun at' i wr3 => ∃ (p : Nat), p ≤ L.length ∧ i = .int .i64 (p : Int) ∧ at' = .int .i64 (atT L p) ∧ Below wz.heap.size wz wr3) (fun _ i _ => L.length - (intOf i).toNat)
          case atStart => exact ⟨0, by omega, rfl, rfl, Below.refl _ _⟩
          case round =>
            obtain ⟨p, hp, rfl, rfl, hbw⟩ := hrel
            have HL := Lib.hid hbw
            clear hbw
            by_cases hlt2 : p < L.length
            · have d6 : decide ((p : Int) < (L.length : Int)) = true := decide_eq_true (by omega)
              obtain ⟨x, hx⟩ : ∃ x, L[p]? = some x := ⟨_, List.getElem?_eq_getElem hlt2⟩
              obtain ⟨b6, rfl, hb6, hcx⟩ := owns_cell HD.out.2 hlt2
              rw [tv_get hx] at hcx
              have hnext := (HD.out.1.below HL.out).next p (by omega)
              rw [hx] at hnext
              have HN := Lib.hid hnext
              have HX := Lib.hid hx
              have HCX := Lib.hid (And.intro hb6 hcx)
              clear hx hcx hb6 hnext
              go_wp2_with fail
              refine HN.out.mono ?_
              rintro e w4 ⟨rfl, hk4⟩
              unfold wv qv
              simp only [Option.isSome]
              go_wp2_with fail
              obtain ⟨wn, hwn⟩ : ∃ wn, w4.alloc (.cells #[.int .i64 x.t, .int .i64 x.k, .int .i64 x.o, .int .u32 (x.m : Int)] 27) = wn := ⟨_, rfl⟩
              have hn := heap_new w4 (.cells #[.int .i64 x.t, .int .i64 x.k, .int .i64 x.o, .int .u32 (x.m : Int)] 27)
              rw [hwn] at hn
              have hbn : Below wz.heap.size wz wn := by rw [← hwn]; exact (HL.out.trans (hk4.mono HL.out.size)).alloc (Nat.le_trans HL.out.size hk4.size) _
              have cn : wn.cell? ⟨w4.heap.size, 0, none⟩ = some (.int .i64 x.t) := cell_of hn 0
              have ln := lt_of hn
              have cx := (hbn.cell (p := ⟨b6, p, none⟩) HCX.out.1).trans HCX.out.2
              have lb6 : b6 < wn.heap.size := Nat.lt_of_lt_of_le HCX.out.1 hbn.size
              have HZ := Lib.hid hbn
              rw [hwn]
              clear hwn hn hbn hk4 HN HL
              have d8 : (x.t == x.t) = true := beq_self_eq_true _
              have d9 : (x.t != x.t) = false := by rw [bne, d8]; rfl
              go_region
              all_goals
                go_wp2
                go_roundw
                case rel => exact ⟨p + 1, by omega, by go_num, by rw [atT_succ HX.out], HZ.out.drew⟩
                case measure => simp [intOf]; omega
            · obtain rfl : p = L.length := by omega
              have d6 : decide ((L.length : Int) < (L.length : Int)) = false := decide_eq_false (by omega)
              have hnext := (HD.out.1.below HL.out).next L.length (by omega)
              rw [List.getElem?_eq_none (Nat.le_refl _)] at hnext
              have HN := Lib.hid hnext
              clear hnext
              go_wp2_with fail
              refine HN.out.mono ?_
              rintro e w4 ⟨rfl, hk4⟩
              unfold wv zv
              simp only [Option.isSome]
              have HQ4 := Lib.hid (((HD.out.1.below HL.out).below hk4).below ((Below.refl _ w4).alloc (Nat.le_refl _) (.cells #[.int .i64 0, .int .i64 0, .int .i64 0, .int .u32 0] 27)))
              clear hk4 HN HL
              have hle := HD.out.1.le
              have hfewN := HD.out.1.few
              have HLN : ∀ (wx : World) (h : QD w wx w.heap.size w.heap.size C L N), Calls Try.prog 20 #[.pointer (some ⟨C, 0, none⟩)] wx fun e W' => e = .returned (.int .i64 (N.length : Int)) ∧ QD w W' w.heap.size w.heap.size C L N := fun wx h => (Len_any _ N wx h.cown.qp (by omega)).mono (by rintro e W' ⟨rfl, hk⟩; exact ⟨rfl, h.below hk⟩)
              have HLQ : ∀ (wx : World) (h : QD w wx w.heap.size w.heap.size C L N), Calls Try.prog 20 #[.pointer (some ⟨w.heap.size, 0, none⟩)] wx fun e W' => e = .returned (.int .i64 (L.length : Int)) ∧ QD w W' w.heap.size w.heap.size C L N := fun wx h => (Len_any _ L wx h.own.qp (by omega)).mono (by rintro e W' ⟨rfl, hk⟩; exact ⟨rfl, h.below hk⟩)
              have HLL : ∀ (wx : World) (h : QD w wx w.heap.size w.heap.size C L N), Calls Try.prog 17 #[.pointer (some ⟨C, 0, none⟩)] wx fun e W' => (∃ a c, e = .returned (.slice a N.length c)) ∧ QD w W' w.heap.size w.heap.size C L N := fun wx h => (List_any _ N wx h.cown.qp (by omega)).mono (by rintro e W' ⟨v, rfl, ho, hk⟩; obtain ⟨a, c, rfl⟩ := owns_slice ho; exact ⟨⟨a, c, rfl⟩, h.below hk⟩)
              have H1 := Lib.hid HLN
              have H2 := Lib.hid HLQ
              have H3 := Lib.hid HLL
              clear HLN HLQ HLL HD hlt2 hp
              generalize hnl : L.length = nl at *
              generalize hNl : N.length = Nl at *
              have HNL := Lib.hid (And.intro hnl hNl)
              clear hnl hNl
              have d12 : decide ((Nl : Int) < (nl : Int)) = false := decide_eq_false (by omega)
              have d13 : decide (Nl < nl) = false := decide_eq_false (by omega)
              have d14 : (Nl < nl) = False := eq_false (by omega)
              rcases Nat.eq_zero_or_pos nl with hz | hz
              · have d15 : decide ((0 : Int) < (nl : Int)) = false := decide_eq_false (by omega)
                have d16 : decide (0 < nl) = false := decide_eq_false (by omega)
                have d17 : (0 < nl) = False := eq_false (by omega)
                have d18 : ((nl : Int) == 0) = true := beq_iff_eq.mpr (by omega)
                have d19 : (nl = 0) = True := eq_true hz
                clear hz
                go_wp2_with fail
                refine (H1.out _ HQ4.out).mono ?_
                rintro e w5 ⟨rfl, q5⟩
                have HQ5 := Lib.hid q5
                clear q5 HQ4
                go_wp2_with fail
                refine (H2.out _ HQ5.out).mono ?_
                rintro e w6 ⟨rfl, q6⟩
                have HQ6 := Lib.hid q6
                clear q6 HQ5
                go_wp2_with fail
                refine (H3.out _ HQ6.out).mono ?_
                rintro e w7 ⟨⟨a7, c7, rfl⟩, q7⟩
                have HQ7 := Lib.hid q7
                clear q7 HQ6
                go_wp2_with fail
                refine (H1.out _ HQ7.out).mono ?_
                rintro e w8 ⟨rfl, q8⟩
                have HQ8 := Lib.hid q8
                clear q8 HQ7
                go_wp2_with fail
                refine (Next_scan none [] 0 ⟨0, 0, 0, 0, 0⟩ true w8 (.inl ⟨rfl, rfl⟩) rfl rfl).mono ?_
                rintro e w9 ⟨rfl, k9⟩
                have HQ9 := Lib.hid ((HQ8.out.below k9).below ((Below.refl _ w9).alloc (Nat.le_refl _) (.cells #[.int .i64 0, .int .i64 0, .int .i64 0, .int .u32 0] 27)))
                rw [show scan (QN.wait ⟨0, 0, 0, 0, 0⟩) true [] = none from rfl]
                unfold wv zv
                simp only [Option.isSome]
                clear k9 HQ8
                go_wp2_with fail
                refine (Find_any none [] 0 _ (.inl ⟨rfl, rfl⟩)).mono ?_
                rintro e w10 ⟨rfl, k10⟩
                have HQ10 := Lib.hid ((HQ9.out.below k10).below ((Below.refl _ w10).alloc (Nat.le_refl _) (.cells #[.int .i64 0, .int .i64 0, .int .i64 0, .int .u32 0] 27)))
                rw [show fnd [] 0 = none from rfl]
                unfold wv zv
                simp only [Option.isSome]
                clear k10 HQ9
                go_wp2_with fail
                refine (Remove_no none [] 0 _ (.inl ⟨rfl, rfl⟩) rfl).mono ?_
                rintro e w11 ⟨rfl, k11⟩
                have HQ11 := Lib.hid ((HQ10.out.below k11).below ((Below.refl _ w11).alloc (Nat.le_refl _) (.cells #[.int .i64 0, .int .i64 0, .int .i64 0, .int .u32 0] 27)))
                unfold zv
                clear k11 HQ10
                go_wp2_with fail
                refine (Add_nil 0 0 0 0 _).mono ?_
                rintro e w12 ⟨rfl, k12⟩
                have HQ12 := Lib.hid (HQ11.out.below k12)
                clear k12 HQ11
                go_wp2_with fail
                refine (Len_any none [] _ (.inl ⟨rfl, rfl⟩) (by decide)).mono ?_
                rintro e w13 ⟨rfl, k13⟩
                have HQ13 := Lib.hid (HQ12.out.below k13)
                clear k13 HQ12
                go_wp2_with fail
                refine (List_any none [] _ (.inl ⟨rfl, rfl⟩) (by decide)).mono ?_
                rintro e w14 ⟨v14, rfl, ho14, k14⟩
                obtain ⟨a14, c14, rfl⟩ := owns_slice ho14
                have HQ14 := Lib.hid (HQ13.out.below k14)
                clear k14 HQ13 ho14
                go_wp2_with fail
                refine (Of_any none [] 0 _ (.inl ⟨rfl, rfl⟩) (by decide)).mono ?_
                rintro e w15 ⟨v15, rfl, ho15, k15⟩
                obtain ⟨a15, c15, rfl⟩ := owns_slice ho15
                have HQ15 := Lib.hid (HQ14.out.below k15)
                clear k15 HQ14 ho15
                rw [show (ofs [] 0).length = 0 from rfl]
                go_wp2_with fail
                refine (Copy_nil _).mono ?_
                rintro e w16 ⟨rfl, k16⟩
                have HQ16 := Lib.hid (HQ15.out.below k16)
                clear k16 HQ15
                go_wp2_with fail
                refine (alive25_any _).mono ?_
                rintro e w17 ⟨rfl, k17⟩
                have HQ17 := Lib.hid (HQ16.out.keep.trans (k17.mono fun j _ h => h.elim))
                clear k17 HQ16
                go_wp2
                go_ret
                exact ⟨rfl, HQ17.out.below (Nat.le_refl _) fun j _ h => h⟩
              · have d15 : decide ((0 : Int) < (nl : Int)) = true := decide_eq_true (by omega)
                have d16 : decide (0 < nl) = true := decide_eq_true hz
                have d17 : (0 < nl) = True := eq_true hz
                have d18 : ((nl : Int) == 0) = false := beq_eq_false_iff_ne.mpr (by omega)
                have d19 : (nl = 0) = False := eq_false (by omega)
                clear hz
                go_wp2_with fail
                refine (H1.out _ HQ4.out).mono ?_
                rintro e w5 ⟨rfl, q5⟩
                have HQ5 := Lib.hid q5
                clear q5 HQ4
                go_wp2_with fail
                refine (H2.out _ HQ5.out).mono ?_
                rintro e w6 ⟨rfl, q6⟩
                have HQ6 := Lib.hid q6
                clear q6 HQ5
                go_wp2_with fail
                refine (H3.out _ HQ6.out).mono ?_
                rintro e w7 ⟨⟨a7, c7, rfl⟩, q7⟩
                have HQ7 := Lib.hid q7
                clear q7 HQ6
                go_wp2_with fail
                refine (H1.out _ HQ7.out).mono ?_
                rintro e w8 ⟨rfl, q8⟩
                have HQ8 := Lib.hid q8
                clear q8 HQ7
                go_wp2_with fail
                refine (Next_scan none [] 0 ⟨0, 0, 0, 0, 0⟩ true w8 (.inl ⟨rfl, rfl⟩) rfl rfl).mono ?_
                rintro e w9 ⟨rfl, k9⟩
                have HQ9 := Lib.hid ((HQ8.out.below k9).below ((Below.refl _ w9).alloc (Nat.le_refl _) (.cells #[.int .i64 0, .int .i64 0, .int .i64 0, .int .u32 0] 27)))
                rw [show scan (QN.wait ⟨0, 0, 0, 0, 0⟩) true [] = none from rfl]
                unfold wv zv
                simp only [Option.isSome]
                clear k9 HQ8
                go_wp2_with fail
                refine (Find_any none [] 0 _ (.inl ⟨rfl, rfl⟩)).mono ?_
                rintro e w10 ⟨rfl, k10⟩
                have HQ10 := Lib.hid ((HQ9.out.below k10).below ((Below.refl _ w10).alloc (Nat.le_refl _) (.cells #[.int .i64 0, .int .i64 0, .int .i64 0, .int .u32 0] 27)))
                rw [show fnd [] 0 = none from rfl]
                unfold wv zv
                simp only [Option.isSome]
                clear k10 HQ9
                go_wp2_with fail
                refine (Remove_no none [] 0 _ (.inl ⟨rfl, rfl⟩) rfl).mono ?_
                rintro e w11 ⟨rfl, k11⟩
                have HQ11 := Lib.hid ((HQ10.out.below k11).below ((Below.refl _ w11).alloc (Nat.le_refl _) (.cells #[.int .i64 0, .int .i64 0, .int .i64 0, .int .u32 0] 27)))
                unfold zv
                clear k11 HQ10
                go_wp2_with fail
                refine (Add_nil 0 0 0 0 _).mono ?_
                rintro e w12 ⟨rfl, k12⟩
                have HQ12 := Lib.hid (HQ11.out.below k12)
                clear k12 HQ11
                go_wp2_with fail
                refine (Len_any none [] _ (.inl ⟨rfl, rfl⟩) (by decide)).mono ?_
                rintro e w13 ⟨rfl, k13⟩
                have HQ13 := Lib.hid (HQ12.out.below k13)
                clear k13 HQ12
                go_wp2_with fail
                refine (List_any none [] _ (.inl ⟨rfl, rfl⟩) (by decide)).mono ?_
                rintro e w14 ⟨v14, rfl, ho14, k14⟩
                obtain ⟨a14, c14, rfl⟩ := owns_slice ho14
                have HQ14 := Lib.hid (HQ13.out.below k14)
                clear k14 HQ13 ho14
                go_wp2_with fail
                refine (Of_any none [] 0 _ (.inl ⟨rfl, rfl⟩) (by decide)).mono ?_
                rintro e w15 ⟨v15, rfl, ho15, k15⟩
                obtain ⟨a15, c15, rfl⟩ := owns_slice ho15
                have HQ15 := Lib.hid (HQ14.out.below k15)
                clear k15 HQ14 ho15
                rw [show (ofs [] 0).length = 0 from rfl]
                go_wp2_with fail
                refine (Copy_nil _).mono ?_
                rintro e w16 ⟨rfl, k16⟩
                have HQ16 := Lib.hid (HQ15.out.below k16)
                clear k16 HQ15
                go_wp2_with fail
                refine (alive25_any _).mono ?_
                rintro e w17 ⟨rfl, k17⟩
                have HQ17 := Lib.hid (HQ16.out.keep.trans (k17.mono fun j _ h => h.elim))
                clear k17 HQ16
                go_wp2
                go_ret
                exact ⟨rfl, HQ17.out.below (Nat.le_refl _) fun j _ h => h⟩
set_option maxRecDepth 100000 in
theorem queueOrder_walk {H : Type} {enc : TypeId × Value → H} (W : World) (base : Nat) {v0 v1 : Value} {d0 d1 : DataW H} {p0 p1 : List MemPlace}
    (k0 : Value.okWide Try.prog W .any base 55 v0) (h0 : DataW.Trod enc Try.prog W 0 (fun _ => true) true 55 v0 d0 p0)
    (k1 : Value.okWide Try.prog W .any base 55 v1) (h1 : DataW.Trod enc Try.prog W 0 (fun _ => true) true 55 v1 d1 p1) :
    Calls Try.prog 4 #[v0, v1] W fun e w' => e = .returned (.bool true) ∧ Below W.heap.size W w' := by
  obtain ⟨a, n, c, F, rfl, hn, hF, _⟩ := row_of k0 h0
  obtain ⟨b, m, c2, G, rfl, hm, hG, _⟩ := row_of k1 h1
  by_cases hl : 40 < n ∨ 40 < m
  · exact queueOrder_long a b n m c c2 W hn hm hl
  · exact queueOrder_plain a b n m c c2 F G W (by omega) (by omega) hF hG
end Go.Proofs.Ytfniicgfnlklbac
