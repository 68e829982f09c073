import Derived.Test.YticjphaahmdbkaaCertL
import Derived.Deep.QuietTactic
namespace Go.Proofs.Yticjphaahmdbkaa
open Go.ChangeShapes Go.WideShapes Go.ChangeAt Go.RowKit
set_option linter.unusedVariables false
set_option linter.unusedSimpArgs false
theorem checkG_ne (Lo : List OpX) : ∀ (r t : List Nat) (s : List ItemD), ((checkG Lo t r s).2 == 1) = false
  | [], _, _ => rfl
  | i :: r, t, s => by
    rw [checkG]
    split
    · rfl
    · split
      · exact checkG_ne Lo r (i :: t) _
      · rfl
theorem call_part {w : World} {b : Nat} {x : OpX} (h : w.rangeAt b 0 (opL x)) : w.rangeAt b 2 [.int .i64 (x 2), .int .i64 (x 3), .int .u32 (x 4), .int .u32 (x 5), .int .u32 (x 6), .int .u32 (x 7), .int .u32 (x 8)] := fun j v hv => by
  have hj : j < 7 := (List.getElem?_eq_some_iff.1 hv).1
  have := h (2 + j) v (by rcases (by omega : j = 0 ∨ j = 1 ∨ j = 2 ∨ j = 3 ∨ j = 4 ∨ j = 5 ∨ j = 6) with rfl | rfl | rfl | rfl | rfl | rfl | rfl <;> exact hv)
  rwa [show 0 + (2 + j) = 2 + j by omega] at this
theorem res_part {w : World} {b : Nat} {x : OpX} (h : w.rangeAt b 0 (opL x)) : w.rangeAt b 9 [.int .i64 (x 9), .int .u32 (x 10), .int .u32 (x 11), .int .u32 (x 12), .int .u32 (x 13)] := fun j v hv => by
  have hj : j < 5 := (List.getElem?_eq_some_iff.1 hv).1
  have := h (9 + j) v (by rcases (by omega : j = 0 ∨ j = 1 ∨ j = 2 ∨ j = 3 ∨ j = 4) with rfl | rfl | rfl | rfl | rfl <;> exact hv)
  rwa [show 0 + (9 + j) = 9 + j by omega] at this
/-- Is a call before one of the first q of an order? -/
def lateQ (Lo : List OpX) (x : OpX) (t : List Nat) (q : Nat) : Bool := (t.reverse.take q).any fun p => befP x (getX Lo p)
theorem lateQ_step (Lo : List OpX) (x : OpX) (t : List Nat) (q p : Nat) (h : t.reverse[q]? = some p) : lateQ Lo x t (q + 1) = (lateQ Lo x t q || befP x (getX Lo p)) := by
  unfold lateQ
  rw [List.take_add_one, h]
  simp
theorem lateQ_all (Lo : List OpX) (t : List Nat) (i : Nat) : lateQ Lo (getX Lo i) t t.length = lateP Lo (lastG Lo t) i := by
  rw [late_any_of]
  unfold lateQ
  rw [List.take_of_length_le (by simp), List.any_reverse]
set_option maxRecDepth 100000 in
set_option maxHeartbeats 32000000 in
theorem csteps_light (w : World) (oa : Option Addr) (n0 oc : Nat) (Os : List ObjX) (h0 : ObjsArg w oa n0 Os) (l0 : n0 ≤ 8) (la : Option Addr) (n1 lc : Nat) (Lo : List OpX) (h1 : OpsArg w la n1 Lo) (l1 : n1 ≤ 30) (qa : Option Addr) (n2 qc : Nat) (O : List Int) (h2 : IntsArg w qa n2 O) (l2 : n2 ≤ 60) :
    Calls Try.prog 4 #[.slice oa n0 oc, .slice la n1 lc, .slice qa n2 qc] w fun e w' => e = .returned (.bool true) ∧ Below w.heap.size w w' := by
  have HLI := Lib.hid (fun w => light_any w oa la qa n0 oc n1 lc n2 qc)
  have HCK := Lib.hid (check_any w oa n0 oc Os h0 (by omega) la n1 lc Lo h1 (by omega) qa n2 qc O h2 (by omega))
  have HH := Lib.hid (And.intro h0 (And.intro h1 h2))
  have HF := Lib.hid (show checkP Os Lo O = if wholeP Lo O = true then checkG Lo [] (O.map Int.toNat) (startP Os) else (0, 1) from rfl)
  have HI := Lib.hid (fun h => whole_in (Lo := Lo) (O := O) h)
  have HL := Lib.hid (And.intro h0.len (And.intro h1.len h2.len))
  have HSO := Lib.hid (startP_ok h0.ok)
  have z0 : decide (n0 ≤ 8) = true := decide_eq_true l0
  have z1 : decide (n1 ≤ 30) = true := decide_eq_true l1
  have z2 : decide (n2 ≤ 60) = true := decide_eq_true l2
  rw [z0, z1, z2] at HLI
  clear h0 h1 h2 z0 z1 z2
  generalize hRR : checkP Os Lo O = R at *
  obtain ⟨R1, R2⟩ := R
  clear hRR
  cases hw : wholeP Lo O with
  | false =>
    have HFe := Lib.hid (HF.out.trans (if_neg (by rw [hw]; simp)))
    obtain ⟨rfl, rfl⟩ := Prod.mk.inj HFe.out
    clear HF HFe
    go_enter Try.func4, Try.ntmps4
    go_wp2_with fail
    refine (HLI.out _).mono ?_
    rintro e0 w0 ⟨rfl, hw0⟩
    obtain rfl := hw0.symm
    go_wp2_with fail
    refine HCK.out.mono ?_
    rintro e1 w1 ⟨rfl, b1⟩
    have HW := Lib.hid (whole_any w1 la n1 lc Lo (HH.out.2.1.below b1) (by omega) qa n2 qc O (HH.out.2.2.below b1) (by omega))
    rw [hw] at HW
    have HB1 := Lib.hid b1
    clear b1
    go_wp2_with fail
    refine HW.out.mono ?_
    rintro e2 w2 ⟨rfl, b2⟩
    have HB2 := Lib.hid (HB1.out.trans (b2.mono HB1.out.size))
    clear b2
    go_wp2_with fail
    refine (alive20_any _).mono ?_
    rintro ea wa ⟨rfl, ba⟩
    have HBA := Lib.hid (HB2.out.trans (ba.mono HB2.out.size))
    clear ba
    go_wp2_with fail
    go_ret
    exact ⟨rfl, HBA.out⟩
  | true =>
    have hne1 : (R2 == 1) = false := by
      have e := HF.out
      rw [hw, if_pos rfl] at e
      have := checkG_ne Lo (O.map Int.toNat) [] (startP Os)
      rw [← e] at this
      exact this
    have HF2 := Lib.hid (HF.out.trans (if_pos hw))
    have HI2 := Lib.hid (HI.out hw)
    clear HF HI hw
    go_enter Try.func4, Try.ntmps4
    go_wp2_with fail
    refine (HLI.out _).mono ?_
    rintro e0 w0 ⟨rfl, hw0⟩
    obtain rfl := hw0.symm
    go_wp2_with fail
    refine HCK.out.mono ?_
    rintro e1 w1 ⟨rfl, b1⟩
    have HB1 := Lib.hid b1
    have HST := Lib.hid (start_any w1 oa n0 oc Os (HH.out.1.below b1) (by omega))
    clear b1
    go_wp2_with fail
    refine HST.out.mono ?_
    rintro e2 w2 ⟨b2, g2, rfl, hs2⟩
    have HB2 := Lib.hid (HB1.out.trans (b2.mono HB1.out.size))
    have HS2 := Lib.hid hs2
    clear b2 hs2 hne1 HCK HLI HST HB1
    go_wp2_with fail
    go_loopw [9, 10, 11, 12, 13, 14, 15] (fun s i _ _ _ _ _ wr => ∃ (t r : List Nat) (L : List ItemD) (g cap : Nat), s = .slice (some ⟨g, 0, none⟩) n0 cap ∧ i = .int .i64 (t.length : Int) ∧ O.map Int.toNat = t.reverse ++ r ∧ (∀ q, q ∈ t → q < n1) ∧ (R1, R2) = checkG Lo t r L ∧ StateAt wr g L ∧ (∀ y, y ∈ L → y.Ok) ∧ L.length = n0 ∧ Below w.heap.size w wr) (fun _ i _ _ _ _ _ _ => n2 - (intOf i).toNat)
    case atStart => exact ⟨[], O.map Int.toNat, startP Os, g2, n0, rfl, rfl, rfl, (fun q hq => by cases hq), HF2.out, HS2.out, HSO.out, by unfold startP; rw [List.length_map]; exact HL.out.1, HB2.out⟩
    case round =>
      clear HS2 HB2 HF2
      obtain ⟨t, r, L, g, cap, rfl, rfl, hsplit, ht, hR, hst, hok, hlen, hB⟩ := hrel
      have htm : t.length + r.length = n2 := by
        have := congrArg List.length hsplit
        simp at this
        rw [← HL.out.2.2]
        omega
      have HT := Lib.hid (And.intro hsplit (And.intro ht hR))
      have HS := Lib.hid (And.intro hst (And.intro hok (And.intro hlen hB)))
      clear hsplit ht hR hst hok hlen hB
      cases r with
      | nil =>
        obtain ⟨e1, e2⟩ := Prod.mk.inj HT.out.2.2
        subst e1 e2
        have HSB := Lib.hid HS.out.2.2.2
        obtain ⟨k, hk⟩ : ∃ k, t.length = k := ⟨_, rfl⟩
        rw [hk] at htm ⊢
        have hkn : k = n2 := by simpa using htm
        subst hkn
        have dk : decide (k < k) = false := decide_eq_false (by omega)
        clear hk htm HT HS
        go_wp2_with fail
        refine (alive20_any _).mono ?_
        rintro ea wa ⟨rfl, ba⟩
        have HBA := Lib.hid (HSB.out.trans (ba.mono HSB.out.size))
        clear ba
        go_wp2_with fail
        try simp only [Exit.jump]
        go_ret
        exact ⟨rfl, HBA.out⟩
      | cons i r =>
        have hki : (O.map Int.toNat)[t.length]? = some i := by rw [HT.out.1, List.getElem?_append_right (by simp)]; simp
        rw [List.getElem?_map] at hki
        obtain ⟨yy, hy, hyi⟩ := Option.map_eq_some_iff.1 hki
        have hyb := HI2.out yy (List.mem_of_getElem? hy)
        have hl1 := HL.out.2.1
        obtain rfl : yy = (i : Int) := by omega
        have hin : i < n1 := by omega
        obtain ⟨k, hk⟩ : ∃ k, t.length = k := ⟨_, rfl⟩
        rw [hk] at htm hy ⊢
        have HK := Lib.hid hk
        have hkn : k < n2 := by have : (i :: r).length = r.length + 1 := rfl; omega
        obtain ⟨qb, qoff, rfl, hqb, hqc⟩ := HH.out.2.2.lies (by omega)
        obtain ⟨lb, loff, rfl, hlb, hlc⟩ := HH.out.2.1.lies (by omega)
        obtain ⟨x, hx⟩ : ∃ x, Lo[i]? = some x := ⟨_, List.getElem?_eq_getElem (by omega)⟩
        have gx : getX Lo i = x := by unfold getX; rw [hx]; rfl
        have hB := HS.out.2.2.2
        have cq : wr.cell? ⟨qb, qoff + k, none⟩ = some (.int .i64 (i : Int)) := (hB.cell (p := ⟨qb, qoff + k, none⟩) hqb).trans (hqc k _ hy)
        have hqs0 : qb < wr.heap.size := Nat.lt_of_lt_of_le hqb hB.size
        have hls0 : lb < wr.heap.size := Nat.lt_of_lt_of_le hlb hB.size
        have HRA := Lib.hid (range_below (hlc i x hx) hB hlb)
        have HRB := Lib.hid (range_new wr x)
        have HX := Lib.hid (And.intro gx (And.intro (HH.out.2.1.ok x (List.mem_of_getElem? hx)) (And.intro hqc hlc)))
        have dk : decide (k < n2) = true := decide_eq_true hkn
        have dk' : decide ((k : Int) < (n2 : Int)) = true := decide_eq_true (by omega)
        have e1 : decide ((i : Int) < 0) = false := decide_eq_false (by omega)
        have e2 : decide ((n1 : Int) ≤ (i : Int)) = false := decide_eq_false (by omega)
        have e3 : decide (n1 ≤ i) = false := decide_eq_false (by omega)
        have e4 : decide (i < n1) = true := decide_eq_true hin
        have hR := HT.out.2.2
        rw [checkG, gx] at hR
        have HRR := Lib.hid hR
        have HQA := Lib.hid (show lateQ Lo x t k = lateP Lo (lastG Lo t) i by rw [← hk, ← gx]; exact lateQ_all Lo t i)
        clear hki hy hyi hyb hqc hlc hx gx hB hR hk
        go_wp2_with (refine wpList_load_mid rfl 55 (.tmp 69) rfl lb (loff + i * 17) rfl [.int .i64 (x 0), .int .i64 (x 1), .int .i64 (x 2), .int .i64 (x 3), .int .u32 (x 4), .int .u32 (x 5), .int .u32 (x 6), .int .u32 (x 7), .int .u32 (x 8), .int .i64 (x 9), .int .u32 (x 10), .int .u32 (x 11), .int .u32 (x 12), .int .u32 (x 13), .bool (decide (x 14 = 1)), .int .i64 (x 15), .int .i64 (x 16)] _ HRA.out Try.underlying55 rfl op_info ?_)
        go_loopw [12, 13] (fun lt kk W => ∃ q : Nat, q ≤ k ∧ kk = .int .i64 (q : Int) ∧ lt = .bool (lateQ Lo x t q) ∧ Keeps (fun _ => False) (wr.alloc (.cells #[.int .i64 (x 0), .int .i64 (x 1), .int .i64 (x 2), .int .i64 (x 3), .int .u32 (x 4), .int .u32 (x 5), .int .u32 (x 6), .int .u32 (x 7), .int .u32 (x 8), .int .i64 (x 9), .int .u32 (x 10), .int .u32 (x 11), .int .u32 (x 12), .int .u32 (x 13), .bool (decide (x 14 = 1)), .int .i64 (x 15), .int .i64 (x 16)] 55)) W) (fun _ kk _ => k - (intOf kk).toNat)
        case atStart => exact ⟨0, by omega, rfl, rfl, Keeps.refl _ _⟩
        case round =>
          rename World => W
          obtain ⟨q, hq, rfl, rfl, hkw⟩ := hrel
          have HKW := Lib.hid hkw
          have hxs : wr.heap.size < W.heap.size := Nat.lt_of_lt_of_le (by simp) hkw.size
          have HXW := Lib.hid (show W.rangeAt wr.heap.size 0 (opL x) from range_keeps HRB.out hkw (by simp))
          have HWB := Lib.hid (show Below w.heap.size w W from (HS.out.2.2.2.alloc HS.out.2.2.2.size (.cells #[.int .i64 (x 0), .int .i64 (x 1), .int .i64 (x 2), .int .i64 (x 3), .int .u32 (x 4), .int .u32 (x 5), .int .u32 (x 6), .int .u32 (x 7), .int .u32 (x 8), .int .i64 (x 9), .int .u32 (x 10), .int .u32 (x 11), .int .u32 (x 12), .int .u32 (x 13), .bool (decide (x 14 = 1)), .int .i64 (x 15), .int .i64 (x 16)] 55)).trans (hkw.none.mono (Nat.le_trans HS.out.2.2.2.size (by simp))))
          have hqs : qb < W.heap.size := Nat.lt_of_lt_of_le hqb HWB.out.size
          have hls : lb < W.heap.size := Nat.lt_of_lt_of_le hlb HWB.out.size
          clear hkw cq
          by_cases hlt : q < k
          · obtain ⟨pp, hpp⟩ : ∃ pp, t.reverse[q]? = some pp := ⟨_, List.getElem?_eq_getElem (by rw [List.length_reverse, HK.out]; exact hlt)⟩
            have hppn : pp < n1 := HT.out.2.1 pp (List.mem_reverse.1 (List.mem_of_getElem? hpp))
            have hOm : (O.map Int.toNat)[q]? = some pp := by rw [HT.out.1, List.getElem?_append_left (by rw [List.length_reverse, HK.out]; exact hlt)]; exact hpp
            rw [List.getElem?_map] at hOm
            obtain ⟨yy, hy, hyi⟩ := Option.map_eq_some_iff.1 hOm
            have hyb := HI2.out yy (List.mem_of_getElem? hy)
            obtain rfl : yy = (pp : Int) := by omega
            obtain ⟨y, hyl⟩ : ∃ y, Lo[pp]? = some y := ⟨_, List.getElem?_eq_getElem (by omega)⟩
            have gy : getX Lo pp = y := by unfold getX; rw [hyl]; rfl
            have HY := Lib.hid (range_below (HX.out.2.2.2 pp y hyl) HWB.out hlb)
            have cqq : W.cell? ⟨qb, qoff + q, none⟩ = some (.int .i64 (pp : Int)) := (HWB.out.cell (p := ⟨qb, qoff + q, none⟩) hqb).trans (HX.out.2.2.1 q _ hy)
            have HSTP := Lib.hid (lateQ_step Lo x t q pp hpp)
            rw [gy] at HSTP
            have HBF := Lib.hid (fun W => before_any W x y)
            have f1 : decide (q < k) = true := decide_eq_true hlt
            have f2 : decide ((q : Int) < (k : Int)) = true := decide_eq_true (by omega)
            have f3 : decide (pp < n1) = true := decide_eq_true hppn
            have f4 : decide (q < n2) = true := decide_eq_true (by omega)
            have f5 : q < n2 := by omega
            clear hpp hOm hy hyi hyb hyl gy
            generalize befP x y = bf at HBF HSTP
            generalize hlq : lateQ Lo x t q = lq at *
            clear hlq
            cases lq with
            | true =>
              go_wp2_with fail
              refine wp_region_noPanic ?_
              refine wp_region_held_drew (S := fun _ => True) (by kernel_rfl) ?_ (fun hHeld => ?_)
              · exact trivial
              refine wpAnyH_take (i := 0) (v := ?_) rfl (by kernel_rfl) (by kernel_rfl) (by kernel_rfl) (fun _ _ _ h => h) (Or.inl ⟨by rfl, ?_⟩) (by assumption) ?_
              rotate_left
              · (intro w hSw; (try dsimp only at hSw); go_simp; try with_reducible rfl)
              simp only [Act.put, List.getElem_toArray, List.getElem_cons_zero, List.getElem_cons_succ, List.setIfInBounds_toArray, List.set_cons_zero, List.set_cons_succ]
              refine wpAnyH_take (i := 1) (v := ?_) rfl (by kernel_rfl) (by kernel_rfl) (by kernel_rfl) (fun _ _ _ h => h) (Or.inl ⟨by rfl, ?_⟩) (by assumption) ?_
              rotate_left
              · (intro w hSw; (try dsimp only at hSw); go_simp; try with_reducible rfl)
              simp only [Act.put, List.getElem_toArray, List.getElem_cons_zero, List.getElem_cons_succ, List.setIfInBounds_toArray, List.set_cons_zero, List.set_cons_succ]
              refine wpAnyH_take (i := 2) (v := undef) rfl (by kernel_rfl) (by kernel_rfl) (by kernel_rfl) (fun _ _ _ h => h) (Or.inr ⟨by rfl, rfl⟩) (by assumption) ?_
              simp only [Act.put, List.getElem_toArray, List.getElem_cons_zero, List.getElem_cons_succ, List.setIfInBounds_toArray, List.set_cons_zero, List.set_cons_succ]
              refine wpAnyH_take (i := 3) (v := undef) rfl (by kernel_rfl) (by kernel_rfl) (by kernel_rfl) (fun _ _ _ h => h) (Or.inr ⟨by rfl, rfl⟩) (by assumption) ?_
              simp only [Act.put, List.getElem_toArray, List.getElem_cons_zero, List.getElem_cons_succ, List.setIfInBounds_toArray, List.set_cons_zero, List.set_cons_succ]
              refine wpAnyH_take (i := 4) (v := undef) rfl (by kernel_rfl) (by kernel_rfl) (by kernel_rfl) (fun _ _ _ h => h) (Or.inr ⟨by rfl, rfl⟩) (by assumption) ?_
              simp only [Act.put, List.getElem_toArray, List.getElem_cons_zero, List.getElem_cons_succ, List.setIfInBounds_toArray, List.set_cons_zero, List.set_cons_succ]
              refine wpAnyH_take (i := 5) (v := undef) rfl (by kernel_rfl) (by kernel_rfl) (by kernel_rfl) (fun _ _ _ h => h) (Or.inr ⟨by rfl, rfl⟩) (by assumption) ?_
              simp only [Act.put, List.getElem_toArray, List.getElem_cons_zero, List.getElem_cons_succ, List.setIfInBounds_toArray, List.set_cons_zero, List.set_cons_succ]
              refine wpAnyH_take (i := 6) (v := undef) rfl (by kernel_rfl) (by kernel_rfl) (by kernel_rfl) (fun _ _ _ h => h) (Or.inr ⟨by rfl, rfl⟩) (by assumption) ?_
              simp only [Act.put, List.getElem_toArray, List.getElem_cons_zero, List.getElem_cons_succ, List.setIfInBounds_toArray, List.set_cons_zero, List.set_cons_succ]
              refine wpAnyH_take (i := 7) (v := undef) rfl (by kernel_rfl) (by kernel_rfl) (by kernel_rfl) (fun _ _ _ h => h) (Or.inr ⟨by rfl, rfl⟩) (by assumption) ?_
              simp only [Act.put, List.getElem_toArray, List.getElem_cons_zero, List.getElem_cons_succ, List.setIfInBounds_toArray, List.set_cons_zero, List.set_cons_succ]
              refine wpAnyH_take (i := 8) (v := undef) rfl (by kernel_rfl) (by kernel_rfl) (by kernel_rfl) (fun _ _ _ h => h) (Or.inr ⟨by rfl, rfl⟩) (by assumption) ?_
              simp only [Act.put, List.getElem_toArray, List.getElem_cons_zero, List.getElem_cons_succ, List.setIfInBounds_toArray, List.set_cons_zero, List.set_cons_succ]
              refine wpAnyH_take (i := 9) (v := undef) rfl (by kernel_rfl) (by kernel_rfl) (by kernel_rfl) (fun _ _ _ h => h) (Or.inr ⟨by rfl, rfl⟩) (by assumption) ?_
              simp only [Act.put, List.getElem_toArray, List.getElem_cons_zero, List.getElem_cons_succ, List.setIfInBounds_toArray, List.set_cons_zero, List.set_cons_succ]
              refine wpAnyH_ready (rs := [10]) (by kernel_rfl) (by simp) ?_
              refine AllReadyH.cons rfl (fun K hK => ?_) AllReadyH.nil
              go_simp
              refine hK.out _ _ ?_ (fun hHeld => ?_)
              · ((try dsimp only); try exact trivial)
              clear hK K
              try simp only [Act.put, List.getElem_toArray, List.getElem_cons_zero, List.getElem_cons_succ, List.setIfInBounds_toArray, List.set_cons_zero, List.set_cons_succ]
              refine wpAnyH_take (i := 11) (v := ?_) rfl (by kernel_rfl) (by kernel_rfl) (by kernel_rfl) (fun _ _ _ h => h) (Or.inl ⟨by rfl, ?_⟩) (by assumption) ?_
              rotate_left
              · (intro w hSw; (try dsimp only at hSw); go_simp; try with_reducible rfl)
              simp only [Act.put, List.getElem_toArray, List.getElem_cons_zero, List.getElem_cons_succ, List.setIfInBounds_toArray, List.set_cons_zero, List.set_cons_succ]
              refine wpAnyH_take (i := 12) (v := ?_) rfl (by kernel_rfl) (by kernel_rfl) (by kernel_rfl) (fun _ _ _ h => h) (Or.inl ⟨by rfl, ?_⟩) (by assumption) ?_
              rotate_left
              · (intro w hSw; (try dsimp only at hSw); go_simp; try with_reducible rfl)
              simp only [Act.put, List.getElem_toArray, List.getElem_cons_zero, List.getElem_cons_succ, List.setIfInBounds_toArray, List.set_cons_zero, List.set_cons_succ]
              refine wpAnyH_done (by kernel_rfl) ?_ _
              refine NoPanic.normal ?_
              go_wp2_with fail
              go_roundw
              case rel => first | exact ⟨q + 1, by omega, by go_num, by rw [HSTP.out]; rfl, HKW.out⟩ | exact ⟨q + 1, by omega, by go_num, by rw [HSTP.out]; rfl, HKW.out.drew⟩
              case measure => simp [intOf]; omega
            | false =>
              go_wp2_with fail
              refine wp_region_noPanic ?_
              refine wp_region_held_drew (S := (fun W => W.rangeAt wr.heap.size 0 (opL x) ∧ W.rangeAt lb (loff + pp * 17) (opL y) ∧ W.cell? ⟨qb, qoff + q, none⟩ = some (.int .i64 (pp : Int)))) (by kernel_rfl) ?_ (fun hHeld => ?_)
              · exact ⟨HXW.out, HY.out, cqq⟩
              refine wpAnyH_take (i := 0) (v := ?_) rfl (by kernel_rfl) (by kernel_rfl) (by kernel_rfl) (fun _ _ _ h => h) (Or.inl ⟨by rfl, ?_⟩) (by assumption) ?_
              rotate_left
              · (intro w hSw; (try dsimp only at hSw); go_simp; try with_reducible rfl)
              simp only [Act.put, List.getElem_toArray, List.getElem_cons_zero, List.getElem_cons_succ, List.setIfInBounds_toArray, List.set_cons_zero, List.set_cons_succ]
              refine wpAnyH_take (i := 1) (v := ?_) rfl (by kernel_rfl) (by kernel_rfl) (by kernel_rfl) (fun _ _ _ h => h) (Or.inl ⟨by rfl, ?_⟩) (by assumption) ?_
              rotate_left
              · (intro w hSw; (try dsimp only at hSw); go_simp; try with_reducible rfl)
              simp only [Act.put, List.getElem_toArray, List.getElem_cons_zero, List.getElem_cons_succ, List.setIfInBounds_toArray, List.set_cons_zero, List.set_cons_succ]
              refine wpAnyH_take (i := 2) (v := .agg (opL x).toArray) rfl (by kernel_rfl) (by kernel_rfl) (by kernel_rfl) (fun _ _ _ h => h) (yieldsIf_load_mid (by rfl) 55 _ rfl wr.heap.size 0 rfl (opL x) _ (fun w h => h.1) Try.underlying55 rfl op_info) (by assumption) ?_
              simp only [Act.put, List.getElem_toArray, List.getElem_cons_zero, List.getElem_cons_succ, List.setIfInBounds_toArray, List.set_cons_zero, List.set_cons_succ]
              refine wpAnyH_take (i := 3) (v := ?_) rfl (by kernel_rfl) (by kernel_rfl) (by kernel_rfl) (fun _ _ _ h => h) (Or.inl ⟨by rfl, ?_⟩) (by assumption) ?_
              rotate_left
              · (intro w hSw; (try dsimp only at hSw); go_simp; try with_reducible rfl)
              simp only [Act.put, List.getElem_toArray, List.getElem_cons_zero, List.getElem_cons_succ, List.setIfInBounds_toArray, List.set_cons_zero, List.set_cons_succ]
              refine wpAnyH_take (i := 4) (v := ?_) rfl (by kernel_rfl) (by kernel_rfl) (by kernel_rfl) (fun _ _ _ h => h) (Or.inl ⟨by rfl, ?_⟩) (by assumption) ?_
              rotate_left
              · (intro w hSw; (try dsimp only at hSw); go_simp; try with_reducible rfl)
              simp only [Act.put, List.getElem_toArray, List.getElem_cons_zero, List.getElem_cons_succ, List.setIfInBounds_toArray, List.set_cons_zero, List.set_cons_succ]
              refine wpAnyH_take (i := 5) (v := ?_) rfl (by kernel_rfl) (by kernel_rfl) (by kernel_rfl) (fun _ _ _ h => h) (Or.inl ⟨by rfl, ?_⟩) (by assumption) ?_
              rotate_left
              · (intro w hSw; (try dsimp only at hSw); go_simp; try with_reducible rfl)
              simp only [Act.put, List.getElem_toArray, List.getElem_cons_zero, List.getElem_cons_succ, List.setIfInBounds_toArray, List.set_cons_zero, List.set_cons_succ]
              refine wpAnyH_take (i := 6) (v := ?_) rfl (by kernel_rfl) (by kernel_rfl) (by kernel_rfl) (fun _ _ _ h => h) (Or.inl ⟨by rfl, ?_⟩) (by assumption) ?_
              rotate_left
              · (intro w hSw; (try dsimp only at hSw); go_simp; try with_reducible rfl)
              simp only [Act.put, List.getElem_toArray, List.getElem_cons_zero, List.getElem_cons_succ, List.setIfInBounds_toArray, List.set_cons_zero, List.set_cons_succ]
              refine wpAnyH_take (i := 7) (v := ?_) rfl (by kernel_rfl) (by kernel_rfl) (by kernel_rfl) (fun _ _ _ h => h) (Or.inl ⟨by rfl, ?_⟩) (by assumption) ?_
              rotate_left
              · (intro w hSw; (try dsimp only at hSw); go_simp; try with_reducible rfl)
              simp only [Act.put, List.getElem_toArray, List.getElem_cons_zero, List.getElem_cons_succ, List.setIfInBounds_toArray, List.set_cons_zero, List.set_cons_succ]
              refine wpAnyH_take (i := 8) (v := ?_) rfl (by kernel_rfl) (by kernel_rfl) (by kernel_rfl) (fun _ _ _ h => h) (Or.inl ⟨by rfl, ?_⟩) (by assumption) ?_
              rotate_left
              · (intro w hSw; (try dsimp only at hSw); go_simp; try with_reducible rfl)
              simp only [Act.put, List.getElem_toArray, List.getElem_cons_zero, List.getElem_cons_succ, List.setIfInBounds_toArray, List.set_cons_zero, List.set_cons_succ]
              refine wpAnyH_take (i := 9) (v := .agg (opL y).toArray) rfl (by kernel_rfl) (by kernel_rfl) (by kernel_rfl) (fun _ _ _ h => h) (yieldsIf_load_mid (by rfl) 55 _ rfl lb (loff + pp * 17) rfl (opL y) _ (fun w h => h.2.1) Try.underlying55 rfl op_info) (by assumption) ?_
              simp only [Act.put, List.getElem_toArray, List.getElem_cons_zero, List.getElem_cons_succ, List.setIfInBounds_toArray, List.set_cons_zero, List.set_cons_succ]
              refine wpAnyH_ready (rs := [10]) (by kernel_rfl) (by simp) ?_
              refine AllReadyH.cons rfl (fun K hK => ?_) AllReadyH.nil
              go_simp
              (go_at_call 18; refine (HBF.out _).mono ?_; rintro e9 w9 ⟨rfl, k9⟩; have HK9 := Lib.hid (show Keeps (fun _ => False) W w9 from ((Keeps.refl _ W).drew).trans k9); clear k9)
              go_wp2_with fail
              refine hK.out _ _ ?_ (fun hHeld => ?_)
              · ((try dsimp only); exact ⟨range_keeps HXW.out HK9.out hxs, range_keeps HY.out HK9.out hls, (HK9.out.none.cell (p := ⟨qb, qoff + q, none⟩) hqs).trans cqq⟩)
              clear hK K
              try simp only [Act.put, List.getElem_toArray, List.getElem_cons_zero, List.getElem_cons_succ, List.setIfInBounds_toArray, List.set_cons_zero, List.set_cons_succ]
              refine wpAnyH_take (i := 11) (v := ?_) rfl (by kernel_rfl) (by kernel_rfl) (by kernel_rfl) (fun _ _ _ h => h) (Or.inl ⟨by rfl, ?_⟩) (by assumption) ?_
              rotate_left
              · (intro w hSw; (try dsimp only at hSw); go_simp; try with_reducible rfl)
              simp only [Act.put, List.getElem_toArray, List.getElem_cons_zero, List.getElem_cons_succ, List.setIfInBounds_toArray, List.set_cons_zero, List.set_cons_succ]
              refine wpAnyH_take (i := 12) (v := ?_) rfl (by kernel_rfl) (by kernel_rfl) (by kernel_rfl) (fun _ _ _ h => h) (Or.inl ⟨by rfl, ?_⟩) (by assumption) ?_
              rotate_left
              · (intro w hSw; (try dsimp only at hSw); go_simp; try with_reducible rfl)
              simp only [Act.put, List.getElem_toArray, List.getElem_cons_zero, List.getElem_cons_succ, List.setIfInBounds_toArray, List.set_cons_zero, List.set_cons_succ]
              refine wpAnyH_done (by kernel_rfl) ?_ _
              refine NoPanic.normal ?_
              go_wp2_with fail
              go_roundw
              case rel => exact ⟨q + 1, by omega, by go_num, by rw [HSTP.out]; rfl, HKW.out.trans HK9.out⟩
              case measure => simp [intOf]; omega
          · obtain rfl : q = k := by omega
            have f1 : decide (q < q) = false := decide_eq_false (by omega)
            rw [HQA.out]
            clear HQA
            generalize lateP Lo (lastG Lo t) i = ql at *
            cases ql with
            | true =>
              have HR5 := Lib.hid (HRR.out.trans (if_pos rfl))
              obtain ⟨e5, e6⟩ := Prod.mk.inj HR5.out
              rw [HK.out] at e5
              subst e5 e6
              clear HR5 HRR HT
              have HZB := Lib.hid HWB.out
              go_wp2_with fail
              refine (alive20_any _).mono ?_
              rintro ea wa ⟨rfl, ba⟩
              have HBA := Lib.hid (HZB.out.trans (ba.mono HZB.out.size))
              clear ba
              go_wp2_with fail
              try simp only [Exit.jump]
              go_ret
              exact ⟨rfl, HBA.out⟩
            | false =>
              have HR5 := Lib.hid (HRR.out.trans (if_neg (by simp)))
              clear HRR
              have hstw : StateAt W g L := (HS.out.1.below ((Below.refl _ wr).alloc (Nat.le_refl _) _)).below HKW.out.none
              have hal := allows_any W g cap L hstw HS.out.2.1 (by rw [HS.out.2.2.1]; omega) (x 2) (x 3) (x 8) (opV4 x) (opV4_ok HX.out.2.1) (opR5 x)
              rw [HS.out.2.2.1] at hal
              have HAL := Lib.hid hal
              have HSW := Lib.hid hstw
              have HC7 := Lib.hid (call_part HXW.out)
              have HR7 := Lib.hid (res_part HXW.out)
              have HAO := Lib.hid (And.intro (allowsP_ok (x 2) (x 3) (opR5 x) HS.out.2.1 (opV4_ok HX.out.2.1)) ((allowsP_len L (x 2) (x 3) (opV4 x) (opR5 x)).trans HS.out.2.2.1))
              have HDO := Lib.hid (And.intro (doP_ok (x 2) (x 3) HS.out.2.1 (opV4_ok HX.out.2.1)) ((doP_len L (x 2) (x 3) (opV4 x)).trans HS.out.2.2.1))
              have HFP := Lib.hid (show followP L x = if decide (x 14 = 1) = true then allowsP L (x 2) (x 3) (opV4 x) (opR5 x) else ((doP L (x 2) (x 3) (opV4 x)).1, true) from rfl)
              clear hal hstw
              go_wp2_with (first
                | (refine wpList_load_mid rfl 28 (.tmp 101) rfl wr.heap.size 2 rfl [.int .i64 (x 2), .int .i64 (x 3), .int .u32 (x 4), .int .u32 (x 5), .int .u32 (x 6), .int .u32 (x 7), .int .u32 (x 8)] _ HC7.out Try.underlying28 rfl call_info ?_)
                | (refine wpList_load_mid rfl 31 (.tmp 103) rfl wr.heap.size 9 rfl [.int .i64 (x 9), .int .u32 (x 10), .int .u32 (x 11), .int .u32 (x 12), .int .u32 (x 13)] _ HR7.out Try.underlying31 rfl res_info ?_))
              refine HAL.out.mono ?_
              rintro e5 w5 ⟨b5, g5, c5, rfl, hs5⟩
              have HB5 := Lib.hid (HWB.out.trans (b5.mono HWB.out.size))
              have HX5 := Lib.hid (range_below HXW.out b5 hxs)
              have c14 : w5.cell? ⟨wr.heap.size, 14, none⟩ = some (.bool (decide (x 14 = 1))) := by simpa using HX5.out 14 _ rfl
              have HSW5 := Lib.hid (HSW.out.below b5)
              have HS5 := Lib.hid hs5
              clear b5 hs5 HAL
              cases hd : decide (x 14 = 1) with
              | true =>
                rw [hd] at c14
                have HFQ := Lib.hid (HFP.out.trans (if_pos hd))
                clear hd HFP HDO
                rw [HFQ.out] at HR5
                clear HFQ
                generalize allowsP L (x 2) (x 3) (opV4 x) (opR5 x) = AP at *
                obtain ⟨L5, m5⟩ := AP
                cases m5 with
                | false =>
                  have HR6 := Lib.hid (HR5.out.trans (if_neg (by simp)))
                  obtain ⟨e5, e6⟩ := Prod.mk.inj HR6.out
                  rw [HK.out] at e5
                  subst e5 e6
                  clear HR5 HR6 HT
                  have HZB := Lib.hid HB5.out
                  go_wp2_with fail
                  refine (alive20_any _).mono ?_
                  rintro ea wa ⟨rfl, ba⟩
                  have HBA := Lib.hid (HZB.out.trans (ba.mono HZB.out.size))
                  clear ba
                  go_wp2_with fail
                  try simp only [Exit.jump]
                  go_ret
                  exact ⟨rfl, HBA.out⟩
                | true =>
                  have HR6 := Lib.hid (HR5.out.trans (if_pos rfl))
                  clear HR5
                  go_wp2_with fail
                  go_roundw
                  case rel => exact ⟨i :: t, r, L5, g5, c5, rfl, by rw [List.length_cons, HK.out]; first | rfl | go_num, by rw [HT.out.1, List.reverse_cons, List.append_assoc]; rfl, (fun z hz => by rcases List.mem_cons.1 hz with rfl | hz; exact hin; exact HT.out.2.1 z hz), HR6.out, HS5.out, HAO.out.1, HAO.out.2, HB5.out⟩
                  case measure => simp [intOf]; omega
              | false =>
                rw [hd] at c14
                have HFQ := Lib.hid (HFP.out.trans (if_neg (by rw [hd]; simp)))
                clear hd HFP HAO
                rw [HFQ.out] at HR5
                clear HFQ
                have HR6 := Lib.hid (HR5.out.trans (if_pos rfl))
                clear HR5
                have hdo := do_any w5 g cap L HSW5.out HS.out.2.1 (by rw [HS.out.2.2.1]; omega) (x 2) (x 3) (x 8) (opV4 x) (opV4_ok HX.out.2.1)
                rw [HS.out.2.2.1] at hdo
                have HDA := Lib.hid hdo
                have HC75 := Lib.hid (call_part HX5.out)
                clear hdo
                generalize doP L (x 2) (x 3) (opV4 x) = DP at *
                obtain ⟨L5, d5⟩ := DP
                go_wp2_with (refine wpList_load_mid rfl 28 (.tmp 113) rfl wr.heap.size 2 rfl [.int .i64 (x 2), .int .i64 (x 3), .int .u32 (x 4), .int .u32 (x 5), .int .u32 (x 6), .int .u32 (x 7), .int .u32 (x 8)] _ HC75.out Try.underlying28 rfl call_info ?_)
                refine HDA.out.mono ?_
                rintro e6 w6 ⟨b6, g6, c6, rfl, hs6⟩
                have HB6 := Lib.hid (HB5.out.trans (b6.mono HB5.out.size))
                have HS6 := Lib.hid hs6
                clear b6 hs6 c14
                go_wp2_with fail
                go_roundw
                case rel => exact ⟨i :: t, r, L5, g6, c6, rfl, by rw [List.length_cons, HK.out]; first | rfl | go_num, by rw [HT.out.1, List.reverse_cons, List.append_assoc]; rfl, (fun z hz => by rcases List.mem_cons.1 hz with rfl | hz; exact hin; exact HT.out.2.1 z hz), HR6.out, HS6.out, HDO.out.1, HDO.out.2, HB6.out⟩
                case measure => simp [intOf]; omega
theorem csteps_heavy (w : World) (oa : Option Addr) (n0 oc : Nat) (la : Option Addr) (n1 lc : Nat) (qa : Option Addr) (n2 qc : Nat) (h : (decide (n0 ≤ 8) && decide (n1 ≤ 30) && decide (n2 ≤ 60)) = false) :
    Calls Try.prog 4 #[.slice oa n0 oc, .slice la n1 lc, .slice qa n2 qc] w fun e w' => e = .returned (.bool true) ∧ Below w.heap.size w w' := by
  have HLI := Lib.hid (fun w => light_any w oa la qa n0 oc n1 lc n2 qc)
  rw [h] at HLI
  clear h
  go_enter Try.func4, Try.ntmps4
  go_wp2_with fail
  refine (HLI.out _).mono ?_
  rintro e0 w0 ⟨rfl, hw0⟩
  obtain rfl := hw0.symm
  go_wp2_with fail
  refine (alive20_any _).mono ?_
  rintro ea wa ⟨rfl, ba⟩
  go_wp2_with fail
  go_ret
  exact ⟨rfl, ba⟩
theorem ints_of {w : World} {a : Option Addr} {n : Nat} {G : Nat → Int} (h : Row w a n G) : IntsArg w a n ((List.range n).map G) :=
  ⟨by simp, fun hn => by
    obtain ⟨b, off, e, hl, hc⟩ := h hn
    refine ⟨b, off, e, hl, fun k x hk => ?_⟩
    rw [List.getElem?_map] at hk
    obtain ⟨j, hj, rfl⟩ := Option.map_eq_some_iff.1 hk
    have hin : k < n := by
      rcases Nat.lt_or_ge k n with h | h
      · exact h
      · rw [List.getElem?_eq_none (by simpa using h)] at hj; cases hj
    rw [List.getElem?_range hin] at hj
    obtain rfl := Option.some.inj hj
    exact hc _ hin⟩
theorem certSteps_walk {H : Type} {enc : TypeId × Value → H} (W : World) (base : Nat) {v0 v1 v2 : Value} {d0 d1 d2 : DataW H} {p0 p1 p2 : List MemPlace}
    (k0 : Value.okWide Try.prog W .any base 22 v0) (h0 : DataW.Trod enc Try.prog W 0 (fun _ => true) true 22 v0 d0 p0)
    (k1 : Value.okWide Try.prog W .any base 48 v1) (h1 : DataW.Trod enc Try.prog W 0 (fun _ => true) true 48 v1 d1 p1)
    (k2 : Value.okWide Try.prog W .any base 49 v2) (h2 : DataW.Trod enc Try.prog W 0 (fun _ => true) true 49 v2 d2 p2) :
    Calls Try.prog 4 #[v0, v1, v2] W fun e w' => e = .returned (.bool true) ∧ Below W.heap.size W w' := by
  obtain ⟨a0, n0, c0, Os, hcs, _, harg0⟩ := objs_open (reads_of h0)
  obtain ⟨b0, m0, q0, rfl⟩ := okWide_slice Try.underlying22 k0
  simp [Value.cells] at hcs
  obtain ⟨rfl, rfl, rfl⟩ := hcs
  obtain ⟨a1, n1, c1, Lo, hcs, _, harg1⟩ := hist_open (reads_of h1)
  obtain ⟨b1, m1, q1, rfl⟩ := okWide_slice Try.underlying48 k1
  simp [Value.cells] at hcs
  obtain ⟨rfl, rfl, rfl⟩ := hcs
  obtain ⟨a2, n2, c2, G, rfl, _, hrow, _⟩ := row_of k2 h2
  cases hlt : (decide (m0 ≤ 8) && decide (m1 ≤ 30) && decide (n2 ≤ 60)) with
  | false => exact csteps_heavy W b0 m0 q0 b1 m1 q1 a2 n2 c2 hlt
  | true =>
    simp only [Bool.and_eq_true, decide_eq_true_eq] at hlt
    exact csteps_light W b0 m0 q0 Os harg0 hlt.1.1 b1 m1 q1 Lo harg1 hlt.1.2 a2 n2 c2 _ (ints_of hrow) hlt.2
end Go.Proofs.Yticjphaahmdbkaa
