import Derived.Test.YtohajfkekkelhaaDoorCertA
import Derived.Deep.QuietTactic
namespace Go.Proofs.YtohajfkekkelhaaDoor
open Go.ChangeShapes Go.WideShapes Go.ChangeAt Go.RowKit
set_option linter.unusedVariables false
set_option linter.unusedSimpArgs false
def getX (L : List OpX) (i : Nat) : OpX := (L[i]?).getD (fun _ => 0)
/-- Does call i come behind one that it is before? last: of those ahead, the one that began last; -1: none. -/
def lateP (L : List OpX) (last : Int) (i : Nat) : Bool := if last < 0 then false else befP (getX L i) (getX L last.toNat)
def nextP (L : List OpX) (last : Int) (i : Nat) : Int := if last < 0 then (i : Int) else if (getX L last.toNat) 15 < (getX L i) 15 then (i : Int) else last
set_option maxRecDepth 100000 in
set_option maxHeartbeats 8000000 in
theorem late_any (wr : World) (P Q : Nat) (a : Option Addr) (n c : Nat) (L : List OpX) (h : OpsArg wr a n L) (hn : n ≤ 1000) (last : Int) (hl : last = -1 ∨ ∃ p : Nat, last = (p : Int) ∧ p < n) (i : Nat) (hi : i < n)
    (hP : wr.heap[P]? = some (.cells #[.int .i64 last] 3 (0, 0))) (hQ : wr.heap[Q]? = some (.cells #[.slice a n c] 23 (0, 0))) :
    Calls Tryd.prog 43 #[.int .i64 (i : Int), .pointer (some ⟨P, 0, none⟩), .pointer (some ⟨Q, 0, none⟩)] wr fun e w' => e = .returned (.bool (lateP L last i)) ∧ w'.heap[P]? = some (.cells #[.int .i64 (nextP L last i)] 3 (0, 0)) ∧ Keeps (fun j => j = P) wr w' := by
  obtain ⟨b, off, rfl, hbl, hops⟩ := h.lies (by omega)
  obtain ⟨x, hx⟩ : ∃ x, L[i]? = some x := ⟨_, List.getElem?_eq_getElem (by rw [h.len]; exact hi)⟩
  have gx : getX L i = x := by unfold getX; rw [hx]; rfl
  have HX := Lib.hid (hops i x hx)
  have c0 : wr.cell? ⟨P, 0, none⟩ = some (.int .i64 last) := cell_of hP 0
  have f0 : wr.frozen? ⟨P, 0, none⟩ = false := free_of hP 0
  have cQ : wr.cell? ⟨Q, 0, none⟩ = some (.slice (some ⟨b, off, none⟩) n c) := cell_of hQ 0
  have hlp := lt_of hP
  have hlq := lt_of hQ
  have HP := Lib.hid hP
  have HN := Lib.hid (And.intro (show lateP L last i = if last < 0 then false else befP (getX L i) (getX L last.toNat) from rfl) (show nextP L last i = if last < 0 then (i : Int) else if (getX L last.toNat) 15 < (getX L i) 15 then (i : Int) else last from rfl))
  rw [gx] at HN
  have di : decide (i < n) = true := decide_eq_true hi
  rcases hl with rfl | ⟨p, rfl, hp⟩
  · have HF := Lib.hid (And.intro (HN.out.1.trans (if_pos (by decide))) (HN.out.2.trans (if_pos (by decide))))
    clear hP hQ h hx gx hops HN
    go_enter Tryd.func43, Tryd.ntmps43
    go_wp2_with fail
    refine wp_region_noPanic ?_
    refine wp_region_held_drew (S := (fun W => W.cell? ⟨P, 0, none⟩ = some (.int .i64 (-1)))) (by kernel_rfl) ?_ (fun hHeld => ?_)
    · exact c0
    refine wpAnyH_take (i := 0) (v := ?_) rfl (by kernel_rfl) (by kernel_rfl) (by kernel_rfl) (fun _ _ _ h => h) (Or.inl ⟨by rfl, ?_⟩) (by assumption) ?_
    rotate_left
    · (intro w hSw; (try dsimp only at hSw); go_simp; try with_reducible rfl)
    simp only [Act.put, List.getElem_toArray, List.getElem_cons_zero, List.getElem_cons_succ, List.setIfInBounds_toArray, List.set_cons_zero, List.set_cons_succ]
    refine wpAnyH_take (i := 1) (v := ?_) rfl (by kernel_rfl) (by kernel_rfl) (by kernel_rfl) (fun _ _ _ h => h) (Or.inl ⟨by rfl, ?_⟩) (by assumption) ?_
    rotate_left
    · (intro w hSw; (try dsimp only at hSw); go_simp; try with_reducible rfl)
    simp only [Act.put, List.getElem_toArray, List.getElem_cons_zero, List.getElem_cons_succ, List.setIfInBounds_toArray, List.set_cons_zero, List.set_cons_succ]
    refine wpAnyH_take (i := 2) (v := ?_) rfl (by kernel_rfl) (by kernel_rfl) (by kernel_rfl) (fun _ _ _ h => h) (Or.inl ⟨by rfl, ?_⟩) (by assumption) ?_
    rotate_left
    · (intro w hSw; (try dsimp only at hSw); go_simp; try with_reducible rfl)
    simp only [Act.put, List.getElem_toArray, List.getElem_cons_zero, List.getElem_cons_succ, List.setIfInBounds_toArray, List.set_cons_zero, List.set_cons_succ]
    refine wpAnyH_take (i := 3) (v := undef) rfl (by kernel_rfl) (by kernel_rfl) (by kernel_rfl) (fun _ _ _ h => h) (Or.inr ⟨by rfl, rfl⟩) (by assumption) ?_
    simp only [Act.put, List.getElem_toArray, List.getElem_cons_zero, List.getElem_cons_succ, List.setIfInBounds_toArray, List.set_cons_zero, List.set_cons_succ]
    refine wpAnyH_take (i := 4) (v := undef) rfl (by kernel_rfl) (by kernel_rfl) (by kernel_rfl) (fun _ _ _ h => h) (Or.inr ⟨by rfl, rfl⟩) (by assumption) ?_
    simp only [Act.put, List.getElem_toArray, List.getElem_cons_zero, List.getElem_cons_succ, List.setIfInBounds_toArray, List.set_cons_zero, List.set_cons_succ]
    refine wpAnyH_take (i := 5) (v := undef) rfl (by kernel_rfl) (by kernel_rfl) (by kernel_rfl) (fun _ _ _ h => h) (Or.inr ⟨by rfl, rfl⟩) (by assumption) ?_
    simp only [Act.put, List.getElem_toArray, List.getElem_cons_zero, List.getElem_cons_succ, List.setIfInBounds_toArray, List.set_cons_zero, List.set_cons_succ]
    refine wpAnyH_take (i := 6) (v := undef) rfl (by kernel_rfl) (by kernel_rfl) (by kernel_rfl) (fun _ _ _ h => h) (Or.inr ⟨by rfl, rfl⟩) (by assumption) ?_
    simp only [Act.put, List.getElem_toArray, List.getElem_cons_zero, List.getElem_cons_succ, List.setIfInBounds_toArray, List.set_cons_zero, List.set_cons_succ]
    refine wpAnyH_take (i := 7) (v := undef) rfl (by kernel_rfl) (by kernel_rfl) (by kernel_rfl) (fun _ _ _ h => h) (Or.inr ⟨by rfl, rfl⟩) (by assumption) ?_
    simp only [Act.put, List.getElem_toArray, List.getElem_cons_zero, List.getElem_cons_succ, List.setIfInBounds_toArray, List.set_cons_zero, List.set_cons_succ]
    refine wpAnyH_take (i := 8) (v := undef) rfl (by kernel_rfl) (by kernel_rfl) (by kernel_rfl) (fun _ _ _ h => h) (Or.inr ⟨by rfl, rfl⟩) (by assumption) ?_
    simp only [Act.put, List.getElem_toArray, List.getElem_cons_zero, List.getElem_cons_succ, List.setIfInBounds_toArray, List.set_cons_zero, List.set_cons_succ]
    refine wpAnyH_take (i := 9) (v := undef) rfl (by kernel_rfl) (by kernel_rfl) (by kernel_rfl) (fun _ _ _ h => h) (Or.inr ⟨by rfl, rfl⟩) (by assumption) ?_
    simp only [Act.put, List.getElem_toArray, List.getElem_cons_zero, List.getElem_cons_succ, List.setIfInBounds_toArray, List.set_cons_zero, List.set_cons_succ]
    refine wpAnyH_take (i := 10) (v := undef) rfl (by kernel_rfl) (by kernel_rfl) (by kernel_rfl) (fun _ _ _ h => h) (Or.inr ⟨by rfl, rfl⟩) (by assumption) ?_
    simp only [Act.put, List.getElem_toArray, List.getElem_cons_zero, List.getElem_cons_succ, List.setIfInBounds_toArray, List.set_cons_zero, List.set_cons_succ]
    refine wpAnyH_ready (rs := [11]) (by kernel_rfl) (by simp) ?_
    refine AllReadyH.cons rfl (fun K hK => ?_) AllReadyH.nil
    go_simp
    refine hK.out _ _ ?_ (fun hHeld => ?_)
    · ((try dsimp only); exact c0)
    clear hK K
    try simp only [Act.put, List.getElem_toArray, List.getElem_cons_zero, List.getElem_cons_succ, List.setIfInBounds_toArray, List.set_cons_zero, List.set_cons_succ]
    refine wpAnyH_take (i := 12) (v := ?_) rfl (by kernel_rfl) (by kernel_rfl) (by kernel_rfl) (fun _ _ _ h => h) (Or.inl ⟨by rfl, ?_⟩) (by assumption) ?_
    rotate_left
    · (intro w hSw; (try dsimp only at hSw); go_simp; try with_reducible rfl)
    simp only [Act.put, List.getElem_toArray, List.getElem_cons_zero, List.getElem_cons_succ, List.setIfInBounds_toArray, List.set_cons_zero, List.set_cons_succ]
    refine wpAnyH_take (i := 13) (v := ?_) rfl (by kernel_rfl) (by kernel_rfl) (by kernel_rfl) (fun _ _ _ h => h) (Or.inl ⟨by rfl, ?_⟩) (by assumption) ?_
    rotate_left
    · (intro w hSw; (try dsimp only at hSw); go_simp; try with_reducible rfl)
    simp only [Act.put, List.getElem_toArray, List.getElem_cons_zero, List.getElem_cons_succ, List.setIfInBounds_toArray, List.set_cons_zero, List.set_cons_succ]
    refine wpAnyH_done (by kernel_rfl) ?_ _
    refine NoPanic.normal ?_
    go_wp2_with fail
    go_quiet (fail)
    go_wp2_with fail
    go_ret
    rw [HF.out.1, HF.out.2]
    exact ⟨rfl, heap_set HP.out 0 _, Keeps.setCell (S := fun j => j = P) ((Keeps.refl _ wr).drewN _) (p := ⟨P, 0, none⟩) (.inl rfl) _⟩
  · obtain ⟨y, hy⟩ : ∃ y, L[p]? = some y := ⟨_, List.getElem?_eq_getElem (by rw [h.len]; exact hp)⟩
    have gy : getX L ((p : Int)).toNat = y := by unfold getX; rw [show ((p : Int)).toNat = p from rfl, hy]; rfl
    have HY := Lib.hid (hops p y hy)
    rw [gy] at HN
    have HF := Lib.hid (And.intro (HN.out.1.trans (if_neg (by omega))) (HN.out.2.trans (if_neg (by omega))))
    have HBF := Lib.hid (fun W => before_any W x y)
    have dp : decide (p < n) = true := decide_eq_true hp
    clear hP hQ h hx gx hops HN hy gy
    generalize befP x y = bf at HBF HF
    cases hg : decide (y 15 < x 15)
    case' false => have HF2 := Lib.hid (HF.out.2.trans (if_neg (of_decide_eq_false hg)))
    case' true => have HF2 := Lib.hid (HF.out.2.trans (if_pos (of_decide_eq_true hg)))
    all_goals
      go_enter Tryd.func43, Tryd.ntmps43
      go_wp2_with fail
      refine wp_region_noPanic ?_
      refine wp_region_held_drew (S := (fun W => W.rangeAt b (off + i * 17) (opL x) ∧ W.rangeAt b (off + p * 17) (opL y) ∧ W.cell? ⟨P, 0, none⟩ = some (.int .i64 (p : Int)) ∧ W.cell? ⟨Q, 0, none⟩ = some (.slice (some ⟨b, off, none⟩) n c))) (by kernel_rfl) ?_ (fun hHeld => ?_)
      · exact ⟨HX.out, HY.out, c0, cQ⟩
      refine wpAnyH_take (i := 0) (v := ?_) rfl (by kernel_rfl) (by kernel_rfl) (by kernel_rfl) (fun _ _ _ h => h) (Or.inl ⟨by rfl, ?_⟩) (by assumption) ?_
      rotate_left
      · (intro w hSw; (try dsimp only at hSw); go_simp; try with_reducible rfl)
      simp only [Act.put, List.getElem_toArray, List.getElem_cons_zero, List.getElem_cons_succ, List.setIfInBounds_toArray, List.set_cons_zero, List.set_cons_succ]
      refine wpAnyH_take (i := 1) (v := ?_) rfl (by kernel_rfl) (by kernel_rfl) (by kernel_rfl) (fun _ _ _ h => h) (Or.inl ⟨by rfl, ?_⟩) (by assumption) ?_
      rotate_left
      · (intro w hSw; (try dsimp only at hSw); go_simp; try with_reducible rfl)
      simp only [Act.put, List.getElem_toArray, List.getElem_cons_zero, List.getElem_cons_succ, List.setIfInBounds_toArray, List.set_cons_zero, List.set_cons_succ]
      refine wpAnyH_take (i := 2) (v := ?_) rfl (by kernel_rfl) (by kernel_rfl) (by kernel_rfl) (fun _ _ _ h => h) (Or.inl ⟨by rfl, ?_⟩) (by assumption) ?_
      rotate_left
      · (intro w hSw; (try dsimp only at hSw); go_simp; try with_reducible rfl)
      simp only [Act.put, List.getElem_toArray, List.getElem_cons_zero, List.getElem_cons_succ, List.setIfInBounds_toArray, List.set_cons_zero, List.set_cons_succ]
      refine wpAnyH_take (i := 3) (v := ?_) rfl (by kernel_rfl) (by kernel_rfl) (by kernel_rfl) (fun _ _ _ h => h) (Or.inl ⟨by rfl, ?_⟩) (by assumption) ?_
      rotate_left
      · (intro w hSw; (try dsimp only at hSw); go_simp; try with_reducible rfl)
      simp only [Act.put, List.getElem_toArray, List.getElem_cons_zero, List.getElem_cons_succ, List.setIfInBounds_toArray, List.set_cons_zero, List.set_cons_succ]
      refine wpAnyH_take (i := 4) (v := ?_) rfl (by kernel_rfl) (by kernel_rfl) (by kernel_rfl) (fun _ _ _ h => h) (Or.inl ⟨by rfl, ?_⟩) (by assumption) ?_
      rotate_left
      · (intro w hSw; (try dsimp only at hSw); go_simp; try with_reducible rfl)
      simp only [Act.put, List.getElem_toArray, List.getElem_cons_zero, List.getElem_cons_succ, List.setIfInBounds_toArray, List.set_cons_zero, List.set_cons_succ]
      refine wpAnyH_take (i := 5) (v := ?_) rfl (by kernel_rfl) (by kernel_rfl) (by kernel_rfl) (fun _ _ _ h => h) (Or.inl ⟨by rfl, ?_⟩) (by assumption) ?_
      rotate_left
      · (intro w hSw; (try dsimp only at hSw); go_simp; try with_reducible rfl)
      simp only [Act.put, List.getElem_toArray, List.getElem_cons_zero, List.getElem_cons_succ, List.setIfInBounds_toArray, List.set_cons_zero, List.set_cons_succ]
      refine wpAnyH_take (i := 6) (v := .agg (opL x).toArray) rfl (by kernel_rfl) (by kernel_rfl) (by kernel_rfl) (fun _ _ _ h => h) (yieldsIf_load_mid (by rfl) 47 _ rfl b (off + i * 17) rfl (opL x) _ (fun w h => h.1) Tryd.underlying47 rfl op_info) (by assumption) ?_
      simp only [Act.put, List.getElem_toArray, List.getElem_cons_zero, List.getElem_cons_succ, List.setIfInBounds_toArray, List.set_cons_zero, List.set_cons_succ]
      refine wpAnyH_take (i := 7) (v := ?_) rfl (by kernel_rfl) (by kernel_rfl) (by kernel_rfl) (fun _ _ _ h => h) (Or.inl ⟨by rfl, ?_⟩) (by assumption) ?_
      rotate_left
      · (intro w hSw; (try dsimp only at hSw); go_simp; try with_reducible rfl)
      simp only [Act.put, List.getElem_toArray, List.getElem_cons_zero, List.getElem_cons_succ, List.setIfInBounds_toArray, List.set_cons_zero, List.set_cons_succ]
      refine wpAnyH_take (i := 8) (v := ?_) rfl (by kernel_rfl) (by kernel_rfl) (by kernel_rfl) (fun _ _ _ h => h) (Or.inl ⟨by rfl, ?_⟩) (by assumption) ?_
      rotate_left
      · (intro w hSw; (try dsimp only at hSw); go_simp; try with_reducible rfl)
      simp only [Act.put, List.getElem_toArray, List.getElem_cons_zero, List.getElem_cons_succ, List.setIfInBounds_toArray, List.set_cons_zero, List.set_cons_succ]
      refine wpAnyH_take (i := 9) (v := ?_) rfl (by kernel_rfl) (by kernel_rfl) (by kernel_rfl) (fun _ _ _ h => h) (Or.inl ⟨by rfl, ?_⟩) (by assumption) ?_
      rotate_left
      · (intro w hSw; (try dsimp only at hSw); go_simp; try with_reducible rfl)
      simp only [Act.put, List.getElem_toArray, List.getElem_cons_zero, List.getElem_cons_succ, List.setIfInBounds_toArray, List.set_cons_zero, List.set_cons_succ]
      refine wpAnyH_take (i := 10) (v := .agg (opL y).toArray) rfl (by kernel_rfl) (by kernel_rfl) (by kernel_rfl) (fun _ _ _ h => h) (yieldsIf_load_mid (by rfl) 47 _ rfl b (off + p * 17) rfl (opL y) _ (fun w h => h.2.1) Tryd.underlying47 rfl op_info) (by assumption) ?_
      simp only [Act.put, List.getElem_toArray, List.getElem_cons_zero, List.getElem_cons_succ, List.setIfInBounds_toArray, List.set_cons_zero, List.set_cons_succ]
      refine wpAnyH_ready (rs := [11]) (by kernel_rfl) (by simp) ?_
      refine AllReadyH.cons rfl (fun K hK => ?_) AllReadyH.nil
      go_simp
      (go_at_call 32; refine (HBF.out _).mono ?_; rintro e9 w9 ⟨rfl, k9⟩; have HK9 := Lib.hid (show Keeps (fun _ => False) wr w9 from ((Keeps.refl _ wr).drew).trans k9); clear k9)
      go_wp2_with fail
      refine hK.out _ _ ?_ (fun hHeld => ?_)
      · ((try dsimp only); exact ⟨range_keeps HX.out HK9.out hbl, range_keeps HY.out HK9.out hbl, (HK9.out.none.cell (p := ⟨P, 0, none⟩) hlp).trans c0, (HK9.out.none.cell (p := ⟨Q, 0, none⟩) hlq).trans cQ⟩)
      clear hK K
      try simp only [Act.put, List.getElem_toArray, List.getElem_cons_zero, List.getElem_cons_succ, List.setIfInBounds_toArray, List.set_cons_zero, List.set_cons_succ]
      refine wpAnyH_take (i := 12) (v := ?_) rfl (by kernel_rfl) (by kernel_rfl) (by kernel_rfl) (fun _ _ _ h => h) (Or.inl ⟨by rfl, ?_⟩) (by assumption) ?_
      rotate_left
      · (intro w hSw; (try dsimp only at hSw); go_simp; try with_reducible rfl)
      simp only [Act.put, List.getElem_toArray, List.getElem_cons_zero, List.getElem_cons_succ, List.setIfInBounds_toArray, List.set_cons_zero, List.set_cons_succ]
      refine wpAnyH_take (i := 13) (v := ?_) rfl (by kernel_rfl) (by kernel_rfl) (by kernel_rfl) (fun _ _ _ h => h) (Or.inl ⟨by rfl, ?_⟩) (by assumption) ?_
      rotate_left
      · (intro w hSw; (try dsimp only at hSw); go_simp; try with_reducible rfl)
      simp only [Act.put, List.getElem_toArray, List.getElem_cons_zero, List.getElem_cons_succ, List.setIfInBounds_toArray, List.set_cons_zero, List.set_cons_succ]
      refine wpAnyH_done (by kernel_rfl) ?_ _
      refine NoPanic.normal ?_
      have c0' : w9.cell? ⟨P, 0, none⟩ = some (.int .i64 (p : Int)) := (HK9.out.none.cell (p := ⟨P, 0, none⟩) hlp).trans c0
      have f0' : w9.frozen? ⟨P, 0, none⟩ = false := (HK9.out.none.frozen (p := ⟨P, 0, none⟩) hlp).trans f0
      have cQ' : w9.cell? ⟨Q, 0, none⟩ = some (.slice (some ⟨b, off, none⟩) n c) := (HK9.out.none.cell (p := ⟨Q, 0, none⟩) hlq).trans cQ
      have cx : w9.cell? ⟨b, off + i * 17 + 15, none⟩ = some (.int .i64 (x 15)) := range_keeps HX.out HK9.out hbl 15 _ rfl
      have cy : w9.cell? ⟨b, off + p * 17 + 15, none⟩ = some (.int .i64 (y 15)) := range_keeps HY.out HK9.out hbl 15 _ rfl
      go_wp2_with fail
      go_quiet (fail)
      go_wp2_with fail
      go_ret
    · first
      | exact ⟨by rw [HF.out.1]; rfl, by rw [HF2.out]; exact HK9.out.at HP.out fun h => h, (HK9.out.drewN _).mono fun _ _ h => h.elim⟩
      | exact ⟨by rw [HF.out.1]; rfl, by rw [HF2.out]; exact heap_set (HK9.out.at HP.out fun h => h) 0 _, Keeps.setCell (S := fun j => j = P) ((HK9.out.drewN _).mono fun _ _ h => h.elim) (p := ⟨P, 0, none⟩) (.inl rfl) _⟩
    · first
      | exact ⟨by rw [HF.out.1]; rfl, by rw [HF2.out]; exact HK9.out.at HP.out fun h => h, (HK9.out.drewN _).mono fun _ _ h => h.elim⟩
      | exact ⟨by rw [HF.out.1]; rfl, by rw [HF2.out]; exact heap_set (HK9.out.at HP.out fun h => h) 0 _, Keeps.setCell (S := fun j => j = P) ((HK9.out.drewN _).mono fun _ _ h => h.elim) (p := ⟨P, 0, none⟩) (.inl rfl) _⟩
end Go.Proofs.YtohajfkekkelhaaDoor
