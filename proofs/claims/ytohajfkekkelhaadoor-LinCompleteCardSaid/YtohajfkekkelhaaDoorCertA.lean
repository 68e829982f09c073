import Derived.Test.YtohajfkekkelhaaDoorOpB
import Derived.Laws.MakeOwn
namespace Go.Proofs.YtohajfkekkelhaaDoor
open Go.ChangeShapes Go.WideShapes Go.ChangeAt Go.RowKit
set_option linter.unusedVariables false
set_option linter.unusedSimpArgs false
/-- A slice of numbers as an argument. -/
structure IntsArg (w : World) (a : Option Addr) (m : Nat) (O : List Int) : Prop where
  len : O.length = m
  lies : 0 < m → ∃ b off, a = some ⟨b, off, none⟩ ∧ b < w.heap.size ∧ ∀ k x, O[k]? = some x → w.cell? ⟨b, off + k, none⟩ = some (.int .i64 x)
theorem IntsArg.below {w w' : World} {a : Option Addr} {m : Nat} {O : List Int} (h : IntsArg w a m O) (hb : Below w.heap.size w w') : IntsArg w' a m O :=
  ⟨h.len, fun hm => by
    obtain ⟨b, off, e, hl, hc⟩ := h.lies hm
    exact ⟨b, off, e, Nat.lt_of_lt_of_le hl hb.size, fun k x hk => (hb.cell (p := ⟨b, off + k, none⟩) hl).trans (hc k x hk)⟩⟩
def markB (s : Nat → Bool) (i : Nat) : Nat → Bool := fun j => if j = i then true else s j
/-- Which of n calls an order has; none: it has a call twice, or one that is not there. -/
def seenG (n : Nat) : List Int → (Nat → Bool) → Option (Nat → Bool)
  | [], s => some s
  | x :: t, s => if x < 0 ∨ (n : Int) ≤ x ∨ s x.toNat = true then none else seenG n t (markB s x.toNat)
/-- Has an order each of its calls once, and all that are done? -/
def wholeP (L : List OpX) (O : List Int) : Bool := match seenG L.length O (fun _ => false) with
  | none => false
  | some s => (List.range L.length).all fun i => !(decide (((L[i]?).getD (fun _ => 0)) 14 = 1)) || s i
/-- The marks in memory. -/
structure MarksAt (w : World) (g n : Nat) (s : Nat → Bool) : Prop where
  blk : ∃ cs : Array Value, w.heap[g]? = some (.cells cs 4 (0, 0)) ∧ cs.size = n ∧ ∀ i, i < n → cs[i]? = some (.bool (s i))
theorem MarksAt.cell {w : World} {g n : Nat} {s : Nat → Bool} (h : MarksAt w g n s) (i : Nat) (hi : i < n) : w.cell? ⟨g, i, none⟩ = some (.bool (s i)) := by
  obtain ⟨cs, h1, _, h3⟩ := h.blk
  exact (cell_of h1 i).trans (h3 i hi)
theorem MarksAt.free {w : World} {g n : Nat} {s : Nat → Bool} (h : MarksAt w g n s) (i : Nat) : w.frozen? ⟨g, i, none⟩ = false := by
  obtain ⟨cs, h1, _, _⟩ := h.blk
  exact free_of h1 i
theorem MarksAt.mark {w : World} {g n : Nat} {s : Nat → Bool} (h : MarksAt w g n s) (i : Nat) (hi : i < n) : MarksAt (w.setCell ⟨g, i, none⟩ (.bool true)) g n (markB s i) := by
  obtain ⟨cs, h1, h2, h3⟩ := h.blk
  refine ⟨⟨cs.setIfInBounds i (.bool true), heap_set h1 i _, by simpa using h2, fun j hj => ?_⟩⟩
  unfold markB
  by_cases e : j = i
  · subst e
    rw [if_pos rfl, Array.getElem?_setIfInBounds_self_of_lt (by omega)]
  · rw [if_neg e, Array.getElem?_setIfInBounds_ne (by omega)]
    exact h3 j hj
theorem make_marks (w : World) (n : Nat) (hn : n ≤ 1000) : (Instr.makeSlice 92 (.int .i64 (n : Int)) (.int .i64 (n : Int))).run Tryd.prog w = .ok (.slice (some ⟨w.heap.size, 0, none⟩) n n) (w.alloc (.cells (madeCells #[.bool false] n) 4)) := by
  obtain ⟨i, hi, hz0, hz1, hz2⟩ := info_parts (show (Tryd.prog.info? 4).map (fun i => (i.zero, i.size, i.bytes)) = some (some (.bool false), 1, 1) by kernel_rfl)
  have h := run_make w 92 4 i (.bool false) Tryd.underlying92 hi hz0 .i64 .i64 (n : Int) (n : Int) (by omega) (by omega) (by rw [hz2]; omega) (by omega)
  rw [hz1, Nat.mul_one] at h
  exact h
theorem marks_new (w : World) (n : Nat) : MarksAt (w.alloc (.cells (madeCells #[.bool false] n) 4)) w.heap.size n (fun _ => false) :=
  ⟨⟨_, heap_new w _, size_madeCells _ _, fun i hi => by
    unfold madeCells
    rw [Array.getElem?_map, Array.getElem?_range, if_pos hi]
    simp [Nat.mod_one]⟩⟩
set_option maxRecDepth 100000 in
set_option maxHeartbeats 4000000 in
theorem whole_any (w : World) (a : Option Addr) (n c : Nat) (L : List OpX) (h : OpsArg w a n L) (hn : n ≤ 1000) (a2 : Option Addr) (m c2 : Nat) (O : List Int) (h2 : IntsArg w a2 m O) (hm : m ≤ 1000) :
    Calls Tryd.prog 26 #[.slice a n c, .slice a2 m c2] w fun e w' => e = .returned (.bool (wholeP L O)) ∧ Below w.heap.size w w' := by
  have HH := Lib.hid h
  have HO := Lib.hid h2
  have hmk := fun w => make_marks w n hn
  have HM0 := Lib.hid (marks_new w n)
  have HL := Lib.hid h.len
  clear h h2
  go_enter Tryd.func26, Tryd.ntmps26
  go_wp2_with fail
  try (refine wp_scope_again 0 (fun _ _ => False) (fun _ _ => 0) rfl (fun _ _ h => h.elim) ?_; intro _; go_wp2_with fail)
  try go_step3
  try go_wp2_with fail
  go_loopw [7, 15] (fun _ i wr => ∃ (k : Nat) (s : Nat → Bool), k ≤ m ∧ i = .int .i64 (k : Int) ∧ seenG n O (fun _ => false) = seenG n (O.drop k) s ∧ MarksAt wr w.heap.size n s ∧ Below w.heap.size w wr) (fun _ i _ => m - (intOf i).toNat)
  case atStart => exact ⟨0, fun _ => false, by omega, rfl, rfl, HM0.out, (Below.refl _ w).alloc (Nat.le_refl _) _⟩
  case round =>
    clear HM0
    obtain ⟨k, s, hk, rfl, hsn, hma, hB⟩ := hrel
    have HB := Lib.hid hB
    have HM := Lib.hid hma
    have HS := Lib.hid hsn
    clear hB hma hsn
    by_cases hlt : k < m
    · obtain ⟨b2, off2, rfl, hb2, hc2⟩ := HO.out.lies (by omega)
      obtain ⟨x, hx⟩ : ∃ x, O[k]? = some x := ⟨_, List.getElem?_eq_getElem (by rw [HO.out.len]; exact hlt)⟩
      have hdrop : O.drop k = x :: O.drop (k + 1) := by
        rw [List.drop_eq_getElem_cons (by rw [HO.out.len]; exact hlt)]
        congr 1
        rw [List.getElem?_eq_getElem (by rw [HO.out.len]; exact hlt)] at hx
        exact Option.some.inj hx
      have HS2 := Lib.hid (show seenG n O (fun _ => false) = if x < 0 ∨ (n : Int) ≤ x ∨ s x.toNat = true then none else seenG n (O.drop (k + 1)) (markB s x.toNat) by rw [HS.out, hdrop]; rfl)
      have c0 : wr.cell? ⟨b2, off2 + k, none⟩ = some (.int .i64 x) := (HB.out.cell (p := ⟨b2, off2 + k, none⟩) hb2).trans (hc2 k x hx)
      have dk : decide (k < m) = true := decide_eq_true hlt
      have bad : (x < 0 ∨ (n : Int) ≤ x ∨ s x.toNat = true) → wholeP L O = false := fun hb => by
        unfold wholeP
        rw [HL.out, HS2.out, if_pos hb]
      have HBAD := Lib.hid bad
      clear hx hdrop hc2 bad
      by_cases t1 : x < 0
      · have e1 : decide (x < 0) = true := decide_eq_true t1
        have HF := Lib.hid (HBAD.out (.inl t1))
        clear t1
        go_wp2_with fail
        try simp only [Exit.jump]
        go_ret
        exact ⟨by rw [HF.out]; rfl, HB.out⟩
      have e1 : decide (x < 0) = false := decide_eq_false t1
      by_cases t2 : (n : Int) ≤ x
      · have e2 : decide ((n : Int) ≤ x) = true := decide_eq_true t2
        have HF := Lib.hid (HBAD.out (.inr (.inl t2)))
        clear t1 t2
        go_wp2_with fail
        try simp only [Exit.jump]
        go_ret
        exact ⟨by rw [HF.out]; rfl, HB.out⟩
      have e2 : decide ((n : Int) ≤ x) = false := decide_eq_false t2
      obtain ⟨j, rfl⟩ : ∃ j : Nat, x = (j : Int) := ⟨x.toNat, by omega⟩
      have hj : j < n := by omega
      have cj := HM.out.cell j hj
      have fj := HM.out.free j
      cases hs : s j with
      | true =>
        rw [hs] at cj
        have HF := Lib.hid (HBAD.out (.inr (.inr hs)))
        go_wp2_with fail
        try simp only [Exit.jump]
        go_ret
        exact ⟨by rw [HF.out]; rfl, HB.out⟩
      | false =>
        rw [hs] at cj
        have HN := Lib.hid (show seenG n O (fun _ => false) = seenG n (O.drop (k + 1)) (markB s j) by
          rw [HS2.out, if_neg (by rw [show ((j : Int)).toNat = j from rfl, hs]; simp; omega)]
          rfl)
        have HM2 := Lib.hid (HM.out.mark j hj)
        have HB2 := Lib.hid (HB.out.setCell (p := ⟨w.heap.size, j, none⟩) (Nat.le_refl _) (.bool true))
        go_wp2_with fail
        go_roundw
        case rel => exact ⟨k + 1, _, by omega, by go_num, HN.out, HM2.out, HB2.out⟩
        case measure => simp [intOf]; omega
    · obtain rfl : k = m := by omega
      have HS3 := Lib.hid (show seenG n O (fun _ => false) = some s by rw [HS.out, List.drop_of_length_le (by rw [HO.out.len]; exact Nat.le_refl _)]; rfl)
      have dk : decide (k < k) = false := decide_eq_false (by omega)
      clear HS
      go_wp2_with fail
      try (refine wp_scope_again 0 (fun _ _ => False) (fun _ _ => 0) rfl (fun _ _ h => h.elim) ?_; intro _; go_wp2_with fail)
      try go_step3
      try go_wp2_with fail
      go_loopw [8, 9, 39] (fun v8 _ i W => ∃ q : Nat, q ≤ n ∧ i = .int .i64 (q : Int) ∧ v8 = .bool true ∧ (∀ j, j < q → (!(decide (((L[j]?).getD (fun _ => 0)) 14 = 1)) || s j) = true) ∧ MarksAt W w.heap.size n s ∧ Below w.heap.size w W) (fun _ _ i _ => n - (intOf i).toNat)
      case atStart => exact ⟨0, by omega, rfl, rfl, fun j hj => by omega, HM.out, HB.out⟩
      case round =>
        clear HM HB
        obtain ⟨q, hq, rfl, rfl, hall, hma, hB⟩ := hrel
        have HB := Lib.hid hB
        have HM := Lib.hid hma
        have HA := Lib.hid hall
        clear hB hma hall
        by_cases hlq : q < n
        · obtain ⟨b, off, rfl, hb, hops⟩ := HH.out.lies (by omega)
          obtain ⟨x, hx⟩ : ∃ x, L[q]? = some x := ⟨_, List.getElem?_eq_getElem (by rw [HL.out]; exact hlq)⟩
          have c14 : wr.cell? ⟨b, off + q * 17 + 14, none⟩ = some (.bool (decide (x 14 = 1))) := range_below (hops q x hx) HB.out hb 14 _ rfl
          have cs := HM.out.cell q hlq
          have HX := Lib.hid hx
          have dq : decide (q < n) = true := decide_eq_true hlq
          clear hops hx
          cases hd : decide (x 14 = 1) with
          | false =>
            rw [hd] at c14
            have HN := Lib.hid (show ∀ j, j < q + 1 → (!(decide (((L[j]?).getD (fun _ => 0)) 14 = 1)) || s j) = true from fun j hj => by
              by_cases e : j = q
              · subst e
                rw [HX.out]
                show (!(decide (x 14 = 1)) || s j) = true
                rw [hd]
                rfl
              · exact HA.out j (by omega))
            go_wp2_with fail
            go_roundw
            case rel => first | exact ⟨q + 1, by omega, by go_num, rfl, HN.out, HM.out, HB.out⟩ | (repeat (refine Exists.intro _ ?_); exact ⟨⟨q + 1, by omega, by go_num, rfl, HN.out, HM.out, HB.out⟩, rfl⟩)
            case measure => simp [intOf]; omega
          | true =>
            rw [hd] at c14
            cases hs : s q with
            | true =>
              rw [hs] at cs
              have HN := Lib.hid (show ∀ j, j < q + 1 → (!(decide (((L[j]?).getD (fun _ => 0)) 14 = 1)) || s j) = true from fun j hj => by
                by_cases e : j = q
                · subst e
                  rw [hs, Bool.or_true]
                · exact HA.out j (by omega))
              go_wp2_with fail
              go_roundw
              case rel => first | exact ⟨q + 1, by omega, by go_num, rfl, HN.out, HM.out, HB.out⟩ | (repeat (refine Exists.intro _ ?_); exact ⟨⟨q + 1, by omega, by go_num, rfl, HN.out, HM.out, HB.out⟩, rfl⟩)
              case measure => simp [intOf]; omega
            | false =>
              rw [hs] at cs
              have HF := Lib.hid (show wholeP L O = false by
                unfold wholeP
                rw [HL.out, HS3.out]
                exact List.all_eq_false.2 ⟨q, List.mem_range.2 hlq, by rw [HX.out]; show ¬ ((!(decide (x 14 = 1)) || s q) = true); rw [hd, hs]; simp⟩)
              go_wp2_with fail
              try simp only [Exit.jump]
              go_ret
              exact ⟨by rw [HF.out]; rfl, HB.out⟩
        · obtain rfl : q = n := by omega
          have dq : decide (q < q) = false := decide_eq_false (by omega)
          have HF := Lib.hid (show wholeP L O = true by
            unfold wholeP
            rw [HL.out, HS3.out]
            exact List.all_eq_true.2 fun j hj => HA.out j (List.mem_range.1 hj))
          go_wp2_with fail
          try simp only [Exit.jump]
          go_ret
          exact ⟨by rw [HF.out]; rfl, HB.out⟩
end Go.Proofs.YtohajfkekkelhaaDoor
