import Derived.Test.YtohajfkekkelhaaDoorOpB
import Derived.Laws.MakeOwn
import Derived.Test.YtohajfkekkelhaaDoorSpecQz
namespace Go.Proofs.YtohajfkekkelhaaDoor
open Go.ChangeShapes Go.WideShapes Go.ChangeAt Go.RowKit
set_option linter.unusedVariables false
set_option linter.unusedSimpArgs false
/-- A slice of numbers as an argument. -/
structure IntsArg (w : World) (a : Option Addr) (m : Nat) (O : List Int) : Prop where
  len : O.length = m
  lies : 0 < m → ∃ b off, a = some ⟨b, off, none⟩ ∧ b < w.heap.size ∧ ∀ k x, O[k]? = some x → w.cell? ⟨b, off + k, none⟩ = some (.int .i64 x)
theorem IntsArg.below {w w' : World} {a : Option Addr} {m : Nat} {O : List Int} (h : IntsArg w a m O) (hb : Below w.heap.size w w') : IntsArg w' a m O :=
  ⟨h.len, fun hm => by
    obtain ⟨b, off, e, hl, hc⟩ := h.lies hm
    exact ⟨b, off, e, Nat.lt_of_lt_of_le hl hb.size, fun k x hk => (hb.cell (p := ⟨b, off + k, none⟩) hl).trans (hc k x hk)⟩⟩
def markB (s : Nat → Bool) (i : Nat) : Nat → Bool := fun j => if j = i then true else s j
/-- Which of n calls an order has; none: it has a call twice, or one that is not there. -/
def seenG (n : Nat) : List Int → (Nat → Bool) → Option (Nat → Bool)
  | [], s => some s
  | x :: t, s => if x < 0 ∨ (n : Int) ≤ x ∨ s x.toNat = true then none else seenG n t (markB s x.toNat)
/-- Has an order each of its calls once, and all that are done? -/
def wholeP (L : List OpX) (O : List Int) : Bool := match seenG L.length O (fun _ => false) with
  | none => false
  | some s => (List.range L.length).all fun i => !(decide (((L[i]?).getD (fun _ => 0)) 14 = 1)) || s i
/-- The marks in memory. -/
structure MarksAt (w : World) (g n : Nat) (s : Nat → Bool) : Prop where
  blk : ∃ cs : Array Value, w.heap[g]? = some (.cells cs 4 (0, 0)) ∧ cs.size = n ∧ ∀ i, i < n → cs[i]? = some (.bool (s i))
theorem MarksAt.cell {w : World} {g n : Nat} {s : Nat → Bool} (h : MarksAt w g n s) (i : Nat) (hi : i < n) : w.cell? ⟨g, i, none⟩ = some (.bool (s i)) := by
  obtain ⟨cs, h1, _, h3⟩ := h.blk
  exact (cell_of h1 i).trans (h3 i hi)
theorem MarksAt.free {w : World} {g n : Nat} {s : Nat → Bool} (h : MarksAt w g n s) (i : Nat) : w.frozen? ⟨g, i, none⟩ = false := by
  obtain ⟨cs, h1, _, _⟩ := h.blk
  exact free_of h1 i
theorem MarksAt.mark {w : World} {g n : Nat} {s : Nat → Bool} (h : MarksAt w g n s) (i : Nat) (hi : i < n) : MarksAt (w.setCell ⟨g, i, none⟩ (.bool true)) g n (markB s i) := by
  obtain ⟨cs, h1, h2, h3⟩ := h.blk
  refine ⟨⟨cs.setIfInBounds i (.bool true), heap_set h1 i _, by simpa using h2, fun j hj => ?_⟩⟩
  unfold markB
  by_cases e : j = i
  · subst e
    rw [if_pos rfl, Array.getElem?_setIfInBounds_self_of_lt (by omega)]
  · rw [if_neg e, Array.getElem?_setIfInBounds_ne (by omega)]
    exact h3 j hj
theorem make_marks (w : World) (n : Nat) (hn : n ≤ 1000) : (Instr.makeSlice 92 (.int .i64 (n : Int)) (.int .i64 (n : Int))).run Tryd.prog w = .ok (.slice (some ⟨w.heap.size, 0, none⟩) n n) (w.alloc (.cells (madeCells #[.bool false] n) 4)) := by
  obtain ⟨i, hi, hz0, hz1, hz2⟩ := info_parts (show (Tryd.prog.info? 4).map (fun i => (i.zero, i.size, i.bytes)) = some (some (.bool false), 1, 1) by kernel_rfl)
  have h := run_make w 92 4 i (.bool false) Tryd.underlying92 hi hz0 .i64 .i64 (n : Int) (n : Int) (by omega) (by omega) (by rw [hz2]; omega) (by omega)
  rw [hz1, Nat.mul_one] at h
  exact h
theorem marks_new (w : World) (n : Nat) : MarksAt (w.alloc (.cells (madeCells #[.bool false] n) 4)) w.heap.size n (fun _ => false) :=
  ⟨⟨_, heap_new w _, size_madeCells _ _, fun i hi => by
    unfold madeCells
    rw [Array.getElem?_map, Array.getElem?_range, if_pos hi]
    simp [Nat.mod_one]⟩⟩
set_option maxRecDepth 100000 in
set_option maxHeartbeats 4000000 in
theorem whole_any (w : World) (a : Option Addr) (n c : Nat) (L : List OpX) (h : OpsArg w a n L) (hn : n ≤ 1000) (a2 : Option Addr) (m c2 : Nat) (O : List Int) (h2 : IntsArg w a2 m O) (hm : m ≤ 1000) :
    Calls Tryd.prog 26 #[.slice a n c, .slice a2 m c2] w fun e w' => e = .returned (.bool (wholeP L O)) ∧ Below w.heap.size w w' := by
  have HH := Lib.hid h
  have HO := Lib.hid h2
  have hmk := fun w => make_marks w n hn
  have HM0 := Lib.hid (marks_new w n)
  have HL := Lib.hid h.len
  clear h h2
  go_enter Tryd.func26, Tryd.ntmps26
  go_wp2_with fail
  try (refine wp_scope_again 0 (fun _ _ => False) (fun _ _ => 0) rfl (fun _ _ h => h.elim) ?_; intro _; go_wp2_with fail)
  try go_step3
  try go_wp2_with fail
  go_loopw [7, 15] (fun _ i wr => ∃ (k : Nat) (s : Nat → Bool), k ≤ m ∧ i = .int .i64 (k : Int) ∧ seenG n O (fun _ => false) = seenG n (O.drop k) s ∧ MarksAt wr w.heap.size n s ∧ Below w.heap.size w wr) (fun _ i _ => m - (intOf i).toNat)
  case atStart => exact ⟨0, fun _ => false, by omega, rfl, rfl, HM0.out, (Below.refl _ w).alloc (Nat.le_refl _) _⟩
  case round =>
    clear HM0
    obtain ⟨k, s, hk, rfl, hsn, hma, hB⟩ := hrel
    have HB := Lib.hid hB
    have HM := Lib.hid hma
    have HS := Lib.hid hsn
    clear hB hma hsn
    by_cases hlt : k < m
    · obtain ⟨b2, off2, rfl, hb2, hc2⟩ := HO.out.lies (by omega)
      obtain ⟨x, hx⟩ : ∃ x, O[k]? = some x := ⟨_, List.getElem?_eq_getElem (by rw [HO.out.len]; exact hlt)⟩
      have hdrop : O.drop k = x :: O.drop (k + 1) := by
        rw [List.drop_eq_getElem_cons (by rw [HO.out.len]; exact hlt)]
        congr 1
        rw [List.getElem?_eq_getElem (by rw [HO.out.len]; exact hlt)] at hx
        exact Option.some.inj hx
      have HS2 := Lib.hid (show seenG n O (fun _ => false) = if x < 0 ∨ (n : Int) ≤ x ∨ s x.toNat = true then none else seenG n (O.drop (k + 1)) (markB s x.toNat) by rw [HS.out, hdrop]; rfl)
      have c0 : wr.cell? ⟨b2, off2 + k, none⟩ = some (.int .i64 x) := (HB.out.cell (p := ⟨b2, off2 + k, none⟩) hb2).trans (hc2 k x hx)
      have dk : decide (k < m) = true := decide_eq_true hlt
      have bad : (x < 0 ∨ (n : Int) ≤ x ∨ s x.toNat = true) → wholeP L O = false := fun hb => by
        unfold wholeP
        rw [HL.out, HS2.out, if_pos hb]
      have HBAD := Lib.hid bad
      clear hx hdrop hc2 bad
      by_cases t1 : x < 0
      · have e1 : decide (x < 0) = true := decide_eq_true t1
        have HF := Lib.hid (HBAD.out (.inl t1))
        clear t1
        go_wp2_with fail
        try simp only [Exit.jump]
        go_ret
        exact ⟨by rw [HF.out]; rfl, HB.out⟩
      have e1 : decide (x < 0) = false := decide_eq_false t1
      by_cases t2 : (n : Int) ≤ x
      · have e2 : decide ((n : Int) ≤ x) = true := decide_eq_true t2
        have HF := Lib.hid (HBAD.out (.inr (.inl t2)))
        clear t1 t2
        go_wp2_with fail
        try simp only [Exit.jump]
        go_ret
        exact ⟨by rw [HF.out]; rfl, HB.out⟩
      have e2 : decide ((n : Int) ≤ x) = false := decide_eq_false t2
      obtain ⟨j, rfl⟩ : ∃ j : Nat, x = (j : Int) := ⟨x.toNat, by omega⟩
      have hj : j < n := by omega
      have cj := HM.out.cell j hj
      have fj := HM.out.free j
      cases hs : s j with
      | true =>
        rw [hs] at cj
        have HF := Lib.hid (HBAD.out (.inr (.inr hs)))
        go_wp2_with fail
        try simp only [Exit.jump]
        go_ret
        exact ⟨by rw [HF.out]; rfl, HB.out⟩
      | false =>
        rw [hs] at cj
        have HN := Lib.hid (show seenG n O (fun _ => false) = seenG n (O.drop (k + 1)) (markB s j) by
          rw [HS2.out, if_neg (by rw [show ((j : Int)).toNat = j from rfl, hs]; simp; omega)]
          rfl)
        have HM2 := Lib.hid (HM.out.mark j hj)
        have HB2 := Lib.hid (HB.out.setCell (p := ⟨w.heap.size, j, none⟩) (Nat.le_refl _) (.bool true))
        go_wp2_with fail
        go_roundw
        case rel => exact ⟨k + 1, _, by omega, by go_num, HN.out, HM2.out, HB2.out⟩
        case measure => simp [intOf]; omega
    · obtain rfl : k = m := by omega
      have HS3 := Lib.hid (show seenG n O (fun _ => false) = some s by rw [HS.out, List.drop_of_length_le (by rw [HO.out.len]; exact Nat.le_refl _)]; rfl)
      have dk : decide (k < k) = false := decide_eq_false (by omega)
      clear HS
      go_wp2_with fail
      try (refine wp_scope_again 0 (fun _ _ => False) (fun _ _ => 0) rfl (fun _ _ h => h.elim) ?_; intro _; go_wp2_with fail)
      try go_step3
      try go_wp2_with fail
      go_loopw [8, 9, 39] (fun v8 _ i W => ∃ q : Nat, q ≤ n ∧ i = .int .i64 (q : Int) ∧ v8 = .bool true ∧ (∀ j, j < q → (!(decide (((L[j]?).getD (fun _ => 0)) 14 = 1)) || s j) = true) ∧ MarksAt W w.heap.size n s ∧ Below w.heap.size w W) (fun _ _ i _ => n - (intOf i).toNat)
      case atStart => exact ⟨0, by omega, rfl, rfl, fun j hj => by omega, HM.out, HB.out⟩
      case round =>
        clear HM HB
        obtain ⟨q, hq, rfl, rfl, hall, hma, hB⟩ := hrel
        have HB := Lib.hid hB
        have HM := Lib.hid hma
        have HA := Lib.hid hall
        clear hB hma hall
        by_cases hlq : q < n
        · obtain ⟨b, off, rfl, hb, hops⟩ := HH.out.lies (by omega)
          obtain ⟨x, hx⟩ : ∃ x, L[q]? = some x := ⟨_, List.getElem?_eq_getElem (by rw [HL.out]; exact hlq)⟩
          have c14 : wr.cell? ⟨b, off + q * 17 + 14, none⟩ = some (.bool (decide (x 14 = 1))) := range_below (hops q x hx) HB.out hb 14 _ rfl
          have cs := HM.out.cell q hlq
          have HX := Lib.hid hx
          have dq : decide (q < n) = true := decide_eq_true hlq
          clear hops hx
          cases hd : decide (x 14 = 1) with
          | false =>
            rw [hd] at c14
            have HN := Lib.hid (show ∀ j, j < q + 1 → (!(decide (((L[j]?).getD (fun _ => 0)) 14 = 1)) || s j) = true from fun j hj => by
              by_cases e : j = q
              · subst e
                rw [HX.out]
                show (!(decide (x 14 = 1)) || s j) = true
                rw [hd]
                rfl
              · exact HA.out j (by omega))
            go_wp2_with fail
            go_roundw
            case rel => first | exact ⟨q + 1, by omega, by go_num, rfl, HN.out, HM.out, HB.out⟩ | (repeat (refine Exists.intro _ ?_); exact ⟨⟨q + 1, by omega, by go_num, rfl, HN.out, HM.out, HB.out⟩, rfl⟩)
            case measure => simp [intOf]; omega
          | true =>
            rw [hd] at c14
            cases hs : s q with
            | true =>
              rw [hs] at cs
              have HN := Lib.hid (show ∀ j, j < q + 1 → (!(decide (((L[j]?).getD (fun _ => 0)) 14 = 1)) || s j) = true from fun j hj => by
                by_cases e : j = q
                · subst e
                  rw [hs, Bool.or_true]
                · exact HA.out j (by omega))
              go_wp2_with fail
              go_roundw
              case rel => first | exact ⟨q + 1, by omega, by go_num, rfl, HN.out, HM.out, HB.out⟩ | (repeat (refine Exists.intro _ ?_); exact ⟨⟨q + 1, by omega, by go_num, rfl, HN.out, HM.out, HB.out⟩, rfl⟩)
              case measure => simp [intOf]; omega
            | false =>
              rw [hs] at cs
              have HF := Lib.hid (show wholeP L O = false by
                unfold wholeP
                rw [HL.out, HS3.out]
                exact List.all_eq_false.2 ⟨q, List.mem_range.2 hlq, by rw [HX.out]; show ¬ ((!(decide (x 14 = 1)) || s q) = true); rw [hd, hs]; simp⟩)
              go_wp2_with fail
              try simp only [Exit.jump]
              go_ret
              exact ⟨by rw [HF.out]; rfl, HB.out⟩
        · obtain rfl : q = n := by omega
          have dq : decide (q < q) = false := decide_eq_false (by omega)
          have HF := Lib.hid (show wholeP L O = true by
            unfold wholeP
            rw [HL.out, HS3.out]
            exact List.all_eq_true.2 fun j hj => HA.out j (List.mem_range.1 hj))
          go_wp2_with fail
          try simp only [Exit.jump]
          go_ret
          exact ⟨by rw [HF.out]; rfl, HB.out⟩
end Go.Proofs.YtohajfkekkelhaaDoor
namespace Go.Proofs.YtohajfkekkelhaaDoor
open Go.ChangeShapes Go.WideShapes Go.ChangeAt Go.RowKit
set_option linter.unusedVariables false
set_option linter.unusedSimpArgs false
def getX (L : List OpX) (i : Nat) : OpX := (L[i]?).getD (fun _ => 0)
/-- Does call i come behind one that it is before? last: of those ahead, the one that began last; -1: none. -/
def lateP (L : List OpX) (last : Int) (i : Nat) : Bool := if last < 0 then false else befP (getX L i) (getX L last.toNat)
def nextP (L : List OpX) (last : Int) (i : Nat) : Int := if last < 0 then (i : Int) else if (getX L last.toNat) 15 < (getX L i) 15 then (i : Int) else last
end Go.Proofs.YtohajfkekkelhaaDoor
namespace Go.Proofs.YtohajfkekkelhaaDoor
set_option linter.unusedVariables false
set_option linter.unusedSimpArgs false
/-- What the closure remembers behind the calls of a part of an order. -/
def lastG (L : List OpX) : List Nat → Int
  | [] => -1
  | i :: t => nextP L (lastG L t) i
/-- It is the one of them that began last (the part is told backwards). -/
theorem lastG_max (L : List OpX) : ∀ (t : List Nat), (t = [] ∧ lastG L t = -1) ∨ ∃ p : Nat, lastG L t = (p : Int) ∧ p ∈ t ∧ ∀ q, q ∈ t → (getX L q) 15 ≤ (getX L p) 15
  | [] => .inl ⟨rfl, rfl⟩
  | i :: t => by
    refine .inr ?_
    rcases lastG_max L t with ⟨rfl, h⟩ | ⟨p, h, hp, hq⟩
    · refine ⟨i, ?_, List.mem_cons_self, fun q hq => ?_⟩
      · show nextP L (lastG L []) i = _
        exact if_pos (by show (-1 : Int) < 0; omega)
      · rcases List.mem_cons.1 hq with rfl | hq
        · exact Int.le_refl _
        · cases hq
    · have e : lastG L (i :: t) = if (getX L p) 15 < (getX L i) 15 then (i : Int) else (p : Int) := by
        show nextP L (lastG L t) i = _
        unfold nextP
        rw [h, if_neg (by omega)]
        rfl
      by_cases hg : (getX L p) 15 < (getX L i) 15
      · rw [if_pos hg] at e
        refine ⟨i, e, List.mem_cons_self, fun q hq' => ?_⟩
        rcases List.mem_cons.1 hq' with rfl | hq'
        · exact Int.le_refl _
        · have := hq q hq'; omega
      · rw [if_neg hg] at e
        refine ⟨p, e, List.mem_cons_of_mem _ hp, fun q hq' => ?_⟩
        rcases List.mem_cons.1 hq' with rfl | hq'
        · omega
        · exact hq q hq'
/-- **Late: before one of those ahead.** -/
theorem late_any_of (L : List OpX) (t : List Nat) (i : Nat) : lateP L (lastG L t) i = t.any fun q => befP (getX L i) (getX L q) := by
  rcases lastG_max L t with ⟨rfl, h⟩ | ⟨p, h, hp, hq⟩
  · rw [h]
    rfl
  · unfold lateP
    rw [h, if_neg (by omega), show ((p : Int)).toNat = p from rfl]
    cases hb : befP (getX L i) (getX L p) with
    | true => exact (List.any_eq_true.2 ⟨p, hp, hb⟩).symm
    | false =>
      refine (List.any_eq_false.2 fun q hq' hbq => ?_).symm
      have hm := hq q hq'
      unfold befP at hb hbq
      simp only [Bool.and_eq_true, decide_eq_true_eq] at hbq
      rw [decide_eq_true hbq.1, Bool.true_and] at hb
      have hb := of_decide_eq_false hb
      omega
theorem lastG_in (L : List OpX) (t : List Nat) (n : Nat) (h : ∀ q, q ∈ t → q < n) : lastG L t = -1 ∨ ∃ p : Nat, lastG L t = (p : Int) ∧ p < n := by
  rcases lastG_max L t with ⟨_, e⟩ | ⟨p, e, hp, _⟩
  · exact .inl e
  · exact .inr ⟨p, e, h p hp⟩
end Go.Proofs.YtohajfkekkelhaaDoor
namespace Go.Proofs.YtohajfkekkelhaaDoor
open Go.ChangeShapes Go.WideShapes Go.ChangeAt Go.RowKit
set_option linter.unusedVariables false
set_option linter.unusedSimpArgs false
@[reducible] def opV4 (x : OpX) : W4 := ⟨x 4, x 5, x 6, x 7⟩
@[reducible] def opR5 (x : OpX) : ResD := ⟨x 9, ⟨x 10, x 11, x 12, x 13⟩⟩
theorem opV4_ok {x : OpX} (h : OpOk x) : (opV4 x).Ok := ⟨h.u 4 (by omega) (by omega) (by omega), h.u 5 (by omega) (by omega) (by omega), h.u 6 (by omega) (by omega) (by omega), h.u 7 (by omega) (by omega) (by omega)⟩
/-- What there is behind a call of a history, and whether it may be answered as it was. -/
def followP (L : List ItemD) (x : OpX) : List ItemD × Bool :=
  if decide (x 14 = 1) = true then allowsP L (x 2) (x 3) (opV4 x) (opR5 x) else ((doP L (x 2) (x 3) (opV4 x)).1, true)
theorem followP_len (L : List ItemD) (x : OpX) : (followP L x).1.length = L.length := by
  unfold followP
  split
  · exact allowsP_len _ _ _ _ _
  · exact doP_len _ _ _ _
theorem followP_ok {L : List ItemD} {x : OpX} (h : ∀ y, y ∈ L → y.Ok) (hx : OpOk x) : ∀ y, y ∈ (followP L x).1 → y.Ok := by
  unfold followP
  split
  · exact allowsP_ok _ _ _ h (opV4_ok hx)
  · exact doP_ok _ _ h (opV4_ok hx)
theorem call_info : (Tryd.prog.info? 43).map (·.size) = some 7 := by kernel_rfl
theorem res_info : (Tryd.prog.info? 45).map (·.size) = some 5 := by kernel_rfl
theorem range_op (w : World) (x : OpX) : (w.alloc (.cells #[.int .i64 (x 0), .int .i64 (x 1), .int .i64 (x 2), .int .i64 (x 3), .int .u32 (x 4), .int .u32 (x 5), .int .u32 (x 6), .int .u32 (x 7), .int .u32 (x 8), .int .i64 (x 9), .int .u32 (x 10), .int .u32 (x 11), .int .u32 (x 12), .int .u32 (x 13), .bool (decide (x 14 = 1)), .int .i64 (x 15), .int .i64 (x 16)] 47)).rangeAt w.heap.size 0 (opL x) := range_new w x
set_option maxRecDepth 20000 in
set_option maxHeartbeats 8000000 in
theorem follow_any (w : World) (g c : Nat) (L : List ItemD) (h : StateAt w g L) (ok : ∀ x, x ∈ L → x.Ok) (hn : L.length ≤ 1000) (x : OpX) (hx : OpOk x) :
    Calls Tryd.prog 28 #[.slice (some ⟨g, 0, none⟩) L.length c, .agg (opA x)] w (AllowsIn w L.length (followP L x)) := by
  have HB0 := Lib.hid (show Below w.heap.size w (w.alloc (.cells #[.int .i64 (x 0), .int .i64 (x 1), .int .i64 (x 2), .int .i64 (x 3), .int .u32 (x 4), .int .u32 (x 5), .int .u32 (x 6), .int .u32 (x 7), .int .u32 (x 8), .int .i64 (x 9), .int .u32 (x 10), .int .u32 (x 11), .int .u32 (x 12), .int .u32 (x 13), .bool (decide (x 14 = 1)), .int .i64 (x 15), .int .i64 (x 16)] 47)) from (Below.refl _ w).alloc (Nat.le_refl _) _)
  have HA := Lib.hid (allows_any (w.alloc (.cells #[.int .i64 (x 0), .int .i64 (x 1), .int .i64 (x 2), .int .i64 (x 3), .int .u32 (x 4), .int .u32 (x 5), .int .u32 (x 6), .int .u32 (x 7), .int .u32 (x 8), .int .i64 (x 9), .int .u32 (x 10), .int .u32 (x 11), .int .u32 (x 12), .int .u32 (x 13), .bool (decide (x 14 = 1)), .int .i64 (x 15), .int .i64 (x 16)] 47)) g c L (h.below HB0.out) ok hn (x 2) (x 3) (x 8) (opV4 x) (opV4_ok hx) (opR5 x))
  have HD := Lib.hid (do_any (w.alloc (.cells #[.int .i64 (x 0), .int .i64 (x 1), .int .i64 (x 2), .int .i64 (x 3), .int .u32 (x 4), .int .u32 (x 5), .int .u32 (x 6), .int .u32 (x 7), .int .u32 (x 8), .int .i64 (x 9), .int .u32 (x 10), .int .u32 (x 11), .int .u32 (x 12), .int .u32 (x 13), .bool (decide (x 14 = 1)), .int .i64 (x 15), .int .i64 (x 16)] 47)) g c L (h.below HB0.out) ok hn (x 2) (x 3) (x 8) (opV4 x) (opV4_ok hx))
  have hr := range_op w x
  have c14 : (w.alloc (.cells #[.int .i64 (x 0), .int .i64 (x 1), .int .i64 (x 2), .int .i64 (x 3), .int .u32 (x 4), .int .u32 (x 5), .int .u32 (x 6), .int .u32 (x 7), .int .u32 (x 8), .int .i64 (x 9), .int .u32 (x 10), .int .u32 (x 11), .int .u32 (x 12), .int .u32 (x 13), .bool (decide (x 14 = 1)), .int .i64 (x 15), .int .i64 (x 16)] 47)).cell? ⟨w.heap.size, 14, none⟩ = some (.bool (decide (x 14 = 1))) := by simp
  have HR7 := Lib.hid (show (w.alloc (.cells #[.int .i64 (x 0), .int .i64 (x 1), .int .i64 (x 2), .int .i64 (x 3), .int .u32 (x 4), .int .u32 (x 5), .int .u32 (x 6), .int .u32 (x 7), .int .u32 (x 8), .int .i64 (x 9), .int .u32 (x 10), .int .u32 (x 11), .int .u32 (x 12), .int .u32 (x 13), .bool (decide (x 14 = 1)), .int .i64 (x 15), .int .i64 (x 16)] 47)).rangeAt w.heap.size 2 [.int .i64 (x 2), .int .i64 (x 3), .int .u32 (x 4), .int .u32 (x 5), .int .u32 (x 6), .int .u32 (x 7), .int .u32 (x 8)] from fun j v hv => by
    have hj : j < 7 := (List.getElem?_eq_some_iff.1 hv).1
    have := hr (2 + j) v (by rcases (by omega : j = 0 ∨ j = 1 ∨ j = 2 ∨ j = 3 ∨ j = 4 ∨ j = 5 ∨ j = 6) with rfl | rfl | rfl | rfl | rfl | rfl | rfl <;> exact hv)
    rwa [show 0 + (2 + j) = 2 + j by omega] at this)
  have HR5 := Lib.hid (show (w.alloc (.cells #[.int .i64 (x 0), .int .i64 (x 1), .int .i64 (x 2), .int .i64 (x 3), .int .u32 (x 4), .int .u32 (x 5), .int .u32 (x 6), .int .u32 (x 7), .int .u32 (x 8), .int .i64 (x 9), .int .u32 (x 10), .int .u32 (x 11), .int .u32 (x 12), .int .u32 (x 13), .bool (decide (x 14 = 1)), .int .i64 (x 15), .int .i64 (x 16)] 47)).rangeAt w.heap.size 9 [.int .i64 (x 9), .int .u32 (x 10), .int .u32 (x 11), .int .u32 (x 12), .int .u32 (x 13)] from fun j v hv => by
    have hj : j < 5 := (List.getElem?_eq_some_iff.1 hv).1
    have := hr (9 + j) v (by rcases (by omega : j = 0 ∨ j = 1 ∨ j = 2 ∨ j = 3 ∨ j = 4) with rfl | rfl | rfl | rfl | rfl <;> exact hv)
    rwa [show 0 + (9 + j) = 9 + j by omega] at this)
  have HF := Lib.hid (show followP L x = if decide (x 14 = 1) = true then allowsP L (x 2) (x 3) (opV4 x) (opR5 x) else ((doP L (x 2) (x 3) (opV4 x)).1, true) from rfl)
  have hX : (opA x) = #[.int .i64 (x 0), .int .i64 (x 1), .int .i64 (x 2), .int .i64 (x 3), .int .u32 (x 4), .int .u32 (x 5), .int .u32 (x 6), .int .u32 (x 7), .int .u32 (x 8), .int .i64 (x 9), .int .u32 (x 10), .int .u32 (x 11), .int .u32 (x 12), .int .u32 (x 13), .bool (decide (x 14 = 1)), .int .i64 (x 15), .int .i64 (x 16)] := rfl
  rw [hX]
  obtain ⟨n, hne⟩ : ∃ n, L.length = n := ⟨_, rfl⟩
  rw [hne] at HA HD ⊢
  generalize followP L x = Z at *
  generalize hP : doP L (x 2) (x 3) (opV4 x) = P at *
  generalize hQ : allowsP L (x 2) (x 3) (opV4 x) (opR5 x) = R at *
  obtain ⟨L', d⟩ := P
  generalize decide (x 14 = 1) = q at *
  clear h ok hn hx hX hne hP hQ hr
  cases q with
  | true =>
    rw [if_pos rfl] at HF
    go_enter Tryd.func28, Tryd.ntmps28
    go_wp2_with (first
      | (refine wpList_load_mid rfl 43 (.tmp 11) rfl w.heap.size 2 rfl [.int .i64 (x 2), .int .i64 (x 3), .int .u32 (x 4), .int .u32 (x 5), .int .u32 (x 6), .int .u32 (x 7), .int .u32 (x 8)] _ HR7.out Tryd.underlying43 rfl call_info ?_)
      | (refine wpList_load_mid rfl 45 (.tmp 13) rfl w.heap.size 9 rfl [.int .i64 (x 9), .int .u32 (x 10), .int .u32 (x 11), .int .u32 (x 12), .int .u32 (x 13)] _ HR5.out Tryd.underlying45 rfl res_info ?_))
    refine HA.out.mono ?_
    rintro e1 w1 ⟨b1, g1, c1, rfl, hs1⟩
    have HB1 := Lib.hid (HB0.out.trans (b1.mono HB0.out.size))
    have HS1 := Lib.hid hs1
    clear b1 hs1
    go_wp2_with fail
    refine bodyPost_ret (v := .tuple #[.slice (some ⟨g1, 0, none⟩) n c1, .bool R.2]) (by simp [results, Tryd.results28, go_sem]) rfl ?_
    rw [HF.out]
    exact ⟨HB1.out, g1, c1, rfl, HS1.out⟩
  | false =>
    rw [if_neg (by simp)] at HF
    go_enter Tryd.func28, Tryd.ntmps28
    go_wp2_with (refine wpList_load_mid rfl 43 (.tmp 20) rfl w.heap.size 2 rfl [.int .i64 (x 2), .int .i64 (x 3), .int .u32 (x 4), .int .u32 (x 5), .int .u32 (x 6), .int .u32 (x 7), .int .u32 (x 8)] _ HR7.out Tryd.underlying43 rfl call_info ?_)
    refine HD.out.mono ?_
    rintro e1 w1 ⟨b1, g1, c1, rfl, hs1⟩
    have HB1 := Lib.hid (HB0.out.trans (b1.mono HB0.out.size))
    have HS1 := Lib.hid hs1
    clear b1 hs1
    go_wp2_with fail
    refine bodyPost_ret (v := .tuple #[.slice (some ⟨g1, 0, none⟩) n c1, .bool true]) (by simp [results, Tryd.results28, go_sem]) rfl ?_
    rw [HF.out]
    exact ⟨HB1.out.alloc HB1.out.size _, g1, c1, rfl, HS1.out.below ((Below.refl _ w1).alloc (Nat.le_refl _) _)⟩
end Go.Proofs.YtohajfkekkelhaaDoor
namespace Go.Proofs.YtohajfkekkelhaaDoor
open Go.ChangeShapes Go.WideShapes Go.ChangeAt Go.RowKit
set_option linter.unusedVariables false
set_option linter.unusedSimpArgs false
/-- An order checked: t is done (told backwards). -/
def checkG (Lo : List OpX) : List Nat → List Nat → List ItemD → Int × Int
  | _, [], _ => (0, 0)
  | t, i :: r, s => if lateP Lo (lastG Lo t) i = true then ((t.length : Int), 15) else if (followP s (getX Lo i)).2 = true then checkG Lo (i :: t) r (followP s (getX Lo i)).1 else ((t.length : Int), 2)
def checkP (Os : List ObjX) (Lo : List OpX) (O : List Int) : Int × Int :=
  if wholeP Lo O = true then checkG Lo [] (O.map Int.toNat) (startP Os) else (0, 1)
theorem seen_in (n : Nat) : ∀ (O : List Int) (s : Nat → Bool) (s' : Nat → Bool), seenG n O s = some s' → ∀ x, x ∈ O → 0 ≤ x ∧ x < (n : Int)
  | [], _, _, _, x, hx => by cases hx
  | y :: t, s, s', h, x, hx => by
    unfold seenG at h
    by_cases hb : y < 0 ∨ (n : Int) ≤ y ∨ s y.toNat = true
    · rw [if_pos hb] at h; cases h
    · rw [if_neg hb] at h
      rcases List.mem_cons.1 hx with rfl | hx
      · constructor
        · exact Int.not_lt.1 fun h => hb (.inl h)
        · exact Int.not_le.1 fun h => hb (.inr (.inl h))
      · exact seen_in n t _ s' h x hx
theorem whole_in {Lo : List OpX} {O : List Int} (h : wholeP Lo O = true) : ∀ x, x ∈ O → 0 ≤ x ∧ x < (Lo.length : Int) := by
  unfold wholeP at h
  cases hs : seenG Lo.length O (fun _ => false) with
  | none => rw [hs] at h; cases h
  | some s => exact seen_in _ _ _ _ hs
/-- A box with one number is no part of a state. -/
theorem StateAt.put {w w' : World} {g P : Nat} {L : List ItemD} {z : Int} {T : TypeId} (h : StateAt w g L) (hP : w.heap[P]? = some (.cells #[.int .i64 z] T (0, 0))) (hk : Keeps (fun j => j = P) w w') : StateAt w' g L := by
  refine ⟨Nat.lt_of_lt_of_le h.lt hk.size, fun k x hx => ?_⟩
  obtain ⟨a, c, h1, h2, h3, h4, h5⟩ := h.at' k x hx
  have hg : g ≠ P := by
    rintro rfl
    have := h1 1 _ rfl
    rw [cell_of hP] at this
    simp at this
  refine ⟨a, c, fun j u hu => ?_, h2, h3, h4, fun hn => ?_⟩
  · rw [World.cell?_of_block (a := ⟨g, k * 15 + j, Option.none⟩) (hk.block g h.lt hg)]
    exact h1 j u hu
  · obtain ⟨b, off, e, hl, hr⟩ := h5 hn
    have hb : b ≠ P := by
      rintro rfl
      have := hr 0 _ (List.getElem?_eq_getElem hn) 1 _ rfl
      rw [cell_of hP] at this
      simp at this
    refine ⟨b, off, e, Nat.lt_of_lt_of_le hl hk.size, fun q v hv j u hu => ?_⟩
    rw [World.cell?_of_block (a := ⟨b, off + q * 4 + j, Option.none⟩) (hk.block b hl hb)]
    exact hr q v hv j u hu
end Go.Proofs.YtohajfkekkelhaaDoor
