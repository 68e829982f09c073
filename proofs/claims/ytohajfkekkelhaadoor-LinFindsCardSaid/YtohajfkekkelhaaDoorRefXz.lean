import Derived.Test.YtohajfkekkelhaaDoorCertAz
import Derived.Deep.QuietTactic
import Derived.Test.YtohajfkekkelhaaDoorRefWz
namespace Go.Proofs.YtohajfkekkelhaaDoor
open Go.ChangeShapes Go.WideShapes Go.ChangeAt Go.RowKit
set_option linter.unusedVariables false
set_option linter.unusedSimpArgs false
/-- Counts in memory. -/
structure CntAt (w : World) (g n : Nat) (s : Nat → Nat) : Prop where
  blk : ∃ cs : Array Value, w.heap[g]? = some (.cells cs 3 (0, 0)) ∧ cs.size = n ∧ ∀ i, i < n → cs[i]? = some (.int .i64 (s i : Int))
theorem CntAt.cell {w : World} {g n : Nat} {s : Nat → Nat} (h : CntAt w g n s) (i : Nat) (hi : i < n) : w.cell? ⟨g, i, none⟩ = some (.int .i64 (s i : Int)) := by
  obtain ⟨cs, h1, _, h3⟩ := h.blk
  exact (cell_of h1 i).trans (h3 i hi)
theorem CntAt.free {w : World} {g n : Nat} {s : Nat → Nat} (h : CntAt w g n s) (i : Nat) : w.frozen? ⟨g, i, none⟩ = false := by
  obtain ⟨cs, h1, _, _⟩ := h.blk
  exact free_of h1 i
theorem CntAt.lt {w : World} {g n : Nat} {s : Nat → Nat} (h : CntAt w g n s) : g < w.heap.size := by obtain ⟨cs, h1, _⟩ := h.blk; exact lt_of h1
def incN (s : Nat → Nat) (i : Nat) : Nat → Nat := fun j => if j = i then s j + 1 else s j
theorem CntAt.inc {w : World} {g n : Nat} {s : Nat → Nat} (h : CntAt w g n s) (i : Nat) (hi : i < n) : CntAt (w.setCell ⟨g, i, none⟩ (.int .i64 ((s i + 1 : Nat) : Int))) g n (incN s i) := by
  obtain ⟨cs, h1, h2, h3⟩ := h.blk
  refine ⟨⟨cs.setIfInBounds i (.int .i64 ((s i + 1 : Nat) : Int)), heap_set h1 i _, by simpa using h2, fun j hj => ?_⟩⟩
  unfold incN
  by_cases e : j = i
  · subst e
    rw [if_pos rfl, Array.getElem?_setIfInBounds_self_of_lt (by omega)]
  · rw [if_neg e, Array.getElem?_setIfInBounds_ne (fun h => e h.symm)]
    exact h3 j hj
theorem make_ints (w : World) (n : Nat) (hn : n ≤ 1000) : (Instr.makeSlice 26 (.int .i64 (n : Int)) (.int .i64 (n : Int))).run Tryd.prog w = .ok (.slice (some ⟨w.heap.size, 0, none⟩) n n) (w.alloc (.cells (madeCells #[.int .i64 0] n) 3)) := by
  obtain ⟨i, hi, hz0, hz1, hz2⟩ := info_parts (show (Tryd.prog.info? 3).map (fun i => (i.zero, i.size, i.bytes)) = some (some (.int .i64 0), 1, 8) by kernel_rfl)
  have h := run_make w 26 3 i (.int .i64 0) Tryd.underlying26 hi hz0 .i64 .i64 (n : Int) (n : Int) (by omega) (by omega) (by rw [hz2]; omega) (by omega)
  rw [hz1, Nat.mul_one] at h
  exact h
theorem cnt_new (w : World) (n : Nat) : CntAt (w.alloc (.cells (madeCells #[.int .i64 0] n) 3)) w.heap.size n (fun _ => 0) :=
  ⟨⟨_, heap_new w _, size_madeCells _ _, fun i hi => by
    unfold madeCells
    rw [Array.getElem?_map, Array.getElem?_range, if_pos hi]
    simp [Nat.mod_one]⟩⟩
/-- How often each of n calls stands in an order; none: it has one that is not there. -/
def timesG (n : Nat) : List Int → (Nat → Nat) → Option (Nat → Nat)
  | [], s => some s
  | x :: t, s => if x < 0 ∨ (n : Int) ≤ x then none else timesG n t (incN s x.toNat)
def rwholeP (L : List OpX) (O : List Int) : Bool := match timesG L.length O (fun _ => 0) with
  | none => false
  | some s => (List.range L.length).all fun i => !(decide (1 < s i)) && !(decide (((L[i]?).getD (fun _ => 0)) 14 = 1) && decide (s i = 0))
set_option maxRecDepth 100000 in
set_option maxHeartbeats 4000000 in
theorem rwhole_any (w : World) (a : Option Addr) (n c : Nat) (L : List OpX) (h : OpsArg w a n L) (hn : n ≤ 1000) (a2 : Option Addr) (m c2 : Nat) (O : List Int) (h2 : IntsArg w a2 m O) (hm : m ≤ 1000) :
    Calls Tryd.prog 38 #[.slice a n c, .slice a2 m c2] w fun e w' => e = .returned (.bool (rwholeP L O)) ∧ Below w.heap.size w w' := by
  have HH := Lib.hid h
  have HO := Lib.hid h2
  have hmk := fun w => make_ints w n hn
  have HM0 := Lib.hid (cnt_new w n)
  have HL := Lib.hid h.len
  clear h h2
  go_enter Tryd.func38, Tryd.ntmps38
  go_wp2_with fail
  go_loopw [6] (fun i wr => ∃ (k : Nat) (s : Nat → Nat), k ≤ m ∧ i = .int .i64 (k : Int) ∧ timesG n O (fun _ => 0) = timesG n (O.drop k) s ∧ (∀ j, s j ≤ k) ∧ CntAt wr w.heap.size n s ∧ Below w.heap.size w wr) (fun i _ => m - (intOf i).toNat)
  case atStart => exact ⟨0, fun _ => 0, by omega, rfl, rfl, fun _ => Nat.le_refl _, HM0.out, (Below.refl _ w).alloc (Nat.le_refl _) _⟩
  case round =>
    clear HM0
    obtain ⟨k, s, hk, rfl, hsn, hsk, hma, hB⟩ := hrel
    have HB := Lib.hid hB
    have HM := Lib.hid hma
    have HS := Lib.hid hsn
    have HSK := Lib.hid hsk
    clear hB hma hsn hsk
    by_cases hlt : k < m
    · obtain ⟨b2, off2, rfl, hb2, hc2⟩ := HO.out.lies (by omega)
      obtain ⟨x, hx⟩ : ∃ x, O[k]? = some x := ⟨_, List.getElem?_eq_getElem (by rw [HO.out.len]; exact hlt)⟩
      have hdrop : O.drop k = x :: O.drop (k + 1) := by
        rw [List.drop_eq_getElem_cons (by rw [HO.out.len]; exact hlt)]
        congr 1
        rw [List.getElem?_eq_getElem (by rw [HO.out.len]; exact hlt)] at hx
        exact Option.some.inj hx
      have HS2 := Lib.hid (show timesG n O (fun _ => 0) = if x < 0 ∨ (n : Int) ≤ x then none else timesG n (O.drop (k + 1)) (incN s x.toNat) by rw [HS.out, hdrop]; rfl)
      have c0 : wr.cell? ⟨b2, off2 + k, none⟩ = some (.int .i64 x) := (HB.out.cell (p := ⟨b2, off2 + k, none⟩) hb2).trans (hc2 k x hx)
      have hb2r : b2 < wr.heap.size := Nat.lt_of_lt_of_le hb2 HB.out.size
      have dk : decide (k < m) = true := decide_eq_true hlt
      have bad : (x < 0 ∨ (n : Int) ≤ x) → rwholeP L O = false := fun hb => by
        unfold rwholeP
        rw [HL.out, HS2.out, if_pos hb]
      have HBAD := Lib.hid bad
      clear hx hdrop hc2 bad
      by_cases t1 : x < 0
      · have e1 : decide (x < 0) = true := decide_eq_true t1
        have HF := Lib.hid (HBAD.out (.inl t1))
        clear t1
        go_wp2_with fail
        try simp only [Exit.jump]
        go_ret
        exact ⟨by rw [HF.out]; rfl, HB.out⟩
      have e1 : decide (x < 0) = false := decide_eq_false t1
      by_cases t2 : (n : Int) ≤ x
      · have e2 : decide ((n : Int) ≤ x) = true := decide_eq_true t2
        have HF := Lib.hid (HBAD.out (.inr t2))
        clear t1 t2
        go_wp2_with fail
        try simp only [Exit.jump]
        go_ret
        exact ⟨by rw [HF.out]; rfl, HB.out⟩
      have e2 : decide ((n : Int) ≤ x) = false := decide_eq_false t2
      obtain ⟨j, rfl⟩ : ∃ j : Nat, x = (j : Int) := ⟨x.toNat, by omega⟩
      have hj : j < n := by omega
      have cj := HM.out.cell j hj
      have fj := HM.out.free j
      have hgl := HM.out.lt
      have hsj : s j ≤ 1000 := Nat.le_trans (HSK.out j) (by omega)
      have hw : wrap64 ((s j : Int) + 1) = ((s j + 1 : Nat) : Int) := by rw [IntWalk.wrap64_in _ ⟨by omega, by omega⟩]; rfl
      have HN := Lib.hid (show timesG n O (fun _ => 0) = timesG n (O.drop (k + 1)) (incN s j) by
        rw [HS2.out, if_neg (by omega)]
        rfl)
      have HM2 := Lib.hid (HM.out.inc j hj)
      have HB2 := Lib.hid (HB.out.setCell (p := ⟨w.heap.size, j, none⟩) (Nat.le_refl _) (.int .i64 ((s j + 1 : Nat) : Int)))
      have HSK2 := Lib.hid (show ∀ q, incN s j q ≤ k + 1 from fun q => by have := HSK.out q; unfold incN; split <;> omega)
      go_wp2_with fail
      try rw [hw]
      go_roundw
      case rel => exact ⟨k + 1, _, by omega, by go_num, HN.out, HSK2.out, HM2.out, HB2.out⟩
      case measure => simp [intOf]; omega
    · obtain rfl : k = m := by omega
      have HS3 := Lib.hid (show timesG n O (fun _ => 0) = some s by rw [HS.out, List.drop_of_length_le (by rw [HO.out.len]; exact Nat.le_refl _)]; rfl)
      have dk : decide (k < k) = false := decide_eq_false (by omega)
      clear HS
      go_wp2_with fail
      go_loopw [7] (fun i W => ∃ q : Nat, q ≤ n ∧ i = .int .i64 (q : Int) ∧ (∀ j, j < q → (!(decide (1 < s j)) && !(decide (((L[j]?).getD (fun _ => 0)) 14 = 1) && decide (s j = 0))) = true) ∧ CntAt W w.heap.size n s ∧ Below w.heap.size w W) (fun i _ => n - (intOf i).toNat)
      case atStart => exact ⟨0, by omega, rfl, fun j hj => by omega, HM.out, HB.out⟩
      case round =>
        clear HM HB
        obtain ⟨q, hq, rfl, hall, hma, hB⟩ := hrel
        have HB := Lib.hid hB
        have HM := Lib.hid hma
        have HA := Lib.hid hall
        clear hB hma hall
        by_cases hlq : q < n
        · obtain ⟨b, off, rfl, hb, hops⟩ := HH.out.lies (by omega)
          obtain ⟨x, hx⟩ : ∃ x, L[q]? = some x := ⟨_, List.getElem?_eq_getElem (by rw [HL.out]; exact hlq)⟩
          have c14 : wr.cell? ⟨b, off + q * 17 + 14, none⟩ = some (.bool (decide (x 14 = 1))) := range_below (hops q x hx) HB.out hb 14 _ rfl
          have hbr : b < wr.heap.size := Nat.lt_of_lt_of_le hb HB.out.size
          have cs := HM.out.cell q hlq
          have HX := Lib.hid hx
          have dq : decide (q < n) = true := decide_eq_true hlq
          have HF := Lib.hid (fun (hf : (!(decide (1 < s q)) && !(decide (x 14 = 1) && decide (s q = 0))) = false) => show rwholeP L O = false by
            unfold rwholeP
            rw [HL.out, HS3.out]
            exact List.all_eq_false.2 ⟨q, List.mem_range.2 hlq, by rw [HX.out]; show ¬ ((!(decide (1 < s q)) && !(decide (x 14 = 1) && decide (s q = 0))) = true); rw [hf]; simp⟩)
          have HNX := Lib.hid (fun (hf : (!(decide (1 < s q)) && !(decide (x 14 = 1) && decide (s q = 0))) = true) => show ∀ j, j < q + 1 → (!(decide (1 < s j)) && !(decide (((L[j]?).getD (fun _ => 0)) 14 = 1) && decide (s j = 0))) = true from fun j hj => by
            by_cases e : j = q
            · subst e
              rw [HX.out]
              exact hf
            · exact HA.out j (by omega))
          clear hops hx
          by_cases h1 : 1 < s q
          · have y1 : decide (1 < s q) = true := decide_eq_true h1
            have y1' : decide ((1 : Int) < (s q : Int)) = true := decide_eq_true (by omega)
            have HG := Lib.hid (HF.out (by rw [y1]; rfl))
            clear h1
            go_wp2_with fail
            try simp only [Exit.jump]
            go_ret
            exact ⟨by rw [HG.out]; rfl, HB.out⟩
          have y1 : decide (1 < s q) = false := decide_eq_false h1
          have y1' : decide ((1 : Int) < (s q : Int)) = false := decide_eq_false (by omega)
          cases hd : decide (x 14 = 1) with
          | false =>
            rw [hd] at c14
            have HG := Lib.hid (HNX.out (by rw [y1, hd]; rfl))
            go_wp2_with fail
            go_roundw
            case rel => exact ⟨q + 1, by omega, by go_num, HG.out, HM.out, HB.out⟩
            case measure => simp [intOf]; omega
          | true =>
            rw [hd] at c14
            by_cases h0 : s q = 0
            · have y2 : ((s q : Int) == 0) = true := beq_iff_eq.2 (by omega)
              have HG := Lib.hid (HF.out (by rw [y1, hd, decide_eq_true h0]; rfl))
              clear h0 h1
              go_wp2_with fail
              try simp only [Exit.jump]
              go_ret
              exact ⟨by rw [HG.out]; rfl, HB.out⟩
            · have y2 : ((s q : Int) == 0) = false := beq_eq_false_iff_ne.2 (by omega)
              have HG := Lib.hid (HNX.out (by rw [y1, hd, decide_eq_false h0]; rfl))
              clear h0
              go_wp2_with fail
              go_roundw
              case rel => exact ⟨q + 1, by omega, by go_num, HG.out, HM.out, HB.out⟩
              case measure => simp [intOf]; omega
        · obtain rfl : q = n := by omega
          have dq : decide (q < q) = false := decide_eq_false (by omega)
          have HF := Lib.hid (show rwholeP L O = true by
            unfold rwholeP
            rw [HL.out, HS3.out]
            exact List.all_eq_true.2 fun j hj => HA.out j (List.mem_range.1 hj))
          go_wp2_with fail
          try simp only [Exit.jump]
          go_ret
          exact ⟨by rw [HF.out]; rfl, HB.out⟩
/-- Does an order begin with another, and go on? -/
def beginsP (a b : List Int) : Bool := decide (b.length < a.length) && decide (a.take b.length = b)
theorem begins_step {a b : List Int} {k : Nat} {x y : Int} (hx : a[k]? = some x) (hy : b[k]? = some y) (h : a.take k = b.take k) : (x = y → a.take (k + 1) = b.take (k + 1)) ∧ (x ≠ y → a.take b.length ≠ b) := by
  refine ⟨fun e => by rw [List.take_add_one, List.take_add_one, hx, hy, h, e], fun e e2 => e ?_⟩
  have hk := (List.getElem?_eq_some_iff.1 hy).1
  have := congrArg (fun l => l[k]?) e2
  simp only [List.getElem?_take, if_pos hk, hx, hy] at this
  exact Option.some.inj this
set_option maxRecDepth 100000 in
set_option maxHeartbeats 4000000 in
theorem begins_any (w : World) (a1 : Option Addr) (n1 c1 : Nat) (A : List Int) (h1 : IntsArg w a1 n1 A) (a2 : Option Addr) (n2 c2 : Nat) (B : List Int) (h2 : IntsArg w a2 n2 B) (hm : n2 ≤ 1000) :
    Calls Tryd.prog 25 #[.slice a1 n1 c1, .slice a2 n2 c2] w fun e w' => e = .returned (.bool (beginsP A B)) ∧ Below w.heap.size w w' := by
  have HA := Lib.hid h1
  have HB := Lib.hid h2
  have HLA := Lib.hid h1.len
  have HLB := Lib.hid h2.len
  clear h1 h2
  by_cases hl : n1 ≤ n2
  · have d1 : decide (n1 ≤ n2) = true := decide_eq_true hl
    have d1' : decide ((n1 : Int) ≤ (n2 : Int)) = true := decide_eq_true (by omega)
    have HF := Lib.hid (show beginsP A B = false by unfold beginsP; rw [HLA.out, HLB.out, decide_eq_false (by omega)]; rfl)
    clear hl
    go_enter Tryd.func25, Tryd.ntmps25
    go_wp2_with fail
    go_ret
    exact ⟨by rw [HF.out]; rfl, Below.refl _ _⟩
  · have d1 : decide (n1 ≤ n2) = false := decide_eq_false hl
    have d1' : decide ((n1 : Int) ≤ (n2 : Int)) = false := decide_eq_false (by omega)
    have HNL := Lib.hid hl
    clear hl
    go_enter Tryd.func25, Tryd.ntmps25
    go_wp2_with fail
    go_loopw [5] (fun i wr => ∃ k : Nat, k ≤ n2 ∧ i = .int .i64 (k : Int) ∧ A.take k = B.take k ∧ Below w.heap.size w wr) (fun i _ => n2 - (intOf i).toNat)
    case atStart => exact ⟨0, by omega, rfl, rfl, Below.refl _ _⟩
    case round =>
      obtain ⟨k, hk, rfl, hab, hB⟩ := hrel
      have HBW := Lib.hid hB
      have HAB := Lib.hid hab
      clear hab hB
      by_cases hlt : k < n2
      · have hk1 : k < n1 := by have := HNL.out; omega
        obtain ⟨b1, o1, rfl, hb1, hc1⟩ := HA.out.lies (by omega)
        obtain ⟨b2, o2, rfl, hb2, hc2⟩ := HB.out.lies (by omega)
        obtain ⟨x, hx⟩ : ∃ x, A[k]? = some x := ⟨_, List.getElem?_eq_getElem (by rw [HLA.out]; exact hk1)⟩
        obtain ⟨y, hy⟩ : ∃ y, B[k]? = some y := ⟨_, List.getElem?_eq_getElem (by rw [HLB.out]; exact hlt)⟩
        have q1 : wr.cell? ⟨b1, o1 + k, none⟩ = some (.int .i64 x) := (HBW.out.cell (p := ⟨b1, o1 + k, none⟩) hb1).trans (hc1 k x hx)
        have q2 : wr.cell? ⟨b2, o2 + k, none⟩ = some (.int .i64 y) := (HBW.out.cell (p := ⟨b2, o2 + k, none⟩) hb2).trans (hc2 k y hy)
        have e1 : decide (k < n2) = true := decide_eq_true hlt
        have e3 : (0 : Int) ≤ (k : Int) := by omega
        have e4 : (k : Int) < (n1 : Int) := by omega
        have e5 : (k : Int) < (n2 : Int) := by omega
        have HST := Lib.hid (begins_step hx hy HAB.out)
        clear hc1 hc2 hx hy
        by_cases hxy : x = y
        · have f1 : (x != y) = false := by rw [hxy]; simp
          have HN := Lib.hid (HST.out.1 hxy)
          clear hxy
          go_wp2_with fail
          go_quiet (fail)
          go_wp2_with fail
          go_roundw
          case rel => exact ⟨k + 1, by omega, by go_num, HN.out, by first | exact HBW.out | exact HBW.out.trans (((Keeps.refl (fun _ => False) wr).drewN _).none.mono HBW.out.size)⟩
          case measure => simp [intOf]; omega
        · have f1 : (x != y) = true := bne_iff_ne.2 hxy
          have HF := Lib.hid (show beginsP A B = false by unfold beginsP; rw [decide_eq_false (HST.out.2 hxy)]; simp)
          clear hxy
          go_wp2_with fail
          go_quiet (fail)
          go_wp2_with fail
          try simp only [Exit.jump]
          go_ret
          exact ⟨by rw [HF.out]; rfl, by first | exact HBW.out | exact HBW.out.trans (((Keeps.refl (fun _ => False) wr).drewN _).none.mono HBW.out.size)⟩
      · obtain rfl : k = n2 := by omega
        have e1 : decide (k < k) = false := decide_eq_false (by omega)
        have HF := Lib.hid (show beginsP A B = true by
          unfold beginsP
          rw [HLA.out, HLB.out, decide_eq_true (by have := HNL.out; omega), decide_eq_true (by rw [HAB.out]; exact List.take_of_length_le (by rw [HLB.out]; exact Nat.le_refl _))]
          rfl)
        go_wp2_with fail
        try simp only [Exit.jump]
        go_ret
        exact ⟨by rw [HF.out]; rfl, HBW.out⟩
end Go.Proofs.YtohajfkekkelhaaDoor
namespace Go.Proofs.YtohajfkekkelhaaDoor
set_option linter.unusedVariables false
set_option linter.unusedSimpArgs false
/-- Which calls an order counts at least once. -/
def posN (s : Nat → Nat) : Nat → Bool := fun i => decide (0 < s i)
theorem mark_pos (s : Nat → Nat) (k : Nat) : markB (posN s) k = posN (incN s k) := by
  funext j
  unfold markB posN incN
  by_cases h : j = k
  · rw [if_pos h, if_pos h, decide_eq_true (by omega)]
  · rw [if_neg h, if_neg h]
theorem times_none {n : Nat} : ∀ {O : List Int} {s : Nat → Nat}, timesG n O s = none → seenG n O (posN s) = none
  | [], s, h => by simp [timesG] at h
  | x :: t, s, h => by
    unfold timesG at h
    unfold seenG
    by_cases hx : x < 0 ∨ (n : Int) ≤ x
    · rw [if_pos (by rcases hx with h | h; exact .inl h; exact .inr (.inl h))]
    · rw [if_neg hx] at h
      by_cases hp : posN s x.toNat = true
      · rw [if_pos (.inr (.inr hp))]
      · rw [if_neg (by rintro (h | h | h); exact hx (.inl h); exact hx (.inr h); exact hp h), mark_pos]
        exact times_none h
theorem times_far {n : Nat} : ∀ {O : List Int} {s r : Nat → Nat}, timesG n O s = some r → ∀ i, n ≤ i → r i = s i
  | [], s, r, h, i, hi => by simp only [timesG, Option.some.injEq] at h; rw [h]
  | x :: t, s, r, h, i, hi => by
    unfold timesG at h
    by_cases hx : x < 0 ∨ (n : Int) ≤ x
    · rw [if_pos hx] at h; simp at h
    · rw [if_neg hx] at h
      rw [times_far h i hi]
      unfold incN
      rw [if_neg (by have := fun e => hx (.inl e); have := fun e => hx (.inr e); omega)]
theorem times_mono {n : Nat} : ∀ {O : List Int} {s r : Nat → Nat}, timesG n O s = some r → ∀ i, s i ≤ r i
  | [], s, r, h, i => by simp only [timesG, Option.some.injEq] at h; rw [h]; exact Nat.le_refl _
  | x :: t, s, r, h, i => by
    unfold timesG at h
    by_cases hx : x < 0 ∨ (n : Int) ≤ x
    · rw [if_pos hx] at h; simp at h
    · rw [if_neg hx] at h
      refine Nat.le_trans ?_ (times_mono h i)
      unfold incN
      split <;> omega
theorem times_once {n : Nat} : ∀ {O : List Int} {s r : Nat → Nat}, timesG n O s = some r → (∀ i, r i ≤ 1) → seenG n O (posN s) = some (posN r)
  | [], s, r, h, h1 => by simp only [timesG, Option.some.injEq] at h; rw [h]; rfl
  | x :: t, s, r, h, h1 => by
    unfold timesG at h
    unfold seenG
    by_cases hx : x < 0 ∨ (n : Int) ≤ x
    · rw [if_pos hx] at h; simp at h
    · rw [if_neg hx] at h
      have hm := times_mono h x.toNat
      have hr := h1 x.toNat
      unfold incN at hm
      rw [if_pos rfl] at hm
      have hp : ¬ posN s x.toNat = true := by unfold posN; intro e; have := of_decide_eq_true e; omega
      rw [if_neg (by rintro (h | h | h); exact hx (.inl h); exact hx (.inr h); exact hp h), mark_pos]
      exact times_once h h1
theorem times_twice {n : Nat} : ∀ {O : List Int} {s r : Nat → Nat}, timesG n O s = some r → (∀ i, s i ≤ 1) → (∃ i, 1 < r i) → seenG n O (posN s) = none
  | [], s, r, h, h1, h2 => by
    simp only [timesG, Option.some.injEq] at h
    obtain ⟨i, hi⟩ := h2
    have := h1 i
    rw [h] at this
    omega
  | x :: t, s, r, h, h1, h2 => by
    unfold timesG at h
    unfold seenG
    by_cases hx : x < 0 ∨ (n : Int) ≤ x
    · rw [if_pos hx] at h; simp at h
    · rw [if_neg hx] at h
      by_cases hp : posN s x.toNat = true
      · rw [if_pos (.inr (.inr hp))]
      · rw [if_neg (by rintro (h | h | h); exact hx (.inl h); exact hx (.inr h); exact hp h), mark_pos]
        refine times_twice h (fun i => ?_) h2
        have h0 : s x.toNat = 0 := by
          unfold posN at hp
          have : ¬ 0 < s x.toNat := fun e => hp (decide_eq_true e)
          omega
        unfold incN
        split
        · rename_i e; rw [e, h0]; exact Nat.le_refl _
        · exact h1 i
/-- The document's Whole and the program's are one. -/
theorem rwhole_eq (L : List OpX) (O : List Int) : rwholeP L O = wholeP L O := by
  have z : posN (fun _ => 0) = fun _ => false := by funext i; rfl
  unfold rwholeP wholeP
  cases h : timesG L.length O (fun _ => 0) with
  | none => have := times_none h; rw [z] at this; rw [this]
  | some r =>
    by_cases h1 : ∀ i, r i ≤ 1
    · have := times_once h h1
      rw [z] at this
      rw [this]
      show (List.range L.length).all _ = (List.range L.length).all _
      congr 1
      funext i
      have := h1 i
      rw [decide_eq_false (show ¬ 1 < r i by omega)]
      unfold posN
      by_cases h0 : r i = 0
      · rw [decide_eq_true h0, decide_eq_false (show ¬ 0 < r i by omega)]; simp
      · rw [decide_eq_false h0, decide_eq_true (show 0 < r i by omega)]; simp
    · obtain ⟨i, hi⟩ : ∃ i, 1 < r i := by
        refine Classical.byContradiction fun hn => h1 fun i => ?_
        have : ¬ 1 < r i := fun e => hn ⟨i, e⟩
        omega
      have := times_twice h (fun _ => Nat.zero_le _) ⟨i, hi⟩
      rw [z] at this
      rw [this]
      have hlt : i < L.length := by
        refine Classical.byContradiction fun hn => ?_
        have := times_far h i (by omega)
        omega
      show (List.range L.length).all _ = false
      rw [List.all_eq_false]
      exact ⟨i, List.mem_range.2 hlt, by rw [decide_eq_true hi]; simp⟩
end Go.Proofs.YtohajfkekkelhaaDoor
namespace Go.Proofs.YtohajfkekkelhaaDoor
open Go.ChangeShapes Go.WideShapes Go.ChangeAt Go.RowKit
set_option linter.unusedVariables false
set_option linter.unusedSimpArgs false
theorem rbefore_any (w : World) (x y : OpX) : Calls Tryd.prog 40 #[.agg (opA x), .agg (opA y)] w fun e w' => e = .returned (.bool (befP x y)) ∧ Keeps (fun _ => False) w w' := by
  have HX := Lib.hid (show ((w.alloc (.cells (opA x) 47)).alloc (.cells (opA y) 47)).rangeAt w.heap.size 0 (opL x) from fun j v hv => by
    rw [cell_of (heap_old (heap_new w (.cells (opA x) 47)) _) (0 + j), show 0 + j = j by omega]
    simpa [opA] using hv)
  have HY := Lib.hid (show ((w.alloc (.cells (opA x) 47)).alloc (.cells (opA y) 47)).rangeAt (w.heap.size + 1) 0 (opL y) from fun j v hv => by
    have h := heap_new (w.alloc (.cells (opA x) 47)) (.cells (opA y) 47)
    rw [World.size_alloc] at h
    rw [cell_of h (0 + j), show 0 + j = j by omega]
    simpa [opA] using hv)
  have HK := Lib.hid (show Keeps (fun _ => False) w ((w.alloc (.cells (opA x) 47)).alloc (.cells (opA y) 47)) from ((Keeps.refl _ w).alloc _).alloc _)
  have HB := Lib.hid (show befP x y = (decide (x 14 = 1) && decide (x 16 < y 15)) from rfl)
  have hX : (opA x) = #[.int .i64 (x 0), .int .i64 (x 1), .int .i64 (x 2), .int .i64 (x 3), .int .u32 (x 4), .int .u32 (x 5), .int .u32 (x 6), .int .u32 (x 7), .int .u32 (x 8), .int .i64 (x 9), .int .u32 (x 10), .int .u32 (x 11), .int .u32 (x 12), .int .u32 (x 13), .bool (decide (x 14 = 1)), .int .i64 (x 15), .int .i64 (x 16)] := rfl
  have hY : (opA y) = #[.int .i64 (y 0), .int .i64 (y 1), .int .i64 (y 2), .int .i64 (y 3), .int .u32 (y 4), .int .u32 (y 5), .int .u32 (y 6), .int .u32 (y 7), .int .u32 (y 8), .int .i64 (y 9), .int .u32 (y 10), .int .u32 (y 11), .int .u32 (y 12), .int .u32 (y 13), .bool (decide (y 14 = 1)), .int .i64 (y 15), .int .i64 (y 16)] := rfl
  rw [hX] at HX HY HK ⊢
  rw [hY] at HX HY HK ⊢
  clear hX hY
  have c0 := HX.out 14 _ rfl
  have c1 := HX.out 16 _ rfl
  have c2 := HY.out 15 _ rfl
  simp only [Nat.zero_add] at c0 c1 c2
  generalize hd : decide (x 14 = 1) = d at *
  cases d
  all_goals
    go_enter Tryd.func40, Tryd.ntmps40
    go_wp2_with fail
    go_ret
    exact ⟨by rw [HB.out]; rfl, HK.out⟩
/-- Is none of these behind the call? -/
def noneBef (Lo : List OpX) (x : OpX) (l : List Nat) : Bool := l.all fun p => !(befP x (getX Lo p))
theorem noneBef_step {Lo : List OpX} {x : OpX} {l : List Nat} {k p : Nat} (h : l[k]? = some p) : noneBef Lo x (l.take (k + 1)) = (noneBef Lo x (l.take k) && !(befP x (getX Lo p))) := by
  unfold noneBef
  rw [List.take_add_one, h, List.all_append]
  simp
theorem late_none {Lo : List OpX} {i : Nat} {t : List Nat} : lateP Lo (lastG Lo t.reverse) i = !(noneBef Lo (getX Lo i) t) := by
  rw [late_any_of, List.any_reverse]
  unfold noneBef
  rw [List.not_all_eq_any_not]
  simp
theorem late_found {Lo : List OpX} {x : OpX} {t : List Nat} {k p : Nat} (h : t[k]? = some p) (hb : befP x (getX Lo p) = true) : noneBef Lo x t = false := by
  unfold noneBef
  exact List.all_eq_false.2 ⟨p, List.mem_of_getElem? h, by rw [hb]; simp⟩
set_option maxRecDepth 100000 in
set_option maxHeartbeats 16000000 in
theorem rcheck_any (w : World) (oa : Option Addr) (n0 oc : Nat) (Os : List ObjX) (h0 : ObjsArg w oa n0 Os) (l0 : n0 ≤ 1000) (la : Option Addr) (n1 lc : Nat) (Lo : List OpX) (h1 : OpsArg w la n1 Lo) (l1 : n1 ≤ 1000) (qa : Option Addr) (n2 qc : Nat) (O : List Int) (h2 : IntsArg w qa n2 O) (l2 : n2 ≤ 1000) :
    Calls Tryd.prog 21 #[.slice oa n0 oc, .slice la n1 lc, .slice qa n2 qc] w fun e w' => e = .returned (.tuple #[.int .i64 (checkP Os Lo O).1, .int .i64 (checkP Os Lo O).2]) ∧ Below w.heap.size w w' := by
  have hw := rwhole_any w la n1 lc Lo h1 l1 qa n2 qc O h2 l2
  rw [rwhole_eq] at hw
  have HW := Lib.hid hw
  have HH := Lib.hid (And.intro h0 (And.intro h1 h2))
  have HF := Lib.hid (show checkP Os Lo O = if wholeP Lo O = true then checkG Lo [] (O.map Int.toNat) (startP Os) else (0, 1) from rfl)
  have HI := Lib.hid (fun h => whole_in (Lo := Lo) (O := O) h)
  have HL := Lib.hid (And.intro h0.len (And.intro h1.len h2.len))
  have HSO := Lib.hid (startP_ok h0.ok)
  clear h0 h1 h2 hw
  cases hw : wholeP Lo O with
  | false =>
    rw [hw] at HW
    rw [hw, if_neg (by simp)] at HF
    clear hw HI
    go_enter Tryd.func21, Tryd.ntmps21
    go_wp2_with fail
    refine HW.out.mono ?_
    rintro e1 w1 ⟨rfl, b1⟩
    have HB1 := Lib.hid b1
    clear b1
    go_wp2_with fail
    refine bodyPost_ret (v := .tuple #[.int .i64 0, .int .i64 1]) (by simp [results, Tryd.results21, go_sem]) rfl ⟨by rw [HF.out], HB1.out⟩
  | true =>
    rw [hw] at HW HI
    rw [hw, if_pos rfl] at HF
    clear hw
    have HI2 := Lib.hid (HI.out rfl)
    generalize checkP Os Lo O = R at *
    go_enter Tryd.func21, Tryd.ntmps21
    go_wp2_with fail
    refine HW.out.mono ?_
    rintro e1 w1 ⟨rfl, b1⟩
    have HB1 := Lib.hid b1
    clear b1
    go_wp2_with fail
    refine (rstart_any w1 oa n0 oc Os (HH.out.1.below HB1.out) l0).mono ?_
    rintro e2 w2 ⟨b2, a2, c2, rfl, hs2⟩
    have HB2 := Lib.hid (HB1.out.trans (b2.mono HB1.out.size))
    have HS2 := Lib.hid hs2
    clear b2 hs2
    go_wp2_with fail
    go_loopw [8, 9] (fun s i wr => ∃ (k : Nat) (a : Option Addr) (c : Nat) (L : List ItemD), k ≤ n2 ∧ i = .int .i64 (k : Int) ∧ s = .slice a n0 c ∧ StateR wr a L ∧ (∀ y, y ∈ L → y.Ok) ∧ L.length = n0 ∧ R = checkG Lo ((O.map Int.toNat).take k).reverse ((O.map Int.toNat).drop k) L ∧ Below w.heap.size w wr) (fun _ i _ => n2 - (intOf i).toNat)
    case atStart => exact ⟨0, a2, c2, startP Os, Nat.zero_le _, rfl, rfl, HS2.out, HSO.out, by unfold startP; rw [List.length_map]; exact HL.out.1, HF.out, HB2.out⟩
    case round =>
      clear HB2 HS2
      obtain ⟨k, a, c, L, hk, rfl, rfl, hs, hok, hlen, hR, hB⟩ := hrel
      have HS := Lib.hid (And.intro hs (And.intro hok (And.intro hlen hB)))
      have HR := Lib.hid hR
      clear hs hok hlen hR hB
      by_cases hlt : k < n2
      · obtain ⟨qb, qoff, rfl, hqb, hqc⟩ := HH.out.2.2.lies (by omega)
        obtain ⟨y0, hy0⟩ : ∃ y, O[k]? = some y := ⟨_, List.getElem?_eq_getElem (by rw [HL.out.2.2]; exact hlt)⟩
        have hyb := HI2.out y0 (List.mem_of_getElem? hy0)
        obtain ⟨i, rfl⟩ : ∃ i : Nat, y0 = (i : Int) := ⟨y0.toNat, by omega⟩
        have hl1 := HL.out.2.1
        have hin : i < n1 := by omega
        have HN := Lib.hid (show (O.map Int.toNat)[k]? = some i by rw [List.getElem?_map, hy0]; rfl)
        obtain ⟨lb, loff, rfl, hlb, hlc⟩ := HH.out.2.1.lies (by omega)
        obtain ⟨x, hx⟩ : ∃ x, Lo[i]? = some x := ⟨_, List.getElem?_eq_getElem (by omega)⟩
        have gx : getX Lo i = x := by unfold getX; rw [hx]; rfl
        have hB := HS.out.2.2.2
        have cq : wr.cell? ⟨qb, qoff + k, none⟩ = some (.int .i64 (i : Int)) := (hB.cell (p := ⟨qb, qoff + k, none⟩) hqb).trans (hqc k _ hy0)
        have hqs : qb < wr.heap.size := Nat.lt_of_lt_of_le hqb hB.size
        have hls : lb < wr.heap.size := Nat.lt_of_lt_of_le hlb hB.size
        have HRA := Lib.hid (range_below (hlc i x hx) hB hlb)
        have HRB0 := Lib.hid (range_new wr x)
        have HX := Lib.hid (And.intro gx (HH.out.2.1.ok x (List.mem_of_getElem? hx)))
        have HLC := Lib.hid (And.intro hlc (And.intro hlb (And.intro hqc hqb)))
        have HLQ := Lib.hid (And.intro hlt hin)
        have e1 : decide (k < n2) = true := decide_eq_true hlt
        have e1' : decide ((k : Int) < (n2 : Int)) = true := decide_eq_true (by omega)
        have e2 : decide (i < n1) = true := decide_eq_true hin
        have e3 : (0 : Int) ≤ (k : Int) := by omega
        have e4 : (k : Int) < (n2 : Int) := by omega
        have e5 : (0 : Int) ≤ (i : Int) := by omega
        have e6 : (i : Int) < (n1 : Int) := by omega
        have hcons : (O.map Int.toNat).drop k = i :: (O.map Int.toNat).drop (k + 1) := by
          rw [List.drop_eq_getElem_cons (by rw [List.length_map, HL.out.2.2]; exact hlt)]
          congr 1
          have := HN.out
          rw [List.getElem?_eq_getElem (by rw [List.length_map, HL.out.2.2]; exact hlt)] at this
          exact Option.some.inj this
        have hrev : ((O.map Int.toNat).take (k + 1)).reverse = i :: ((O.map Int.toNat).take k).reverse := by
          rw [List.take_add_one, HN.out, List.reverse_append]
          rfl
        have htk : ((O.map Int.toNat).take k).reverse.length = k := by rw [List.length_reverse, List.length_take, List.length_map, HL.out.2.2]; omega
        have HRR := Lib.hid (show R = if noneBef Lo x ((O.map Int.toNat).take k) = false then ((k : Int), 15) else if (followP L x).2 = true then checkG Lo ((O.map Int.toNat).take (k + 1)).reverse ((O.map Int.toNat).drop (k + 1)) (followP L x).1 else ((k : Int), 2) by
          rw [HR.out, hcons, checkG, late_none, gx, hrev, htk]
          cases noneBef Lo x ((O.map Int.toNat).take k) <;> rfl)
        clear hy0 hyb hqc hlc hx gx hB hcons hrev htk HR hlt hin hl1
        obtain ⟨W0, hW0⟩ : ∃ W0, W0 = wr.alloc (.cells #[.int .i64 (x 0), .int .i64 (x 1), .int .i64 (x 2), .int .i64 (x 3), .int .u32 (x 4), .int .u32 (x 5), .int .u32 (x 6), .int .u32 (x 7), .int .u32 (x 8), .int .i64 (x 9), .int .u32 (x 10), .int .u32 (x 11), .int .u32 (x 12), .int .u32 (x 13), .bool (decide (x 14 = 1)), .int .i64 (x 15), .int .i64 (x 16)] 47) := ⟨_, rfl⟩
        have HW0 := Lib.hid hW0
        have HRB1 := Lib.hid (show W0.rangeAt wr.heap.size 0 (opL x) by rw [hW0]; exact HRB0.out)
        have HBL := Lib.hid (show wr.heap.size < W0.heap.size by rw [hW0]; simp)
        have HA1 := Lib.hid (show Below wr.heap.size wr W0 by rw [hW0]; exact (Below.refl _ wr).alloc (Nat.le_refl _) _)
        clear hW0 HRB0
        have HB := Lib.hid (HS.out.2.2.2.trans (HA1.out.mono HS.out.2.2.2.size))
        have HST := Lib.hid (HS.out.1.below HA1.out)
        obtain ⟨B, hBe⟩ : ∃ B, B = wr.heap.size := ⟨_, rfl⟩
        have HBE := Lib.hid hBe
        clear hBe
        go_wp2_with (refine wpList_load_mid rfl 47 (.tmp 31) rfl lb (loff + i * 17) rfl [.int .i64 (x 0), .int .i64 (x 1), .int .i64 (x 2), .int .i64 (x 3), .int .u32 (x 4), .int .u32 (x 5), .int .u32 (x 6), .int .u32 (x 7), .int .u32 (x 8), .int .i64 (x 9), .int .u32 (x 10), .int .u32 (x 11), .int .u32 (x 12), .int .u32 (x 13), .bool (decide (x 14 = 1)), .int .i64 (x 15), .int .i64 (x 16)] _ HRA.out Tryd.underlying47 rfl op_info ?_)
        rw [← HW0.out, ← HBE.out]
        rw [← HBE.out] at HRB1 HBL
        clear HW0 HRA HA1 cq HBE hqs hls
        have HQL := Lib.hid (Nat.lt_of_lt_of_le hqb HB.out.size)
        have HLL := Lib.hid (Nat.lt_of_lt_of_le hlb HB.out.size)
        clear hqb hlb
        go_loopw [11] (fun v11 W => ∃ q : Nat, q ≤ k ∧ v11 = .int .i64 (q : Int) ∧ noneBef Lo x ((O.map Int.toNat).take q) = true ∧ Keeps (fun _ => False) W0 W) (fun v11 _ => k - (intOf v11).toNat)
        case atStart => exact ⟨0, Nat.zero_le _, rfl, rfl, Keeps.refl _ _⟩
        case round =>
          rename World => W
          obtain ⟨q, hq, rfl, hnb, hKq⟩ := hrel
          have HKQ := Lib.hid hKq
          have HNB := Lib.hid hnb
          have HBW := Lib.hid (HB.out.trans (hKq.none.mono HB.out.size))
          clear hnb hKq
          by_cases hlq : q < k
          · obtain ⟨y0, hy0⟩ : ∃ y, O[q]? = some y := ⟨_, List.getElem?_eq_getElem (by rw [HL.out.2.2]; have := HLQ.out.1; omega)⟩
            have hyb := HI2.out y0 (List.mem_of_getElem? hy0)
            obtain ⟨p, rfl⟩ : ∃ p : Nat, y0 = (p : Int) := ⟨y0.toNat, by omega⟩
            have hl1 := HL.out.2.1
            have hpn : p < n1 := by omega
            have HNP := Lib.hid (show (O.map Int.toNat)[q]? = some p by rw [List.getElem?_map, hy0]; rfl)
            obtain ⟨y, hy⟩ : ∃ y, Lo[p]? = some y := ⟨_, List.getElem?_eq_getElem (by omega)⟩
            have gy : getX Lo p = y := by unfold getX; rw [hy]; rfl
            have cq2 : W.cell? ⟨qb, qoff + q, none⟩ = some (.int .i64 (p : Int)) := (HBW.out.cell (p := ⟨qb, qoff + q, none⟩) HLC.out.2.2.2).trans (HLC.out.2.2.1 q _ hy0)
            have HCQ := Lib.hid (show W0.cell? ⟨qb, qoff + q, none⟩ = some (.int .i64 (p : Int)) from (HB.out.cell (p := ⟨qb, qoff + q, none⟩) HLC.out.2.2.2).trans (HLC.out.2.2.1 q _ hy0))
            have HRX := Lib.hid (range_keeps HRB1.out HKQ.out HBL.out)
            have HRB := HRB1
            have HRY := Lib.hid (range_below (HLC.out.1 p y hy) HBW.out HLC.out.2.1)
            have HRYB := Lib.hid (range_below (HLC.out.1 p y hy) HB.out HLC.out.2.1)
            have HBF := Lib.hid (fun W => rbefore_any W x y)
            have HST1 := Lib.hid (show noneBef Lo x ((O.map Int.toNat).take (q + 1)) = !(befP x y) by rw [noneBef_step HNP.out, gy, HNB.out]; rfl)
            have HFD := Lib.hid (fun (hb : befP x y = true) => show noneBef Lo x ((O.map Int.toNat).take k) = false from late_found (k := q) (p := p) (by rw [List.getElem?_take, if_pos hlq]; exact HNP.out) (by rw [gy]; exact hb))
            have f1 : decide (q < k) = true := decide_eq_true hlq
            have f1' : decide ((q : Int) < (k : Int)) = true := decide_eq_true (by omega)
            have f2 : decide (p < n1) = true := decide_eq_true hpn
            have f3 : (0 : Int) ≤ (q : Int) := by omega
            have f4 : (q : Int) < (n2 : Int) := by omega
            have f5 : (0 : Int) ≤ (p : Int) := by omega
            have f6 : (p : Int) < (n1 : Int) := by omega
            clear hy0 hyb hy gy hl1
            generalize befP x y = bf at *
            cases bf with
            | true =>
              have HR5 := Lib.hid (show R = ((k : Int), 15) by rw [HRR.out, HFD.out rfl, if_pos rfl])
              clear HRR HFD
              go_wp2_with fail
              refine wp_region_noPanic ?_
              refine wp_region_held_drew (S := (fun W => W.rangeAt B 0 (opL x) ∧ W.cell? ⟨qb, qoff + q, none⟩ = some (.int .i64 (p : Int)) ∧ W.rangeAt lb (loff + p * 17) (opL y))) (by kernel_rfl) ?_ (fun hHeld => ?_)
              · exact ⟨HRX.out, cq2, HRY.out⟩
              refine wpAnyH_take (i := 0) (v := .agg (opL x).toArray) rfl (by kernel_rfl) (by kernel_rfl) (by kernel_rfl) (fun _ _ _ h => h) (yieldsIf_load_mid (by rfl) 47 _ rfl B (0) rfl (opL x) _ (fun w h => h.1) Tryd.underlying47 rfl op_info) (by assumption) ?_
              simp only [Act.put, List.getElem_toArray, List.getElem_cons_zero, List.getElem_cons_succ, List.setIfInBounds_toArray, List.set_cons_zero, List.set_cons_succ]
              refine wpAnyH_take (i := 1) (v := ?_) rfl (by kernel_rfl) (by kernel_rfl) (by kernel_rfl) (fun _ _ _ h => h) (Or.inl ⟨by rfl, ?_⟩) (by assumption) ?_
              rotate_left
              · (intro w hSw; (try dsimp only at hSw); go_simp; try with_reducible rfl)
              simp only [Act.put, List.getElem_toArray, List.getElem_cons_zero, List.getElem_cons_succ, List.setIfInBounds_toArray, List.set_cons_zero, List.set_cons_succ]
              refine wpAnyH_take (i := 2) (v := ?_) rfl (by kernel_rfl) (by kernel_rfl) (by kernel_rfl) (fun _ _ _ h => h) (Or.inl ⟨by rfl, ?_⟩) (by assumption) ?_
              rotate_left
              · (intro w hSw; (try dsimp only at hSw); go_simp; try with_reducible rfl)
              simp only [Act.put, List.getElem_toArray, List.getElem_cons_zero, List.getElem_cons_succ, List.setIfInBounds_toArray, List.set_cons_zero, List.set_cons_succ]
              refine wpAnyH_take (i := 3) (v := ?_) rfl (by kernel_rfl) (by kernel_rfl) (by kernel_rfl) (fun _ _ _ h => h) (Or.inl ⟨by rfl, ?_⟩) (by assumption) ?_
              rotate_left
              · (intro w hSw; (try dsimp only at hSw); go_simp; try with_reducible rfl)
              simp only [Act.put, List.getElem_toArray, List.getElem_cons_zero, List.getElem_cons_succ, List.setIfInBounds_toArray, List.set_cons_zero, List.set_cons_succ]
              refine wpAnyH_take (i := 4) (v := ?_) rfl (by kernel_rfl) (by kernel_rfl) (by kernel_rfl) (fun _ _ _ h => h) (Or.inl ⟨by rfl, ?_⟩) (by assumption) ?_
              rotate_left
              · (intro w hSw; (try dsimp only at hSw); go_simp; try with_reducible rfl)
              simp only [Act.put, List.getElem_toArray, List.getElem_cons_zero, List.getElem_cons_succ, List.setIfInBounds_toArray, List.set_cons_zero, List.set_cons_succ]
              refine wpAnyH_take (i := 5) (v := ?_) rfl (by kernel_rfl) (by kernel_rfl) (by kernel_rfl) (fun _ _ _ h => h) (Or.inl ⟨by rfl, ?_⟩) (by assumption) ?_
              rotate_left
              · (intro w hSw; (try dsimp only at hSw); go_simp; try with_reducible rfl)
              simp only [Act.put, List.getElem_toArray, List.getElem_cons_zero, List.getElem_cons_succ, List.setIfInBounds_toArray, List.set_cons_zero, List.set_cons_succ]
              refine wpAnyH_take (i := 6) (v := ?_) rfl (by kernel_rfl) (by kernel_rfl) (by kernel_rfl) (fun _ _ _ h => h) (Or.inl ⟨by rfl, ?_⟩) (by assumption) ?_
              rotate_left
              · (intro w hSw; (try dsimp only at hSw); go_simp; try with_reducible rfl)
              simp only [Act.put, List.getElem_toArray, List.getElem_cons_zero, List.getElem_cons_succ, List.setIfInBounds_toArray, List.set_cons_zero, List.set_cons_succ]
              refine wpAnyH_take (i := 7) (v := .agg (opL y).toArray) rfl (by kernel_rfl) (by kernel_rfl) (by kernel_rfl) (fun _ _ _ h => h) (yieldsIf_load_mid (by rfl) 47 _ rfl lb (loff + p * 17) rfl (opL y) _ (fun w h => h.2.2) Tryd.underlying47 rfl op_info) (by assumption) ?_
              simp only [Act.put, List.getElem_toArray, List.getElem_cons_zero, List.getElem_cons_succ, List.setIfInBounds_toArray, List.set_cons_zero, List.set_cons_succ]
              refine wpAnyH_ready (rs := [8]) (by kernel_rfl) (by simp) ?_
              refine AllReadyH.cons rfl (fun K hK => ?_) AllReadyH.nil
              go_simp
              (go_at_call 40; refine (HBF.out _).mono ?_; rintro e9 w9 ⟨rfl, k9⟩; have HK9 := Lib.hid (show Keeps (fun _ => False) W0 w9 from (HKQ.out.drew).trans k9); clear k9)
              go_wp2_with fail
              refine hK.out _ _ ?_ (fun hHeld => ?_)
              · ((try dsimp only); exact ⟨range_keeps HRB.out HK9.out HBL.out, (HK9.out.none.cell (p := ⟨qb, qoff + q, none⟩) HQL.out).trans HCQ.out, range_keeps HRYB.out HK9.out HLL.out⟩)
              clear hK K
              try simp only [Act.put, List.getElem_toArray, List.getElem_cons_zero, List.getElem_cons_succ, List.setIfInBounds_toArray, List.set_cons_zero, List.set_cons_succ]
              refine wpAnyH_done (by kernel_rfl) ?_ _
              refine NoPanic.normal ?_
              go_wp2_with fail
              refine bodyPost_ret (v := .tuple #[.int .i64 (k : Int), .int .i64 15]) (by simp [results, Tryd.results21, go_sem]) rfl ⟨by rw [HR5.out], HB.out.trans (HK9.out.none.mono HB.out.size)⟩
            | false =>
              go_wp2_with fail
              refine wp_region_noPanic ?_
              refine wp_region_held_drew (S := (fun W => W.rangeAt B 0 (opL x) ∧ W.cell? ⟨qb, qoff + q, none⟩ = some (.int .i64 (p : Int)) ∧ W.rangeAt lb (loff + p * 17) (opL y))) (by kernel_rfl) ?_ (fun hHeld => ?_)
              · exact ⟨HRX.out, cq2, HRY.out⟩
              refine wpAnyH_take (i := 0) (v := .agg (opL x).toArray) rfl (by kernel_rfl) (by kernel_rfl) (by kernel_rfl) (fun _ _ _ h => h) (yieldsIf_load_mid (by rfl) 47 _ rfl B (0) rfl (opL x) _ (fun w h => h.1) Tryd.underlying47 rfl op_info) (by assumption) ?_
              simp only [Act.put, List.getElem_toArray, List.getElem_cons_zero, List.getElem_cons_succ, List.setIfInBounds_toArray, List.set_cons_zero, List.set_cons_succ]
              refine wpAnyH_take (i := 1) (v := ?_) rfl (by kernel_rfl) (by kernel_rfl) (by kernel_rfl) (fun _ _ _ h => h) (Or.inl ⟨by rfl, ?_⟩) (by assumption) ?_
              rotate_left
              · (intro w hSw; (try dsimp only at hSw); go_simp; try with_reducible rfl)
              simp only [Act.put, List.getElem_toArray, List.getElem_cons_zero, List.getElem_cons_succ, List.setIfInBounds_toArray, List.set_cons_zero, List.set_cons_succ]
              refine wpAnyH_take (i := 2) (v := ?_) rfl (by kernel_rfl) (by kernel_rfl) (by kernel_rfl) (fun _ _ _ h => h) (Or.inl ⟨by rfl, ?_⟩) (by assumption) ?_
              rotate_left
              · (intro w hSw; (try dsimp only at hSw); go_simp; try with_reducible rfl)
              simp only [Act.put, List.getElem_toArray, List.getElem_cons_zero, List.getElem_cons_succ, List.setIfInBounds_toArray, List.set_cons_zero, List.set_cons_succ]
              refine wpAnyH_take (i := 3) (v := ?_) rfl (by kernel_rfl) (by kernel_rfl) (by kernel_rfl) (fun _ _ _ h => h) (Or.inl ⟨by rfl, ?_⟩) (by assumption) ?_
              rotate_left
              · (intro w hSw; (try dsimp only at hSw); go_simp; try with_reducible rfl)
              simp only [Act.put, List.getElem_toArray, List.getElem_cons_zero, List.getElem_cons_succ, List.setIfInBounds_toArray, List.set_cons_zero, List.set_cons_succ]
              refine wpAnyH_take (i := 4) (v := ?_) rfl (by kernel_rfl) (by kernel_rfl) (by kernel_rfl) (fun _ _ _ h => h) (Or.inl ⟨by rfl, ?_⟩) (by assumption) ?_
              rotate_left
              · (intro w hSw; (try dsimp only at hSw); go_simp; try with_reducible rfl)
              simp only [Act.put, List.getElem_toArray, List.getElem_cons_zero, List.getElem_cons_succ, List.setIfInBounds_toArray, List.set_cons_zero, List.set_cons_succ]
              refine wpAnyH_take (i := 5) (v := ?_) rfl (by kernel_rfl) (by kernel_rfl) (by kernel_rfl) (fun _ _ _ h => h) (Or.inl ⟨by rfl, ?_⟩) (by assumption) ?_
              rotate_left
              · (intro w hSw; (try dsimp only at hSw); go_simp; try with_reducible rfl)
              simp only [Act.put, List.getElem_toArray, List.getElem_cons_zero, List.getElem_cons_succ, List.setIfInBounds_toArray, List.set_cons_zero, List.set_cons_succ]
              refine wpAnyH_take (i := 6) (v := ?_) rfl (by kernel_rfl) (by kernel_rfl) (by kernel_rfl) (fun _ _ _ h => h) (Or.inl ⟨by rfl, ?_⟩) (by assumption) ?_
              rotate_left
              · (intro w hSw; (try dsimp only at hSw); go_simp; try with_reducible rfl)
              simp only [Act.put, List.getElem_toArray, List.getElem_cons_zero, List.getElem_cons_succ, List.setIfInBounds_toArray, List.set_cons_zero, List.set_cons_succ]
              refine wpAnyH_take (i := 7) (v := .agg (opL y).toArray) rfl (by kernel_rfl) (by kernel_rfl) (by kernel_rfl) (fun _ _ _ h => h) (yieldsIf_load_mid (by rfl) 47 _ rfl lb (loff + p * 17) rfl (opL y) _ (fun w h => h.2.2) Tryd.underlying47 rfl op_info) (by assumption) ?_
              simp only [Act.put, List.getElem_toArray, List.getElem_cons_zero, List.getElem_cons_succ, List.setIfInBounds_toArray, List.set_cons_zero, List.set_cons_succ]
              refine wpAnyH_ready (rs := [8]) (by kernel_rfl) (by simp) ?_
              refine AllReadyH.cons rfl (fun K hK => ?_) AllReadyH.nil
              go_simp
              (go_at_call 40; refine (HBF.out _).mono ?_; rintro e9 w9 ⟨rfl, k9⟩; have HK9 := Lib.hid (show Keeps (fun _ => False) W0 w9 from (HKQ.out.drew).trans k9); clear k9)
              go_wp2_with fail
              refine hK.out _ _ ?_ (fun hHeld => ?_)
              · ((try dsimp only); exact ⟨range_keeps HRB.out HK9.out HBL.out, (HK9.out.none.cell (p := ⟨qb, qoff + q, none⟩) HQL.out).trans HCQ.out, range_keeps HRYB.out HK9.out HLL.out⟩)
              clear hK K
              try simp only [Act.put, List.getElem_toArray, List.getElem_cons_zero, List.getElem_cons_succ, List.setIfInBounds_toArray, List.set_cons_zero, List.set_cons_succ]
              refine wpAnyH_done (by kernel_rfl) ?_ _
              refine NoPanic.normal ?_
              go_wp2_with fail
              go_roundw
              case rel => exact ⟨q + 1, by omega, by go_num, HST1.out, HK9.out⟩
              case measure => simp [intOf]; omega
          · obtain rfl : q = k := by omega
            have f1 : decide (q < q) = false := decide_eq_false (by omega)
            have HR5 := Lib.hid (HRR.out.trans (if_neg (by rw [HNB.out]; simp)))
            have HRX := Lib.hid (range_keeps HRB1.out HKQ.out HBL.out)
            have HSW := Lib.hid (show StateR W a L from HST.out.below HKQ.out.none)
            have c14 : W.cell? ⟨B, 14, none⟩ = some (.bool (decide (x 14 = 1))) := by have := HRX.out 14 _ rfl; simpa using this
            have HR7 := Lib.hid (show W.rangeAt B 2 [.int .i64 (x 2), .int .i64 (x 3), .int .u32 (x 4), .int .u32 (x 5), .int .u32 (x 6), .int .u32 (x 7), .int .u32 (x 8)] from fun j v hv => by
              have hj : j < 7 := (List.getElem?_eq_some_iff.1 hv).1
              have := HRX.out (2 + j) v (by rcases (by omega : j = 0 ∨ j = 1 ∨ j = 2 ∨ j = 3 ∨ j = 4 ∨ j = 5 ∨ j = 6) with rfl | rfl | rfl | rfl | rfl | rfl | rfl <;> exact hv)
              rwa [show 0 + (2 + j) = 2 + j by omega] at this)
            have HR5c := Lib.hid (show W.rangeAt B 9 [.int .i64 (x 9), .int .u32 (x 10), .int .u32 (x 11), .int .u32 (x 12), .int .u32 (x 13)] from fun j v hv => by
              have hj : j < 5 := (List.getElem?_eq_some_iff.1 hv).1
              have := HRX.out (9 + j) v (by rcases (by omega : j = 0 ∨ j = 1 ∨ j = 2 ∨ j = 3 ∨ j = 4) with rfl | rfl | rfl | rfl | rfl <;> exact hv)
              rwa [show 0 + (9 + j) = 9 + j by omega] at this)
            have HFOL := Lib.hid (show followP L x = if decide (x 14 = 1) = true then allowsP L (x 2) (x 3) (opV4 x) (opR5 x) else ((doP L (x 2) (x 3) (opV4 x)).1, true) from rfl)
            have hrd := rdo_any W a c L HSW.out HS.out.2.1 (by rw [HS.out.2.2.1]; exact l0) (x 2) (x 3) (x 8) (HX.out.2.i 2 (.inl (by omega)) (by omega)) (opV4 x) (opV4_ok HX.out.2)
            have hra := rallows_any W a c L HSW.out HS.out.2.1 (by rw [HS.out.2.2.1]; exact l0) (x 2) (x 3) (x 8) (HX.out.2.i 2 (.inl (by omega)) (by omega)) (opV4 x) (opV4_ok HX.out.2) (opR5 x)
            rw [HS.out.2.2.1] at hrd hra
            have HRD := Lib.hid hrd
            have HRL := Lib.hid hra
            have HLN := Lib.hid ((followP_len L x).trans HS.out.2.2.1)
            have HOK := Lib.hid (followP_ok HS.out.2.1 HX.out.2)
            clear hlq hrd hra
            generalize followP L x = fp at *
            obtain ⟨L5, m5⟩ := fp
            have HKL := Lib.hid (show q < n2 from HLQ.out.1)
            cases hd : decide (x 14 = 1) with
            | false =>
              rw [hd] at HFOL c14
              rw [if_neg (by simp)] at HFOL
              have HFA := Lib.hid (Prod.mk.inj HFOL.out)
              obtain ⟨e51, e52⟩ := HFA.out
              subst e52
              have HR6 := Lib.hid (HR5.out.trans (if_pos rfl))
              have HE := Lib.hid e51
              clear e51 HR5 HFA HFOL HRL
              go_wp2_with (refine wpList_load_mid rfl 43 (.tmp 53) rfl B 2 rfl [.int .i64 (x 2), .int .i64 (x 3), .int .u32 (x 4), .int .u32 (x 5), .int .u32 (x 6), .int .u32 (x 7), .int .u32 (x 8)] _ HR7.out Tryd.underlying43 rfl call_info ?_)
              refine HRD.out.mono ?_
              rintro e5 w5 ⟨b5, a5, c5, rfl, hs5⟩
              rw [← HE.out] at hs5
              have HS5 := Lib.hid hs5
              have HB5 := Lib.hid (HBW.out.trans (b5.mono HBW.out.size))
              clear b5 hs5
              go_wp2_with fail
              go_roundw
              case rel => exact ⟨q + 1, a5, c5, L5, by have := HKL.out; omega, by go_num, rfl, HS5.out, HOK.out, HLN.out, HR6.out, HB5.out⟩
              case measure => simp [intOf]; have := HKL.out; omega
            | true =>
              rw [hd] at HFOL c14
              rw [if_pos rfl] at HFOL
              clear HRD
              go_wp2_with (first
                | (refine wpList_load_mid rfl 43 (.tmp 60) rfl B 2 rfl [.int .i64 (x 2), .int .i64 (x 3), .int .u32 (x 4), .int .u32 (x 5), .int .u32 (x 6), .int .u32 (x 7), .int .u32 (x 8)] _ HR7.out Tryd.underlying43 rfl call_info ?_)
                | (refine wpList_load_mid rfl 45 (.tmp 62) rfl B 9 rfl [.int .i64 (x 9), .int .u32 (x 10), .int .u32 (x 11), .int .u32 (x 12), .int .u32 (x 13)] _ HR5c.out Tryd.underlying45 rfl res_info ?_))
              refine HRL.out.mono ?_
              rintro e5 w5 ⟨b5, a5, c5, rfl, hs5⟩
              rw [← HFOL.out] at hs5 ⊢
              have HS5 := Lib.hid hs5
              have HB5 := Lib.hid (HBW.out.trans (b5.mono HBW.out.size))
              clear b5 hs5 HFOL HRL
              cases m5 with
              | false =>
                have HR6 := Lib.hid (HR5.out.trans (if_neg (by simp)))
                clear HR5
                go_wp2_with fail
                refine bodyPost_ret (v := .tuple #[.int .i64 (q : Int), .int .i64 2]) (by simp [results, Tryd.results21, go_sem]) rfl ⟨by rw [HR6.out], HB5.out⟩
              | true =>
                have HR6 := Lib.hid (HR5.out.trans (if_pos rfl))
                clear HR5
                go_wp2_with fail
                go_roundw
                case rel => exact ⟨q + 1, a5, c5, L5, by have := HKL.out; omega, by go_num, rfl, HS5.out, HOK.out, HLN.out, HR6.out, HB5.out⟩
                case measure => simp [intOf]; have := HKL.out; omega
      · obtain rfl : k = n2 := by omega
        have dk : decide (k < k) = false := decide_eq_false (by omega)
        have HF2 := Lib.hid (show R = (0, 0) by rw [HR.out, List.drop_of_length_le (by rw [List.length_map, HL.out.2.2]; exact Nat.le_refl _)]; rfl)
        clear hlt
        go_wp2_with fail
        refine bodyPost_ret (v := .tuple #[.int .i64 0, .int .i64 0]) (by simp [results, Tryd.results21, go_sem]) rfl ⟨by rw [HF2.out], HS.out.2.2.2⟩
end Go.Proofs.YtohajfkekkelhaaDoor
