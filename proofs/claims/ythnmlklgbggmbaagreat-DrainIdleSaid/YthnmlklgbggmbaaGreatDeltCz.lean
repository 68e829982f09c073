import Derived.Test.YthnmlklgbggmbaaGreatDeltAz
import Derived.Test.YthnmlklgbggmbaaGreatDeltBz
import Derived.Deep.LoopGhost
namespace Go.Proofs.YthnmlklgbggmbaaGreat
open Go.ChangeShapes Go.WideShapes Go.ChangeAt Go.RowKit
set_option linter.unusedVariables false
theorem IsDelta.below {B : Nat} {w w' : World} {D : Nat} {L : List Nd} (h : IsDelta w D L) (hb : Below B w w') (hD : D < B) (hN : ∀ (i : Nat) (nd : Nd), L[i]? = some nd → nd.g < B) : IsDelta w' D L :=
  ⟨Below.at hb h.head hD, fun i nd hi => Below.at hb (h.node i nd hi) (hN i nd hi), h.inj⟩
theorem Keeps.thenBelow {S : Nat → Prop} {w w1 w2 : World} (h : Keeps S w w1) (hb : Below w.heap.size w1 w2) : Keeps S w w2 :=
  ⟨hb.os.trans h.os, hb.tape.trans h.tape, hb.output.trans h.output, Nat.le_trans h.size hb.size, fun k hk hs => (hb.block k hk).trans (h.block k hk hs)⟩
theorem ptr_drop (L : List Nd) (i j : Nat) : ptrOf (L.drop i) j = ptrOf L (i + j) := by simp [ptrOf, List.getElem?_drop]
theorem delta_pop {w : World} {D : Nat} {M : List Nd} {a : Nd} (h : IsDelta w D M) (ha : M[0]? = some a) : IsDelta (w.setCell ⟨D, 0, none⟩ (.pointer (ptrOf M 1))) D (M.drop 1) := by
  refine ⟨?_, ?_, ?_⟩
  · rw [ptr_drop]
    exact heap_set h.head 0 _
  · intro i nd hi
    rw [List.getElem?_drop] at hi
    rw [ptr_drop, show 1 + (i + 1) = 1 + i + 1 by omega]
    exact heap_other (h.node (1 + i) nd hi) (h.ne hi) _
  · intro i j x y hx hy hxy
    rw [List.getElem?_drop] at hx hy
    have := h.inj (1 + i) (1 + j) x y hx hy hxy
    omega
theorem delta_dec {w : World} {D : Nat} {a : Nd} {r : List Nd} (h : IsDelta w D (a :: r)) : IsDelta (w.setCell ⟨a.g, 1, none⟩ (.int .u32 ((a.x - 1 : Nat) : Int))) D (⟨a.g, a.t, a.x - 1⟩ :: r) := by
  have hp : ∀ i, ptrOf (⟨a.g, a.t, a.x - 1⟩ :: r) i = ptrOf (a :: r) i := by
    intro i
    cases i <;> simp [ptrOf]
  have h0 : (a :: r)[0]? = some a := rfl
  refine ⟨?_, ?_, ?_⟩
  · rw [hp]
    exact heap_other h.head (h.ne h0).symm _
  · intro i nd hi
    rw [hp]
    cases i with
    | zero =>
      cases hi
      exact heap_set (h.node 0 a h0) 1 _
    | succ i =>
      have hi' : (a :: r)[i + 1]? = some nd := hi
      exact heap_other (h.node (i + 1) nd hi') (fun e => by have := h.inj (i + 1) 0 nd a hi' h0 e; omega) _
  · intro i j x y hx hy hxy
    have key : ∀ {i : Nat} {x : Nd}, (⟨a.g, a.t, a.x - 1⟩ :: r : List Nd)[i]? = some x → ∃ z, (a :: r)[i]? = some z ∧ z.g = x.g := by
      intro i x hx
      cases i with
      | zero => cases hx; exact ⟨a, rfl, rfl⟩
      | succ i => exact ⟨x, hx, rfl⟩
    obtain ⟨z1, e1, e2⟩ := key hx
    obtain ⟨z2, e3, e4⟩ := key hy
    exact h.inj i j z1 z2 e1 e3 (by omega)
theorem dtick_none (D : Nat) (w : World) (h : IsDelta w D []) :
    Calls Tryz.prog 137 #[.pointer (some ⟨D, 0, none⟩)] w fun e w' => e = .returned (.slice none 0 0) ∧ w = w' := by
  have d0 : w.cell? ⟨D, 0, none⟩ = some (.pointer none) := cell_of h.head 0
  clear h
  go_enter Tryz.func137, Tryz.ntmps137
  go_wp2_with fail
  go_step3
  go_wp2
  try rw [Exit.noGoto_ret]
  go_ret
  exact ⟨rfl, rfl⟩
/-- What a Tick tells, and leaves. -/
def Ticked (w w' : World) (D : Nat) (L L1 : List Nd) (v : Value) : Prop :=
  ∃ k, k ≤ L1.length ∧ (∀ (i : Nat) (nd : Nd), i < k → L1[i]? = some nd → nd.x = 0) ∧ (∀ nd : Nd, L1[k]? = some nd → nd.x ≠ 0) ∧ w'.ownsRow w.heap.size 3 1 v k (nums (tk L1) k) ∧ IsDelta w' D (L1.drop k) ∧ Keeps (Own D L) w w'
set_option maxRecDepth 20000 in
set_option maxHeartbeats 2000000 in
theorem dtick_some (D : Nat) (a : Nd) (r : List Nd) (w : World) (h : IsDelta w D (a :: r)) (hx0 : 1 ≤ a.x) (hlen : r.length ≤ 1000) (hx : ∀ (j : Nat) (b : Nd), (a :: r)[j]? = some b → b.x < 4294967296) :
    Calls Tryz.prog 137 #[.pointer (some ⟨D, 0, none⟩)] w fun e w' => ∃ v, e = .returned v ∧ Ticked w w' D (a :: r) (⟨a.g, a.t, a.x - 1⟩ :: r) v := by
  have h0 : (a :: r)[0]? = some a := rfl
  have hnd := h.node 0 a h0
  have d0 : w.cell? ⟨D, 0, none⟩ = some (.pointer (some ⟨a.g, 0, none⟩)) := cell_of h.head 0
  have n1 : w.cell? ⟨a.g, 1, none⟩ = some (.int .u32 (a.x : Int)) := cell_of hnd 1
  have nf : w.frozen? ⟨a.g, 1, none⟩ = false := free_of hnd 1
  have ln := lt_of hnd
  have lD := h.lt
  have hax := hx 0 a h0
  have hd := delta_dec h
  rw [show ((a.x - 1 : Nat) : Int) = (a.x : Int) - 1 by omega] at hd
  have kd : Keeps (Own D (a :: r)) w (w.setCell ⟨a.g, 1, none⟩ (.int .u32 ((a.x : Int) - 1))) := (Keeps.refl _ w).setCell (p := ⟨a.g, 1, none⟩) (.inl (.inr ⟨0, a, h0, rfl⟩)) _
  have HD := Lib.hid (And.intro hd kd)
  have HX := Lib.hid hx
  have hN : ∀ (i : Nat) (nd : Nd), (⟨a.g, a.t, a.x - 1⟩ :: r : List Nd)[i]? = some nd → nd.g < w.heap.size := by
    intro i nd hi
    cases i with
    | zero => cases hi; exact ln
    | succ i => exact lt_of (h.node (i + 1) nd hi)
  have HN := Lib.hid hN
  clear h hnd hd kd hx h0 hN
  obtain ⟨L1, hL1⟩ : ∃ L1, L1 = (⟨a.g, a.t, a.x - 1⟩ :: r : List Nd) := ⟨_, rfl⟩
  have hl1 : L1.length = r.length + 1 := by rw [hL1]; rfl
  have HX1 : Hid (∀ (j : Nat) (b : Nd), L1[j]? = some b → b.x < 4294967296) := Lib.hid (by
    intro j b hb
    rw [hL1] at hb
    cases j with
    | zero => cases hb; show a.x - 1 < _; omega
    | succ j => exact HX.out (j + 1) b hb)
  rw [← hL1] at HD HN
  have HL1 := Lib.hid hL1
  clear hL1 HX
  go_enter Tryz.func137, Tryz.ntmps137
  go_wp2_with fail
  go_step3
  go_wp2_with fail
  go_step3
  go_wp2_with fail
  obtain ⟨i0, hi0', hz0, hz1, hz2⟩ := info_parts Tryz.infoD
  go_loopg [3] L1.length (fun g v wr => ∃ i : Nat, i + g = L1.length ∧ (∀ (j : Nat) (nd : Nd), j < i → L1[j]? = some nd → nd.x = 0) ∧ wr.ownsRow w.heap.size 3 1 v i (nums (tk L1) i) ∧ IsDelta wr D (L1.drop i) ∧ Keeps (Own D (a :: r)) w wr)
  case atStart => exact ⟨0, by omega, fun j nd h => absurd h (Nat.not_lt_zero _), World.ownsRow_nil _ _ _ _, HD.out.1, HD.out.2⟩
  case round =>
    obtain ⟨i, hig, hz, hown, hI, hK⟩ := hrel
    have HO := Lib.hid (And.intro hz (And.intro hown (And.intro hI hK)))
    have hsz := hK.size
    have lDr := hI.lt
    have d0 : wr.cell? ⟨D, 0, none⟩ = some (.pointer (ptrOf L1 i)) := by
      have := cell_of hI.head 0
      rw [ptr_drop, Nat.add_zero] at this
      exact this
    have df := free_of hI.head 0
    clear hz hown
    cases hi : L1[i]? with
    | none =>
      have hge := get_ge hi
      have hil : i = L1.length := by omega
      rw [ptrOf_none hge] at d0
      have HI := Lib.hid (And.intro hi hil)
      clear hi hI hK hil hge
      go_wp2
      try rw [Exit.noGoto_ret]
      go_ret
      exact ⟨_, rfl, by rw [← HL1.out]; exact ⟨i, by omega, HO.out.1, (fun nd h => by rw [HI.out.1] at h; cases h), HO.out.2.1, HO.out.2.2.1, HO.out.2.2.2⟩⟩
    | some b =>
      have hib := get_lt hi
      obtain ⟨g, rfl⟩ : ∃ g, gk = g + 1 := ⟨gk - 1, by omega⟩
      have hi0 : (L1.drop i)[0]? = some b := by rw [List.getElem?_drop, Nat.add_zero]; exact hi
      have hnd := hI.node 0 b hi0
      have hbx := HX1.out i b hi
      have b1 : wr.cell? ⟨b.g, 1, none⟩ = some (.int .u32 (b.x : Int)) := cell_of hnd 1
      have b0 : wr.cell? ⟨b.g, 0, none⟩ = some (.int .i64 b.t) := cell_of hnd 0
      have b2 : wr.cell? ⟨b.g, 2, none⟩ = some (.pointer (ptrOf L1 (i + 1))) := by
        have := cell_of hnd 2
        rw [ptr_drop] at this
        exact this
      have lb := lt_of hnd
      have lbW := HN.out i b hi
      rw [ptrOf_some hi] at d0
      by_cases hbz : b.x = 0
      · have HT := Lib.hid (tk_some hi)
        have HBZ := Lib.hid hbz
        have HIB := Lib.hid (And.intro hi (And.intro hi0 hnd))
        rw [hbz] at b1
        clear hi hi0 hnd hbz hI hK
        go_wp2_with (at_builtin; refine wpList_append_own _ rfl (.tmp 36) (.tmp 44) 53 rfl w.heap.size 3 i0 (.int .i64 0) 1 8 Tryz.underlying53 hi0' hz0 hz1 hz2 rfl (by decide) _ _ _ rfl (HO.out.2.1.alloc _) ⟨wr.heap.size, 0, none⟩ 1 1 [.int .i64 b.t] rfl rfl (new_one _ _ _) (by simp [Value.oneCell']) (by unfold maxLen; omega) (by omega) (by simp; omega) ?_; intro v2 w2 hown2 hgrow _; have hb2 := ((Below.refl w.heap.size wr).alloc hsz (.cells #[Value.int .i64 b.t] 3)).grown hgrow (by simp; omega) (fun k hk => (HO.out.2.1.lt k hk).1); have hI2 := HO.out.2.2.1.below hb2 lD (fun j nd hj => by rw [List.getElem?_drop] at hj; exact HN.out _ nd hj); have hK2 := HO.out.2.2.2.thenBelow hb2; have e0 : w2.cell? ⟨D, 0, none⟩ = some (.pointer (some ⟨b.g, 0, none⟩)) := (by have := cell_of hI2.head 0; rw [ptr_drop, Nat.add_zero, ptrOf_some HIB.out.1] at this; exact this); have ef := free_of hI2.head 0; have e2 : w2.cell? ⟨b.g, 2, none⟩ = some (.pointer (ptrOf L1 (i + 1))) := (by have := cell_of (hI2.node 0 b HIB.out.2.1) 2; rw [ptr_drop] at this; exact this); have lD2 := hI2.lt; have lb2 := lt_of (hI2.node 0 b HIB.out.2.1); rw [← HT.out, nums_snoc'] at hown2; have H2 := Lib.hid (And.intro hown2 (And.intro hI2 hK2)); clear hown2 hgrow hb2 hI2 hK2 d0 df b0 b1 b2)
        have hpop := delta_pop H2.out.2.1 HIB.out.2.1
        rw [List.drop_drop, ptr_drop] at hpop
        have HP := Lib.hid (And.intro (ownsRow_setCell_below H2.out.1 (a := ⟨D, 0, none⟩) lD (.pointer (ptrOf L1 (i + 1)))) (And.intro hpop (H2.out.2.2.setCell (p := ⟨D, 0, none⟩) (.inl (.inl rfl)) (.pointer (ptrOf L1 (i + 1))))))
        clear hpop
        go_roundg g
        case measure => omega
        case rel => exact ⟨i + 1, by omega, fun j nd hj hjn => by
          by_cases e : j = i
          · subst e; rw [HIB.out.1] at hjn; cases hjn; exact HBZ.out
          · exact HO.out.1 j nd (by omega) hjn, HP.out.1, HP.out.2.1, HP.out.2.2⟩
      · have hdec : decide (0 < (b.x : Int)) = true := decide_eq_true (by omega)
        have hdec2 : decide (0 < b.x) = true := decide_eq_true (by omega)
        have hpos : 0 < b.x := by omega
        have hpos2 : (0 : Int) < (b.x : Int) := by omega
        have HI := Lib.hid (And.intro hi hbz)
        clear hi hi0 hnd hbz hI hK
        go_wp2
        try rw [Exit.noGoto_ret]
        go_ret
        exact ⟨_, rfl, by rw [← HL1.out]; exact ⟨i, by omega, HO.out.1, fun nd h => by rw [HI.out.1] at h; cases h; exact HI.out.2, HO.out.2.1, HO.out.2.2.1, HO.out.2.2.2⟩⟩
end Go.Proofs.YthnmlklgbggmbaaGreat
namespace Go.Proofs.YthnmlklgbggmbaaGreat
open Go.ChangeShapes Go.WideShapes Go.ChangeAt Go.RowKit
set_option linter.unusedVariables false
/-- L' is L without its k-th node, whose ticks went to the next. -/
structure Del (L L' : List Nd) (k : Nat) (n : Nd) : Prop where
  len : L'.length + 1 = L.length
  at_ : L[k]? = some n
  lo : ∀ i, i < k → L'[i]? = L[i]?
  nx : L'[k]? = (L[k + 1]?).map fun a => ⟨a.g, a.t, a.x + n.x⟩
  hi : ∀ i, k < i → L'[i]? = L[i + 1]?
theorem del_make (L : List Nd) (k : Nat) (n : Nd) (hk : L[k]? = some n) : ∃ L', Del L L' k n := by
  have hl := get_lt hk
  have ht : (L.take k).length = k := by rw [List.length_take]; omega
  cases hd : L.drop (k + 1) with
  | nil =>
    have hl2 : L.length = k + 1 := by
      have := congrArg List.length hd
      rw [List.length_drop] at this
      simp at this
      omega
    refine ⟨L.take k, ⟨by rw [ht]; omega, hk, ?_, ?_, ?_⟩⟩
    · intro i hi; rw [List.getElem?_take_of_lt hi]
    · rw [List.getElem?_eq_none (by omega), List.getElem?_eq_none (l := L) (by omega)]; rfl
    · intro i hi; rw [List.getElem?_eq_none (by omega), List.getElem?_eq_none (l := L) (by omega)]
  | cons a r =>
    have hg : ∀ j, L[k + 1 + j]? = (a :: r)[j]? := by
      intro j
      rw [← hd, List.getElem?_drop]
    have hlen : L.length = k + 1 + (r.length + 1) := by
      have := congrArg List.length hd
      rw [List.length_drop] at this
      simp at this
      omega
    refine ⟨L.take k ++ ⟨a.g, a.t, a.x + n.x⟩ :: r, ⟨?_, hk, ?_, ?_, ?_⟩⟩
    · rw [List.length_append, ht, List.length_cons]; omega
    · intro i hi
      rw [List.getElem?_append_left (by omega), List.getElem?_take_of_lt hi]
    · rw [List.getElem?_append_right (by omega), ht, Nat.sub_self]
      have := hg 0
      rw [Nat.add_zero] at this
      rw [this]; rfl
    · intro i hi
      rw [List.getElem?_append_right (by omega), ht]
      obtain ⟨j, rfl⟩ : ∃ j, i = k + (j + 1) := ⟨i - k - 1, by omega⟩
      rw [show k + (j + 1) + 1 = k + 1 + (j + 1) by omega, hg, show k + (j + 1) - k = j + 1 by omega]
      rfl
theorem Del.cases {L L' : List Nd} {k : Nat} {n : Nd} (h : Del L L' k n) {i : Nat} {a : Nd} (ha : L'[i]? = some a) :
    (i < k ∧ L[i]? = some a) ∨ (i = k ∧ ∃ b, L[k + 1]? = some b ∧ a = ⟨b.g, b.t, b.x + n.x⟩) ∨ (k < i ∧ L[i + 1]? = some a) := by
  rcases Nat.lt_trichotomy i k with h1 | h1 | h1
  · exact .inl ⟨h1, by rw [← h.lo i h1]; exact ha⟩
  · subst h1
    rw [h.nx] at ha
    cases hb : L[i + 1]? with
    | none => rw [hb] at ha; cases ha
    | some b =>
      rw [hb] at ha
      cases ha
      exact .inr (.inl ⟨rfl, b, rfl, rfl⟩)
  · exact .inr (.inr ⟨h1, by rw [← h.hi i h1]; exact ha⟩)
theorem Del.sum_lo {L L' : List Nd} {k : Nat} {n : Nd} (h : Del L L' k n) : ∀ i, i ≤ k → sumX L' i = sumX L i
  | 0, _ => rfl
  | i + 1, hi => by
    show sumX L' i + _ = sumX L i + _
    rw [h.sum_lo i (by omega), h.lo i (by omega)]
theorem Del.sum_hi {L L' : List Nd} {k : Nat} {n : Nd} (h : Del L L' k n) : ∀ i, k < i → i ≤ L'.length → sumX L' i = sumX L (i + 1) := by
  intro i hi hl
  induction i with
  | zero => omega
  | succ i ih =>
    by_cases e : i = k
    · subst e
      cases hb : L[i + 1]? with
      | none => have := get_ge hb; have := h.len; omega
      | some b =>
        have hn := h.nx
        rw [hb] at hn
        have hn' : L'[i]? = some ⟨b.g, b.t, b.x + n.x⟩ := hn
        rw [sumX_succ hn', h.sum_lo i (Nat.le_refl _), sumX_succ hb, sumX_succ h.at_]
        show sumX L i + (b.x + n.x) = _
        omega
    · show sumX L' i + _ = sumX L (i + 1) + _
      rw [ih (by omega) (by omega), h.hi i (by omega)]
/-- What the list is behind a Remove. -/
theorem del_delta {w w' : World} {D k : Nat} {L L' : List Nd} {n : Nd} (h : IsDelta w D L) (hI : Del L L' k n)
    (hD : w'.heap[D]? = some (.cells #[.pointer (if k = 0 then ptrOf L 1 else ptrOf L 0)] 157 (0, 0)))
    (hO : ∀ (j : Nat) (a : Nd), L[j]? = some a → j ≠ k → w'.heap[a.g]? = some (.cells #[.int .i64 a.t, .int .u32 ((if j = k + 1 then a.x + n.x else a.x : Nat) : Int), .pointer (if j + 1 = k then ptrOf L (k + 1) else ptrOf L (j + 1))] 172 (0, 0))) : IsDelta w' D L' := by
  have hlo : ∀ i, i < k → ptrOf L' i = ptrOf L i := fun i hi => by simp only [ptrOf, hI.lo i hi]
  have hk : ptrOf L' k = ptrOf L (k + 1) := by
    simp only [ptrOf, hI.nx]
    cases L[k + 1]? <;> rfl
  have hhi : ∀ i, k < i → ptrOf L' i = ptrOf L (i + 1) := fun i hi => by simp only [ptrOf, hI.hi i hi]
  refine ⟨?_, ?_, ?_⟩
  · rw [hD]
    by_cases e : k = 0
    · subst e; rw [if_pos rfl, hk]
    · rw [if_neg e, hlo 0 (by omega)]
  · intro i a ha
    rcases hI.cases ha with ⟨h1, h2⟩ | ⟨rfl, b, h2, rfl⟩ | ⟨h1, h2⟩
    · rw [hO i a h2 (by omega), if_neg (by omega)]
      by_cases e : i + 1 = k
      · rw [if_pos e, e, hk]
      · rw [if_neg e, hlo (i + 1) (by omega)]
    · rw [hO (i + 1) b h2 (by omega), if_pos rfl, if_neg (by omega), hhi (i + 1) (by omega)]
    · rw [hO (i + 1) a h2 (by omega), if_neg (by omega), if_neg (by omega), hhi (i + 1) (by omega)]
  · intro i j a b ha hb hab
    have key : ∀ {i : Nat} {a : Nd}, L'[i]? = some a → ∃ (z : Nat) (c : Nd), L[z]? = some c ∧ c.g = a.g ∧ z = if i < k then i else i + 1 := by
      intro i a ha
      rcases hI.cases ha with ⟨h1, h2⟩ | ⟨rfl, b, h2, rfl⟩ | ⟨h1, h2⟩
      · exact ⟨i, a, h2, rfl, by rw [if_pos h1]⟩
      · exact ⟨i + 1, b, h2, rfl, by rw [if_neg (by omega)]⟩
      · exact ⟨i + 1, a, h2, rfl, by rw [if_neg (by omega)]⟩
    obtain ⟨z, c, hc, hcg, e⟩ := key ha
    obtain ⟨z2, c2, hc2, hcg2, e5⟩ := key hb
    have := h.inj z z2 c c2 hc hc2 (by omega)
    subst this
    by_cases h1 : i < k <;> by_cases h2 : j < k
    · rw [if_pos h1] at e; rw [if_pos h2] at e5; omega
    · rw [if_pos h1] at e; rw [if_neg h2] at e5; omega
    · rw [if_neg h1] at e; rw [if_pos h2] at e5; omega
    · rw [if_neg h1] at e; rw [if_neg h2] at e5; omega
theorem del_blocks {D k : Nat} {w : World} {L : List Nd} {n : Nd} (h : IsDelta w D L) (hk : L[k]? = some n) (j : Nat) (a : Nd) (ha : L[j]? = some a) (hne : j + 1 ≠ k) : a.g ≠ (atA D L k).block := by
  have hkl := get_lt hk
  cases k with
  | zero => exact h.ne ha
  | succ z =>
    have hg := List.getElem?_eq_getElem (show z < L.length by omega)
    show a.g ≠ gOf L z
    rw [gOf_some hg]
    intro he
    have := h.inj j z a _ ha hg he
    omega
theorem dne_at {D k : Nat} {w : World} {L : List Nd} {n : Nd} (h : IsDelta w D L) (hk : L[k]? = some n) (h0 : k ≠ 0) : D ≠ (atA D L k).block := by
  have hkl := get_lt hk
  obtain ⟨z, rfl⟩ : ∃ z, k = z + 1 := ⟨k - 1, by omega⟩
  have hg := List.getElem?_eq_getElem (show z < L.length by omega)
  show D ≠ gOf L z
  rw [gOf_some hg]
  exact (h.ne hg).symm
def Removed (w w' : World) (D : Nat) (L : List Nd) (k : Nat) (n : Nd) : Prop :=
  ∃ L', Del L L' k n ∧ IsDelta w' D L' ∧ Keeps (Own D L) w w'
theorem at_set {w : World} {D k : Nat} {L : List Nd} {n : Nd} (h1 : IsDelta w D L) (hk : L[k]? = some n) (p : Option Addr) :
    (w.setCell (atA D L k) (.pointer p)).heap[D]? = some (.cells #[.pointer (if k = 0 then p else ptrOf L 0)] 157 (0, 0)) ∧
    ∀ (j : Nat) (a : Nd), L[j]? = some a → (w.setCell (atA D L k) (.pointer p)).heap[a.g]? = some (.cells #[.int .i64 a.t, .int .u32 (a.x : Int), .pointer (if j + 1 = k then p else ptrOf L (j + 1))] 172 (0, 0)) := by
  refine ⟨?_, ?_⟩
  · by_cases e : k = 0
    · subst e
      rw [if_pos rfl]
      exact heap_set h1.head 0 _
    · rw [if_neg e]
      exact heap_other h1.head (dne_at h1 hk e) _
  · intro j a ha
    by_cases e : j + 1 = k
    · subst e
      rw [if_pos rfl]
      show (World.setCell _ ⟨gOf L j, 2, none⟩ _).heap[a.g]? = _
      rw [gOf_some ha]
      exact heap_set (h1.node j a ha) 2 _
    · rw [if_neg e]
      exact heap_other (h1.node j a ha) (del_blocks h1 hk j a ha e) _
theorem drem_last (D : Nat) (L : List Nd) (k : Nat) (n : Nd) (w w1 : World) (h1 : IsDelta w1 D L) (hK : Keeps (fun _ => False) w w1) (hk : L[k]? = some n) (hl : L[k + 1]? = none) :
    Removed w (w1.setCell (atA D L k) (.pointer none)) D L k n := by
  obtain ⟨L', hI⟩ := del_make L k n hk
  obtain ⟨s1, s2⟩ := at_set h1 hk (none : Option Addr)
  have hp : ptrOf L (k + 1) = none := ptrOf_none (get_ge hl)
  refine ⟨L', hI, del_delta h1 hI ?_ ?_, ?_⟩
  · rw [s1]
    by_cases e : k = 0
    · subst e; rw [if_pos rfl, if_pos rfl, hp]
    · rw [if_neg e, if_neg e]
  · intro j a ha hj
    rw [s2 j a ha, if_neg (show ¬ j = k + 1 from fun e => by rw [e, hl] at ha; cases ha), hp]
  · exact (hK.mono fun _ _ h => h.elim).trans ((Keeps.refl (Own D L) w1).setCell (p := atA D L k) (.inl (at_block (by have := get_lt hk; omega))) _)
theorem drem_more (D : Nat) (L : List Nd) (k : Nat) (n b : Nd) (w w1 : World) (h1 : IsDelta w1 D L) (hK : Keeps (fun _ => False) w w1) (hk : L[k]? = some n) (hl : L[k + 1]? = some b) :
    Removed w ((w1.setCell (atA D L k) (.pointer (some ⟨b.g, 0, none⟩))).setCell ⟨b.g, 1, none⟩ (.int .u32 ((b.x + n.x : Nat) : Int))) D L k n := by
  obtain ⟨L', hI⟩ := del_make L k n hk
  obtain ⟨s1, s2⟩ := at_set h1 hk (some ⟨b.g, 0, none⟩)
  have hp : ptrOf L (k + 1) = some ⟨b.g, 0, none⟩ := ptrOf_some hl
  refine ⟨L', hI, del_delta h1 hI ?_ ?_, ?_⟩
  · rw [heap_other s1 (h1.ne hl).symm]
    by_cases e : k = 0
    · subst e; rw [if_pos rfl, if_pos rfl, hp]
    · rw [if_neg e, if_neg e]
  · intro j a ha hj
    by_cases e : j = k + 1
    · subst e
      rw [hl] at ha
      cases ha
      rw [if_pos rfl]
      have := heap_set (s2 (k + 1) b hl) 1 (.int .u32 ((b.x + n.x : Nat) : Int))
      rw [if_neg (by omega)] at this
      rw [if_neg (by omega)]
      exact this
    · rw [if_neg e, hp]
      exact heap_other (s2 j a ha) (fun he => e (h1.inj j (k + 1) a b ha hl he)) _
  · exact (hK.mono fun _ _ h => h.elim).trans (((Keeps.refl (Own D L) w1).setCell (p := atA D L k) (.inl (at_block (by have := get_lt hk; omega))) _).setCell (p := ⟨b.g, 1, none⟩) (.inl (.inr ⟨k + 1, b, hl, rfl⟩)) _)
end Go.Proofs.YthnmlklgbggmbaaGreat
namespace Go.Proofs.YthnmlklgbggmbaaGreat
open Go.ChangeShapes Go.WideShapes Go.ChangeAt Go.RowKit
set_option linter.unusedVariables false
theorem drem_no (D : Nat) (L : List Nd) (task : Int) (w : World) (h : IsDelta w D L) (hsum : sumX L L.length < 4294967296) (ht : ∀ (j : Nat) (a : Nd), L[j]? = some a → a.t ≠ task) :
    Calls Tryz.prog 144 #[.pointer (some ⟨D, 0, none⟩), .int .i64 task] w fun e w' => e = .returned (.tuple #[.int .u32 0, .bool false]) ∧ Keeps (fun _ => False) w w' := by
  have HL := Lib.hid (dleft_no D L task w h hsum ht)
  clear h ht
  go_enter Tryz.func144, Tryz.ntmps144
  go_wp2_with fail
  go_step3
  go_wp2_with fail
  refine HL.out.mono ?_
  rintro e w2 ⟨rfl, k2⟩
  go_wp2
  try rw [Exit.noGoto_ret]
  try simp only [Exit.jump]
  exact bodyPost_ret (v := .tuple #[.int .u32 0, .bool false]) (by simp [results, Tryz.results144, go_sem]) rfl ⟨rfl, k2⟩
set_option maxRecDepth 20000 in
set_option maxHeartbeats 2000000 in
theorem drem_yes (D : Nat) (L : List Nd) (task : Int) (kk : Nat) (nk : Nd) (w : World) (h : IsDelta w D L) (hsum : sumX L L.length < 4294967296) (hx : ∀ (j : Nat) (a : Nd), L[j]? = some a → a.x < 4294967296) (ht : L[kk]? = some nk ∧ nk.t = task ∧ ∀ (j : Nat) (a : Nd), j < kk → L[j]? = some a → a.t ≠ task) :
    Calls Tryz.prog 144 #[.pointer (some ⟨D, 0, none⟩), .int .i64 task] w fun e w' => e = .returned (.tuple #[.int .u32 (sumX L (kk + 1) : Int), .bool true]) ∧ Removed w w' D L kk nk := by
  have HL := Lib.hid (dleft_yes D L task w h hsum kk nk ht)
  have H := Lib.hid h
  have HT := Lib.hid ht
  have hkl := get_lt ht.1
  have HS := Lib.hid hsum
  clear h ht
  go_enter Tryz.func144, Tryz.ntmps144
  go_wp2_with fail
  refine wp_scope_ghost 0 (fun m a' w' => ∃ (i : Nat) (u9 u10 u11 u12 u13 u14 u15 u16 u17 u18 u19 u20 u21 u22 u23 u24 u25 u26 u27 u28 u29 u30 u31 u32 u33 u34 u35 u36 u37 u38 u39 u40 u41 u42 u43 u44 u45 u46 u47 u48 u49 u50 u51 u52 u53 u54 u55 u56 u57 u58 u59 u60 u61 u62 : Value), a' = { tmps := #[.pointer (some ⟨D, 0, none⟩), .int .i64 task, undef, undef, .int .u32 0, .bool false, .int .u32 (sumX L (kk + 1) : Int), .bool true, .pointer (some (atA D L i)), u9, u10, u11, u12, u13, u14, u15, u16, u17, u18, u19, u20, u21, u22, u23, u24, u25, u26, u27, u28, u29, u30, u31, u32, u33, u34, u35, u36, u37, u38, u39, u40, u41, u42, u43, u44, u45, u46, u47, u48, u49, u50, u51, u52, u53, u54, u55, u56, u57, u58, u59, u60, u61, u62], defers := [] } ∧ i + m = kk ∧ Keeps (fun _ => False) w w') rfl ?_ ?_
  · rintro m a' w' ⟨i, u9, u10, u11, u12, u13, u14, u15, u16, u17, u18, u19, u20, u21, u22, u23, u24, u25, u26, u27, u28, u29, u30, u31, u32, u33, u34, u35, u36, u37, u38, u39, u40, u41, u42, u43, u44, u45, u46, u47, u48, u49, u50, u51, u52, u53, u54, u55, u56, u57, u58, u59, u60, u61, u62, rfl, him, hK⟩
    have hI := H.out.none hK
    obtain ⟨a1, a2, a3⟩ := at_cell hI (show i ≤ L.length by omega)
    have hib := List.getElem?_eq_getElem (show i < L.length by omega)
    generalize hb : L[i]'(by omega) = b at hib
    have hnd := hI.node i b hib
    rw [ptrOf_some hib] at a1
    have n0 : w'.cell? ⟨b.g, 0, none⟩ = some (.int .i64 b.t) := cell_of hnd 0
    have lb := lt_of hnd
    clear hb
    by_cases hik : i = kk
    · subst hik
      have heq : b = nk := by have := HT.out.1; rw [hib] at this; exact Option.some.inj this
      subst heq
      have htt : (b.t != task) = false := by simp [HT.out.2.1]
      have n2 : w'.cell? ⟨b.g, 2, none⟩ = some (.pointer (ptrOf L (i + 1))) := cell_of hnd 2
      have n1 : w'.cell? ⟨b.g, 1, none⟩ = some (.int .u32 (b.x : Int)) := cell_of hnd 1
      have hbA : b.g ≠ (atA D L i).block := del_blocks hI hib i b hib (by omega)
      have m2 : ∀ v, (w'.setCell (atA D L i) v).cell? ⟨b.g, 2, none⟩ = some (.pointer (ptrOf L (i + 1))) := fun v => (World.cell?_of_block (w := w') (Below.heap_setCell _ _ _ _ hbA)).trans n2
      have m1 : ∀ v, (w'.setCell (atA D L i) v).cell? ⟨b.g, 1, none⟩ = some (.int .u32 (b.x : Int)) := fun v => (World.cell?_of_block (w := w') (Below.heap_setCell _ _ _ _ hbA)).trans n1
      cases hn : L[i + 1]? with
      | none =>
        have HC := Lib.hid (drem_last D L i b w w' hI hK hib hn)
        rw [ptrOf_none (get_ge hn)] at n2 m2
        generalize hsx : sumX L (i + 1) = sx at *
        have HSX := Lib.hid hsx
        clear hn hib hI hK hnd HL hsx hbA
        generalize hA : atA D L i = A at *
        clear hA
        go_wp2
        try simp only [Exit.jump]
        exact bodyPost_ret (v := .tuple #[.int .u32 (sx : Int), .bool true]) (by simp [results, Tryz.results144, go_sem]) rfl ⟨by rw [HSX.out], HC.out⟩
      | some c =>
        have hc := drem_more D L i b c w w' hI hK hib hn
        rw [show ((c.x + b.x : Nat) : Int) = (c.x : Int) + (b.x : Int) by omega] at hc
        have HC := Lib.hid hc
        have hcn := hI.node (i + 1) c hn
        have hcb : c.g ≠ b.g := fun he => by have := hI.inj (i + 1) i c b hn hib he; omega
        have hcA : c.g ≠ (atA D L i).block := del_blocks hI hib (i + 1) c hn (by omega)
        have hsu := sumX_succ hib
        have hsu2 := sumX_succ hn
        have hmo := sumX_mono L (show i + 1 + 1 ≤ L.length from by have := get_lt hn; omega)
        have hsm : c.x + b.x < 4294967296 := by have := HS.out; omega
        have hwr : ((c.x : Int) + (b.x : Int)) % 4294967296 = (c.x : Int) + b.x := by omega
        rw [ptrOf_some hn] at n2 m2
        have q1 : ∀ v, (w'.setCell (atA D L i) v).cell? ⟨c.g, 1, none⟩ = some (.int .u32 (c.x : Int)) := fun v => (World.cell?_of_block (w := w') (Below.heap_setCell _ _ _ _ hcA)).trans (cell_of hcn 1)
        have q2 : ∀ v, (w'.setCell (atA D L i) v).frozen? ⟨c.g, 1, none⟩ = false := fun v => (World.frozen?_of_block (w := w') (Below.heap_setCell _ _ _ _ hcA)).trans (free_of hcn 1)
        have lc := lt_of hcn
        have lc2 : ∀ v, c.g < (w'.setCell (atA D L i) v).heap.size := fun v => by simpa [World.setCell] using lc
        generalize hsx : sumX L (i + 1) = sx at *
        have HSX := Lib.hid hsx
        clear hc hn hib hI hK hnd HL hcn hsu hsu2 hmo hsx hbA hcA
        generalize hA : atA D L i = A at *
        clear hA
        go_wp2_with fail
        go_region
        all_goals
          go_wp2
          try simp only [Exit.jump]
          exact bodyPost_ret (v := .tuple #[.int .u32 (sx : Int), .bool true]) (by simp [results, Tryz.results144, go_sem]) rfl ⟨by rw [HSX.out], by obtain ⟨L', z1, z2, z3⟩ := HC.out; exact ⟨L', z1, ⟨z2.head, z2.node, z2.inj⟩, z3.drew⟩⟩
    · have hne : b.t ≠ task := HT.out.2.2 i b (by omega) hib
      have htt : (b.t != task) = true := by simpa using hne
      have hat : atA D L (i + 1) = ⟨b.g, 2, none⟩ := by simp [atA, gOf_some hib]
      have HF := Lib.hid (And.intro hat hK)
      generalize hsx : sumX L (kk + 1) = sx at *
      have HSX := Lib.hid hsx
      clear hib hI hK hnd HL hat hne hsx
      generalize hA : atA D L i = A at *
      clear hA
      go_wp2
      go_step3
      refine ⟨rfl, m - 1, by omega, ⟨i + 1, _, _, _, _, _, _, _, _, _, _, _, _, _, _, _, _, _, _, _, _, _, _, _, _, _, _, _, _, _, _, _, _, _, _, _, _, _, _, _, _, _, _, _, _, _, _, _, _, _, _, _, _, _, _, by rw [HF.out.1], by omega, HF.out.2⟩⟩
  · intro hpass
    go_wp2_with fail
    refine HL.out.mono ?_
    rintro e w2 ⟨rfl, k2⟩
    have K2 := Lib.hid k2
    clear k2
    go_wp2_with fail
    go_step3
    rename_i K hK
    exact hK _ _ <| hpass _ _ _ ⟨0, _, _, _, _, _, _, _, _, _, _, _, _, _, _, _, _, _, _, _, _, _, _, _, _, _, _, _, _, _, _, _, _, _, _, _, _, _, _, _, _, _, _, _, _, _, _, _, _, _, _, _, _, _, _, rfl, Nat.zero_add _, K2.out⟩
end Go.Proofs.YthnmlklgbggmbaaGreat
namespace Go.Proofs.YthnmlklgbggmbaaGreat
open Go.ChangeShapes Go.WideShapes Go.ChangeAt Go.RowKit
set_option linter.unusedVariables false
/-- How many ticks are left to each task: 0: it does not wait. -/
structure Abs (L : List Nd) (T : Int → Nat) : Prop where
  mem : ∀ (i : Nat) (a : Nd), L[i]? = some a → T a.t = sumX L (i + 1)
  all : ∀ t : Int, T t ≠ 0 → ∃ (i : Nat) (a : Nd), L[i]? = some a ∧ a.t = t
  uniq : ∀ (i j : Nat) (a b : Nd), L[i]? = some a → L[j]? = some b → a.t = b.t → i = j
  pos : ∀ (i : Nat) (a : Nd), L[i]? = some a → 0 < sumX L (i + 1)
  rng : ∀ (i : Nat) (a : Nd), L[i]? = some a → 0 ≤ a.t ∧ a.t < 16
  lt : sumX L L.length < 4294967296
theorem Abs.x_lt {L : List Nd} {T : Int → Nat} (h : Abs L T) (i : Nat) (a : Nd) (ha : L[i]? = some a) : a.x < 4294967296 := by
  have h1 := sumX_succ ha
  have h2 := sumX_mono L (show i + 1 ≤ L.length from get_lt ha)
  have := h.lt
  omega
theorem Abs.no {L : List Nd} {T : Int → Nat} (h : Abs L T) {t : Int} (h0 : T t = 0) : ∀ (j : Nat) (a : Nd), L[j]? = some a → a.t ≠ t := by
  intro j a ha e
  have h1 := h.mem j a ha
  have h2 := h.pos j a ha
  rw [e, h0] at h1
  omega
theorem Abs.yes {L : List Nd} {T : Int → Nat} (h : Abs L T) {t : Int} (h0 : T t ≠ 0) : ∃ (k : Nat) (a : Nd), L[k]? = some a ∧ a.t = t ∧ (∀ (j : Nat) (b : Nd), j < k → L[j]? = some b → b.t ≠ t) ∧ sumX L (k + 1) = T t := by
  obtain ⟨k, a, ha, he⟩ := h.all t h0
  refine ⟨k, a, ha, he, fun j b hj hb e => ?_, ?_⟩
  · have := h.uniq j k b a hb ha (by rw [e, he])
    omega
  · rw [← h.mem k a ha, he]
theorem Abs.nil : Abs [] (fun _ => 0) :=
  ⟨fun i a h => by simp at h, fun t h => absurd rfl h, fun i j a b h => by simp at h, fun i a h => by simp at h, fun i a h => by simp at h, by decide⟩
theorem Abs.congr {L : List Nd} {T T' : Int → Nat} (h : Abs L T) (e : ∀ t, T t = T' t) : Abs L T' := by
  have : T = T' := funext e
  rw [← this]
  exact h
theorem Abs.add {L L' : List Nd} {T : Int → Nat} {k g ticks : Nat} {task : Int} (h : Abs L T) (hI : Ins L L' k ⟨g, task, ticks - sumX L k⟩) (h1 : sumX L k ≤ ticks) (h2 : ∀ a : Nd, L[k]? = some a → ticks < sumX L (k + 1)) (h0 : T task = 0) (hr : 0 ≤ task ∧ task < 16) (ht : 0 < ticks) (ht2 : ticks < 4294967296) :
    Abs L' (fun t => if t = task then ticks else T t) := by
  have hx : ∀ b : Nd, L[k]? = some b → (⟨g, task, ticks - sumX L k⟩ : Nd).x ≤ b.x := by
    intro b hb
    have := h2 b hb
    have := sumX_succ hb
    show ticks - sumX L k ≤ b.x
    omega
  have hno := h.no h0
  have hat : sumX L' (k + 1) = ticks := by
    rw [hI.sum_at]
    show sumX L k + (ticks - sumX L k) = ticks
    omega
  have key : ∀ (i : Nat) (a : Nd), L'[i]? = some a → (i = k ∧ a.t = task ∧ sumX L' (i + 1) = ticks) ∨ (∃ (z : Nat) (c : Nd), L[z]? = some c ∧ c.t = a.t ∧ sumX L' (i + 1) = sumX L (z + 1) ∧ i = if z < k then z else z + 1) := by
    intro i a ha
    rcases hI.cases ha with ⟨c1, c2⟩ | ⟨rfl, rfl⟩ | ⟨rfl, b, c2, rfl⟩ | ⟨c1, c2⟩
    · exact .inr ⟨i, a, c2, rfl, hI.sum_lo (i + 1) (by omega), by rw [if_pos c1]⟩
    · exact .inl ⟨rfl, rfl, hat⟩
    · exact .inr ⟨k, b, c2, rfl, hI.sum_hi hx (k + 1) (by omega) (get_lt c2), by rw [if_neg (by omega)]⟩
    · refine .inr ⟨i - 1, a, c2, rfl, ?_, by rw [if_neg (by omega)]; omega⟩
      rw [show i - 1 + 1 = i by omega]
      exact hI.sum_hi hx i (by omega) (by have := get_lt c2; omega)
  refine ⟨?_, ?_, ?_, ?_, ?_, ?_⟩
  · intro i a ha
    rcases key i a ha with ⟨_, e1, e2⟩ | ⟨z, c, hc, e1, e2, _⟩
    · show (if a.t = task then ticks else T a.t) = _
      rw [if_pos e1, e2]
    · show (if a.t = task then ticks else T a.t) = _
      rw [← e1, if_neg (hno z c hc), h.mem z c hc, e2]
  · intro t hT
    by_cases e : t = task
    · exact ⟨k, _, hI.at_, e.symm⟩
    · have hT' : T t ≠ 0 := by
        have : (if t = task then ticks else T t) ≠ 0 := hT
        rwa [if_neg e] at this
      obtain ⟨z, c, hc, he⟩ := h.all t hT'
      by_cases hz : z < k
      · exact ⟨z, c, by rw [hI.lo z hz]; exact hc, he⟩
      · by_cases hz2 : z = k
        · subst hz2
          exact ⟨z + 1, (⟨c.g, c.t, c.x - (ticks - sumX L z)⟩ : Nd), by rw [hI.nx, hc]; rfl, he⟩
        · exact ⟨z + 1, c, by rw [hI.hi z (by omega)]; exact hc, he⟩
  · intro i j a b ha hb hab
    rcases key i a ha with ⟨e0, e1, e2⟩ | ⟨z, c, hc, e1, e2, e3⟩
    · rcases key j b hb with ⟨f0, f1, f2⟩ | ⟨y, d, hd, f1, f2, f3⟩
      · omega
      · exact absurd (by rw [f1, ← hab, e1]) (hno y d hd)
    · rcases key j b hb with ⟨f0, f1, f2⟩ | ⟨y, d, hd, f1, f2, f3⟩
      · exact absurd (by rw [e1, hab, f1]) (hno z c hc)
      · have := h.uniq z y c d hc hd (by rw [e1, f1, hab])
        subst this
        rw [e3, f3]
  · intro i a ha
    rcases key i a ha with ⟨_, e1, e2⟩ | ⟨z, c, hc, e1, e2, _⟩
    · rw [e2]; exact ht
    · rw [e2]; exact h.pos z c hc
  · intro i a ha
    rcases key i a ha with ⟨_, e1, e2⟩ | ⟨z, c, hc, e1, e2, _⟩
    · rw [e1]; exact hr
    · rw [← e1]; exact h.rng z c hc
  · rw [hI.len]
    by_cases e : k = L.length
    · rw [← e, hat]; exact ht2
    · rw [hI.sum_hi hx L.length (by have := hI.le; omega) (Nat.le_refl _)]
      exact h.lt
theorem Abs.del {L L' : List Nd} {T : Int → Nat} {k : Nat} {n : Nd} (h : Abs L T) (hI : Del L L' k n) : Abs L' (fun t => if t = n.t then 0 else T t) := by
  have key : ∀ (i : Nat) (a : Nd), L'[i]? = some a → ∃ (z : Nat) (c : Nd), L[z]? = some c ∧ c.t = a.t ∧ sumX L' (i + 1) = sumX L (z + 1) ∧ z ≠ k ∧ z = if i < k then i else i + 1 := by
    intro i a ha
    have hil := get_lt ha
    rcases hI.cases ha with ⟨c1, c2⟩ | ⟨rfl, b, c2, rfl⟩ | ⟨c1, c2⟩
    · exact ⟨i, a, c2, rfl, hI.sum_lo (i + 1) (by omega), by omega, by rw [if_pos c1]⟩
    · exact ⟨i + 1, b, c2, rfl, hI.sum_hi (i + 1) (by omega) (by omega), by omega, by rw [if_neg (by omega)]⟩
    · exact ⟨i + 1, a, c2, rfl, hI.sum_hi (i + 1) (by omega) (by omega), by omega, by rw [if_neg (by omega)]⟩
  have hne : ∀ (i : Nat) (a : Nd), L'[i]? = some a → a.t ≠ n.t := by
    intro i a ha e
    obtain ⟨z, c, hc, e1, _, e3, _⟩ := key i a ha
    exact e3 (h.uniq z k c n hc hI.at_ (by rw [e1, e]))
  refine ⟨?_, ?_, ?_, ?_, ?_, ?_⟩
  · intro i a ha
    obtain ⟨z, c, hc, e1, e2, _⟩ := key i a ha
    show (if a.t = n.t then 0 else T a.t) = _
    rw [if_neg (hne i a ha), ← e1, h.mem z c hc, e2]
  · intro t hT
    have hT' : (if t = n.t then 0 else T t) ≠ 0 := hT
    by_cases e : t = n.t
    · rw [if_pos e] at hT'; exact absurd rfl hT'
    · rw [if_neg e] at hT'
      obtain ⟨z, c, hc, he⟩ := h.all t hT'
      have hzk : z ≠ k := by
        rintro rfl
        rw [hI.at_] at hc
        cases hc
        exact e he.symm
      by_cases hz : z < k
      · exact ⟨z, c, by rw [hI.lo z hz]; exact hc, he⟩
      · obtain ⟨y, rfl⟩ : ∃ y, z = y + 1 := ⟨z - 1, by omega⟩
        by_cases hy : y = k
        · subst hy
          exact ⟨y, (⟨c.g, c.t, c.x + n.x⟩ : Nd), by rw [hI.nx, hc]; rfl, he⟩
        · exact ⟨y, c, by rw [hI.hi y (by omega)]; exact hc, he⟩
  · intro i j a b ha hb hab
    obtain ⟨z, c, hc, e1, e2, e3, e4⟩ := key i a ha
    obtain ⟨y, d, hd, f1, f2, f3, f4⟩ := key j b hb
    have := h.uniq z y c d hc hd (by rw [e1, f1, hab])
    subst this
    by_cases h1 : i < k <;> by_cases h2 : j < k
    · rw [if_pos h1] at e4; rw [if_pos h2] at f4; omega
    · rw [if_pos h1] at e4; rw [if_neg h2] at f4; omega
    · rw [if_neg h1] at e4; rw [if_pos h2] at f4; omega
    · rw [if_neg h1] at e4; rw [if_neg h2] at f4; omega
  · intro i a ha
    obtain ⟨z, c, hc, e1, e2, _⟩ := key i a ha
    rw [e2]; exact h.pos z c hc
  · intro i a ha
    obtain ⟨z, c, hc, e1, e2, _⟩ := key i a ha
    rw [← e1]; exact h.rng z c hc
  · have hl := hI.len
    have hk := get_lt hI.at_
    by_cases e : L'.length ≤ k
    · rw [hI.sum_lo L'.length (by omega)]
      have := sumX_mono L (show L'.length ≤ L.length by omega)
      have := h.lt
      omega
    · rw [hI.sum_hi L'.length (by omega) (Nat.le_refl _), hl]
      exact h.lt
theorem sumX_drop (L : List Nd) (k : Nat) : ∀ i, sumX (L.drop k) i + sumX L k = sumX L (k + i)
  | 0 => by simp [sumX]
  | i + 1 => by
    have ih := sumX_drop L k i
    have e : sumX L (k + (i + 1)) = sumX L (k + i) + (match L[k + i]? with | some nd => nd.x | none => 0) := rfl
    have e2 : sumX (L.drop k) (i + 1) = sumX (L.drop k) i + (match (L.drop k)[i]? with | some nd => nd.x | none => 0) := rfl
    rw [e, e2, List.getElem?_drop]
    omega
theorem sumX_zero {L : List Nd} : ∀ k, (∀ (i : Nat) (a : Nd), i < k → L[i]? = some a → a.x = 0) → sumX L k = 0
  | 0, _ => rfl
  | k + 1, h => by
    show sumX L k + _ = 0
    rw [sumX_zero k fun i a hi => h i a (by omega)]
    cases hk : L[k]? with
    | none => rfl
    | some a => have := h k a (by omega) hk; simpa using this
theorem sumX_dec (a : Nd) (r : List Nd) (h : 1 ≤ a.x) : ∀ i, sumX (⟨a.g, a.t, a.x - 1⟩ :: r) (i + 1) + 1 = sumX (a :: r) (i + 1)
  | 0 => by show 0 + (a.x - 1) + 1 = 0 + a.x; omega
  | i + 1 => by
    have ih := sumX_dec a r h i
    show sumX (⟨a.g, a.t, a.x - 1⟩ :: r) (i + 1) + _ + 1 = sumX (a :: r) (i + 1) + _
    have e : (⟨a.g, a.t, a.x - 1⟩ :: r : List Nd)[i + 1]? = (a :: r)[i + 1]? := rfl
    rw [e]
    omega
theorem Abs.tick {a : Nd} {r : List Nd} {T : Int → Nat} {k : Nat} (h : Abs (a :: r) T) (hk : k ≤ (⟨a.g, a.t, a.x - 1⟩ :: r : List Nd).length)
    (hz : ∀ (i : Nat) (b : Nd), i < k → (⟨a.g, a.t, a.x - 1⟩ :: r : List Nd)[i]? = some b → b.x = 0) (hnz : ∀ b : Nd, (⟨a.g, a.t, a.x - 1⟩ :: r : List Nd)[k]? = some b → b.x ≠ 0) :
    Abs ((⟨a.g, a.t, a.x - 1⟩ :: r : List Nd).drop k) (fun t => T t - 1) := by
  have h1 : 1 ≤ a.x := by
    have h3 : 0 < sumX (a :: r) 1 := h.pos 0 a rfl
    have h2 : sumX (a :: r) 1 = 0 + a.x := rfl
    omega
  have hd := sumX_dec a r h1
  have hs := sumX_zero k hz
  generalize hL1 : (⟨a.g, a.t, a.x - 1⟩ :: r : List Nd) = L1 at *
  have hsd : ∀ i, sumX (L1.drop k) i = sumX L1 (k + i) := fun i => by have := sumX_drop L1 k i; omega
  have hlen : L1.length = (a :: r).length := by rw [← hL1]; rfl
  have hget : ∀ (i : Nat) (b : Nd), L1[i]? = some b → ∃ c, (a :: r)[i]? = some c ∧ c.t = b.t := by
    intro i b hb
    rw [← hL1] at hb
    cases i with
    | zero => cases hb; exact ⟨a, rfl, rfl⟩
    | succ i => exact ⟨b, hb, rfl⟩
  have hget2 : ∀ (i : Nat) (c : Nd), (a :: r)[i]? = some c → ∃ b, L1[i]? = some b ∧ b.t = c.t := by
    intro i c hc
    rw [← hL1]
    cases i with
    | zero => cases hc; exact ⟨_, rfl, rfl⟩
    | succ i => exact ⟨c, hc, rfl⟩
  have hsum : ∀ i, sumX L1 (i + 1) + 1 = sumX (a :: r) (i + 1) := hd
  refine ⟨?_, ?_, ?_, ?_, ?_, ?_⟩
  · intro i b hb
    rw [List.getElem?_drop] at hb
    obtain ⟨c, hc, e⟩ := hget _ b hb
    rw [hsd, ← e]
    show T c.t - 1 = _
    rw [h.mem _ c hc]
    have := hsum (k + i)
    rw [show k + (i + 1) = k + i + 1 by omega]
    omega
  · intro t hT
    have hT' : T t - 1 ≠ 0 := hT
    obtain ⟨z, c, hc, he⟩ := h.all t (by omega)
    obtain ⟨b, hb, hbt⟩ := hget2 z c hc
    have hm := h.mem z c hc
    rw [he] at hm
    have hsz := hsum z
    have hkz : k ≤ z := by
      rcases Nat.lt_or_ge z k with h2 | h2
      · have := sumX_mono L1 (show z + 1 ≤ k by omega)
        omega
      · exact h2
    refine ⟨z - k, b, ?_, by rw [hbt, he]⟩
    rw [List.getElem?_drop, show k + (z - k) = z by omega]
    exact hb
  · intro i j x y hx hy hxy
    rw [List.getElem?_drop] at hx hy
    obtain ⟨c, hc, e⟩ := hget _ x hx
    obtain ⟨d, hd', e'⟩ := hget _ y hy
    have := h.uniq _ _ c d hc hd' (by rw [e, e', hxy])
    omega
  · intro i b hb
    rw [List.getElem?_drop] at hb
    rw [hsd]
    have hkl : k < L1.length := by have := get_lt hb; omega
    have hkk := List.getElem?_eq_getElem hkl
    have := hnz _ hkk
    have h2 := sumX_succ hkk
    have h3 := sumX_mono L1 (show k + 1 ≤ k + (i + 1) by omega)
    omega
  · intro i b hb
    rw [List.getElem?_drop] at hb
    obtain ⟨c, hc, e⟩ := hget _ b hb
    rw [← e]
    exact h.rng _ c hc
  · rw [hsd, List.length_drop]
    have := sumX_mono L1 (show k + (L1.length - k) ≤ L1.length by omega)
    have h2 := h.lt
    rw [← hlen] at h2
    cases hl : L1.length with
    | zero => rw [hl] at this; have h5 : sumX L1 0 = 0 := rfl; rw [h5] at this; omega
    | succ z =>
      rw [hl] at this h2
      have := hsum z
      omega
/-- How many of the tasks below n wait. -/
def cntT (T : Int → Nat) : Nat → Nat
  | 0 => 0
  | n + 1 => cntT T n + if T n = 0 then 0 else 1
theorem filt_len (L : List Nd) (i : Int) : (L.filter fun a : Nd => decide (a.t < i + 1)).length = (L.filter fun a : Nd => decide (a.t < i)).length + (L.filter fun a : Nd => decide (a.t = i)).length := by
  induction L with
  | nil => rfl
  | cons a r ih =>
    simp only [List.filter_cons]
    by_cases h1 : a.t < i
    · have e1 : decide (a.t < i + 1) = true := decide_eq_true (by omega)
      have e2 : decide (a.t < i) = true := decide_eq_true h1
      have e3 : decide (a.t = i) = false := decide_eq_false (by omega)
      simp only [e1, e2, e3, if_true, Bool.false_eq_true, if_false, List.length_cons, ih]
      omega
    · by_cases h3 : a.t = i
      · have e1 : decide (a.t < i + 1) = true := decide_eq_true (by omega)
        have e2 : decide (a.t < i) = false := decide_eq_false h1
        have e3 : decide (a.t = i) = true := decide_eq_true h3
        simp only [e1, e2, e3, if_true, Bool.false_eq_true, if_false, List.length_cons, ih]
        omega
      · have e1 : decide (a.t < i + 1) = false := decide_eq_false (by omega)
        have e2 : decide (a.t < i) = false := decide_eq_false h1
        have e3 : decide (a.t = i) = false := decide_eq_false h3
        simp only [e1, e2, e3, Bool.false_eq_true, if_false, ih]
open Classical in
theorem filt_eq (L : List Nd) (i : Int) (hu : ∀ (x y : Nat) (a b : Nd), L[x]? = some a → L[y]? = some b → a.t = b.t → x = y) :
    (L.filter fun a : Nd => decide (a.t = i)).length = if ∃ (x : Nat) (a : Nd), L[x]? = some a ∧ a.t = i then 1 else 0 := by
  induction L with
  | nil =>
    rw [if_neg]
    · rfl
    · rintro ⟨x, a, h, _⟩
      simp at h
  | cons a r ih =>
    have hu' : ∀ (x y : Nat) (c b : Nd), r[x]? = some c → r[y]? = some b → c.t = b.t → x = y := fun x y c b hc hb e => by
      have := hu (x + 1) (y + 1) c b hc hb e
      omega
    have ih' := ih hu'
    simp only [List.filter_cons]
    by_cases h : a.t = i
    · have hno : ¬ ∃ (x : Nat) (b : Nd), r[x]? = some b ∧ b.t = i := by
        rintro ⟨x, b, hb, e⟩
        have := hu (x + 1) 0 b a hb rfl (by rw [e, h])
        omega
      rw [if_neg hno] at ih'
      have hex : ∃ (x : Nat) (b : Nd), (a :: r)[x]? = some b ∧ b.t = i := ⟨0, a, rfl, h⟩
      have e3 : decide (a.t = i) = true := decide_eq_true h
      rw [if_pos hex]
      simp only [e3, if_true, List.length_cons, ih']
    · have hiff : (∃ (x : Nat) (b : Nd), (a :: r)[x]? = some b ∧ b.t = i) ↔ ∃ (x : Nat) (b : Nd), r[x]? = some b ∧ b.t = i := by
        constructor
        · rintro ⟨x, b, hb, e⟩
          cases x with
          | zero => cases hb; exact absurd e h
          | succ x => exact ⟨x, b, hb, e⟩
        · rintro ⟨x, b, hb, e⟩
          exact ⟨x + 1, b, hb, e⟩
      simp only [h, decide_false, Bool.false_eq_true, if_false]
      rw [ih']
      simp only [hiff]
theorem Abs.cnt {L : List Nd} {T : Int → Nat} (h : Abs L T) (n : Nat) : cntT T n = (L.filter fun a : Nd => decide (a.t < (n : Int))).length := by
  induction n with
  | zero =>
    have e : L.filter (fun a : Nd => decide (a.t < ((0 : Nat) : Int))) = [] := by
      rw [List.filter_eq_nil_iff]
      intro a ha
      obtain ⟨i, hi⟩ := List.getElem?_of_mem ha
      have := h.rng i a hi
      simp only [decide_eq_true_eq]
      omega
    rw [e]
    rfl
  | succ n ih =>
    show cntT T n + _ = _
    rw [ih, show ((n + 1 : Nat) : Int) = (n : Int) + 1 from rfl, filt_len, filt_eq L n h.uniq]
    congr 1
    by_cases hT : T n = 0
    · rw [if_pos hT, if_neg]
      rintro ⟨x, a, ha, e⟩
      exact h.no hT x a ha e
    · rw [if_neg hT, if_pos (h.all n hT)]
theorem Abs.count {L : List Nd} {T : Int → Nat} (h : Abs L T) (n : Nat) (hn : ∀ t : Int, (n : Int) ≤ t → T t = 0) : L.length = cntT T n := by
  rw [h.cnt n]
  have e : L.filter (fun a : Nd => decide (a.t < (n : Int))) = L := by
    rw [List.filter_eq_self]
    intro a ha
    obtain ⟨i, hi⟩ := List.getElem?_of_mem ha
    simp only [decide_eq_true_eq]
    rcases Int.lt_or_le a.t n with h1 | h1
    · exact h1
    · have h2 := h.mem i a hi
      have h3 := h.pos i a hi
      rw [hn a.t h1] at h2
      omega
  rw [e]
end Go.Proofs.YthnmlklgbggmbaaGreat
namespace Go.Proofs.YthnmlklgbggmbaaGreat
open Go.ChangeShapes Go.WideShapes Go.ChangeAt Go.RowKit
set_option linter.unusedVariables false
/-- Block D, made since w, is a delta list of at most m nodes, made since w, in which T is left. -/
structure DIs (w wr : World) (D : Nat) (L : List Nd) (T : Int → Nat) (m : Nat) : Prop where
  is : IsDelta wr D L
  abs : Abs L T
  len : L.length ≤ m
  below : Below w.heap.size w wr
  newD : w.heap.size ≤ D
  newN : ∀ (i : Nat) (a : Nd), L[i]? = some a → w.heap.size ≤ a.g
def DAt (w wr : World) (D : Nat) (T : Int → Nat) (m : Nat) : Prop := ∃ L, DIs w wr D L T m
theorem Abs.task16 {L : List Nd} {T : Int → Nat} (h : Abs L T) (t : Int) (ht : ¬ (0 ≤ t ∧ t < 16)) : T t = 0 := by
  by_cases e : T t = 0
  · exact e
  · obtain ⟨k, a, ha, he⟩ := h.all t e
    have := h.rng k a ha
    rw [he] at this
    exact absurd this ht
section
variable {w w1 w2 : World} {D m : Nat} {L : List Nd} {T : Int → Nat}
theorem DIs.own (h : DIs w w1 D L T m) : ∀ k, k < w1.heap.size → Own D L k → w.heap.size ≤ k := by
  intro k _ hk
  rcases hk with rfl | ⟨i, a, ha, rfl⟩
  · exact h.newD
  · exact h.newN i a ha
theorem DIs.none (h : DIs w w1 D L T m) (hk : Keeps (fun _ => False) w1 w2) : DIs w w2 D L T m :=
  ⟨h.is.none hk, h.abs, h.len, h.below.trans (hk.none.mono h.below.size), h.newD, h.newN⟩
theorem DAt.none (h : DAt w w1 D T m) (hk : Keeps (fun _ => False) w1 w2) : DAt w w2 D T m := by
  obtain ⟨L, h⟩ := h
  exact ⟨L, h.none hk⟩
theorem DAt.below (h : DAt w w1 D T m) : Below w.heap.size w w1 := h.choose_spec.below
theorem DIs.added {task : Int} {ticks : Nat} (h : DIs w w1 D L T m) (ha : Added w1 w2 D L task ticks) (h0 : T task = 0) (hr : 0 ≤ task ∧ task < 16) (ht : 0 < ticks) (ht2 : ticks < 4294967296) :
    ∃ (L' : List Nd) (k g : Nat), Ins L L' k ⟨g, task, ticks - sumX L k⟩ ∧ sumX L k ≤ ticks ∧ (∀ a : Nd, L[k]? = some a → ticks < sumX L (k + 1)) ∧ DIs w w2 D L' (fun t => if t = task then ticks else T t) (m + 1) := by
  obtain ⟨L', k, g, hI, h1, h2, hg, hd, hk⟩ := ha
  refine ⟨L', k, g, hI, h1, h2, hd, h.abs.add hI h1 h2 h0 hr ht ht2, by rw [hI.len]; have := h.len; omega, h.below.trans (hk.below h.below.size h.own), h.newD, ?_⟩
  intro i a ha
  rcases hI.cases ha with ⟨c1, c2⟩ | ⟨rfl, rfl⟩ | ⟨rfl, b, c2, rfl⟩ | ⟨c1, c2⟩
  · exact h.newN i a c2
  · exact Nat.le_trans h.below.size hg
  · exact h.newN k b c2
  · exact h.newN (i - 1) a c2
theorem DIs.removed {k : Nat} {n : Nd} (h : DIs w w1 D L T m) (hr : Removed w1 w2 D L k n) : DAt w w2 D (fun t => if t = n.t then 0 else T t) m := by
  obtain ⟨L', hI, hd, hk⟩ := hr
  refine ⟨L', hd, h.abs.del hI, by have := hI.len; have := h.len; omega, h.below.trans (hk.below h.below.size h.own), h.newD, ?_⟩
  intro i a ha
  rcases hI.cases ha with ⟨c1, c2⟩ | ⟨rfl, b, c2, rfl⟩ | ⟨c1, c2⟩
  · exact h.newN i a c2
  · exact h.newN (i + 1) b c2
  · exact h.newN (i + 1) a c2
theorem dis_ticked {a : Nd} {r : List Nd} {v : Value} (h : DIs w w1 D (a :: r) T m) (ht : Ticked w1 w2 D (a :: r) (⟨a.g, a.t, a.x - 1⟩ :: r) v) :
    ∃ k, k ≤ r.length + 1 ∧ (∀ (i : Nat) (nd : Nd), i < k → (⟨a.g, a.t, a.x - 1⟩ :: r : List Nd)[i]? = some nd → nd.x = 0) ∧ (∀ nd : Nd, (⟨a.g, a.t, a.x - 1⟩ :: r : List Nd)[k]? = some nd → nd.x ≠ 0) ∧ w2.ownsRow w1.heap.size 3 1 v k (nums (tk (⟨a.g, a.t, a.x - 1⟩ :: r)) k) ∧ DIs w w2 D ((⟨a.g, a.t, a.x - 1⟩ :: r : List Nd).drop k) (fun t => T t - 1) m := by
  obtain ⟨k, hk, hz, hnz, ho, hd, hK⟩ := ht
  refine ⟨k, hk, hz, hnz, ho, hd, h.abs.tick hk hz hnz, ?_, h.below.trans (hK.below h.below.size h.own), h.newD, ?_⟩
  · rw [List.length_drop]
    have := h.len
    simp only [List.length_cons] at this ⊢
    omega
  · intro i b hb
    rw [List.getElem?_drop] at hb
    cases hki : k + i with
    | zero => rw [hki] at hb; cases hb; exact h.newN 0 a rfl
    | succ j => rw [hki] at hb; exact h.newN (j + 1) b hb
end
theorem delta_made (w : World) : DIs w (w.alloc (.cells #[.pointer none] 157)) w.heap.size [] (fun _ => 0) 0 :=
  ⟨⟨heap_new _ _, fun i a h => by simp at h, fun i j a b h => by simp at h⟩, Abs.nil, Nat.le_refl _, ((Keeps.refl (fun _ => False) w).alloc _).none, Nat.le_refl _, fun i a h => by simp at h⟩
theorem d_add (w w1 : World) (D m : Nat) (L : List Nd) (T : Int → Nat) (task : Int) (ticks : Nat) (h : DIs w w1 D L T m) (h0 : T task = 0) (hr : 0 ≤ task ∧ task < 16) (ht : 0 < ticks) (ht2 : ticks < 4294967296) :
    Calls Tryz.prog 186 #[.pointer (some ⟨D, 0, none⟩), .int .i64 task, .int .u32 (ticks : Int)] w1 fun e w' => e = .returned (.bool true) ∧ ∃ (L' : List Nd) (k g : Nat), Ins L L' k ⟨g, task, ticks - sumX L k⟩ ∧ sumX L k ≤ ticks ∧ (∀ a : Nd, L[k]? = some a → ticks < sumX L (k + 1)) ∧ DIs w w' D L' (fun t => if t = task then ticks else T t) (m + 1) :=
  (dadd_yes D L task ticks w1 h.is h.abs.lt (h.abs.no h0) hr.1 hr.2 ht ht2 h.abs.x_lt).mono fun e w' ⟨h1, h2⟩ => ⟨h1, h.added h2 h0 hr ht ht2⟩
theorem d_add' (w w1 : World) (D m : Nat) (T : Int → Nat) (task : Int) (ticks : Nat) (h : DAt w w1 D T m) (h0 : T task = 0) (hr : 0 ≤ task ∧ task < 16) (ht : 0 < ticks) (ht2 : ticks < 4294967296) :
    Calls Tryz.prog 186 #[.pointer (some ⟨D, 0, none⟩), .int .i64 task, .int .u32 (ticks : Int)] w1 fun e w' => e = .returned (.bool true) ∧ DAt w w' D (fun t => if t = task then ticks else T t) (m + 1) := by
  obtain ⟨L, h⟩ := h
  exact (d_add w w1 D m L T task ticks h h0 hr ht ht2).mono fun e w' ⟨h1, L', k, g, _, _, _, h2⟩ => ⟨h1, L', h2⟩
set_option maxRecDepth 20000 in
theorem dadd_in (D : Nat) (L : List Nd) (task : Int) (ticks : Nat) (w : World) (h : IsDelta w D L) (hsum : sumX L L.length < 4294967296) (kk : Nat) (nk : Nd) (ht : L[kk]? = some nk ∧ nk.t = task ∧ ∀ (j : Nat) (a : Nd), j < kk → L[j]? = some a → a.t ≠ task) :
    Calls Tryz.prog 186 #[.pointer (some ⟨D, 0, none⟩), .int .i64 task, .int .u32 (ticks : Int)] w fun e w' => e = .returned (.bool false) ∧ Keeps (fun _ => False) w w' := by
  have HL := Lib.hid (dleft_yes D L task w h hsum kk nk ht)
  clear h ht
  go_enter Tryz.func186, Tryz.ntmps186
  go_wp2_with fail
  go_step3
  go_wp2_with fail
  refine HL.out.mono ?_
  rintro e w2 ⟨rfl, k2⟩
  go_wp2
  try rw [Exit.noGoto_ret]
  go_ret
  exact ⟨rfl, k2⟩
set_option maxRecDepth 20000 in
theorem dadd_lo (D : Nat) (L : List Nd) (task : Int) (ticks : Nat) (w : World) (h : IsDelta w D L) (hsum : sumX L L.length < 4294967296) (ht : ∀ (j : Nat) (a : Nd), L[j]? = some a → a.t ≠ task) (hl : task < 0) :
    Calls Tryz.prog 186 #[.pointer (some ⟨D, 0, none⟩), .int .i64 task, .int .u32 (ticks : Int)] w fun e w' => e = .returned (.bool false) ∧ Keeps (fun _ => False) w w' := by
  have HL := Lib.hid (dleft_no D L task w h hsum ht)
  have d0 : decide (task < 0) = true := decide_eq_true hl
  clear h ht
  go_enter Tryz.func186, Tryz.ntmps186
  go_wp2_with fail
  go_step3
  go_wp2_with fail
  refine HL.out.mono ?_
  rintro e w2 ⟨rfl, k2⟩
  go_wp2
  try rw [Exit.noGoto_ret]
  go_ret
  exact ⟨rfl, k2⟩
set_option maxRecDepth 20000 in
theorem dadd_hi (D : Nat) (L : List Nd) (task : Int) (ticks : Nat) (w : World) (h : IsDelta w D L) (hsum : sumX L L.length < 4294967296) (ht : ∀ (j : Nat) (a : Nd), L[j]? = some a → a.t ≠ task) (hl : 16 ≤ task) :
    Calls Tryz.prog 186 #[.pointer (some ⟨D, 0, none⟩), .int .i64 task, .int .u32 (ticks : Int)] w fun e w' => e = .returned (.bool false) ∧ Keeps (fun _ => False) w w' := by
  have HL := Lib.hid (dleft_no D L task w h hsum ht)
  have d0 : decide (task < 0) = false := decide_eq_false (by omega)
  have d1 : decide (16 ≤ task) = true := decide_eq_true hl
  clear h ht
  go_enter Tryz.func186, Tryz.ntmps186
  go_wp2_with fail
  go_step3
  go_wp2_with fail
  refine HL.out.mono ?_
  rintro e w2 ⟨rfl, k2⟩
  go_wp2
  try rw [Exit.noGoto_ret]
  go_ret
  exact ⟨rfl, k2⟩
set_option maxRecDepth 20000 in
theorem dadd_zero (D : Nat) (L : List Nd) (task : Int) (ticks : Nat) (w : World) (h : IsDelta w D L) (hsum : sumX L L.length < 4294967296) (ht : ∀ (j : Nat) (a : Nd), L[j]? = some a → a.t ≠ task) (hl : 0 ≤ task ∧ task < 16) (hz : ticks = 0) :
    Calls Tryz.prog 186 #[.pointer (some ⟨D, 0, none⟩), .int .i64 task, .int .u32 (ticks : Int)] w fun e w' => e = .returned (.bool false) ∧ Keeps (fun _ => False) w w' := by
  have HL := Lib.hid (dleft_no D L task w h hsum ht)
  have d0 : decide (task < 0) = false := decide_eq_false (by omega)
  have d1 : decide (16 ≤ task) = false := decide_eq_false (by omega)
  subst hz
  clear h ht
  go_enter Tryz.func186, Tryz.ntmps186
  go_wp2_with fail
  go_step3
  go_wp2_with fail
  refine HL.out.mono ?_
  rintro e w2 ⟨rfl, k2⟩
  go_wp2
  try rw [Exit.noGoto_ret]
  go_ret
  exact ⟨rfl, k2⟩
theorem d_add_no (w w1 : World) (D m : Nat) (T : Int → Nat) (task : Int) (ticks : Nat) (h : DAt w w1 D T m) (hn : ¬ (T task = 0 ∧ (0 ≤ task ∧ task < 16) ∧ 0 < ticks)) :
    Calls Tryz.prog 186 #[.pointer (some ⟨D, 0, none⟩), .int .i64 task, .int .u32 (ticks : Int)] w1 fun e w' => e = .returned (.bool false) ∧ DAt w w' D T m := by
  obtain ⟨L, h⟩ := h
  by_cases h0 : T task = 0
  · have hno := h.abs.no h0
    rcases (by omega : task < 0 ∨ 16 ≤ task ∨ ((0 ≤ task ∧ task < 16) ∧ ticks = 0)) with h1 | h1 | ⟨h1, h2⟩
    · exact (dadd_lo D L task ticks w1 h.is h.abs.lt hno h1).mono fun e w' ⟨h1, h2⟩ => ⟨h1, L, h.none h2⟩
    · exact (dadd_hi D L task ticks w1 h.is h.abs.lt hno h1).mono fun e w' ⟨h1, h2⟩ => ⟨h1, L, h.none h2⟩
    · exact (dadd_zero D L task ticks w1 h.is h.abs.lt hno h1 h2).mono fun e w' ⟨h1, h2⟩ => ⟨h1, L, h.none h2⟩
  · obtain ⟨k, a, ha, he, hfirst, _⟩ := h.abs.yes h0
    exact (dadd_in D L task ticks w1 h.is h.abs.lt k a ⟨ha, he, hfirst⟩).mono fun e w' ⟨h1, h2⟩ => ⟨h1, L, h.none h2⟩
theorem d_left (w w1 : World) (D m : Nat) (T : Int → Nat) (t : Int) (h : DAt w w1 D T m) :
    Calls Tryz.prog 180 #[.pointer (some ⟨D, 0, none⟩), .int .i64 t] w1 fun e w' => e = .returned (.tuple #[.int .u32 (T t : Int), .bool (decide (T t ≠ 0))]) ∧ Keeps (fun _ => False) w1 w' := by
  obtain ⟨L, h⟩ := h
  by_cases h0 : T t = 0
  · rw [h0, decide_eq_false (by omega)]
    exact dleft_no D L t w1 h.is h.abs.lt (h.abs.no h0)
  · obtain ⟨k, a, ha, he, hfirst, hs⟩ := h.abs.yes h0
    rw [decide_eq_true h0, ← hs]
    exact dleft_yes D L t w1 h.is h.abs.lt k a ⟨ha, he, hfirst⟩
theorem d_rem (w w1 : World) (D m : Nat) (T : Int → Nat) (t : Int) (h : DAt w w1 D T m) :
    Calls Tryz.prog 144 #[.pointer (some ⟨D, 0, none⟩), .int .i64 t] w1 fun e w' => e = .returned (.tuple #[.int .u32 (T t : Int), .bool (decide (T t ≠ 0))]) ∧ DAt w w' D (fun z => if z = t then 0 else T z) m := by
  obtain ⟨L, h⟩ := h
  by_cases h0 : T t = 0
  · rw [h0, decide_eq_false (by omega)]
    refine (drem_no D L t w1 h.is h.abs.lt (h.abs.no h0)).mono fun e w' ⟨h1, h2⟩ => ⟨h1, L, ?_⟩
    have h3 := h.none h2
    exact ⟨h3.is, h3.abs.congr fun z => by by_cases e : z = t; subst e; rw [if_pos rfl, h0]; rw [if_neg e], h3.len, h3.below, h3.newD, h3.newN⟩
  · obtain ⟨k, a, ha, he, hfirst, hs⟩ := h.abs.yes h0
    rw [decide_eq_true h0, ← hs]
    refine (drem_yes D L t k a w1 h.is h.abs.lt h.abs.x_lt ⟨ha, he, hfirst⟩).mono fun e w' ⟨h1, h2⟩ => ⟨h1, ?_⟩
    have := h.removed h2
    rw [he] at this
    exact this
theorem d_tick (w w1 : World) (D m : Nat) (T : Int → Nat) (h : DAt w w1 D T m) (hm : m ≤ 1000) :
    Calls Tryz.prog 137 #[.pointer (some ⟨D, 0, none⟩)] w1 fun e w' => ∃ v, e = .returned v ∧ DAt w w' D (fun t => T t - 1) m := by
  obtain ⟨L, h⟩ := h
  cases L with
  | nil =>
    refine (dtick_none D w1 h.is).mono fun e w' ⟨h1, h2⟩ => ⟨_, h1, [], ?_⟩
    subst h2
    exact ⟨h.is, h.abs.congr fun z => by
      have : T z = 0 := by
        by_cases e : T z = 0
        · exact e
        · obtain ⟨k, a, ha, _⟩ := h.abs.all z e
          simp at ha
      rw [this], h.len, h.below, h.newD, h.newN⟩
  | cons a r =>
    have h3 : 0 < sumX (a :: r) 1 := h.abs.pos 0 a rfl
    have h2 : sumX (a :: r) 1 = 0 + a.x := rfl
    have hl := h.len
    simp only [List.length_cons] at hl
    refine (dtick_some D a r w1 h.is (by omega) (by omega) h.abs.x_lt).mono fun e w' ⟨v, h1, h2⟩ => ⟨v, h1, ?_⟩
    obtain ⟨k, _, _, _, _, h5⟩ := dis_ticked h h2
    exact ⟨_, h5⟩
end Go.Proofs.YthnmlklgbggmbaaGreat
