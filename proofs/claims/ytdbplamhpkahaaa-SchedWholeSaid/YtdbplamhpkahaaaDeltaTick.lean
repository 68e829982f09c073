import Derived.Test.YtdbplamhpkahaaaDeltaList
import Derived.Test.YtdbplamhpkahaaaDeltaAdd
import Derived.Deep.LoopGhost
namespace Go.Proofs.Ytdbplamhpkahaaa
open Go.ChangeShapes Go.WideShapes Go.ChangeAt Go.RowKit
set_option linter.unusedVariables false
theorem IsDelta.below {B : Nat} {w w' : World} {D : Nat} {L : List Nd} (h : IsDelta w D L) (hb : Below B w w') (hD : D < B) (hN : ∀ (i : Nat) (nd : Nd), L[i]? = some nd → nd.g < B) : IsDelta w' D L :=
  ⟨Below.at hb h.head hD, fun i nd hi => Below.at hb (h.node i nd hi) (hN i nd hi), h.inj⟩
theorem Keeps.thenBelow {S : Nat → Prop} {w w1 w2 : World} (h : Keeps S w w1) (hb : Below w.heap.size w1 w2) : Keeps S w w2 :=
  ⟨hb.os.trans h.os, hb.tape.trans h.tape, hb.output.trans h.output, Nat.le_trans h.size hb.size, fun k hk hs => (hb.block k hk).trans (h.block k hk hs)⟩
theorem ptr_drop (L : List Nd) (i j : Nat) : ptrOf (L.drop i) j = ptrOf L (i + j) := by simp [ptrOf, List.getElem?_drop]
theorem delta_pop {w : World} {D : Nat} {M : List Nd} {a : Nd} (h : IsDelta w D M) (ha : M[0]? = some a) : IsDelta (w.setCell ⟨D, 0, none⟩ (.pointer (ptrOf M 1))) D (M.drop 1) := by
  refine ⟨?_, ?_, ?_⟩
  · rw [ptr_drop]
    exact heap_set h.head 0 _
  · intro i nd hi
    rw [List.getElem?_drop] at hi
    rw [ptr_drop, show 1 + (i + 1) = 1 + i + 1 by omega]
    exact heap_other (h.node (1 + i) nd hi) (h.ne hi) _
  · intro i j x y hx hy hxy
    rw [List.getElem?_drop] at hx hy
    have := h.inj (1 + i) (1 + j) x y hx hy hxy
    omega
theorem delta_dec {w : World} {D : Nat} {a : Nd} {r : List Nd} (h : IsDelta w D (a :: r)) : IsDelta (w.setCell ⟨a.g, 1, none⟩ (.int .u32 ((a.x - 1 : Nat) : Int))) D (⟨a.g, a.t, a.x - 1⟩ :: r) := by
  have hp : ∀ i, ptrOf (⟨a.g, a.t, a.x - 1⟩ :: r) i = ptrOf (a :: r) i := by
    intro i
    cases i <;> simp [ptrOf]
  have h0 : (a :: r)[0]? = some a := rfl
  refine ⟨?_, ?_, ?_⟩
  · rw [hp]
    exact heap_other h.head (h.ne h0).symm _
  · intro i nd hi
    rw [hp]
    cases i with
    | zero =>
      cases hi
      exact heap_set (h.node 0 a h0) 1 _
    | succ i =>
      have hi' : (a :: r)[i + 1]? = some nd := hi
      exact heap_other (h.node (i + 1) nd hi') (fun e => by have := h.inj (i + 1) 0 nd a hi' h0 e; omega) _
  · intro i j x y hx hy hxy
    have key : ∀ {i : Nat} {x : Nd}, (⟨a.g, a.t, a.x - 1⟩ :: r : List Nd)[i]? = some x → ∃ z, (a :: r)[i]? = some z ∧ z.g = x.g := by
      intro i x hx
      cases i with
      | zero => cases hx; exact ⟨a, rfl, rfl⟩
      | succ i => exact ⟨x, hx, rfl⟩
    obtain ⟨z1, e1, e2⟩ := key hx
    obtain ⟨z2, e3, e4⟩ := key hy
    exact h.inj i j z1 z2 e1 e3 (by omega)
theorem dtick_none (D : Nat) (w : World) (h : IsDelta w D []) :
    Calls Try.prog 26 #[.pointer (some ⟨D, 0, none⟩)] w fun e w' => e = .returned (.slice none 0 0) ∧ w = w' := by
  have d0 : w.cell? ⟨D, 0, none⟩ = some (.pointer none) := cell_of h.head 0
  clear h
  go_enter Try.func26, Try.ntmps26
  go_wp2_with fail
  go_step3
  go_wp2
  try rw [Exit.noGoto_ret]
  go_ret
  exact ⟨rfl, rfl⟩
/-- What a Tick tells, and leaves. -/
def Ticked (w w' : World) (D : Nat) (L L1 : List Nd) (v : Value) : Prop :=
  ∃ k, k ≤ L1.length ∧ (∀ (i : Nat) (nd : Nd), i < k → L1[i]? = some nd → nd.x = 0) ∧ (∀ nd : Nd, L1[k]? = some nd → nd.x ≠ 0) ∧ w'.ownsRow w.heap.size 3 1 v k (nums (tk L1) k) ∧ IsDelta w' D (L1.drop k) ∧ Keeps (Own D L) w w'
set_option maxRecDepth 20000 in
set_option maxHeartbeats 2000000 in
theorem dtick_some (D : Nat) (a : Nd) (r : List Nd) (w : World) (h : IsDelta w D (a :: r)) (hx0 : 1 ≤ a.x) (hlen : r.length ≤ 1000) (hx : ∀ (j : Nat) (b : Nd), (a :: r)[j]? = some b → b.x < 4294967296) :
    Calls Try.prog 26 #[.pointer (some ⟨D, 0, none⟩)] w fun e w' => ∃ v, e = .returned v ∧ Ticked w w' D (a :: r) (⟨a.g, a.t, a.x - 1⟩ :: r) v := by
  have h0 : (a :: r)[0]? = some a := rfl
  have hnd := h.node 0 a h0
  have d0 : w.cell? ⟨D, 0, none⟩ = some (.pointer (some ⟨a.g, 0, none⟩)) := cell_of h.head 0
  have n1 : w.cell? ⟨a.g, 1, none⟩ = some (.int .u32 (a.x : Int)) := cell_of hnd 1
  have nf : w.frozen? ⟨a.g, 1, none⟩ = false := free_of hnd 1
  have ln := lt_of hnd
  have lD := h.lt
  have hax := hx 0 a h0
  have hd := delta_dec h
  rw [show ((a.x - 1 : Nat) : Int) = (a.x : Int) - 1 by omega] at hd
  have kd : Keeps (Own D (a :: r)) w (w.setCell ⟨a.g, 1, none⟩ (.int .u32 ((a.x : Int) - 1))) := (Keeps.refl _ w).setCell (p := ⟨a.g, 1, none⟩) (.inl (.inr ⟨0, a, h0, rfl⟩)) _
  have HD := Lib.hid (And.intro hd kd)
  have HX := Lib.hid hx
  have hN : ∀ (i : Nat) (nd : Nd), (⟨a.g, a.t, a.x - 1⟩ :: r : List Nd)[i]? = some nd → nd.g < w.heap.size := by
    intro i nd hi
    cases i with
    | zero => cases hi; exact ln
    | succ i => exact lt_of (h.node (i + 1) nd hi)
  have HN := Lib.hid hN
  clear h hnd hd kd hx h0 hN
  obtain ⟨L1, hL1⟩ : ∃ L1, L1 = (⟨a.g, a.t, a.x - 1⟩ :: r : List Nd) := ⟨_, rfl⟩
  have hl1 : L1.length = r.length + 1 := by rw [hL1]; rfl
  have HX1 : Hid (∀ (j : Nat) (b : Nd), L1[j]? = some b → b.x < 4294967296) := Lib.hid (by
    intro j b hb
    rw [hL1] at hb
    cases j with
    | zero => cases hb; show a.x - 1 < _; omega
    | succ j => exact HX.out (j + 1) b hb)
  rw [← hL1] at HD HN
  have HL1 := Lib.hid hL1
  clear hL1 HX
  go_enter Try.func26, Try.ntmps26
  go_wp2_with fail
  go_step3
  go_wp2_with fail
  go_step3
  go_wp2_with fail
  obtain ⟨i0, hi0', hz0, hz1, hz2⟩ := info_parts Try.infoD
  go_loopg [3] L1.length (fun g v wr => ∃ i : Nat, i + g = L1.length ∧ (∀ (j : Nat) (nd : Nd), j < i → L1[j]? = some nd → nd.x = 0) ∧ wr.ownsRow w.heap.size 3 1 v i (nums (tk L1) i) ∧ IsDelta wr D (L1.drop i) ∧ Keeps (Own D (a :: r)) w wr)
  case atStart => exact ⟨0, by omega, fun j nd h => absurd h (Nat.not_lt_zero _), World.ownsRow_nil _ _ _ _, HD.out.1, HD.out.2⟩
  case round =>
    obtain ⟨i, hig, hz, hown, hI, hK⟩ := hrel
    have HO := Lib.hid (And.intro hz (And.intro hown (And.intro hI hK)))
    have hsz := hK.size
    have lDr := hI.lt
    have d0 : wr.cell? ⟨D, 0, none⟩ = some (.pointer (ptrOf L1 i)) := by
      have := cell_of hI.head 0
      rw [ptr_drop, Nat.add_zero] at this
      exact this
    have df := free_of hI.head 0
    clear hz hown
    cases hi : L1[i]? with
    | none =>
      have hge := get_ge hi
      have hil : i = L1.length := by omega
      rw [ptrOf_none hge] at d0
      have HI := Lib.hid (And.intro hi hil)
      clear hi hI hK hil hge
      go_wp2
      try rw [Exit.noGoto_ret]
      go_ret
      exact ⟨_, rfl, by rw [← HL1.out]; exact ⟨i, by omega, HO.out.1, (fun nd h => by rw [HI.out.1] at h; cases h), HO.out.2.1, HO.out.2.2.1, HO.out.2.2.2⟩⟩
    | some b =>
      have hib := get_lt hi
      obtain ⟨g, rfl⟩ : ∃ g, gk = g + 1 := ⟨gk - 1, by omega⟩
      have hi0 : (L1.drop i)[0]? = some b := by rw [List.getElem?_drop, Nat.add_zero]; exact hi
      have hnd := hI.node 0 b hi0
      have hbx := HX1.out i b hi
      have b1 : wr.cell? ⟨b.g, 1, none⟩ = some (.int .u32 (b.x : Int)) := cell_of hnd 1
      have b0 : wr.cell? ⟨b.g, 0, none⟩ = some (.int .i64 b.t) := cell_of hnd 0
      have b2 : wr.cell? ⟨b.g, 2, none⟩ = some (.pointer (ptrOf L1 (i + 1))) := by
        have := cell_of hnd 2
        rw [ptr_drop] at this
        exact this
      have lb := lt_of hnd
      have lbW := HN.out i b hi
      rw [ptrOf_some hi] at d0
      by_cases hbz : b.x = 0
      · have HT := Lib.hid (tk_some hi)
        have HBZ := Lib.hid hbz
        have HIB := Lib.hid (And.intro hi (And.intro hi0 hnd))
        rw [hbz] at b1
        clear hi hi0 hnd hbz hI hK
        go_wp2_with (at_builtin; refine wpList_append_own _ rfl (.tmp 36) (.tmp 44) 22 rfl w.heap.size 3 i0 (.int .i64 0) 1 8 Try.underlying22 hi0' hz0 hz1 hz2 rfl (by decide) _ _ _ rfl (HO.out.2.1.alloc _) ⟨wr.heap.size, 0, none⟩ 1 1 [.int .i64 b.t] rfl rfl (new_one _ _ _) (by simp [Value.oneCell']) (by unfold maxLen; omega) (by omega) (by simp; omega) ?_; intro v2 w2 hown2 hgrow _; have hb2 := ((Below.refl w.heap.size wr).alloc hsz (.cells #[Value.int .i64 b.t] 3)).grown hgrow (by simp; omega) (fun k hk => (HO.out.2.1.lt k hk).1); have hI2 := HO.out.2.2.1.below hb2 lD (fun j nd hj => by rw [List.getElem?_drop] at hj; exact HN.out _ nd hj); have hK2 := HO.out.2.2.2.thenBelow hb2; have e0 : w2.cell? ⟨D, 0, none⟩ = some (.pointer (some ⟨b.g, 0, none⟩)) := (by have := cell_of hI2.head 0; rw [ptr_drop, Nat.add_zero, ptrOf_some HIB.out.1] at this; exact this); have ef := free_of hI2.head 0; have e2 : w2.cell? ⟨b.g, 2, none⟩ = some (.pointer (ptrOf L1 (i + 1))) := (by have := cell_of (hI2.node 0 b HIB.out.2.1) 2; rw [ptr_drop] at this; exact this); have lD2 := hI2.lt; have lb2 := lt_of (hI2.node 0 b HIB.out.2.1); rw [← HT.out, nums_snoc'] at hown2; have H2 := Lib.hid (And.intro hown2 (And.intro hI2 hK2)); clear hown2 hgrow hb2 hI2 hK2 d0 df b0 b1 b2)
        have hpop := delta_pop H2.out.2.1 HIB.out.2.1
        rw [List.drop_drop, ptr_drop] at hpop
        have HP := Lib.hid (And.intro (ownsRow_setCell_below H2.out.1 (a := ⟨D, 0, none⟩) lD (.pointer (ptrOf L1 (i + 1)))) (And.intro hpop (H2.out.2.2.setCell (p := ⟨D, 0, none⟩) (.inl (.inl rfl)) (.pointer (ptrOf L1 (i + 1))))))
        clear hpop
        go_roundg g
        case measure => omega
        case rel => exact ⟨i + 1, by omega, fun j nd hj hjn => by
          by_cases e : j = i
          · subst e; rw [HIB.out.1] at hjn; cases hjn; exact HBZ.out
          · exact HO.out.1 j nd (by omega) hjn, HP.out.1, HP.out.2.1, HP.out.2.2⟩
      · have hdec : decide (0 < (b.x : Int)) = true := decide_eq_true (by omega)
        have hdec2 : decide (0 < b.x) = true := decide_eq_true (by omega)
        have hpos : 0 < b.x := by omega
        have hpos2 : (0 : Int) < (b.x : Int) := by omega
        have HI := Lib.hid (And.intro hi hbz)
        clear hi hi0 hnd hbz hI hK
        go_wp2
        try rw [Exit.noGoto_ret]
        go_ret
        exact ⟨_, rfl, by rw [← HL1.out]; exact ⟨i, by omega, HO.out.1, fun nd h => by rw [HI.out.1] at h; cases h; exact HI.out.2, HO.out.2.1, HO.out.2.2.1, HO.out.2.2.2⟩⟩
end Go.Proofs.Ytdbplamhpkahaaa
