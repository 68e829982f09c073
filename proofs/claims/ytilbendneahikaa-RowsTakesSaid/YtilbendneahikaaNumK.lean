import Derived.Test.YtilbendneahikaaNumH
namespace Go.Proofs.Ytilbendneahikaa
open Go.RowKit Go.Shelf
set_option linter.unusedVariables false
attribute [local go_sem] Oper.semAt_some
attribute [local go_sem ↓ 2000] app_pre
attribute [local go_sem] app_run
/-- The first fault among the parts. -/
def splF (a b : Int) : List (List UInt8) → Int
  | [] => 0
  | p :: ps => if (parP p a b).2 = 0 then splF a b ps else (parP p a b).2
def splN (a b : Int) (L : List (List UInt8)) : List Int := if splF a b L = 0 then L.map (fun p => (parP p a b).1) else []
theorem splF_all {a b : Int} : ∀ {L : List (List UInt8)}, (∀ p, p ∈ L → (parP p a b).2 = 0) → splF a b L = 0
  | [], _ => rfl
  | p :: ps, h => by unfold splF; rw [if_pos (h p List.mem_cons_self)]; exact splF_all fun q hq => h q (List.mem_cons_of_mem _ hq)
theorem splF_pre {a b : Int} {x : List UInt8} {t : List (List UInt8)} (hx : (parP x a b).2 ≠ 0) : ∀ {p0 : List (List UInt8)}, (∀ p, p ∈ p0 → (parP p a b).2 = 0) → splF a b (p0 ++ x :: t) = (parP x a b).2
  | [], _ => by show splF a b (x :: t) = _; unfold splF; rw [if_neg hx]
  | p :: ps, h => by
    show splF a b (p :: (ps ++ x :: t)) = _
    unfold splF
    rw [if_pos (h p List.mem_cons_self)]
    exact splF_pre hx fun q hq => h q (List.mem_cons_of_mem _ hq)
set_option maxRecDepth 100000 in
set_option maxHeartbeats 2000000 in
/-- Split: the numbers, or the first fault. -/
theorem split_any (w : World) (s sep : List UInt8) (ix : List UInt8 → Int) (M : Nat) (hM : M < 1000000) (hsep : 0 < sep.length) (hs0 : 0 < s.length) (hsM : s.length ≤ M) (hbM : sep.length ≤ M)
    (Q : World → Prop) (hQ : ∀ A B, Below w.heap.size A B → Q A → Q B) (hQw : Q w) (hIx : ∀ (r : List UInt8) (W : World), Q W → r.length ≤ M → Calls Try.prog 37 #[.string ⟨r.toArray⟩, .string ⟨sep.toArray⟩] W fun e W' => e = .returned (.int .i64 (ix r)) ∧ W' = W)
    (L : List (List UInt8)) (hL : Cuts sep ix L s) (a b : Int) (ha : -9223372036854775808 ≤ a ∧ a ≤ 9223372036854775807) (hb : -9223372036854775808 ≤ b ∧ b ≤ 9223372036854775807)
    (hok : ∀ p, p ∈ L → p.length < 1000000) (hLl : L.length < 1000000) :
    Calls Try.prog 13 #[.string ⟨s.toArray⟩, .string ⟨sep.toArray⟩, .int .i64 a, .int .i64 b] w fun e w' => ∃ v, e = .returned (.tuple #[v, .int .i64 (splF a b L)]) ∧ w'.ownsRow w.heap.size 3 1 v (splN a b L).length (cellsI (splN a b L)) ∧ Below w.heap.size w w' := by
  have hf : Fence.wide.fn 29 := trivial
  have e1 : (ByteArray.mk s.toArray).toList = s := ByteArray.toList_mk _
  have e2 : (ByteArray.mk sep.toArray).toList = sep := ByteArray.toList_mk _
  have e3 : (ByteArray.mk #[]).toList = [] := ByteArray.toList_mk []
  have g1 : (s == ([] : List UInt8)) = false := by cases s with | nil => cases hs0 | cons x t => rfl
  have g2 : (sep == ([] : List UInt8)) = false := by cases sep with | nil => cases hsep | cons x t => rfl
  have HS := Lib.hid (fun (n : Nat) (hn : 1 ≤ n) (Bs Bn : Nat) (W1 : World) (hn₀ : w.heap.size ≤ W1.heap.size) (hB : Below w.heap.size w W1) (hc : Boxed W1 Bs 9 (.string ⟨s.toArray⟩)) (hc2 : Boxed W1 Bn 9 (.string ⟨sep.toArray⟩)) => parts_stops n hn Bs Bn w.heap.size W1 hn₀ s sep ix M (by omega) hsep hsM hbM Q hQ hIx L hL hc hc2 (hQ _ _ hB hQw))
  clear hIx hL hQ hQw
  generalize (⟨s.toArray⟩ : ByteArray) = S at e1 HS ⊢
  generalize (⟨sep.toArray⟩ : ByteArray) = T at e2 HS ⊢
  refine (callsIn_wide (n := 9)).1 ?_
  refine callsIn_of_wp_marks Try.func13 rfl trivial ?_ rfl
  simp only [Try.ntmps13, List.size_toArray, List.length_cons, List.length_nil, Nat.reduceAdd, Nat.reduceSub, Array.replicate_succ, Array.replicate_zero, List.push_toArray, List.append_toArray, List.nil_append, List.cons_append]
  gi_wp2
  refine wpIn_scope_ghost 0 (fun _ _ _ => False) rfl (fun _ _ _ h => h.elim) ?_
  intro _
  gi_wp2
  refine wpIn_label ?_
  rename_i K hK
  refine hK _ _ ?_
  gi_wp2_with (gi_at_call 29; refine (parts_in _ _ _ _).mono ?_; rintro e w' ⟨rfl, rfl⟩)
  have b0 := (((((Boxed.new w 3 (.int .i64 a)).alloc (.cells #[.int .i64 b] 3)).alloc (.cells #[.slice none 0 0] 31)).alloc (.cells #[.int .i64 0] 23)).alloc (.cells #[.string S] 9)).alloc (.cells #[.string T] 9)
  have b1 := ((((Boxed.new (w.alloc (.cells #[.int .i64 a] 3)) 3 (.int .i64 b)).alloc (.cells #[.slice none 0 0] 31)).alloc (.cells #[.int .i64 0] 23)).alloc (.cells #[.string S] 9)).alloc (.cells #[.string T] 9)
  have b2 := (((Boxed.new ((w.alloc (.cells #[.int .i64 a] 3)).alloc (.cells #[.int .i64 b] 3)) 31 (.slice none 0 0)).alloc (.cells #[.int .i64 0] 23)).alloc (.cells #[.string S] 9)).alloc (.cells #[.string T] 9)
  have b3 := ((Boxed.new (((w.alloc (.cells #[.int .i64 a] 3)).alloc (.cells #[.int .i64 b] 3)).alloc (.cells #[.slice none 0 0] 31)) 23 (.int .i64 0)).alloc (.cells #[.string S] 9)).alloc (.cells #[.string T] 9)
  have b4 := (Boxed.new ((((w.alloc (.cells #[.int .i64 a] 3)).alloc (.cells #[.int .i64 b] 3)).alloc (.cells #[.slice none 0 0] 31)).alloc (.cells #[.int .i64 0] 23)) 9 (.string S)).alloc (.cells #[.string T] 9)
  have b5 := Boxed.new (((((w.alloc (.cells #[.int .i64 a] 3)).alloc (.cells #[.int .i64 b] 3)).alloc (.cells #[.slice none 0 0] 31)).alloc (.cells #[.int .i64 0] 23)).alloc (.cells #[.string S] 9)) 9 (.string T)
  have hB0 : Below w.heap.size w ((((((w.alloc (.cells #[.int .i64 a] 3)).alloc (.cells #[.int .i64 b] 3)).alloc (.cells #[.slice none 0 0] 31)).alloc (.cells #[.int .i64 0] 23)).alloc (.cells #[.string S] 9)).alloc (.cells #[.string T] 9)) := (((((((Below.refl _ w).alloc (Nat.le_refl _) _).alloc (by simp) _).alloc (by simp; omega) _).alloc (by simp; omega) _).alloc (by simp; omega) _).alloc (by simp; omega) _)
  simp only [World.size_alloc] at b1 b2 b3 b4 b5
  have hsz : ((((((w.alloc (.cells #[.int .i64 a] 3)).alloc (.cells #[.int .i64 b] 3)).alloc (.cells #[.slice none 0 0] 31)).alloc (.cells #[.int .i64 0] 23)).alloc (.cells #[.string S] 9)).alloc (.cells #[.string T] 9)).heap.size = w.heap.size + 6 := by simp only [World.size_alloc]
  generalize (((((w.alloc (.cells #[.int .i64 a] 3)).alloc (.cells #[.int .i64 b] 3)).alloc (.cells #[.slice none 0 0] 31)).alloc (.cells #[.int .i64 0] 23)).alloc (.cells #[.string S] 9)).alloc (.cells #[.string T] 9) = W1 at b0 b1 b2 b3 b4 b5 hB0 hsz ⊢
  refine wpIn_rangeFunc_ownG (n := 9) (F := Fence.wide) rfl (by decide) (gf := 36) (lb := #[.pointer (some ⟨w.heap.size + 1 + 1 + 1 + 1, 0, none⟩), .pointer (some ⟨w.heap.size + 1 + 1 + 1 + 1 + 1, 0, none⟩)]) rfl trivial (enters_of Try.func36 (by kernel_rfl) rfl)
    (HS.out (9 - 1) (by decide) (w.heap.size + 1 + 1 + 1 + 1) (w.heap.size + 1 + 1 + 1 + 1 + 1) W1 (by omega) hB0 b4 b5) KS.t (KS.b (by omega)) (Below.refl _ _) (fun _ => rfl)
    (fun pre W => (∃ v, Boxed W (w.heap.size + 1 + 1) 31 v ∧ W.ownsRow (w.heap.size + 6) 3 1 v (pre.map (fun x => (parP x.1 a b).1)).length (cellsI (pre.map (fun x => (parP x.1 a b).1))) ∧ ∀ y, y ∈ pre → (parP y.1 a b).2 = 0) ∧ (Boxed W w.heap.size 3 (.int .i64 a) ∧ (Boxed W (w.heap.size + 1) 3 (.int .i64 b) ∧ (Boxed W (w.heap.size + 1 + 1 + 1) 23 (.int .i64 0) ∧ Boxed W (w.heap.size + 1 + 1 + 1 + 1 + 1) 9 (.string T)))) ∧ Below w.heap.size w W)
    (fun c pre W => (c = .exit 0 ∧ ∃ (p0 : List {x : List UInt8 // x ∈ L}) (x : {x : List UInt8 // x ∈ L}), pre = p0 ++ [x] ∧ (∀ y, y ∈ p0 → (parP y.1 a b).2 = 0) ∧ (parP x.1 a b).2 ≠ 0 ∧ Boxed W (w.heap.size + 1 + 1) 31 (.slice none 0 0) ∧ Boxed W (w.heap.size + 1 + 1 + 1) 23 (.int .i64 (parP x.1 a b).2)) ∧ Below w.heap.size w W)
    (OwnFrom.and (Own.from (holdsRow_own (w.heap.size + 6) (w.heap.size + 1 + 1) 31 3 1 (fun pre : List {x : List UInt8 // x ∈ L} => (pre.map (fun x => (parP x.1 a b).1)).length) (fun pre => cellsI (pre.map (fun x => (parP x.1 a b).1))) (fun pre _ => ∀ y, y ∈ pre → (parP y.1 a b).2 = 0)) _) (OwnFrom.and (OwnFrom.and (Own.from (boxed_own _ _ _) _) (OwnFrom.and (Own.from (boxed_own _ _ _) _) (OwnFrom.and (Own.from (boxed_own _ _ _) _) (Own.from (boxed_own _ _ _) _)))) (ownFrom_below (Nat.le_refl _) (by omega))))
    (fun c => OwnFrom.and (Own.from (fun s A B row hs hg hr => by
      obtain ⟨h0, p0, x, h1, h2, h3, h4, h5⟩ := hs
      exact ⟨h0, p0, x, h1, h2, h3, boxed_own (β := Unit) _ _ (fun _ => .slice none 0 0) () A B row h4 hg hr, boxed_own (β := Unit) _ _ (fun _ => .int .i64 (parP x.1 a b).2) () A B row h5 hg hr⟩) _) (ownFrom_below (Nat.le_refl _) (by omega)))
    ⟨⟨_, b2, World.ownsRow_nil _ _ _ _, fun y hy => (by cases hy)⟩, ⟨b0, b1, b3, b5⟩, hB0⟩
    (fun x => { tmps := #[.string S, .string T, .int .i64 a, .int .i64 b, undef, undef, .pointer (some ⟨w.heap.size, 0, none⟩), .pointer (some ⟨w.heap.size + 1, 0, none⟩), .slice none 0 0, .int .i64 0, .pointer (some ⟨w.heap.size + 1 + 1, 0, none⟩), .pointer (some ⟨w.heap.size + 1 + 1 + 1, 0, none⟩), .string ⟨x.1.toArray⟩, undef, undef, .string S, .bool false, .string T, .bool false, .string S, .string T, .func (.func 36) #[] #[.pointer (some ⟨w.heap.size + 1 + 1 + 1 + 1, 0, none⟩), .pointer (some ⟨w.heap.size + 1 + 1 + 1 + 1 + 1, 0, none⟩)], .string ⟨x.1.toArray⟩, undef, undef, undef, undef, undef, undef, undef, undef, undef, undef, undef, undef, undef, undef, undef, undef], defers := [] }) ?assign ?body ?done ?stop
  case assign =>
    intro l x W K hK
    gi_wp2
    exact hK
  case body =>
    rintro l pre x W ⟨⟨v, hv, hrow, hall⟩, ⟨hb0, hb1, hb3, hb5⟩, hB⟩ hpl
    have hxl := hok x.1 x.2
    have HAll := Lib.hid hall
    have hml : (pre.map (fun x => (parP x.1 a b).1)).length < 1000000 := by simp at hpl ⊢; omega
    have c0 := hb0.cell
    have c1 := hb1.cell
    have l0 := hb0.lt
    have l1 := hb1.lt
    have HP := Lib.hid (parse_any W x.1 hxl a b ha hb)
    have HX0 := Lib.hid (⟨_, rfl⟩ : ∃ z, z = (parP x.1 a b).2)
    have HJ := Lib.hid (And.intro hv (And.intro hrow (And.intro hb0 (And.intro hb1 (And.intro hb3 (And.intro hb5 (And.intro hB hml)))))))
    clear hv hrow hb0 hb1 hb3 hb5 hB hml hxl hall
    by_cases hx0 : (parP x.1 a b).2 = 0
    · rw [hx0] at HP
      gi_wp2
      refine ⟨trivial, ?_⟩
      refine (CallsIn.inRound l (callsIn_wide.2 HP.out)).mono ?_
      rintro e W1 ⟨rfl, hk⟩
      obtain ⟨hv, hrow, hb0, hb1, hb3, hb5, hB, hml⟩ := HJ.out
      have hWs := hB.size
      have hWz : w.heap.size + 6 ≤ W1.heap.size := by
        have := hb5.lt
        have := hk.size
        omega
      obtain ⟨g, cap, w1, hrun, h1, h2, h3, h4, h5, h6⟩ := app_num (z := w.heap.size) ((parP x.1 a b).1) (hk.at hv (fun h => h)) (row_keeps hrow hk) hWz (by omega) (by omega) hml
      simp only [List.length_map] at h2 h3 h4 h5 h6
      have c2 := (show Boxed W1 _ _ _ from hk.at hv (fun h => h)).cell
      have l2 := (show Boxed W1 _ _ _ from hk.at hv (fun h => h)).lt
      have c2a := ((show Boxed W1 _ _ _ from hk.at hv (fun h => h)).alloc (.cells #[.int .i64 ((parP x.1 a b).1)] 3)).cell
      have d1 := h1.cell
      have f1 := h1.frozen
      have m1 := h1.lt
      have HR := Lib.hid (And.intro h2 (And.intro h3 (And.intro ((keeps_others hk).trans h4) (And.intro ((hk.none.mono hWs).trans h5) (fun k t u h7 h8 (h9 : Boxed W k t u) => h6 k t u h7 h8 (hk.at h9 (fun h => h)))))))
      clear hv hrow hb0 hb1 hb3 hb5 hB hml h1 h2 h3 h4 h5 h6 hk
      gi_wp2
      obtain ⟨_, _, hb0, hb1, hb3, hb5, hB, _⟩ := HJ.out
      obtain ⟨h2, h3, h4, h5, h6⟩ := HR.out
      exact ⟨h4.from _, ⟨h5, fun u hu => h6 _ _ u (by omega) (by omega) hu⟩, ⟨_, h2, by rw [List.map_append]; exact h3, fun y hy => (List.mem_append.1 hy).elim (HAll.out y) (fun e => by simp at e; subst e; exact hx0)⟩, ⟨h6 _ _ _ (by omega) (by omega) hb0, h6 _ _ _ (by omega) (by omega) hb1, h6 _ _ _ (by omega) (by omega) hb3, h6 _ _ _ (by omega) (by omega) hb5⟩, hB.trans h5⟩
    · gi_wp2
      refine ⟨trivial, ?_⟩
      refine (CallsIn.inRound l (callsIn_wide.2 HP.out)).mono ?_
      rintro e W1 ⟨rfl, hk⟩
      obtain ⟨hv, hrow, hb0, hb1, hb3, hb5, hB, hml⟩ := HJ.out
      have hv1 : Boxed W1 (w.heap.size + 1 + 1) 31 v := hk.at hv (fun h => h)
      have hf1 : Boxed W1 (w.heap.size + 1 + 1 + 1) 23 (.int .i64 0) := hk.at hb3 (fun h => h)
      have c2 := hv1.cell
      have l2 := hv1.lt
      have f2 := hv1.frozen
      have hf1' := hf1.other (B' := w.heap.size + 1 + 1) (by omega) (.slice none 0 0)
      have c3 := hf1'.cell
      have f3 := hf1'.frozen
      have l3 := hf1'.lt
      have c3' := hf1.cell
      have f3' := hf1.frozen
      have l3' := hf1.lt
      have hB1 : Below w.heap.size w W1 := hB.trans (hk.none.mono hB.size)
      have HR := Lib.hid (And.intro (hv1.set (.slice none 0 0)) (And.intro hf1' (And.intro (keeps_others hk) hB1)))
      clear hv hrow hb0 hb1 hb3 hb5 hB hml hk hv1 hf1 hf1' hB1
      generalize hy : (parP x.1 a b).2 = y at hx0 ⊢
      have hy0 : (y == 0) = false := by simpa using hx0
      gi_wp2
      obtain ⟨q1, q2, q3, q4⟩ := HR.out
      have hBS := HJ.out.2.2.2.2.2.2.1
      exact ⟨((q3.trans (KeepsOthers.setCell _ _ _)).trans (KeepsOthers.setCell _ _ _)).from _, ⟨rfl, pre, x, rfl, HAll.out, by rw [hy]; exact hx0, q1.other (by omega) _, by rw [hy]; exact q2.set _⟩, (q4.setCell (p := ⟨w.heap.size + 1 + 1, 0, none⟩) (by show w.heap.size ≤ w.heap.size + 1 + 1; omega) _).setCell (p := ⟨w.heap.size + 1 + 1 + 1, 0, none⟩) (by show w.heap.size ≤ w.heap.size + 1 + 1 + 1; omega) _⟩
  case done =>
    rintro D ys W hD rfl ⟨⟨v, hv, hrow, hall⟩, ⟨_, _, hb3, _⟩, hB⟩ hK
    have hc := hv.cell
    have hc3 := hb3.cell
    have lc := hv.lt
    have lc3 := hb3.lt
    have hmx : Try.prog.follows .mixedOrders = true := by kernel_rfl
    gi_wp2
    gi_region_o
    all_goals gi_wp2
    all_goals
      try simp only [Exit.jump]
      refine ⟨by simp, .inl ⟨_, _, rfl, run_takeDeferred (show W.drew.heap[D]? = _ from hK), ?_⟩⟩
      have hF : splF a b L = 0 := splF_all fun p hp => hall ⟨p, hp⟩ (List.mem_attach _ _)
      have hN : splN a b L = L.map (fun p => (parP p a b).1) := by unfold splN; rw [if_pos hF]
      have e : L.attach.map (fun x => (parP x.1 a b).1) = L.map (fun p => (parP p a b).1) := by
        rw [show (fun x : {x // x ∈ L} => (parP x.1 a b).1) = (fun p => (parP p a b).1) ∘ (fun x => x.1) from rfl, ← List.map_map]; simp
      rw [e, ← hN] at hrow
      rw [hF]
      refine ⟨.tuple #[v, .int .i64 0], by simp [results, Try.results13, go_sem], v, rfl, ownsRow_putObj (hrow.mono (Nat.le_add_right _ 6)).drew _ hK rfl, hB.drew.trans (belowK_b (w := w) (Nat.le_refl _) W.drew D _ _ (by omega) hK rfl rfl)⟩
  case stop =>
    rintro D c pre W hD hpre ⟨⟨rfl, p0, x, rfl, hall, hx0, hb2, hb3⟩, hB⟩ hK
    have c2 := hb2.cell
    have c3 := hb3.cell
    have l2 := hb2.lt
    have l3 := hb3.lt
    obtain ⟨t, ht⟩ := hpre
    have hLL : L = p0.map (fun x => x.1) ++ x.1 :: t.map (fun x => x.1) := by
      have h := congrArg (List.map (fun x : {x // x ∈ L} => x.1)) ht
      rw [show L.attach.map (fun x => x.1) = L by simp] at h
      exact h.symm.trans (by simp)
    have hF : splF a b L = (parP x.1 a b).2 := by
      refine (congrArg (splF a b) hLL).trans (splF_pre hx0 fun p hp => ?_)
      obtain ⟨y, hy, rfl⟩ := List.mem_map.1 hp
      exact hall y hy
    have hN : splN a b L = [] := by unfold splN; rw [if_neg (by rw [hF]; exact hx0)]
    have HF := Lib.hid (And.intro hF (And.intro hN (And.intro hB hK)))
    clear hF hN hB hLL ht hall hx0 hb2 hb3
    generalize (parP x.1 a b).2 = y at *
    have hmx : Try.prog.follows .mixedOrders = true := by kernel_rfl
    gi_wp2
    gi_region_o
    all_goals gi_wp2
    all_goals
      try simp only [Exit.jump]
      obtain ⟨hF, hN, hB, hK⟩ := HF.out
      refine ⟨by simp, .inl ⟨_, _, rfl, run_takeDeferred (show W.drew.heap[D]? = _ from hK), ?_⟩⟩
      rw [hF, hN]
      refine ⟨.tuple #[.slice none 0 0, .int .i64 y], by simp [results, Try.results13, go_sem], .slice none 0 0, rfl, World.ownsRow_nil _ _ _ _, hB.drew.trans (belowK_b (w := w) (Nat.le_refl _) W.drew D _ _ (by omega) hK rfl rfl)⟩
end Go.Proofs.Ytilbendneahikaa
