import Derived.Test.YtakaclkhnajpeaaRowD
namespace Go.Proofs.Ytakaclkhnajpeaa
open Go.RowKit Go.Shelf
set_option linter.unusedVariables false
attribute [local go_sem] Oper.semAt_some
attribute [local go_sem ↓ 2000] app_pre
attribute [local go_sem] app_run
theorem row_on {W W' : World} {B e size n : Nat} {v : Value} {xs : List Value} (h : W.ownsRow B e size v n xs) (hb : Below W.heap.size W W') : W'.ownsRow B e size v n xs :=
  h.kept (row := none) ⟨hb.os, hb.tape, hb.output, hb.size, fun j hj _ => hb.block j hj⟩ (by cases hv : v.ownBlock <;> simp)
set_option maxRecDepth 100000 in
set_option maxHeartbeats 2000000 in
/-- **All: the rows of a text.** -/
theorem all_any (w : World) (s : List UInt8) (hs : s.length ≤ 1000000) (L : List (Nat × List UInt8)) (hL : LinesOf 1 L s) (hLl : L.length < 1000000) (hLx : ∀ x, x ∈ L → x.2.length ≤ 1000000) :
    Calls Try.prog 12 #[.string ⟨s.toArray⟩] w fun e w' => ∃ (v : Value) (R : List RowD), e = .returned v ∧ R.map keyR = rowsOf L ∧ w'.ownsRow w.heap.size 45 2 v R.length (flatR R) ∧ RowsAt w' R ∧ Below w.heap.size w w' := by
  have hf : Fence.wide.fn 18 := trivial
  have HS := Lib.hid (fun (n : Nat) (hn : 1 ≤ n) (Bs n₀ : Nat) (w : World) (hn₀ : n₀ ≤ w.heap.size) (hc : Boxed w Bs 9 (.string ⟨s.toArray⟩)) => lines_stops n hn Bs n₀ w hn₀ s hs L hL (by omega) hc)
  clear hL
  generalize (⟨s.toArray⟩ : ByteArray) = S at HS ⊢
  refine (callsIn_wide (n := 9)).1 ?_
  refine callsIn_of_wp_marks Try.func12 rfl trivial ?_ rfl
  simp only [Try.ntmps12, List.size_toArray, List.length_cons, List.length_nil, Nat.reduceAdd, Nat.reduceSub, Array.replicate_succ, Array.replicate_zero, List.push_toArray, List.append_toArray, List.nil_append, List.cons_append]
  gi_wp2_with (gi_at_call 18; refine (lines_in _ _ _).mono ?_; rintro e w' ⟨rfl, rfl⟩)
  have b0 := (Boxed.new w 41 (.slice none 0 0)).alloc (.cells #[.string S] 9)
  have b1 := Boxed.new (w.alloc (.cells #[.slice none 0 0] 41)) 9 (.string S)
  have hB0 : Below w.heap.size w ((w.alloc (.cells #[.slice none 0 0] 41)).alloc (.cells #[.string S] 9)) := ((Below.refl _ w).alloc (Nat.le_refl _) _).alloc (by simp) _
  simp only [World.size_alloc] at b1
  have hsz : ((w.alloc (.cells #[.slice none 0 0] 41)).alloc (.cells #[.string S] 9)).heap.size = w.heap.size + 2 := by simp only [World.size_alloc]
  generalize (w.alloc (.cells #[.slice none 0 0] 41)).alloc (.cells #[.string S] 9) = W1 at b0 b1 hB0 hsz ⊢
  refine wpIn_rangeFunc_ownG (n := 9) (F := Fence.wide) rfl (by decide) (gf := 27) (lb := #[.pointer (some ⟨w.heap.size + 1, 0, none⟩)]) rfl trivial (enters_of Try.func27 (by kernel_rfl) rfl)
    (HS.out (9 - 1) (by decide) (w.heap.size + 1) w.heap.size W1 (by omega) b1) belowK_t (belowK_b (by omega)) (Below.refl _ _) (fun _ => rfl)
    (fun pre W => (∃ (R : List RowD), R.map keyR = rowsOf (pre.map (fun x => x.1)) ∧ (∃ v, Boxed W w.heap.size 41 v ∧ W.ownsRow (w.heap.size + 2) 45 2 v R.length (flatR R)) ∧ RowsAt W R) ∧ Below w.heap.size w W ∧ w.heap.size + 2 ≤ W.heap.size)
    (fun c pre W => False)
    (OwnFrom.and (Own.from (fun s A B row hs hg hr => by
      obtain ⟨R, h1, ⟨v, h2, h3⟩, h4⟩ := hs
      obtain ⟨v', a1, a2, _⟩ := holdsRow_own (β := Unit) (w.heap.size + 2) w.heap.size 41 45 2 (fun _ => R.length) (fun _ => flatR R) (fun _ _ => True) () A B row ⟨v, h2, h3, trivial⟩ hg hr
      refine ⟨R, h1, ⟨v', a1, a2⟩, fun r hr' => (h4 r hr').grown hg ?_⟩
      intro e
      obtain ⟨o, ho, hc⟩ := hr r.A e
      obtain ⟨cur, hb, _⟩ := h4 r hr'
      rw [hb] at ho; cases ho; cases hc) _) (OwnFrom.and (ownFrom_below (Nat.le_refl _) (by omega)) (fun s A B row hs hg hr => Nat.le_trans hs hg.size)))
    (fun _ _ _ _ _ hs _ _ => hs)
    ⟨⟨[], rfl, ⟨_, b0, World.ownsRow_nil _ _ _ _⟩, fun r hr => (by cases hr)⟩, hB0, by omega⟩
    (fun x => { tmps := #[.string S, undef, .slice none 0 0, .pointer (some ⟨w.heap.size, 0, none⟩), .int .i64 (x.1.1 : Int), .string ⟨x.1.2.toArray⟩, undef, .string S, .func (.func 27) #[] #[.pointer (some ⟨w.heap.size + 1, 0, none⟩)], .int .i64 (x.1.1 : Int), .string ⟨x.1.2.toArray⟩, undef, undef, undef, undef, undef, undef, undef, undef, undef, undef, undef, undef], defers := [] }) ?assign ?body ?done ?stop
  case assign =>
    intro l x W K hK
    gi_wp2
    exact hK
  case body =>
    rintro l pre x W ⟨⟨R, hR, ⟨v, hv, hrow⟩, hws⟩, hB, hWz⟩ hpl
    have HP := Lib.hid (wordsOf_any W x.1.2 (hLx x.1 x.2))
    have hRl : R.length < 1000000 := by
      have h1 := congrArg List.length hR
      rw [List.length_map] at h1
      have h2 := rowsOf_len (pre.map (fun x : {x : Nat × List UInt8 // x ∈ L} => x.1))
      rw [List.length_map] at h2
      rw [List.length_attach] at hpl
      omega
    have HJ := Lib.hid (And.intro hR (And.intro hv (And.intro hrow (And.intro hws (And.intro hB (And.intro hWz hRl))))))
    clear hv hrow hws hB hRl hR hWz
    gi_wp2
    refine ⟨trivial, ?_⟩
    refine (CallsIn.inRound l (callsIn_wide.2 HP.out)).mono ?_
    rintro e W2 ⟨A, rfl, hA, hown, hB2⟩
    have hv1 : Boxed W2 w.heap.size 41 v := (hB2.block _ HJ.out.2.1.lt).trans HJ.out.2.1
    have hrow1 := row_on HJ.out.2.2.1 hB2
    have hws1 : RowsAt W2 R := fun r hr => (HJ.out.2.2.2.1 r hr).below hB2 (HJ.out.2.2.2.1 r hr).lt
    have hwa : WordsAt W2 A (wordsL x.1.2) := WordsAt.own hown
    have hko : KeepsOthers W W2 := ⟨hB2.size, fun k o hk _ => (hB2.block k (lt_of hk)).trans hk⟩
    have hsW := HJ.out.2.2.2.2.2.1
    have hBW := HJ.out.2.2.2.2.1.size
    have hsW2 := hB2.size
    have HW := Lib.hid (⟨_, rfl⟩ : ∃ ws, ws = wordsL x.1.2)
    have HSn := Lib.hid (rowsOf_snoc (pre.map (fun x : {x : Nat × List UInt8 // x ∈ L} => x.1)) x.1)
    generalize hws' : wordsL x.1.2 = ws at hwa hown HSn ⊢
    clear hws' HW hown
    by_cases h0 : ws.length = 0
    · have HK := Lib.hid (And.intro hko (And.intro hv1 (And.intro hrow1 (And.intro hws1 (hB2.mono hBW)))))
      rw [if_pos h0, List.append_nil] at HSn
      clear hko hv1 hrow1 hws1 hwa hB2
      gi_wp2
      refine ⟨HK.out.1.from _, HK.out.2.2.2.2, ⟨R, ?_, ⟨v, HK.out.2.1, HK.out.2.2.1⟩, HK.out.2.2.2.1⟩, HJ.out.2.2.2.2.1.trans HK.out.2.2.2.2, by omega⟩
      rw [List.map_append, HJ.out.1]
      exact HSn.out.symm
    · rw [if_neg h0] at HSn
      obtain ⟨g, cap, w1, hrun, h1, h2, h3, h4, h5, h6⟩ := app_row (z := w.heap.size) ⟨x.1.1, A, ws⟩ hv1 hrow1 (by omega) (by omega) (by omega) HJ.out.2.2.2.2.2.2
      dsimp only at hrun
      have c2 := hv1.cell
      have l2 := hv1.lt
      have c2a := (hv1.alloc (.cells #[.int .i64 (x.1.1 : Int), .slice (some ⟨A, 0, none⟩) ws.length ws.length] 45)).cell
      have d1 := h1.cell
      have f1 := h1.frozen
      have m1 := h1.lt
      have d0 : decide (0 < ws.length) = true := decide_eq_true (by omega)
      have d0' : decide ((0 : Int) < (ws.length : Int)) = true := decide_eq_true (by omega)
      have HR := Lib.hid (And.intro h2 (And.intro h3 (And.intro (hko.trans h4) (And.intro ((hB2.mono hBW).trans h5) (And.intro (fun r hr => h6 _ _ (hws1 r hr)) (h6 _ _ hwa))))))
      clear hko hv1 hrow1 hws1 hwa hB2 h1 h2 h3 h4 h5 h6
      gi_wp2
      obtain ⟨h2, h3, h4, h5, h6, h7⟩ := HR.out
      refine ⟨h4.from _, h5, ⟨R ++ [⟨x.1.1, A, ws⟩], ?_, ⟨_, h2, h3⟩, fun r hr => ?_⟩, HJ.out.2.2.2.2.1.trans h5, Nat.le_trans hsW h5.size⟩
      · rw [List.map_append, List.map_append, HJ.out.1]
        exact HSn.out.symm
      · rcases List.mem_append.1 hr with hr | hr
        · exact h6 r hr
        · simp at hr; subst hr; exact h7
  case done =>
    rintro D ys W hD rfl ⟨⟨R, hR, ⟨v, hv, hrow⟩, hws⟩, hB, hWz⟩ hK
    have hc := hv.cell
    have lc := hv.lt
    have hmx : Try.prog.follows .mixedOrders = true := by kernel_rfl
    gi_wp2
    try simp only [Exit.jump]
    refine ⟨by simp, .inl ⟨_, _, rfl, run_takeDeferred hK, ?_⟩⟩
    refine ⟨v, by simp [results, Try.results12, go_sem], v, R, rfl, by rw [hR]; congr 1; exact List.attach_map_subtype_val L, (ownsRow_putObj (hrow.mono (Nat.le_add_right _ 2)) _ hK rfl), fun r hr => (hws r hr).grown (grownBy_putObj' W D _) ?_, hB.trans (belowK_b (w := w) (Nat.le_refl _) W D _ _ (by omega) hK rfl rfl)⟩
    intro e
    obtain ⟨cur, hb, _⟩ := hws r hr
    cases e
    rw [hb] at hK; cases hK
  case stop =>
    rintro D c pre W hD hpre h hK
    exact h.elim
end Go.Proofs.Ytakaclkhnajpeaa
