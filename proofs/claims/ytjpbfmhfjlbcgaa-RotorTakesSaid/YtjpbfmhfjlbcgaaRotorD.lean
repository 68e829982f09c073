import Derived.Test.YtjpbfmhfjlbcgaaRotorR
import Derived.Test.YtjpbfmhfjlbcgaaAgain
import Derived.Deep.RegionHeld3
namespace Go.Proofs.Ytjpbfmhfjlbcgaa
open Go.ChangeShapes Go.WideShapes Go.ChangeAt Go.RowKit
set_option linter.unusedVariables false
set_option linter.unusedSimpArgs false
/-- What the program's Skip stands on. -/
structure SKB (w wr : World) (x y a b c d p : Int) (PB G7 G8 : Nat) (A1 A2 A3 A4 T1 T2 T3 T4 : Nat) : Prop where
  rb : RB 29 w wr x y a b c d p
  red : Red wr PB p
  g7 : wr.heap[G7]? = some (.cells #[.complex .f64 A1 A2, .complex .f64 A3 A4] 57 (0, 0))
  g8 : wr.heap[G8]? = some (.cells #[.complex .f64 T1 T2, .complex .f64 T3 T4] 57 (0, 0))
  o7 : w.heap.size ≤ G7
  o8 : w.heap.size ≤ G8
  ne : G7 ≠ G8
section
variable {w wr w2 : World} {x y a b c d p : Int} {PB G7 G8 : Nat} {A1 A2 A3 A4 T1 T2 T3 T4 : Nat}
theorem SKB.none (h : SKB w wr x y a b c d p PB G7 G8 A1 A2 A3 A4 T1 T2 T3 T4) (k : Keeps (fun _ => False) wr w2) : SKB w w2 x y a b c d p PB G7 G8 A1 A2 A3 A4 T1 T2 T3 T4 :=
  ⟨h.rb.none k, h.red.none k, k.at h.g7 fun h => h, k.at h.g8 fun h => h, h.o7, h.o8, h.ne⟩
theorem differ {w : World} {b g : Nat} {c1 c2 : Array Value} {E F : TypeId} (h1 : w.heap[b]? = some (.cells c1 E (0, 0))) (h2 : w.heap[g]? = some (.cells c2 F (0, 0))) (hne : E ≠ F) : b ≠ g := by
  rintro rfl
  rw [h1] at h2
  injection h2 with h2
  injection h2 with _ ht
  exact hne ht
theorem RB.other {x y a b c d p : Int} {g : Nat} {cs : Array Value} {F : TypeId} {E : TypeId} (h : RB E w wr x y a b c d p) (hg : wr.heap[g]? = some (.cells cs F (0, 0))) (hE : E ≠ F) (ho : w.heap.size ≤ g) (i : Nat) (v : Value) : RB E w (wr.setCell ⟨g, i, Option.none⟩ v) x y a b c d p :=
  ⟨h.keeps.setCell (p := ⟨g, i, Option.none⟩) (.inr ho) _, heap_other h.one (differ h.one hg hE) _, heap_other h.res (differ h.res hg hE) _⟩
theorem Red.other {p : Int} {PB g : Nat} {cs : Array Value} {F : TypeId} (h : Red wr PB p) (hg : wr.heap[g]? = some (.cells cs F (0, 0))) (h1 : 65 ≠ F) (h2 : 3 ≠ F) (i : Nat) (v : Value) : Red (wr.setCell ⟨g, i, Option.none⟩ v) PB p := by
  obtain ⟨Q, q1, q2⟩ := h
  exact ⟨Q, heap_other q1 (differ q1 hg h1) _, heap_other q2 (differ q2 hg h2) _⟩
theorem SKB.put7 (h : SKB w wr x y a b c d p PB G7 G8 A1 A2 A3 A4 T1 T2 T3 T4) (B1 B2 B3 B4 : Nat) : SKB w ((wr.setCell ⟨G7, 0, Option.none⟩ (.complex .f64 B1 B2)).setCell ⟨G7, 1, Option.none⟩ (.complex .f64 B3 B4)) x y a b c d p PB G7 G8 B1 B2 B3 B4 T1 T2 T3 T4 := by
  have e0 := heap_set h.g7 0 (.complex .f64 B1 B2)
  have e1 := heap_set e0 1 (.complex .f64 B3 B4)
  exact ⟨(h.rb.other h.g7 (by decide) h.o7 0 _).other e0 (by decide) h.o7 1 _, (h.red.other h.g7 (by decide) (by decide) 0 _).other e0 (by decide) (by decide) 1 _, e1, heap_other (heap_other h.g8 h.ne.symm _) h.ne.symm _, h.o7, h.o8, h.ne⟩
theorem SKB.put8 (h : SKB w wr x y a b c d p PB G7 G8 A1 A2 A3 A4 T1 T2 T3 T4) (B1 B2 B3 B4 : Nat) : SKB w ((wr.setCell ⟨G8, 0, Option.none⟩ (.complex .f64 B1 B2)).setCell ⟨G8, 1, Option.none⟩ (.complex .f64 B3 B4)) x y a b c d p PB G7 G8 A1 A2 A3 A4 B1 B2 B3 B4 := by
  have e0 := heap_set h.g8 0 (.complex .f64 B1 B2)
  have e1 := heap_set e0 1 (.complex .f64 B3 B4)
  exact ⟨(h.rb.other h.g8 (by decide) h.o8 0 _).other e0 (by decide) h.o8 1 _, (h.red.other h.g8 (by decide) (by decide) 0 _).other e0 (by decide) (by decide) 1 _, heap_other (heap_other h.g7 h.ne _) h.ne _, e1, h.o7, h.o8, h.ne⟩
end
theorem pskip_no (x y a b c d p n : Int) (w : World) (h : (rightR x y a b c d p && decide (0 ≤ n)) = false) :
    Calls Try.prog 10 #[.agg (rCells x y a b c d p), .int .i64 n] w fun e w' => e = .returned (.tuple #[.agg #[.int .i64 0, .int .i64 0, .int .i64 0, .int .i64 0, .int .i64 0, .int .i64 0, .int .i64 0], .bool false]) ∧ Keeps (fun _ => False) w w' := by
  have H0 := Lib.hid (RB.new 29 w x y a b c d p)
  cases hr : rightR x y a b c d p
  · have H := Lib.hid hr
    clear hr h
    go_enter Try.func10, Try.ntmps10
    go_wp2_with fail
    go_step3
    go_wp2_with fail
    refine (pright_any _ _ _ _ _ _ _ _).mono ?_
    rintro e w1 ⟨rfl, k1⟩
    rw [H.out]
    have H1 := Lib.hid (H0.out.none k1)
    obtain ⟨r0, r1, r2, r3, r4, r5, r6⟩ := seven_cells H1.out.res
    obtain ⟨f0, f1, f2, f3, f4, f5, f6, lr⟩ := seven_free H1.out.res
    clear k1
    go_wp2
    (try rw [Exit.noGoto_ret])
    exact bodyPost_ret (v := .tuple #[.agg #[.int .i64 0, .int .i64 0, .int .i64 0, .int .i64 0, .int .i64 0, .int .i64 0, .int .i64 0], .bool false]) (by simp [results, Try.results10, go_sem, *]) rfl ⟨rfl, H1.out.seven⟩
  · have hn : decide (n < 0) = true := by rw [hr] at h; simp at h; simp; omega
    have H := Lib.hid hr
    clear hr h
    go_enter Try.func10, Try.ntmps10
    go_wp2_with fail
    go_step3
    go_wp2_with fail
    refine (pright_any _ _ _ _ _ _ _ _).mono ?_
    rintro e w1 ⟨rfl, k1⟩
    rw [H.out]
    have H1 := Lib.hid (H0.out.none k1)
    obtain ⟨r0, r1, r2, r3, r4, r5, r6⟩ := seven_cells H1.out.res
    obtain ⟨f0, f1, f2, f3, f4, f5, f6, lr⟩ := seven_free H1.out.res
    clear k1
    go_wp2
    (try rw [Exit.noGoto_ret])
    exact bodyPost_ret (v := .tuple #[.agg #[.int .i64 0, .int .i64 0, .int .i64 0, .int .i64 0, .int .i64 0, .int .i64 0, .int .i64 0], .bool false]) (by simp [results, Try.results10, go_sem, *]) rfl ⟨rfl, H1.out.seven⟩
theorem RB.put2n {E : TypeId} {w wr : World} {x y a b c d p x' y' : Int} (h : RB E w wr x y a b c d p) : RB E w ((wr.setCell ⟨w.heap.size, 0, Option.none⟩ (.int .i64 x')).setCell ⟨w.heap.size, 1, Option.none⟩ (.int .i64 y')) x' y' a b c d p := by
  have e0 := heap_set h.one 0 (.int .i64 x')
  simp only [List.setIfInBounds_toArray, List.set_cons_zero, List.set_cons_succ] at e0
  have e1 := heap_set e0 1 (.int .i64 y')
  simp only [List.setIfInBounds_toArray, List.set_cons_zero, List.set_cons_succ] at e1
  exact ⟨(h.keeps.setCell (p := ⟨w.heap.size, 0, Option.none⟩) (.inr (Nat.le_refl _)) _).setCell (p := ⟨w.heap.size, 1, Option.none⟩) (.inr (Nat.le_refl _)) _, e1, heap_other (heap_other h.res (by simp) _) (by simp) _⟩
set_option maxRecDepth 20000 in
set_option maxHeartbeats 4000000 in
theorem pskip_words (x y a b c d p : Int) (n : Nat) (w : World) (U1 U2 V1 V2 : Mv → Nat) (zx zy Zx Zy : Nat) (X Y : Int) (h : rightR x y a b c d p = true) (hn : n ≤ 9223372036854775807)
    (h1 : #[Value.complex .f64 (U1 Mv.one) (U2 Mv.one), Value.complex .f64 (V1 Mv.one) (V2 Mv.one)] = #[.complex .f64 4607182418800017408 0, .complex .f64 0 0])
    (ho : ∀ w, Calls Try.prog 22 #[.agg (rCells x y a b c d p)] w fun e w' => e = .returned (.agg #[.complex .f64 (U1 ⟨a, b, c, d⟩) (U2 ⟨a, b, c, d⟩), .complex .f64 (V1 ⟨a, b, c, d⟩) (V2 ⟨a, b, c, d⟩)]) ∧ Keeps (fun _ => False) w w')
    (ha : ∀ (PB : Nat) (m f : Mv) (w : World), m.In → f.In → Red w PB p → Calls Try.prog 23 #[.agg #[.complex .f64 (U1 m) (U2 m), .complex .f64 (V1 m) (V2 m)], .agg #[.complex .f64 (U1 f) (U2 f), .complex .f64 (V1 f) (V2 f)], .func (.func 29) #[] #[.pointer (some ⟨PB, 0, none⟩)]] w fun e w' => e = .returned (.agg #[.complex .f64 (U1 (m.after p f)) (U2 (m.after p f)), .complex .f64 (V1 (m.after p f)) (V2 (m.after p f))]) ∧ Keeps (fun _ => False) w w')
    (hpl : ∀ w, Calls Try.prog 26 #[.agg #[.int .i64 x, .int .i64 y]] w fun e w' => e = .returned (.complex .f64 zx zy) ∧ Keeps (fun _ => False) w w')
    (hof : ∀ (PB : Nat) (A : Mv) (w : World), A.In → A.ap p (x, y) = (X, Y) → Red w PB p → Calls Try.prog 25 #[.agg #[.complex .f64 (U1 A) (U2 A), .complex .f64 (V1 A) (V2 A)], .complex .f64 zx zy, .func (.func 29) #[] #[.pointer (some ⟨PB, 0, none⟩)]] w fun e w' => e = .returned (.complex .f64 Zx Zy) ∧ Keeps (fun _ => False) w w')
    (hwh : ∀ w, Calls Try.prog 24 #[.complex .f64 Zx Zy] w fun e w' => e = .returned (.agg #[.int .i64 X, .int .i64 Y]) ∧ Keeps (fun _ => False) w w')
    (hXY : Mv.it p ⟨a, b, c, d⟩ n (x, y) = (X, Y)) :
    Calls Try.prog 10 #[.agg (rCells x y a b c d p), .int .i64 (n : Int)] w fun e w' => e = .returned (.tuple #[.agg (rCells X Y a b c d p), .bool true]) ∧ Keeps (fun _ => False) w w' := by
  have H0 := Lib.hid (RB.new 29 w x y a b c d p)
  have H := Lib.hid h
  have HO := Lib.hid ho
  have HA := Lib.hid ha
  have HPl := Lib.hid hpl
  have HOf := Lib.hid hof
  have HWh := Lib.hid hwh
  have HXY := Lib.hid hXY
  have HN1 := Lib.hid h1
  have hnn : decide ((n : Int) < 0) = false := decide_eq_false (by omega)
  have hst := store_cx
  have bd := rightR_bds h
  have HBD := Lib.hid bd
  clear h ho ha hpl hof hwh hXY h1 bd
  go_enter Try.func10, Try.ntmps10
  go_wp2_with fail
  refine wp_scope_again 0 (fun a' w' => ∃ (PB G7 G8 m : Nat) (A T : Mv) (u9 u10 u11 u12 u13 u14 u15 u16 u17 u18 u19 u20 u21 u22 u23 u24 u25 u26 u27 u28 u29 u30 u31 u32 u33 u34 u35 u36 u37 u38 u39 u40 u41 u42 u43 u44 u45 u46 : Value), a' = { tmps := #[.agg (rCells x y a b c d p), .int .i64 (m : Int), .pointer (some ⟨w.heap.size, 0, none⟩), undef, .pointer (some ⟨w.heap.size + 1, 0, none⟩), .bool false, .func (.func 29) #[] #[.pointer (some ⟨PB, 0, none⟩)], .pointer (some ⟨G7, 0, none⟩), .pointer (some ⟨G8, 0, none⟩), u9, u10, u11, u12, u13, u14, u15, u16, u17, u18, u19, u20, u21, u22, u23, u24, u25, u26, u27, u28, u29, u30, u31, u32, u33, u34, u35, u36, u37, u38, u39, u40, u41, u42, u43, u44, u45, u46], defers := [] } ∧ m ≤ 9223372036854775807 ∧ A.In ∧ T.In ∧ T.it p m (A.ap p (x, y)) = (X, Y) ∧ SKB w w' x y a b c d p PB G7 G8 (U1 A) (U2 A) (V1 A) (V2 A) (U1 T) (U2 T) (V1 T) (V2 T)) (fun a' _ => (intOf (a'.tmps.getD 1 undef)).toNat) rfl ?_ ?_
  · rintro a' w' ⟨PB, G7, G8, m, A, T, u9, u10, u11, u12, u13, u14, u15, u16, u17, u18, u19, u20, u21, u22, u23, u24, u25, u26, u27, u28, u29, u30, u31, u32, u33, u34, u35, u36, u37, u38, u39, u40, u41, u42, u43, u44, u45, u46, rfl, hm, hA, hT, hI, hB⟩
    have HB := Lib.hid hB
    have HI := Lib.hid (And.intro hA (And.intro hT hI))
    clear hA hT hI hB
    by_cases hz : m = 0
    · subst hz
      have hzero : decide ((0 : Int) < ((0 : Nat) : Int)) = false := by decide
      obtain ⟨x0, x1, x2, x3, x4, x5, x6⟩ := seven_cells HB.out.rb.one
      replace HB := Lib.hid (HB.out.none (Keeps.refl _ _).drew)
      go_wp2_with fail
      refine wp_region_noPanic ?_
      refine wp_region_held_drew (S := fun w' => w'.cell? ⟨G7, 0, none⟩ = some (.complex .f64 (U1 A) (U2 A)) ∧ w'.cell? ⟨G7, 1, none⟩ = some (.complex .f64 (V1 A) (V2 A))) (by kernel_rfl) ?_ (fun hHeld => ?_)
      · exact ⟨cell_of HB.out.g7 0, cell_of HB.out.g7 1⟩
      refine wpAnyH_take (i := 0) (v := ?_) rfl (by kernel_rfl) (by kernel_rfl) (by kernel_rfl) (fun _ _ _ h => h) (Or.inl ⟨by rfl, ?_⟩) (by assumption) ?_
      rotate_left
      · (intro w hSw; (try dsimp only at hSw); go_simp; try with_reducible rfl)
      simp only [Act.put, List.getElem_toArray, List.getElem_cons_zero, List.getElem_cons_succ, List.setIfInBounds_toArray, List.set_cons_zero, List.set_cons_succ]
      refine wpAnyH_take (i := 1) (v := ?_) rfl (by kernel_rfl) (by kernel_rfl) (by kernel_rfl) (fun _ _ _ h => h) (Or.inl ⟨by rfl, ?_⟩) (by assumption) ?_
      rotate_left
      · (intro w hSw; (try dsimp only at hSw); go_simp; try with_reducible rfl)
      simp only [Act.put, List.getElem_toArray, List.getElem_cons_zero, List.getElem_cons_succ, List.setIfInBounds_toArray, List.set_cons_zero, List.set_cons_succ]
      refine wpAnyH_take (i := 4) (v := ?_) rfl (by kernel_rfl) (by kernel_rfl) (by kernel_rfl) (fun _ _ _ h => h) (Or.inl ⟨by rfl, ?_⟩) (by assumption) ?_
      rotate_left
      · (intro w hSw; (try dsimp only at hSw); go_simp; try with_reducible rfl)
      simp only [Act.put, List.getElem_toArray, List.getElem_cons_zero, List.getElem_cons_succ, List.setIfInBounds_toArray, List.set_cons_zero, List.set_cons_succ]
      refine wpAnyH_ready (rs := [2]) (by kernel_rfl) (by simp) ?_
      refine AllReadyH.cons rfl (fun K hK => ?_) AllReadyH.nil
      go_simp
      refine hK.out _ _ ?_ (fun hHeld => ?_)
      · ((try dsimp only); exact ⟨cell_of HB.out.g7 0, cell_of HB.out.g7 1⟩)
      clear hK K
      try simp only [Act.put, List.getElem_toArray, List.getElem_cons_zero, List.getElem_cons_succ, List.setIfInBounds_toArray, List.set_cons_zero, List.set_cons_succ]
      refine wpAnyH_ready (rs := [3]) (by kernel_rfl) (by simp) ?_
      refine AllReadyH.cons rfl (fun K hK => ?_) AllReadyH.nil
      go_simp
      (go_at_call 26; refine (HPl.out _).mono ?_; rintro e w3 ⟨rfl, k3⟩; replace HB := Lib.hid (HB.out.none k3); clear k3)
      go_wp2_with fail
      refine hK.out _ _ ?_ (fun hHeld => ?_)
      · ((try dsimp only); exact ⟨cell_of HB.out.g7 0, cell_of HB.out.g7 1⟩)
      clear hK K
      try simp only [Act.put, List.getElem_toArray, List.getElem_cons_zero, List.getElem_cons_succ, List.setIfInBounds_toArray, List.set_cons_zero, List.set_cons_succ]
      refine wpAnyH_ready (rs := [5]) (by kernel_rfl) (by simp) ?_
      refine AllReadyH.cons rfl (fun K hK => ?_) AllReadyH.nil
      go_simp
      (go_at_call 25; refine (HOf.out PB A _ HI.out.1 HI.out.2.2 HB.out.red).mono ?_; rintro e w4 ⟨rfl, k4⟩; replace HB := Lib.hid (HB.out.none k4); clear k4)
      go_wp2_with fail
      refine hK.out _ _ ?_ (fun hHeld => ?_)
      · ((try dsimp only); exact ⟨cell_of HB.out.g7 0, cell_of HB.out.g7 1⟩)
      clear hK K
      try simp only [Act.put, List.getElem_toArray, List.getElem_cons_zero, List.getElem_cons_succ, List.setIfInBounds_toArray, List.set_cons_zero, List.set_cons_succ]
      refine wpAnyH_ready (rs := [6]) (by kernel_rfl) (by simp) ?_
      refine AllReadyH.cons rfl (fun K hK => ?_) AllReadyH.nil
      go_simp
      (go_at_call 24; refine (HWh.out _).mono ?_; rintro e w5 ⟨rfl, k5⟩; replace HB := Lib.hid (HB.out.none k5); clear k5 x0 x1 x2 x3 x4 x5 x6; obtain ⟨x0, x1, x2, x3, x4, x5, x6⟩ := seven_cells HB.out.rb.one; obtain ⟨f0, f1, f2, f3, f4, f5, f6, lx⟩ := seven_free HB.out.rb.one)
      go_wp2_with fail
      refine hK.out _ _ ?_ (fun hHeld => ?_)
      · ((try dsimp only); exact ⟨cell_of HB.out.g7 0, cell_of HB.out.g7 1⟩)
      clear hK K
      try simp only [Act.put, List.getElem_toArray, List.getElem_cons_zero, List.getElem_cons_succ, List.setIfInBounds_toArray, List.set_cons_zero, List.set_cons_succ]
      refine wpAnyH_take (i := 7) (v := ?_) rfl (by kernel_rfl) (by kernel_rfl) (by kernel_rfl) (fun _ _ _ h => h) (Or.inl ⟨by rfl, ?_⟩) (by assumption) ?_
      rotate_left
      · (intro w hSw; (try dsimp only at hSw); go_simp; try with_reducible rfl)
      simp only [Act.put, List.getElem_toArray, List.getElem_cons_zero, List.getElem_cons_succ, List.setIfInBounds_toArray, List.set_cons_zero, List.set_cons_succ]
      refine wpAnyH_ready (rs := [8]) (by kernel_rfl) (by simp) ?_
      refine AllReadyH.cons rfl (fun K hK => ?_) AllReadyH.nil
      go_simp
      refine hK.out _ _ ?_ (fun hHeld => ?_)
      · ((try dsimp only); exact ⟨cell_of (heap_other (heap_other HB.out.g7 (differ HB.out.g7 HB.out.rb.one (by decide)) _) (differ HB.out.g7 HB.out.rb.one (by decide)) _) 0, cell_of (heap_other (heap_other HB.out.g7 (differ HB.out.g7 HB.out.rb.one (by decide)) _) (differ HB.out.g7 HB.out.rb.one (by decide)) _) 1⟩)
      clear hK K
      try simp only [Act.put, List.getElem_toArray, List.getElem_cons_zero, List.getElem_cons_succ, List.setIfInBounds_toArray, List.set_cons_zero, List.set_cons_succ]
      refine wpAnyH_done (by kernel_rfl) ?_ _
      refine NoPanic.normal ?_
      have H2 := Lib.hid (HB.out.rb.put2n (x' := X) (y' := Y))
      clear x0 x1 x2 x3 x4 x5 x6 f0 f1 f2 f3 f4 f5 f6 lx HB
      generalize World.setCell _ _ _ = w9 at H2 ⊢
      obtain ⟨x0, x1, x2, x3, x4, x5, x6⟩ := seven_cells H2.out.one
      obtain ⟨r0, r1, r2, r3, r4, r5, r6⟩ := seven_cells H2.out.res
      obtain ⟨g0, g1, g2, g3, g4, g5, g6, lr⟩ := seven_free H2.out.res
      go_wp2
      simp only [Exit.jump]
      exact bodyPost_ret (v := .tuple #[.agg (rCells X Y a b c d p), .bool true]) (by simp [results, Try.results10, go_sem, *]) rfl ⟨rfl, H2.out.seven⟩
    · have hpos : decide ((0 : Int) < (m : Int)) = true := decide_eq_true (by omega)
      have hpos2 : decide (0 < m) = true := decide_eq_true (by omega)
      have q2 : ((m : Int)).tdiv 2 = ((m / 2 : Nat) : Int) := by rw [Int.tdiv_eq_ediv_of_nonneg (by omega)]; omega
      have hp2 : 0 < p ∧ p ≤ 1000 := by have := HBD.out.1; omega
      obtain ⟨s0, s1, s2, s3, ls⟩ := two_cells HB.out.g7
      obtain ⟨t0, t1, t2, t3, lt⟩ := two_cells HB.out.g8
      rcases Nat.mod_two_eq_zero_or_one m with he | he
      · have e2 : ((m : Int)).tmod 2 = 0 := by rw [Int.tmod_eq_emod_of_nonneg (by omega)]; omega
        have HM := Lib.hid (And.intro he hp2)
        clear he hp2
        go_wp2_with fail
        refine (HA.out PB T T _ HI.out.2.1 HI.out.2.1 HB.out.red).mono ?_
        rintro e w2 ⟨rfl, k2⟩
        replace HB := Lib.hid (HB.out.none k2)
        clear k2 t0 t1 t2 t3 lt
        obtain ⟨t0, t1, t2, t3, lt⟩ := two_cells HB.out.g8
        go_wp2
        go_step3
        refine ⟨rfl, ⟨PB, G7, G8, m / 2, A, T.after p T, _, _, _, _, _, _, _, _, _, _, _, _, _, _, _, _, _, _, _, _, _, _, _, _, _, _, _, _, _, _, _, _, _, _, _, _, _, _, rfl, by omega, HI.out.1, Mv.after_in p T T HM.out.2, by rw [Mv.even p T A m (x, y) HM.out.1]; exact HI.out.2.2, HB.out.put8 _ _ _ _⟩, ?_⟩
        simp [intOf]
        omega
      · have e2 : ((m : Int)).tmod 2 = 1 := by rw [Int.tmod_eq_emod_of_nonneg (by omega)]; omega
        have HM := Lib.hid (And.intro he hp2)
        clear he hp2
        go_wp2_with fail
        refine (HA.out PB T A _ HI.out.2.1 HI.out.1 HB.out.red).mono ?_
        rintro e w2 ⟨rfl, k2⟩
        replace HB := Lib.hid (HB.out.none k2)
        clear k2 t0 t1 t2 t3 lt s0 s1 s2 s3 ls
        obtain ⟨s0, s1, s2, s3, ls⟩ := two_cells HB.out.g7
        replace HB := Lib.hid (HB.out.put7 (U1 (T.after p A)) (U2 (T.after p A)) (V1 (T.after p A)) (V2 (T.after p A)))
        obtain ⟨t0, t1, t2, t3, lt⟩ := two_cells HB.out.g8
        go_wp2_with fail
        refine (HA.out PB T T _ HI.out.2.1 HI.out.2.1 HB.out.red).mono ?_
        rintro e w3 ⟨rfl, k3⟩
        replace HB := Lib.hid (HB.out.none k3)
        clear k3 t0 t1 t2 t3 lt s0 s1 s2 s3 ls
        obtain ⟨t0, t1, t2, t3, lt⟩ := two_cells HB.out.g8
        go_wp2
        go_step3
        refine ⟨rfl, ⟨PB, G7, G8, m / 2, T.after p A, T.after p T, _, _, _, _, _, _, _, _, _, _, _, _, _, _, _, _, _, _, _, _, _, _, _, _, _, _, _, _, _, _, _, _, _, _, _, _, _, _, rfl, by omega, Mv.after_in p T A HM.out.2, Mv.after_in p T T HM.out.2, by rw [Mv.odd p T A m (x, y) HM.out.1]; exact HI.out.2.2, HB.out.put8 _ _ _ _⟩, ?_⟩
        simp [intOf]
        omega
  · intro hpass
    go_wp2_with fail
    refine (pright_any _ _ _ _ _ _ _ _).mono ?_
    rintro e w1 ⟨rfl, k1⟩
    rw [H.out]
    have H1 := Lib.hid (H0.out.none k1)
    obtain ⟨x0, x1, x2, x3, x4, x5, x6⟩ := seven_cells H1.out.one
    clear k1
    go_wp2_with fail
    refine (reducer_any p _).mono ?_
    rintro e w2 ⟨PB, rfl, hR, k2⟩
    have HR := Lib.hid hR
    have H2 := Lib.hid (H1.out.none k2)
    clear k2 hR x0 x1 x2 x3 x4 x5 x6
    obtain ⟨x0, x1, x2, x3, x4, x5, x6⟩ := seven_cells H2.out.one
    go_wp2_with fail
    refine (HO.out _).mono ?_
    rintro e w3 ⟨rfl, k3⟩
    have HR3 := Lib.hid (HR.out.none k3)
    have H3 := Lib.hid (H2.out.none k3)
    clear k3 x0 x1 x2 x3 x4 x5 x6
    rw [← HN1.out]
    go_wp2_with fail
    go_step3
    rename_i K hK
    obtain ⟨hq1, hq2, hq3, hq4, hq5, hq6, hq7⟩ := HBD.out
    refine hK _ _ <| hpass _ _ ⟨PB, w3.heap.size, w3.heap.size + 1, n, Mv.one, ⟨a, b, c, d⟩, _, _, _, _, _, _, _, _, _, _, _, _, _, _, _, _, _, _, _, _, _, _, _, _, _, _, _, _, _, _, _, _, _, _, _, _, _, _, rfl, hn, ⟨by decide, by decide, by decide, by decide⟩, ⟨⟨hq4.1, show a ≤ 1000 by omega⟩, ⟨hq5.1, show b ≤ 1000 by omega⟩, ⟨hq6.1, show c ≤ 1000 by omega⟩, ⟨hq7.1, show d ≤ 1000 by omega⟩⟩, ?_, ?_⟩
    · rw [Mv.one_ap p (x, y) ⟨hq2, hq3⟩]; exact HXY.out
    · obtain ⟨g1, g2, g3⟩ := kept2 (Keeps.refl (fun _ => False) ((w3.alloc (.cells #[.complex .f64 (U1 Mv.one) (U2 Mv.one), .complex .f64 (V1 Mv.one) (V2 Mv.one)] 57)).alloc (.cells #[.complex .f64 (U1 ⟨a, b, c, d⟩) (U2 ⟨a, b, c, d⟩), .complex .f64 (V1 ⟨a, b, c, d⟩) (V2 ⟨a, b, c, d⟩)] 57)))
      have hsz := H3.out.keeps.size
      exact ⟨H3.out.none g3, HR3.out.none g3, g1, g2, hsz, by omega, by omega⟩
end Go.Proofs.Ytjpbfmhfjlbcgaa
