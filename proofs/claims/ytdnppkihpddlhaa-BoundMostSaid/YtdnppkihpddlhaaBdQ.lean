import Derived.Test.YtdnppkihpddlhaaBdP
namespace Go.Proofs.Ytdnppkihpddlhaa
open Go.ChangeShapes Go.WideShapes Go.ChangeAt Go.RowKit
set_option linter.unusedVariables false
set_option linter.unusedSimpArgs false
/-- The kinds of call that have routines. -/
def knownP (k : Int) : Bool := decide ((1 ≤ k ∧ k ≤ 9) ∨ k = 16 ∨ k = 17)
theorem known_any (k : Int) (w : World) : Calls Try.prog 15 #[.int .i64 k] w fun e w' => e = .returned (.bool (knownP k)) ∧ w' = w := by
  unfold knownP
  by_cases h1 : 1 ≤ k
  · by_cases h9 : k ≤ 9
    · have d1 : decide (1 ≤ k) = true := by simpa using h1
      have d9 : decide (k ≤ 9) = true := by simpa using h9
      have hr : decide ((1 ≤ k ∧ k ≤ 9) ∨ k = 16 ∨ k = 17) = true := by simp; omega
      rw [hr]
      clear hr
      go_enter Try.func15, Try.ntmps15
      go_wp2_with fail
      go_ret
      exact ⟨rfl, rfl⟩
    · have d1 : decide (1 ≤ k) = true := by simpa using h1
      have d9 : decide (k ≤ 9) = false := by simp; omega
      by_cases h16 : k = 16
      · subst h16
        go_enter Try.func15, Try.ntmps15
        go_wp2_with fail
        go_ret
        exact ⟨rfl, rfl⟩
      · have d16 : (k == 16) = false := by simp; omega
        have hr : decide ((1 ≤ k ∧ k ≤ 9) ∨ k = 16 ∨ k = 17) = (k == 17) := by
          rw [Bool.eq_iff_iff]; simp; omega
        rw [hr]
        clear hr h1 h9 h16
        go_enter Try.func15, Try.ntmps15
        go_wp2_with fail
        go_ret
        exact ⟨rfl, rfl⟩
  · have d1 : decide (1 ≤ k) = false := by simp; omega
    have d16 : (k == 16) = false := by simp; omega
    have d17 : (k == 17) = false := by simp; omega
    have hr : decide ((1 ≤ k ∧ k ≤ 9) ∨ k = 16 ∨ k = 17) = false := by simp; omega
    rw [hr]
    clear hr h1
    go_enter Try.func15, Try.ntmps15
    go_wp2_with fail
    go_ret
    exact ⟨rfl, rfl⟩
/-- What a kind of call does to flags. -/
def dflagP (k : Int) : Int := if k = 7 then 1 else if k = 8 then 2 else if k = 9 then 3 else if k = 16 then 4 else if k = 17 then 5 else 0
theorem dflag_any (k : Int) (w : World) : Calls Try.prog 31 #[.int .i64 k] w fun e w' => e = .returned (.int .i64 (dflagP k)) ∧ w' = w := by
  by_cases h : k = 7 ∨ k = 8 ∨ k = 9 ∨ k = 16 ∨ k = 17
  · rcases h with rfl | rfl | rfl | rfl | rfl <;>
      (go_enter Try.func31, Try.ntmps31
       go_wp2_with fail
       go_ret
       exact ⟨rfl, rfl⟩)
  · have e : dflagP k = 0 := by unfold dflagP; (repeat' split) <;> first | omega | rfl
    have d7 : (k == 7) = false := by simp; omega
    have d8 : (k == 8) = false := by simp; omega
    have d9 : (k == 9) = false := by simp; omega
    have d16 : (k == 16) = false := by simp; omega
    have d17 : (k == 17) = false := by simp; omega
    rw [e]
    clear e h
    go_enter Try.func31, Try.ntmps31
    go_wp2_with fail
    go_ret
    exact ⟨rfl, rfl⟩
/-- What a flag's routine is: 13 cells. -/
@[reducible] def flC (p : Nat → Int) (k m st f : Int) (V : Nat → Int) : Array Value := #[.int .i64 (p 0), .int .i64 (p 1), .int .i64 (p 2), .int .i64 (p 3), .int .i64 (p 4), .int .i64 k, .int .u32 m, .int .i64 st, .int .i64 f, .int .u32 (V 0), .int .u32 (V 1), .int .u32 (V 2), .int .u32 (V 3)]
def IsFl (w : World) (b : Nat) (p : Nat → Int) (k m st f : Int) : Prop := ∃ (V : Nat → Int), w.heap[b]? = some (.cells (flC p k m st f V) 101 (0, 0))
theorem IsFl.none {w w' : World} {b : Nat} {p : Nat → Int} {k m st f : Int} (h : IsFl w b p k m st f) (kk : Keeps (fun _ => False) w w') : IsFl w' b p k m st f := by
  obtain ⟨V, h⟩ := h
  exact ⟨V, kk.at h fun h => h⟩
theorem holds1_some (x m : Int) (w : World) (B : Nat) (hc : w.cell? ⟨B, 0, Option.none⟩ = some (.int .u32 x)) (hl : B < w.heap.size) : Calls Try.prog 109 #[.int .u32 m, .pointer (some ⟨B, 0, Option.none⟩)] w fun e w' => (∃ t : Bool, e = .returned (.bool t)) ∧ Keeps (fun _ => False) w w' := by
  go_enter Try.func109, Try.ntmps109
  go_wp2_with fail
  go_ret
  exact ⟨⟨_, rfl⟩, Keeps.refl _ w⟩
/-- Does a kind hold for a word and a mask? -/
theorem holds_some (k x m : Int) (w : World) (hk : 1 ≤ k ∧ k ≤ 5) : Calls Try.prog 108 #[.int .i64 k, .int .u32 x, .int .u32 m] w fun e w' => (∃ t : Bool, e = .returned (.bool t)) ∧ Keeps (fun _ => False) w w' := by
  have HK := Lib.hid ((Keeps.refl (fun _ => False) w).alloc (.cells #[.int .u32 x] 22))
  have hc := cell_of (heap_new w (.cells #[.int .u32 x] 22)) 0
  have hl := lt_of (heap_new w (.cells #[.int .u32 x] 22))
  have HH := Lib.hid (holds1_some x m (w.alloc (.cells #[.int .u32 x] 22)) w.heap.size hc hl)
  clear hc hl
  rcases (by omega : k = 1 ∨ k = 2 ∨ k = 3 ∨ k = 4 ∨ k = 5) with rfl | rfl | rfl | rfl | rfl
  · go_enter Try.func108, Try.ntmps108
    go_wp2_with fail
    go_ret
    exact ⟨⟨_, rfl⟩, HK.out⟩
  · go_enter Try.func108, Try.ntmps108
    go_wp2_with fail
    go_ret
    exact ⟨⟨_, rfl⟩, HK.out⟩
  · go_enter Try.func108, Try.ntmps108
    go_wp2_with fail
    go_ret
    exact ⟨⟨_, rfl⟩, HK.out⟩
  · go_enter Try.func108, Try.ntmps108
    go_wp2_with fail
    go_ret
    exact ⟨⟨_, rfl⟩, HK.out⟩
  · go_enter Try.func108, Try.ntmps108
    go_wp2_with fail
    refine HH.out.mono ?_
    rintro e1 w1 ⟨⟨t, rfl⟩, k1⟩
    have HK1 := Lib.hid (HK.out.own k1 fun _ h => h.elim)
    go_wp2_with fail
    go_ret
    exact ⟨⟨_, rfl⟩, HK1.out⟩
set_option maxRecDepth 100000 in
set_option maxHeartbeats 4000000 in
/-- Its act was performed. -/
theorem flag_take (w : World) (b : Nat) (p : Nat → Int) (k m f got : Int) (hk : 1 ≤ k ∧ k ≤ 5) (h : IsFl w b p k m 1 f) :
    Calls Try.prog 107 #[.pointer (some ⟨b, 0, Option.none⟩), .int .u32 got] w fun e w' => e = .returned (.tuple #[]) ∧ (∃ f', IsFl w' b p k m 2 f') ∧ Keeps (fun X => X = b) w w' := by
  obtain ⟨V, hb⟩ := h
  have c7 : w.cell? ⟨b, 7, Option.none⟩ = some (.int .i64 1) := cell_of hb 7
  have f7 := free_of hb 7
  have lb := lt_of hb
  have HB := Lib.hid hb
  have HH := Lib.hid (fun W => holds_some k got m W hk)
  have hpn : ∀ (b : Nat) w, (binOp .eql 76 (.pointer (some ⟨b, 0, none⟩)) (.pointer none)).run Try.prog w = .ok (.bool false) w := fun b w => by kernel_rfl
  clear hb hk
  go_enter Try.func107, Try.ntmps107
  go_wp2_with fail
  have HB1 := Lib.hid (show (w.setCell ⟨b, 7, Option.none⟩ (.int .i64 2)).heap[b]? = some (.cells (flC p k m 2 f V) 101 (0, 0)) from heap_set HB.out 7 _)
  have HK1 := Lib.hid ((Keeps.refl (fun X => X = b) w).setCell (p := ⟨b, 7, Option.none⟩) (.inl rfl) (.int .i64 2))
  clear c7 f7 lb
  generalize w.setCell ⟨b, 7, Option.none⟩ (.int .i64 2) = W1 at HB1 HK1 ⊢
  have HBv := Lib.hid (show W1.drew.heap[b]? = _ from HB1.out)
  have HKv := Lib.hid HK1.out.drew
  go_region_held3 (fun w' => w'.cell? ⟨b, 5, Option.none⟩ = some (.int .i64 k) ∧ w'.cell? ⟨b, 6, Option.none⟩ = some (.int .u32 m))
    (first
      | exact ⟨cell_of HBv.out 5, cell_of HBv.out 6⟩
      | go_keep)
    (first
      | (go_at_call 108; refine (HH.out _).mono ?_; rintro e2 w2 ⟨⟨t, rfl⟩, k2⟩; replace HBv := Lib.hid (k2.at HBv.out fun h => h); replace HKv := Lib.hid (HKv.out.own k2 fun _ h => h.elim); clear k2)
      | fail)
  all_goals
    have g8 := cell_of HBv.out 8
    have h8 := free_of HBv.out 8
    have g9 := cell_of HBv.out 9
    have h9 := free_of HBv.out 9
    have g10 := cell_of HBv.out 10
    have h10 := free_of HBv.out 10
    have g11 := cell_of HBv.out 11
    have h11 := free_of HBv.out 11
    have g12 := cell_of HBv.out 12
    have h12 := free_of HBv.out 12
    have l2 := lt_of HBv.out
    cases t
    · go_wp2_with fail
      refine bodyPost_ret (results_none rfl _ _ _) rfl ?_
      exact ⟨rfl, ⟨7, fun _ => 0, (setsL_heap [(8, .int .i64 7), (9, .int .u32 0), (10, .int .u32 0), (11, .int .u32 0), (12, .int .u32 0)] HBv.out).trans (by kernel_rfl)⟩, HKv.out.trans (setsL_keep [(8, .int .i64 7), (9, .int .u32 0), (10, .int .u32 0), (11, .int .u32 0), (12, .int .u32 0)] w2 b)⟩
    · go_wp2_with fail
      refine bodyPost_end (results_none rfl _ _ _) rfl ?_
      exact ⟨rfl, ⟨0, fun i => match i with | 0 => got | _ => 0, (setsL_heap [(8, .int .i64 0), (9, .int .u32 got), (10, .int .u32 0), (11, .int .u32 0), (12, .int .u32 0)] HBv.out).trans (by kernel_rfl)⟩, HKv.out.trans (setsL_keep [(8, .int .i64 0), (9, .int .u32 got), (10, .int .u32 0), (11, .int .u32 0), (12, .int .u32 0)] w2 b)⟩
set_option maxHeartbeats 4000000 in
theorem flag_result (w : World) (b : Nat) (p : Nat → Int) (k m st f : Int) (h : IsFl w b p k m st f) :
    Calls Try.prog 106 #[.pointer (some ⟨b, 0, none⟩)] w (ResQ w f (st == 2)) := by
  have k0 := (Keeps.refl (fun _ => False) w).alloc (.cells #[.int .i64 0, .int .u32 0, .int .u32 0, .int .u32 0, .int .u32 0] 48)
  have hh := h.none k0
  have hN := heap_new w (.cells #[.int .i64 0, .int .u32 0, .int .u32 0, .int .u32 0, .int .u32 0] 48)
  have HK := Lib.hid k0
  have hne : b ≠ w.heap.size := Nat.ne_of_lt (by obtain ⟨V, h⟩ := h; exact lt_of h)
  have hpn : ∀ (b : Nat) w, (binOp .eql 76 (.pointer (some ⟨b, 0, none⟩)) (.pointer none)).run Try.prog w = .ok (.bool false) w := fun b w => by kernel_rfl
  clear k0 h
  go_enter Try.func106, Try.ntmps106
  go_wp2_with fail
  generalize (w.alloc (.cells #[.int .i64 0, .int .u32 0, .int .u32 0, .int .u32 0, .int .u32 0] 48)) = Wg at *
  generalize hN0 : w.heap.size = N0 at *
  obtain ⟨V, hh⟩ := hh
  obtain ⟨v0, e0⟩ : ∃ v0, v0 = V 0 := ⟨_, rfl⟩
  obtain ⟨v1, e1⟩ : ∃ v0, v0 = V 1 := ⟨_, rfl⟩
  obtain ⟨v2, e2⟩ : ∃ v0, v0 = V 2 := ⟨_, rfl⟩
  obtain ⟨v3, e3⟩ : ∃ v0, v0 = V 3 := ⟨_, rfl⟩
  have c0 : Wg.cell? ⟨b, 8, none⟩ = some (.int .i64 f) := cell_of hh 8
  have c1 : Wg.cell? ⟨b, 9, none⟩ = some (.int .u32 v0) := by rw [e0]; exact cell_of hh 9
  have c2 : Wg.cell? ⟨b, 10, none⟩ = some (.int .u32 v1) := by rw [e1]; exact cell_of hh 10
  have c3 : Wg.cell? ⟨b, 11, none⟩ = some (.int .u32 v2) := by rw [e2]; exact cell_of hh 11
  have c4 : Wg.cell? ⟨b, 12, none⟩ = some (.int .u32 v3) := by rw [e3]; exact cell_of hh 12
  have c5' : Wg.cell? ⟨b, 7, none⟩ = some (.int .i64 st) := cell_of hh 7
  have lb : b < Wg.heap.size := lt_of hh
  clear e0 e1 e2 e3
  have HS := Lib.hid (fun (w' : World) (k : Keeps (fun X => X = N0) Wg w') => show w'.cell? ⟨b, 8, none⟩ = some (.int .i64 f) ∧ w'.cell? ⟨b, 9, none⟩ = some (.int .u32 v0) ∧ w'.cell? ⟨b, 10, none⟩ = some (.int .u32 v1) ∧ w'.cell? ⟨b, 11, none⟩ = some (.int .u32 v2) ∧ w'.cell? ⟨b, 12, none⟩ = some (.int .u32 v3) ∧ w'.cell? ⟨b, 7, none⟩ = some (.int .i64 st) from
    have hc : ∀ i v, Wg.cell? ⟨b, i, none⟩ = some v → w'.cell? ⟨b, i, none⟩ = some v := fun i v hv => (World.cell?_of_block (w := Wg) (k.block b lb hne)).trans hv
    ⟨hc _ _ c0, hc _ _ c1, hc _ _ c2, hc _ _ c3, hc _ _ c4, hc _ _ c5'⟩)
  have n0 : Wg.cell? ⟨N0, 0, none⟩ = some (.int .i64 0) := cell_of hN 0
  have m0 : Wg.frozen? ⟨N0, 0, none⟩ = false := free_of hN 0
  have n1 : Wg.cell? ⟨N0, 1, none⟩ = some (.int .u32 0) := cell_of hN 1
  have m1 : Wg.frozen? ⟨N0, 1, none⟩ = false := free_of hN 1
  have n2 : Wg.cell? ⟨N0, 2, none⟩ = some (.int .u32 0) := cell_of hN 2
  have m2 : Wg.frozen? ⟨N0, 2, none⟩ = false := free_of hN 2
  have n3 : Wg.cell? ⟨N0, 3, none⟩ = some (.int .u32 0) := cell_of hN 3
  have m3 : Wg.frozen? ⟨N0, 3, none⟩ = false := free_of hN 3
  have n4 : Wg.cell? ⟨N0, 4, none⟩ = some (.int .u32 0) := cell_of hN 4
  have m4 : Wg.frozen? ⟨N0, 4, none⟩ = false := free_of hN 4
  have ln : N0 < Wg.heap.size := lt_of hN
  have HN := Lib.hid hN
  have HN0 := Lib.hid hN0
  clear hh hN hN0
  go_region_held3 (fun w' => w'.cell? ⟨b, 8, none⟩ = some (.int .i64 f) ∧ w'.cell? ⟨b, 9, none⟩ = some (.int .u32 v0) ∧ w'.cell? ⟨b, 10, none⟩ = some (.int .u32 v1) ∧ w'.cell? ⟨b, 11, none⟩ = some (.int .u32 v2) ∧ w'.cell? ⟨b, 12, none⟩ = some (.int .u32 v3) ∧ w'.cell? ⟨b, 7, none⟩ = some (.int .i64 st))
    (first
      | exact HS.out _ (Keeps.refl (fun X => X = N0) Wg).drew
      | exact HS.out _ ((((((Keeps.refl (fun X => X = N0) Wg).setCell (p := ⟨N0, 0, none⟩) (.inl rfl) _).setCell (p := ⟨N0, 1, none⟩) (.inl rfl) _).setCell (p := ⟨N0, 2, none⟩) (.inl rfl) _).setCell (p := ⟨N0, 3, none⟩) (.inl rfl) _).setCell (p := ⟨N0, 4, none⟩) (.inl rfl) _).drew
      | go_keep)
    (fail)
  all_goals
    have HF := Lib.hid (And.intro (show ((((((Wg.setCell ⟨N0, 0, none⟩ (.int .i64 f)).setCell ⟨N0, 1, none⟩ (.int .u32 v0)).setCell ⟨N0, 2, none⟩ (.int .u32 v1)).setCell ⟨N0, 3, none⟩ (.int .u32 v2)).setCell ⟨N0, 4, none⟩ (.int .u32 v3)).drew).heap[N0]? = some (.cells #[.int .i64 f, .int .u32 v0, .int .u32 v1, .int .u32 v2, .int .u32 v3] 48 (0, 0)) from heap_set (heap_set (heap_set (heap_set (heap_set HN.out 0 _) 1 _) 2 _) 3 _) 4 _)
      ((((((HK.out.setCell (p := ⟨N0, 0, none⟩) (.inr (Nat.le_of_eq HN0.out)) (.int .i64 f)).setCell (p := ⟨N0, 1, none⟩) (.inr (Nat.le_of_eq HN0.out)) (.int .u32 v0)).setCell (p := ⟨N0, 2, none⟩) (.inr (Nat.le_of_eq HN0.out)) (.int .u32 v1)).setCell (p := ⟨N0, 3, none⟩) (.inr (Nat.le_of_eq HN0.out)) (.int .u32 v2)).setCell (p := ⟨N0, 4, none⟩) (.inr (Nat.le_of_eq HN0.out)) (.int .u32 v3)).drew))
    generalize (((((Wg.setCell ⟨N0, 0, none⟩ (.int .i64 f)).setCell ⟨N0, 1, none⟩ (.int .u32 v0)).setCell ⟨N0, 2, none⟩ (.int .u32 v1)).setCell ⟨N0, 3, none⟩ (.int .u32 v2)).setCell ⟨N0, 4, none⟩ (.int .u32 v3)).drew = W9 at HF ⊢
    clear n0 m0 n1 m1 n2 m2 n3 m3 n4 m4 ln c0 c1 c2 c3 c4 c5' lb
    go_wp2_with fail
    refine bodyPost_ret (v := .tuple #[.agg #[.int .i64 f, .int .u32 v0, .int .u32 v1, .int .u32 v2, .int .u32 v3], .bool (st == 2)]) (res_res _ Try.results106 W9 _ N0 f v0 v1 v2 v3 _ rfl rfl HF.out.1) rfl ⟨⟨v0, v1, v2, v3, rfl⟩, HF.out.2⟩
end Go.Proofs.Ytdnppkihpddlhaa
