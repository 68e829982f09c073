import Derived.Test.YtdnppkihpddlhaaBdE
namespace Go.Proofs.Ytdnppkihpddlhaa
open Go.ChangeShapes Go.WideShapes Go.ChangeAt Go.RowKit
set_option linter.unusedVariables false
set_option linter.unusedSimpArgs false
/-- A routine's state, its next act, its result, in its block; the result lies at k. -/
structure StAt (w : World) (b k : Nat) (st f : Int) : Prop where
  c5 : w.cell? ⟨b, 5, none⟩ = some (.int .i64 st)
  nx : ∃ o1 o2 o3 : Int, w.cell? ⟨b, 6, none⟩ = some (.int .i64 o1) ∧ w.cell? ⟨b, 7, none⟩ = some (.int .i64 o2) ∧ w.cell? ⟨b, 8, none⟩ = some (.int .u32 o3)
  re : ∃ v0 v1 v2 v3 : Int, w.cell? ⟨b, k, none⟩ = some (.int .i64 f) ∧ w.cell? ⟨b, k + 1, none⟩ = some (.int .u32 v0) ∧ w.cell? ⟨b, k + 2, none⟩ = some (.int .u32 v1) ∧ w.cell? ⟨b, k + 3, none⟩ = some (.int .u32 v2) ∧ w.cell? ⟨b, k + 4, none⟩ = some (.int .u32 v3)
  lt : b < w.heap.size
theorem StAt.none {w w' : World} {b k : Nat} {st f : Int} (h : StAt w b k st f) (kk : Keeps (fun _ => False) w w') : StAt w' b k st f := by
  have hc : ∀ i v, w.cell? ⟨b, i, Option.none⟩ = some v → w'.cell? ⟨b, i, Option.none⟩ = some v := fun i v hv => (kk.none.cell (p := ⟨b, i, Option.none⟩) h.lt).trans hv
  obtain ⟨o1, o2, o3, h1, h2, h3⟩ := h.nx
  obtain ⟨v0, v1, v2, v3, g0, g1, g2, g3, g4⟩ := h.re
  exact ⟨hc _ _ h.c5, ⟨o1, o2, o3, hc _ _ h1, hc _ _ h2, hc _ _ h3⟩, ⟨v0, v1, v2, v3, hc _ _ g0, hc _ _ g1, hc _ _ g2, hc _ _ g3, hc _ _ g4⟩, Nat.lt_of_lt_of_le h.lt kk.size⟩
/-- Is there a next act? -/
def busyP (fin st : Int) : Bool := st != 0 && st != fin
def ActQ (w : World) (m : Bool) (e : Ending) (w' : World) : Prop := (∃ o1 o2 o3 : Int, e = .returned (.tuple #[.agg #[.int .i64 o1, .int .i64 o2, .int .u32 o3], .bool m])) ∧ Keeps (fun _ => False) w w'
def ResQ (w : World) (f : Int) (m : Bool) (e : Ending) (w' : World) : Prop := (∃ v0 v1 v2 v3 : Int, e = .returned (.tuple #[.agg #[.int .i64 f, .int .u32 v0, .int .u32 v1, .int .u32 v2, .int .u32 v3], .bool m])) ∧ Keeps (fun _ => False) w w'
theorem res_act (fn : Func) (hf : fn.results = #[.cell 2 43, .tmp 3]) (W : World) (T : Array Value) (B : Nat) (o1 o2 o3 : Int) (m : Bool) (h2 : T.getD 2 undef = .pointer (some ⟨B, 0, none⟩)) (h3 : T.getD 3 undef = .bool m) (c : W.heap[B]? = some (.cells #[.int .i64 o1, .int .i64 o2, .int .u32 o3] 43 (0, 0))) :
    (results fn T).run Try.prog W = .ok (.tuple #[.agg #[.int .i64 o1, .int .i64 o2, .int .u32 o3], .bool m]) W := by
  simp only [Array.getD_eq_getD_getElem?] at h2 h3
  have e0 : W.cell? ⟨B, 0, none⟩ = some (.int .i64 o1) := cell_of c 0
  have e1 : W.cell? ⟨B, 1, none⟩ = some (.int .i64 o2) := cell_of c 1
  have e2 : W.cell? ⟨B, 2, none⟩ = some (.int .u32 o3) := cell_of c 2
  clear c
  simp [results, hf, h2, h3, asAddr, go_sem, e0, e1, e2]
theorem res_res (fn : Func) (hf : fn.results = #[.cell 2 48, .tmp 3]) (W : World) (T : Array Value) (B : Nat) (f v0 v1 v2 v3 : Int) (m : Bool) (h2 : T.getD 2 undef = .pointer (some ⟨B, 0, none⟩)) (h3 : T.getD 3 undef = .bool m) (c : W.heap[B]? = some (.cells #[.int .i64 f, .int .u32 v0, .int .u32 v1, .int .u32 v2, .int .u32 v3] 48 (0, 0))) :
    (results fn T).run Try.prog W = .ok (.tuple #[.agg #[.int .i64 f, .int .u32 v0, .int .u32 v1, .int .u32 v2, .int .u32 v3], .bool m]) W := by
  simp only [Array.getD_eq_getD_getElem?] at h2 h3
  have e0 : W.cell? ⟨B, 0, none⟩ = some (.int .i64 f) := cell_of c 0
  have e1 : W.cell? ⟨B, 1, none⟩ = some (.int .u32 v0) := cell_of c 1
  have e2 : W.cell? ⟨B, 2, none⟩ = some (.int .u32 v1) := cell_of c 2
  have e3 : W.cell? ⟨B, 3, none⟩ = some (.int .u32 v2) := cell_of c 3
  have e4 : W.cell? ⟨B, 4, none⟩ = some (.int .u32 v3) := cell_of c 4
  clear c
  simp [results, hf, h2, h3, asAddr, go_sem, e0, e1, e2, e3, e4]
set_option maxHeartbeats 4000000 in
theorem rg_busy (w : World) (b : Nat) (st : Int) (h : w.cell? ⟨b, 5, none⟩ = some (.int .i64 st)) (lb : b < w.heap.size) :
    Calls Try.prog 76 #[.pointer (some ⟨b, 0, none⟩)] w fun e w' => e = .returned (.bool (busyP 5 st)) ∧ w' = w := by
  unfold busyP
  by_cases h0 : st = 0
  · subst h0
    go_enter Try.func76, Try.ntmps76
    go_wp2_with fail
    go_ret
    exact ⟨rfl, rfl⟩
  · have d0 : (st != 0) = true := by simpa using h0
    have D0 := Lib.hid d0
    go_enter Try.func76, Try.ntmps76
    go_wp2_with fail
    go_ret
    exact ⟨by rw [D0.out]; rfl, rfl⟩
set_option maxHeartbeats 4000000 in
theorem rg_act (w : World) (b : Nat) (st f : Int) (h : StAt w b 15 st f) :
    Calls Try.prog 70 #[.pointer (some ⟨b, 0, none⟩)] w (ActQ w (busyP 5 st)) := by
  have k0 := (Keeps.refl (fun _ => False) w).alloc (.cells #[.int .i64 0, .int .i64 0, .int .u32 0] 43)
  have hh := h.none k0
  have hN := heap_new w (.cells #[.int .i64 0, .int .i64 0, .int .u32 0] 43)
  have HK := Lib.hid k0
  have hne : b ≠ w.heap.size := Nat.ne_of_lt h.lt
  clear k0 h
  go_enter Try.func70, Try.ntmps70
  go_wp2_with fail
  generalize (w.alloc (.cells #[.int .i64 0, .int .i64 0, .int .u32 0] 43)) = Wg at *
  have HW := Lib.hid (show w.heap.size ≤ w.heap.size from Nat.le_refl _)
  generalize hN0 : w.heap.size = N0 at *
  obtain ⟨o1, o2, o3, c6, c7, c8⟩ := hh.nx
  have c5 := hh.c5
  have lb := hh.lt
  have HS := Lib.hid (fun (w' : World) (k : Keeps (fun X => X = N0) Wg w') => show w'.cell? ⟨b, 6, none⟩ = some (.int .i64 o1) ∧ w'.cell? ⟨b, 7, none⟩ = some (.int .i64 o2) ∧ w'.cell? ⟨b, 8, none⟩ = some (.int .u32 o3) ∧ w'.cell? ⟨b, 5, none⟩ = some (.int .i64 st) from
    have hc : ∀ i v, Wg.cell? ⟨b, i, none⟩ = some v → w'.cell? ⟨b, i, none⟩ = some v := fun i v hv => (World.cell?_of_block (w := Wg) (k.block b lb hne)).trans hv
    ⟨hc _ _ c6, hc _ _ c7, hc _ _ c8, hc _ _ c5⟩)
  have n0 : Wg.drew.cell? ⟨N0, 0, none⟩ = some (.int .i64 0) := cell_of hN 0
  have n1 : Wg.drew.cell? ⟨N0, 1, none⟩ = some (.int .i64 0) := cell_of hN 1
  have n2 : Wg.drew.cell? ⟨N0, 2, none⟩ = some (.int .u32 0) := cell_of hN 2
  have m0 : Wg.drew.frozen? ⟨N0, 0, none⟩ = false := free_of hN 0
  have m1 : Wg.drew.frozen? ⟨N0, 1, none⟩ = false := free_of hN 1
  have m2 : Wg.drew.frozen? ⟨N0, 2, none⟩ = false := free_of hN 2
  have ln : N0 < Wg.drew.heap.size := lt_of hN
  have n0' : Wg.cell? ⟨N0, 0, none⟩ = some (.int .i64 0) := cell_of hN 0
  have n1' : Wg.cell? ⟨N0, 1, none⟩ = some (.int .i64 0) := cell_of hN 1
  have n2' : Wg.cell? ⟨N0, 2, none⟩ = some (.int .u32 0) := cell_of hN 2
  have m0' : Wg.frozen? ⟨N0, 0, none⟩ = false := free_of hN 0
  have m1' : Wg.frozen? ⟨N0, 1, none⟩ = false := free_of hN 1
  have m2' : Wg.frozen? ⟨N0, 2, none⟩ = false := free_of hN 2
  have ln' : N0 < Wg.heap.size := lt_of hN
  have lb2 : b < Wg.drew.heap.size := lb
  have HN := Lib.hid hN
  have HN0 := Lib.hid hN0
  have HB2 := Lib.hid (fun (W : World) (k : Keeps (fun X => X = N0) Wg W) => rg_busy W b st (HS.out W k).2.2.2 (Nat.lt_of_lt_of_le lb k.size))
  clear hh hN hN0 HW
  go_region_held3 (fun w' => w'.cell? ⟨b, 6, none⟩ = some (.int .i64 o1) ∧ w'.cell? ⟨b, 7, none⟩ = some (.int .i64 o2) ∧ w'.cell? ⟨b, 8, none⟩ = some (.int .u32 o3) ∧ w'.cell? ⟨b, 5, none⟩ = some (.int .i64 st))
    (first
      | exact HS.out _ (Keeps.refl (fun X => X = N0) Wg).drew
      | exact HS.out _ (((((Keeps.refl (fun X => X = N0) Wg).setCell (p := ⟨N0, 0, none⟩) (.inl rfl) _).setCell (p := ⟨N0, 1, none⟩) (.inl rfl) _).setCell (p := ⟨N0, 2, none⟩) (.inl rfl) _).drew)
      | go_keep)
    (first
      | (go_at_call 76; refine (HB2.out _ (Keeps.refl (fun X => X = N0) Wg).drew).mono ?_; rintro e9 w9 ⟨rfl, rfl⟩)
      | (go_at_call 76; refine (HB2.out _ (((((Keeps.refl (fun X => X = N0) Wg).setCell (p := ⟨N0, 0, none⟩) (.inl rfl) _).setCell (p := ⟨N0, 1, none⟩) (.inl rfl) _).setCell (p := ⟨N0, 2, none⟩) (.inl rfl) _).drew)).mono ?_; rintro e9 w9 ⟨rfl, rfl⟩)
      | fail)
  all_goals
    have HF := Lib.hid (And.intro (show ((((Wg.setCell ⟨N0, 0, none⟩ (.int .i64 o1)).setCell ⟨N0, 1, none⟩ (.int .i64 o2)).setCell ⟨N0, 2, none⟩ (.int .u32 o3)).drew).heap[N0]? = some (.cells #[.int .i64 o1, .int .i64 o2, .int .u32 o3] 43 (0, 0)) from heap_set (heap_set (heap_set HN.out 0 _) 1 _) 2 _)
      ((((HK.out.setCell (p := ⟨N0, 0, none⟩) (.inr (Nat.le_of_eq HN0.out)) (.int .i64 o1)).setCell (p := ⟨N0, 1, none⟩) (.inr (Nat.le_of_eq HN0.out)) (.int .i64 o2)).setCell (p := ⟨N0, 2, none⟩) (.inr (Nat.le_of_eq HN0.out)) (.int .u32 o3)).drew))
    generalize (((Wg.setCell ⟨N0, 0, none⟩ (.int .i64 o1)).setCell ⟨N0, 1, none⟩ (.int .i64 o2)).setCell ⟨N0, 2, none⟩ (.int .u32 o3)).drew = W9 at HF ⊢
    go_wp2_with fail
    refine bodyPost_ret (v := .tuple #[.agg #[.int .i64 o1, .int .i64 o2, .int .u32 o3], .bool (busyP 5 st)]) (res_act _ Try.results70 W9 _ N0 o1 o2 o3 _ rfl rfl HF.out.1) rfl ⟨⟨o1, o2, o3, rfl⟩, HF.out.2⟩
end Go.Proofs.Ytdnppkihpddlhaa
