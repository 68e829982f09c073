import Derived.Test.YtakaclkhnajpeaaHistI
namespace Go.Proofs.Ytakaclkhnajpeaa
open Go.ChangeShapes Go.WideShapes Go.ChangeAt Go.RowKit
set_option linter.unusedVariables false
set_option linter.unusedSimpArgs false
theorem eq_op (x : OpX) (w : World) : (Op.equalIn 10000 38 (.agg (opL x).toArray) (.agg (opL x).toArray)).run Try.prog w = .ok true w := by
  show (Op.equalIn 10000 38 (.agg #[.int .i64 (x 0), .int .i64 (x 1), .int .i64 (x 2), .int .i64 (x 3), .int .u32 (x 4), .int .u32 (x 5), .int .u32 (x 6), .int .u32 (x 7), .int .u32 (x 8), .int .i64 (x 9), .int .u32 (x 10), .int .u32 (x 11), .int .u32 (x 12), .int .u32 (x 13), .bool (decide (x 14 = 1)), .int .i64 (x 15), .int .i64 (x 16)]) (.agg #[.int .i64 (x 0), .int .i64 (x 1), .int .i64 (x 2), .int .i64 (x 3), .int .u32 (x 4), .int .u32 (x 5), .int .u32 (x 6), .int .u32 (x 7), .int .u32 (x 8), .int .i64 (x 9), .int .u32 (x 10), .int .u32 (x 11), .int .u32 (x 12), .int .u32 (x 13), .bool (decide (x 14 = 1)), .int .i64 (x 15), .int .i64 (x 16)])).run Try.prog w = .ok true w
  have u3 := Try.underlying3
  have u4 := Try.underlying4
  have a3 := Try.isAgg3
  have a4 := Try.isAgg4
  have a5 := Try.isAgg34
  have a6 := Try.isAgg36
  have z3 := Try.sizeOf3
  have z4 := Try.sizeOf4
  have z5 := Try.sizeOf34
  have z6 := Try.sizeOf36
  have hS : Try.prog.underlying 38 = some (.struct (Try.prog.fieldsOf 38)) := by kernel_rfl
  have hp : Try.prog.stoodInHeld 38 = false := by kernel_rfl
  have hv := fun w => eq_calls (x 2) (x 3) (x 4) (x 5) (x 6) (x 7) (x 8) w
  have hr := fun w => eq_resz (x 9) (x 10) (x 11) (x 12) (x 13) w
  rw [show (10000 : Nat) = 9999 + 1 from rfl, run_equalIn_agg w 9999 38 _ _ hS hp]
  simp only [Program.fieldsOf, Try.underlying38]
  generalize decide (x 14 = 1) = d
  go_simp
theorem rops_zero (a b : Option Addr) (c0 c1 : Nat) (w : World) : Calls Try.prog 8 #[.slice a 0 c0, .slice b 0 c1] w fun e w' => e = .returned (.bool true) ∧ Keeps (fun _ => False) w w' := by
  go_enter Try.func8, Try.ntmps8
  go_wp2_with fail
  obtain ⟨wo, rfl⟩ : ∃ wo : World, wo = w := ⟨_, rfl⟩
  go_loopw [5] (fun i wr => i = .int .i64 0 ∧ wr = wo) (fun _ _ => 0)
  case atStart => exact ⟨rfl, rfl⟩
  case round =>
    obtain ⟨rfl, rfl⟩ := hrel
    go_wp2
    go_ret
    exact ⟨rfl, Keeps.refl _ _⟩
set_option maxRecDepth 20000 in
set_option maxHeartbeats 1000000 in
theorem rops_some (g0 o0 g1 o1 n c0 c1 : Nat) (L : List OpX) (w : World) (hL : L.length = n) (hn : n ≤ 1000000) (h0 : OpsIn w g0 o0 L) (h1 : OpsIn w g1 o1 L) :
    Calls Try.prog 8 #[.slice (some ⟨g0, o0, none⟩) n c0, .slice (some ⟨g1, o1, none⟩) n c1] w fun e w' => e = .returned (.bool true) ∧ Keeps (fun _ => False) w w' := by
  have H0 := Lib.hid h0
  have H1 := Lib.hid h1
  have HL := Lib.hid hL
  clear h0 h1 hL
  go_enter Try.func8, Try.ntmps8
  go_wp2_with fail
  obtain ⟨wo, rfl⟩ : ∃ wo : World, wo = w := ⟨_, rfl⟩
  go_loopw [5] (fun i wr => ∃ k : Nat, k ≤ n ∧ i = .int .i64 (k : Int) ∧ Keeps (fun _ => False) wo wr ∧ ∀ b o cs, wo.rangeAt b o cs → wr.rangeAt b o cs) (fun i _ => n - (intOf i).toNat)
  case atStart => exact ⟨0, by omega, rfl, Keeps.refl _ _, fun b o cs h => h⟩
  case round =>
    obtain ⟨k, hk, rfl, hkp, hrg⟩ := hrel
    have HK := Lib.hid (And.intro hkp hrg)
    clear hkp hrg
    by_cases hlt : k < n
    · obtain ⟨x, hx⟩ : ∃ x, L[k]? = some x := ⟨_, List.getElem?_eq_getElem (by rw [HL.out]; exact hlt)⟩
      have HR := Lib.hid (And.intro (HK.out.2 _ _ _ (H0.out k x hx)) (HK.out.2 _ _ _ (H1.out k x hx)))
      have hq := eq_op x
      have dk : decide (k < n) = true := decide_eq_true hlt
      clear hx
      go_wp2_with fail
      refine wp_region_noPanic ?_
      refine wp_region_held_drew (S := (fun W => W.rangeAt g0 (o0 + k * 17) (opL x) ∧ W.rangeAt g1 (o1 + k * 17) (opL x))) (by kernel_rfl) ?_ (fun hHeld => ?_)
      · exact HR.out
      refine wpAnyH_take (i := 0) (v := ?_) rfl (by kernel_rfl) (by kernel_rfl) (by kernel_rfl) (fun _ _ _ h => h) (Or.inl ⟨by rfl, ?_⟩) (by assumption) ?_
      rotate_left
      · (intro w hSw; (try dsimp only at hSw); go_simp; try with_reducible rfl)
      simp only [Act.put, List.getElem_toArray, List.getElem_cons_zero, List.getElem_cons_succ, List.setIfInBounds_toArray, List.set_cons_zero, List.set_cons_succ]
      refine wpAnyH_take (i := 1) (v := ?_) rfl (by kernel_rfl) (by kernel_rfl) (by kernel_rfl) (fun _ _ _ h => h) (Or.inl ⟨by rfl, ?_⟩) (by assumption) ?_
      rotate_left
      · (intro w hSw; (try dsimp only at hSw); go_simp; try with_reducible rfl)
      simp only [Act.put, List.getElem_toArray, List.getElem_cons_zero, List.getElem_cons_succ, List.setIfInBounds_toArray, List.set_cons_zero, List.set_cons_succ]
      refine wpAnyH_take (i := 2) (v := ?_) rfl (by kernel_rfl) (by kernel_rfl) (by kernel_rfl) (fun _ _ _ h => h) (Or.inl ⟨by rfl, ?_⟩) (by assumption) ?_
      rotate_left
      · (intro w hSw; (try dsimp only at hSw); go_simp; try with_reducible rfl)
      simp only [Act.put, List.getElem_toArray, List.getElem_cons_zero, List.getElem_cons_succ, List.setIfInBounds_toArray, List.set_cons_zero, List.set_cons_succ]
      refine wpAnyH_take (i := 3) (v := .agg (opL x).toArray) rfl (by kernel_rfl) (by kernel_rfl) (by kernel_rfl) (fun _ _ _ h => h) (yieldsIf_load_mid (by rfl) 38 _ rfl g0 (o0 + k * 17) rfl (opL x) _ (fun w h => h.1) Try.underlying38 rfl op_info) (by assumption) ?_
      simp only [Act.put, List.getElem_toArray, List.getElem_cons_zero, List.getElem_cons_succ, List.setIfInBounds_toArray, List.set_cons_zero, List.set_cons_succ]
      refine wpAnyH_take (i := 4) (v := ?_) rfl (by kernel_rfl) (by kernel_rfl) (by kernel_rfl) (fun _ _ _ h => h) (Or.inl ⟨by rfl, ?_⟩) (by assumption) ?_
      rotate_left
      · (intro w hSw; (try dsimp only at hSw); go_simp; try with_reducible rfl)
      simp only [Act.put, List.getElem_toArray, List.getElem_cons_zero, List.getElem_cons_succ, List.setIfInBounds_toArray, List.set_cons_zero, List.set_cons_succ]
      refine wpAnyH_take (i := 5) (v := ?_) rfl (by kernel_rfl) (by kernel_rfl) (by kernel_rfl) (fun _ _ _ h => h) (Or.inl ⟨by rfl, ?_⟩) (by assumption) ?_
      rotate_left
      · (intro w hSw; (try dsimp only at hSw); go_simp; try with_reducible rfl)
      simp only [Act.put, List.getElem_toArray, List.getElem_cons_zero, List.getElem_cons_succ, List.setIfInBounds_toArray, List.set_cons_zero, List.set_cons_succ]
      refine wpAnyH_take (i := 6) (v := ?_) rfl (by kernel_rfl) (by kernel_rfl) (by kernel_rfl) (fun _ _ _ h => h) (Or.inl ⟨by rfl, ?_⟩) (by assumption) ?_
      rotate_left
      · (intro w hSw; (try dsimp only at hSw); go_simp; try with_reducible rfl)
      simp only [Act.put, List.getElem_toArray, List.getElem_cons_zero, List.getElem_cons_succ, List.setIfInBounds_toArray, List.set_cons_zero, List.set_cons_succ]
      refine wpAnyH_take (i := 7) (v := .agg (opL x).toArray) rfl (by kernel_rfl) (by kernel_rfl) (by kernel_rfl) (fun _ _ _ h => h) (yieldsIf_load_mid (by rfl) 38 _ rfl g1 (o1 + k * 17) rfl (opL x) _ (fun w h => h.2) Try.underlying38 rfl op_info) (by assumption) ?_
      simp only [Act.put, List.getElem_toArray, List.getElem_cons_zero, List.getElem_cons_succ, List.setIfInBounds_toArray, List.set_cons_zero, List.set_cons_succ]
      refine wpAnyH_take (i := 8) (v := ?_) rfl (by kernel_rfl) (by kernel_rfl) (by kernel_rfl) (fun _ _ _ h => h) (Or.inl ⟨by rfl, ?_⟩) (by assumption) ?_
      rotate_left
      · (intro w hSw; (try dsimp only at hSw); go_simp; try with_reducible rfl)
      simp only [Act.put, List.getElem_toArray, List.getElem_cons_zero, List.getElem_cons_succ, List.setIfInBounds_toArray, List.set_cons_zero, List.set_cons_succ]
      refine wpAnyH_done (by kernel_rfl) ?_ _
      refine NoPanic.normal ?_
      go_wp2_with fail
      go_roundw
      case rel => exact ⟨k + 1, by omega, by go_num, HK.out.1.drew, fun b o cs h => HK.out.2 b o cs h⟩
      case measure => simp [intOf]; omega
    · obtain rfl : k = n := by omega
      have dk : decide (k < k) = false := decide_eq_false (by omega)
      go_wp2_with fail
      go_ret
      exact ⟨rfl, HK.out.1⟩
def flatO (L : List OpX) : List Value := L.flatMap opL
theorem flatO_snoc (L : List OpX) (x : OpX) : flatO (L ++ [x]) = flatO L ++ opL x := by simp [flatO]
theorem flatO_at : ∀ (L : List OpX) (i : Nat) (x : OpX) (j : Nat) (v : Value), L[i]? = some x → (opL x)[j]? = some v → (flatO L)[i * 17 + j]? = some v
  | [], i, x, j, v, h, _ => by simp at h
  | d :: L, i, x, j, v, h, hv => by
    have hj : j < 17 := by
      rcases Nat.lt_or_ge j 17 with h | h
      · exact h
      · rw [List.getElem?_eq_none (by show 17 ≤ j; exact h)] at hv; cases hv
    show (opL d ++ flatO L)[i * 17 + j]? = _
    cases i with
    | zero =>
      simp at h
      subst h
      rw [List.getElem?_append_left (by show 0 * 17 + j < 17; omega), show 0 * 17 + j = j by omega]
      exact hv
    | succ i =>
      rw [List.getElem?_append_right (by show 17 ≤ (i + 1) * 17 + j; omega), show (i + 1) * 17 + j - (opL d).length = i * 17 + j by show (i + 1) * 17 + j - 17 = _; omega]
      exact flatO_at L i x j v (by simpa using h) hv
theorem ops_own {w : World} {B n : Nat} {v : Value} {L : List OpX} (hL : L.length = n) (hok : ∀ x, x ∈ L → OpOk x) (h : w.ownsRow B 38 17 v n (flatO L)) : ∃ a c, v = .slice a n c ∧ OpsArg w a n L := by
  rcases n with _ | n
  · rcases h.2 with ⟨rfl, _⟩ | ⟨g, cap, cur, hv, hb⟩
    · exact ⟨none, 0, rfl, hL, hok, fun h => by omega⟩
    · exact ⟨_, cap, hv, hL, hok, fun h => by omega⟩
  · obtain ⟨g, cap, rfl⟩ := ownsRow_succ h
    refine ⟨_, cap, rfl, hL, hok, fun _ => ⟨g, 0, rfl, (h.lt g rfl).2, fun k x hk j v hj => ?_⟩⟩
    have q := h.cells (g := g) rfl _ _ (flatO_at L k x j v hk hj)
    rw [Addr.add_mid] at q
    rw [show 0 + k * 17 + j = 0 + (k * 17 + j) by omega]
    exact q
theorem rops_l (w : World) (a b : Option Addr) (n c0 c1 : Nat) (L : List OpX) (h0 : OpsArg w a n L) (h1 : OpsArg w b n L) (hn : n ≤ 1000) :
    Calls Try.prog 8 #[.slice a n c0, .slice b n c1] w fun e w' => e = .returned (.bool true) ∧ Keeps (fun _ => False) w w' := by
  rcases Nat.eq_zero_or_pos n with rfl | hp
  · exact rops_zero a b c0 c1 w
  · obtain ⟨g0, o0, rfl, _, q0⟩ := h0.lies hp
    obtain ⟨g1, o1, rfl, _, q1⟩ := h1.lies hp
    exact rops_some g0 o0 g1 o1 n c0 c1 L w h0.len (by omega) q0 q1
def aliveX : OpX := fun j => if j = 2 then 1 else if j = 4 then 5 else if j = 14 then 1 else if j = 16 then 5 else 0
theorem aliveX_ok : OpOk aliveX := by
  constructor
  · intro j h1 h2
    unfold i64B aliveX
    repeat' split <;> omega
  · intro j h1 h2 h3
    unfold u32B aliveX
    repeat' split <;> omega
  · exact Or.inr rfl
theorem alive_text18 : printX [aliveX] = [48, 32, 48, 32, 49, 32, 48, 32, 53, 32, 48, 32, 48, 32, 48, 32, 48, 32, 48, 32, 48, 32, 48, 32, 48, 32, 48, 32, 49, 32, 48, 32, 53, 10] := by kernel_rfl
theorem alive_right18 : rightH [aliveX] = true := by kernel_rfl
theorem arg_one (W : World) (x : OpX) (hx : OpOk x) : OpsArg (W.alloc (.cells (opL x).toArray 38)) (some ⟨W.heap.size, 0, none⟩) 1 [x] :=
  ⟨rfl, fun y hy => by rw [List.mem_singleton.1 hy]; exact hx, fun _ => ⟨W.heap.size, 0, rfl, by simp, fun k y hk j v hj => by
    obtain rfl : k = 0 := by
      rcases k with _ | k
      · rfl
      · simp at hk
    simp at hk
    subst hk
    rw [cell_of (heap_new W _) (0 + 0 * 17 + j), show 0 + 0 * 17 + j = j by omega]
    simpa using hj⟩⟩
end Go.Proofs.Ytakaclkhnajpeaa
