import Derived.Test.YtakaclkhnajpeaaHistE
import Derived.Test.YtakaclkhnajpeaaHistH
namespace Go.Proofs.Ytakaclkhnajpeaa
open Go.ChangeShapes Go.WideShapes Go.ChangeAt Go.RowKit
set_option linter.unusedVariables false
set_option linter.unusedSimpArgs false
/-- The words of a row, as bytes. -/
def fW (ws : List ByteArray) (i : Nat) : List UInt8 := ((ws[i]?).getD ⟨#[]⟩).data.toList
theorem fW_mk (ws : List ByteArray) (i : Nat) (s : ByteArray) (h : ws[i]? = some s) : (⟨(fW ws i).toArray⟩ : ByteArray) = s := by
  unfold fW
  rw [h]
  rfl
theorem fW_x (x : OpX) (j : Nat) (h : j < 17) : fW (wsX x) j = prnL (x j) := by
  unfold fW wsX
  rw [List.getElem?_map, List.getElem?_range h]
  rfl
theorem par_out (n a b : Int) (h : ¬ (a ≤ n ∧ n ≤ b)) : (parP (prnL n) a b).2 ≠ 0 := by
  unfold parP
  cases hv : valP (prnL n) with
  | none => simp
  | some m =>
    have hm : m = n := by
      unfold valP at hv
      cases ho : okL (prnL n) with
      | false => rw [ho] at hv; cases hv
      | true =>
        rw [ho, sgn_prnL] at hv
        simpa using hv.symm
    subst hm
    show (if m < a ∨ b < m then _ else _ : Int × Int).2 ≠ 0
    rw [if_pos (by omega)]
    simp
theorem loH_big (j : Nat) : -999999999999999999 ≤ loH j ∧ hiH j ≤ 999999999999999999 := by
  unfold loH hiH
  constructor <;> repeat' split <;> omega
/-- In the ranges that a line allows? -/
def InH (x : OpX) : Prop := ∀ j, j < 17 → loH j ≤ x j ∧ x j ≤ hiH j
theorem yv_in (x : OpX) (h : InH x) (j : Nat) (hj : j < 17) : yvH (fW (wsX x)) j = x j ∧ okH (fW (wsX x)) j = true := by
  have hb := loH_big j
  have hx := h j hj
  have e := parP_prnL (x j) (loH j) (hiH j) (by omega) hx.1 hx.2
  unfold yvH okH
  rw [fW_x x j hj, e]
  exact ⟨rfl, rfl⟩
theorem rightP_true (F : Nat → List UInt8) : ∀ k, (∀ j, j < k → okH F j = true) → rightP F k = true
  | 0, _ => rfl
  | k + 1, h => by
    show (rightP F k && okH F k) = true
    rw [rightP_true F k fun j hj => h j (by omega), h k (by omega)]
    rfl
theorem rightP_false (F : Nat → List UInt8) (j : Nat) (h : okH F j = false) : ∀ k, j < k → rightP F k = false
  | 0, hj => by omega
  | k + 1, hj => by
    show (rightP F k && okH F k) = false
    by_cases e : j = k
    · rw [← e, h, Bool.and_false]
    · rw [rightP_false F j h k (by omega)]
      rfl
theorem single_in (x : OpX) (hx : OpOk x) (h : singleP x = true) : InH x := by
  unfold singleP at h
  simp only [Bool.and_eq_true] at h
  obtain ⟨h0, h1, h15, h16, h2, h3, h9, _⟩ := h
  unfold inR at h0 h1 h15 h16 h2 h3 h9
  simp only [Bool.and_eq_true, decide_eq_true_eq] at h0 h1 h15 h16 h2 h3 h9
  have hu := hx.u
  unfold u32B at hu
  have hd := hx.d
  intro j hj
  have u4 := hu 4 (by omega) (by omega) (by omega)
  have u5 := hu 5 (by omega) (by omega) (by omega)
  have u6 := hu 6 (by omega) (by omega) (by omega)
  have u7 := hu 7 (by omega) (by omega) (by omega)
  have u8 := hu 8 (by omega) (by omega) (by omega)
  have u10 := hu 10 (by omega) (by omega) (by omega)
  have u11 := hu 11 (by omega) (by omega) (by omega)
  have u12 := hu 12 (by omega) (by omega) (by omega)
  have u13 := hu 13 (by omega) (by omega) (by omega)
  rcases (show j = 0 ∨ j = 1 ∨ j = 2 ∨ j = 3 ∨ j = 4 ∨ j = 5 ∨ j = 6 ∨ j = 7 ∨ j = 8 ∨ j = 9 ∨ j = 10 ∨ j = 11 ∨ j = 12 ∨ j = 13 ∨ j = 14 ∨ j = 15 ∨ j = 16 by omega) with rfl | rfl | rfl | rfl | rfl | rfl | rfl | rfl | rfl | rfl | rfl | rfl | rfl | rfl | rfl | rfl | rfl <;> simp [loH, hiH] <;> omega
theorem single_congr (x y : OpX) (h : ∀ j, j < 17 → x j = y j) : singleP x = singleP y := by
  unfold singleP tailP
  rw [h 0 (by omega), h 1 (by omega), h 15 (by omega), h 16 (by omega), h 2 (by omega), h 3 (by omega), h 9 (by omega), h 14 (by omega), h 10 (by omega), h 11 (by omega), h 12 (by omega), h 13 (by omega)]
theorem opL_congr (x y : OpX) (h : ∀ j, j < 17 → x j = y j) : opL x = opL y := by
  unfold opL
  rw [h 0 (by omega), h 1 (by omega), h 2 (by omega), h 3 (by omega), h 4 (by omega), h 5 (by omega), h 6 (by omega), h 7 (by omega), h 8 (by omega), h 9 (by omega), h 10 (by omega), h 11 (by omega), h 12 (by omega), h 13 (by omega), h 14 (by omega), h 15 (by omega), h 16 (by omega)]
/-- **A printed line's call is right just if the call itself is, and then it is that call.** -/
theorem back_call (x : OpX) (hx : OpOk x) : (rightP (fW (wsX x)) 17 && singleP (zx (fW (wsX x)) 17)) = singleP x ∧ (singleP x = true → opL (zx (fW (wsX x)) 17) = opL x) := by
  by_cases h : InH x
  · have e : ∀ j, j < 17 → zx (fW (wsX x)) 17 j = x j := fun j hj => by
      unfold zx
      rw [if_pos hj, (yv_in x h j hj).1]
    rw [rightP_true _ 17 fun j hj => (yv_in x h j hj).2, single_congr _ x e, opL_congr _ x e]
    exact ⟨rfl, fun _ => rfl⟩
  · have hs : singleP x = false := by
      cases hs : singleP x with
      | false => rfl
      | true => exact absurd (single_in x hx hs) h
    obtain ⟨j, hj, hn⟩ : ∃ j, j < 17 ∧ ¬ (loH j ≤ x j ∧ x j ≤ hiH j) := by
      refine Classical.byContradiction fun hc => h fun j hj => Classical.byContradiction fun hn => hc ⟨j, hj, hn⟩
    have ho : okH (fW (wsX x)) j = false := by
      unfold okH
      rw [fW_x x j hj]
      simpa using par_out (x j) (loH j) (hiH j) hn
    rw [rightP_false _ j ho 17 hj, hs]
    exact ⟨rfl, fun h => by cases h⟩
theorem wordsX_good (x : OpX) : ∀ w, w ∈ wordsX x → w ≠ [] ∧ ∀ y, y ∈ w → goodB y := by
  intro w hw
  obtain ⟨j, _, rfl⟩ := List.mem_map.1 hw
  exact ⟨prnL_ne _, prnL_good _⟩
theorem words_text (x : OpX) : wordsL (textX x) = wsX x := by
  unfold textX
  rw [words_join _ (wordsX_good x)]
  unfold wordsX wsX
  rw [List.map_map]
  rfl
def linesX : Nat → List OpX → List (Nat × List UInt8)
  | _, [] => []
  | k, x :: t => (k, textX x) :: linesX (k + 1) t
def rowsX : Nat → List OpX → List (Nat × List ByteArray)
  | _, [] => []
  | k, x :: t => (k, wsX x) :: rowsX (k + 1) t
theorem textX_no (x : OpX) : (10 : UInt8) ∉ textX x := fun hm =>
  joinB_good (P := fun y => y ≠ 10) (by decide) (wordsX x) (fun w hw y hy e => by
    have := (wordsX_good x w hw).2 y hy
    rw [e] at this
    exact absurd this.1 (by decide)) 10 hm rfl
theorem linesX_of : ∀ (L : List OpX) (k : Nat), LinesOf k (linesX k L) (printX L)
  | [], _ => rfl
  | x :: t, k => by
    have e : printX (x :: t) = textX x ++ 10 :: printX t := by show textX x ++ [10] ++ printX t = _; simp
    have hc := cutAt_split 10 (printX t) (textX x) (textX_no x)
    refine ⟨rfl, by rw [e]; simp, by rw [e, hc], ?_⟩
    rw [e, hc]
    exact linesX_of t (k + 1)
theorem rowsX_of : ∀ (L : List OpX) (k : Nat), rowsOf (linesX k L) = rowsX k L
  | [], _ => rfl
  | x :: t, k => by
    show (if (wordsL (textX x)).length = 0 then [] else [(k, wordsL (textX x))]) ++ rowsOf (linesX (k + 1) t) = _
    rw [words_text, if_neg (by simp [wsX]), rowsX_of t (k + 1)]
    rfl
theorem linesX_len : ∀ (L : List OpX) (k : Nat), (linesX k L).length = L.length
  | [], _ => rfl
  | x :: t, k => by show (linesX (k + 1) t).length + 1 = _; rw [linesX_len t]; rfl
theorem rowsX_len : ∀ (L : List OpX) (k : Nat), (rowsX k L).length = L.length
  | [], _ => rfl
  | x :: t, k => by show (rowsX (k + 1) t).length + 1 = _; rw [rowsX_len t]; rfl
theorem linesX_mem : ∀ (L : List OpX) (k : Nat) (y : Nat × List UInt8), y ∈ linesX k L → ∃ x, x ∈ L ∧ y.2 = textX x
  | [], _, y, h => by cases h
  | x :: t, k, y, h => by
    rcases List.mem_cons.1 h with rfl | h
    · exact ⟨x, List.mem_cons_self, rfl⟩
    · obtain ⟨d, hd, e⟩ := linesX_mem t (k + 1) y h
      exact ⟨d, List.mem_cons_of_mem _ hd, e⟩
theorem rowsX_at : ∀ (L : List OpX) (k i : Nat) (x : OpX), L[i]? = some x → (rowsX k L)[i]? = some (k + i, wsX x)
  | [], k, i, x, h => by simp at h
  | y :: t, k, 0, x, h => by
    simp at h
    subst h
    rfl
  | y :: t, k, i + 1, x, h => by
    have := rowsX_at t (k + 1) i x (by simpa using h)
    show (rowsX (k + 1) t)[i]? = _
    rw [this, show k + 1 + i = k + (i + 1) by omega]
/-- Right, in pure words. -/
def rightH (L : List OpX) : Bool := L.all singleP && ordP L
theorem ordered_l (w : World) (a : Option Addr) (n c : Nat) (L : List OpX) (h : OpsArg w a n L) (hn : n ≤ 1000000) :
    Calls Try.prog 11 #[.slice a n c] w fun e w' => e = .returned (.bool (ordP L)) ∧ Below w.heap.size w w' := by
  rcases Nat.eq_zero_or_pos n with rfl | hp
  · obtain rfl := List.length_eq_zero_iff.1 h.len
    exact ordered_none w a c
  · obtain ⟨b, off, rfl, hl, hc⟩ := h.lies hp
    exact ordered_some w b off n c L h.len hn hl hc h.ok
set_option maxRecDepth 100000 in
set_option maxHeartbeats 4000000 in
theorem hright_any (w : World) (a : Option Addr) (n c : Nat) (L : List OpX) (h : OpsArg w a n L) (hn : n ≤ 1000) :
    Calls Try.prog 5 #[.slice a n c] w fun e w' => e = .returned (.bool (rightH L)) ∧ Below w.heap.size w w' := by
  have HH := Lib.hid h
  clear h
  go_enter Try.func5, Try.ntmps5
  go_wp2_with fail
  go_loopw [7] (fun i wr => ∃ k : Nat, k ≤ n ∧ i = .int .i64 (k : Int) ∧ (∀ j x, j < k → L[j]? = some x → singleP x = true) ∧ Below w.heap.size w wr) (fun i _ => n - (intOf i).toNat)
  case atStart => exact ⟨0, by omega, rfl, fun j x hj => by omega, Below.refl _ _⟩
  case round =>
    obtain ⟨k, hk, rfl, hall, hB⟩ := hrel
    have HB := Lib.hid hB
    have hsz := hB.size
    have HA := Lib.hid hall
    clear hB hall
    by_cases hlt : k < n
    · obtain ⟨b, off, rfl, hb, hops⟩ := HH.out.lies (by omega)
      obtain ⟨x, hx⟩ : ∃ x, L[k]? = some x := ⟨_, List.getElem?_eq_getElem (by rw [HH.out.len]; exact hlt)⟩
      have hrng := range_below (hops k x hx) HB.out hb
      have c0 : wr.cell? ⟨b, off + k * 17, none⟩ = some (.int .i64 (x 0)) := hrng 0 _ rfl
      have c1 : wr.cell? ⟨b, off + k * 17 + 1, none⟩ = some (.int .i64 (x 1)) := hrng 1 _ rfl
      have c2 : wr.cell? ⟨b, off + k * 17 + 2, none⟩ = some (.int .i64 (x 2)) := hrng 2 _ rfl
      have c3 : wr.cell? ⟨b, off + k * 17 + 3, none⟩ = some (.int .i64 (x 3)) := hrng 3 _ rfl
      have c4 : wr.cell? ⟨b, off + k * 17 + 4, none⟩ = some (.int .u32 (x 4)) := hrng 4 _ rfl
      have c5 : wr.cell? ⟨b, off + k * 17 + 5, none⟩ = some (.int .u32 (x 5)) := hrng 5 _ rfl
      have c6 : wr.cell? ⟨b, off + k * 17 + 6, none⟩ = some (.int .u32 (x 6)) := hrng 6 _ rfl
      have c7 : wr.cell? ⟨b, off + k * 17 + 7, none⟩ = some (.int .u32 (x 7)) := hrng 7 _ rfl
      have c8 : wr.cell? ⟨b, off + k * 17 + 8, none⟩ = some (.int .u32 (x 8)) := hrng 8 _ rfl
      have c9 : wr.cell? ⟨b, off + k * 17 + 9, none⟩ = some (.int .i64 (x 9)) := hrng 9 _ rfl
      have c10 : wr.cell? ⟨b, off + k * 17 + 10, none⟩ = some (.int .u32 (x 10)) := hrng 10 _ rfl
      have c11 : wr.cell? ⟨b, off + k * 17 + 11, none⟩ = some (.int .u32 (x 11)) := hrng 11 _ rfl
      have c12 : wr.cell? ⟨b, off + k * 17 + 12, none⟩ = some (.int .u32 (x 12)) := hrng 12 _ rfl
      have c13 : wr.cell? ⟨b, off + k * 17 + 13, none⟩ = some (.int .u32 (x 13)) := hrng 13 _ rfl
      have c14 : wr.cell? ⟨b, off + k * 17 + 14, none⟩ = some (.bool (decide (x 14 = 1))) := hrng 14 _ rfl
      have c15 : wr.cell? ⟨b, off + k * 17 + 15, none⟩ = some (.int .i64 (x 15)) := hrng 15 _ rfl
      have c16 : wr.cell? ⟨b, off + k * 17 + 16, none⟩ = some (.int .i64 (x 16)) := hrng 16 _ rfl
      have HS := Lib.hid (fun W => single_any W x)
      have HX := Lib.hid hx
      have HR9 := Lib.hid (range_new wr x)
      clear hrng hops hx
      have dk : decide (k < n) = true := decide_eq_true hlt
      cases hs : singleP x with
      | false =>
        rw [hs] at HS
        have HF := Lib.hid (show rightH L = false by
          unfold rightH
          rw [show L.all singleP = false from List.all_eq_false.2 ⟨x, List.mem_of_getElem? HX.out, by simp [hs]⟩]
          rfl)
        go_wp2_with (refine wpList_load_mid rfl 38 _ rfl wr.heap.size 0 rfl (opL x) _ HR9.out Try.underlying38 rfl op_info ?_)
        refine (HS.out _).mono ?_
        rintro e1 w1 ⟨rfl, k1⟩
        have HB1 := Lib.hid (HB.out.trans (((Below.refl _ wr).alloc (Nat.le_refl _) _ |>.trans (k1.none.mono (by rw [World.size_alloc]; omega))).mono hsz))
        clear k1 c0 c1 c2 c3 c4 c5 c6 c7 c8 c9 c10 c11 c12 c13 c14 c15 c16
        go_wp2_with fail
        go_ret
        exact ⟨by rw [HF.out]; rfl, HB1.out⟩
      | true =>
        rw [hs] at HS
        go_wp2_with (refine wpList_load_mid rfl 38 _ rfl wr.heap.size 0 rfl (opL x) _ HR9.out Try.underlying38 rfl op_info ?_)
        refine (HS.out _).mono ?_
        rintro e1 w1 ⟨rfl, k1⟩
        have HB1 := Lib.hid (HB.out.trans (((Below.refl _ wr).alloc (Nat.le_refl _) _ |>.trans (k1.none.mono (by rw [World.size_alloc]; omega))).mono hsz))
        clear k1 c0 c1 c2 c3 c4 c5 c6 c7 c8 c9 c10 c11 c12 c13 c14 c15 c16
        go_wp2_with fail
        go_roundw
        case rel => exact ⟨k + 1, by omega, by go_num, fun j y hj hy => by
          by_cases e : j = k
          · subst e
            obtain rfl := Option.some.inj (HX.out.symm.trans hy)
            exact hs
          · exact HA.out j y (by omega) hy, HB1.out⟩
        case measure => simp [intOf]; omega
    · obtain rfl : k = n := by omega
      have HO := Lib.hid (ordered_l wr a k c L (HH.out.below HB.out) (by omega))
      have HF := Lib.hid (show rightH L = ordP L by
        unfold rightH
        rw [show L.all singleP = true from List.all_eq_true.2 fun x hx => by
          obtain ⟨j, hj, rfl⟩ := List.getElem_of_mem hx
          exact HA.out j _ (by have := HH.out.len; omega) (List.getElem?_eq_getElem hj)]
        rfl)
      have dk : decide (k < k) = false := decide_eq_false (by omega)
      go_wp2_with fail
      refine HO.out.mono ?_
      rintro e1 w1 ⟨rfl, b1⟩
      have HB1 := Lib.hid (HB.out.trans (b1.mono hsz))
      clear b1
      go_wp2_with fail
      go_ret
      exact ⟨by rw [HF.out]; rfl, HB1.out⟩
theorem eq_calls (k o v0 v1 v2 v3 n : Int) (w : World) : (Op.equalIn (9997 + 1 + 1) 34 (.agg #[.int .i64 k, .int .i64 o, .int .u32 v0, .int .u32 v1, .int .u32 v2, .int .u32 v3, .int .u32 n]) (.agg #[.int .i64 k, .int .i64 o, .int .u32 v0, .int .u32 v1, .int .u32 v2, .int .u32 v3, .int .u32 n])).run Try.prog w = .ok true w := by
  have u3 := Try.underlying3
  have u4 := Try.underlying30
  have a3 := Try.isAgg3
  have a4 := Try.isAgg30
  have a5 := Try.isAgg32
  have z3 := Try.sizeOf3
  have z4 := Try.sizeOf30
  have z5 := Try.sizeOf32
  have hS : Try.prog.underlying 34 = some (.struct (Try.prog.fieldsOf 34)) := by kernel_rfl
  have hp : Try.prog.stoodInHeld 34 = false := by kernel_rfl
  have hv := fun w => eq_val 9996 v0 v1 v2 v3 v0 v1 v2 v3 w
  have h4 : eq4 v0 v1 v2 v3 v0 v1 v2 v3 = true := by unfold eq4; simp
  rw [h4] at hv
  rw [show (9997 + 1 + 1 : Nat) = 9998 + 1 from rfl, run_equalIn_agg w 9998 34 _ _ hS hp]
  simp only [Program.fieldsOf, Try.underlying34]
  go_simp
theorem eq_resz (f a b c d : Int) (w : World) : (Op.equalIn (9997 + 1 + 1) 36 (.agg #[.int .i64 f, .int .u32 a, .int .u32 b, .int .u32 c, .int .u32 d]) (.agg #[.int .i64 f, .int .u32 a, .int .u32 b, .int .u32 c, .int .u32 d])).run Try.prog w = .ok true w := by
  have u3 := Try.underlying25
  have a3 := Try.isAgg25
  have a5 := Try.isAgg32
  have z3 := Try.sizeOf25
  have z5 := Try.sizeOf32
  have hS : Try.prog.underlying 36 = some (.struct (Try.prog.fieldsOf 36)) := by kernel_rfl
  have hp : Try.prog.stoodInHeld 36 = false := by kernel_rfl
  have hv := fun w => eq_val 9996 a b c d a b c d w
  have h4 : eq4 a b c d a b c d = true := by unfold eq4; simp
  rw [h4] at hv
  rw [show (9997 + 1 + 1 : Nat) = 9998 + 1 from rfl, run_equalIn_agg w 9998 36 _ _ hS hp]
  simp only [Program.fieldsOf, Try.underlying36]
  go_simp
end Go.Proofs.Ytakaclkhnajpeaa
