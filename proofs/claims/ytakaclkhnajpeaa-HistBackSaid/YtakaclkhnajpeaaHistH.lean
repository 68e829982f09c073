import Derived.Test.YtakaclkhnajpeaaHistG
import Derived.Test.YtakaclkhnajpeaaHistC
namespace Go.Proofs.Ytakaclkhnajpeaa
open Go.ChangeShapes Go.WideShapes Go.ChangeAt Go.RowKit
set_option linter.unusedVariables false
set_option linter.unusedSimpArgs false
theorem range_new (wr : World) (x : OpX) : (wr.alloc (.cells #[.int .i64 (x 0), .int .i64 (x 1), .int .i64 (x 2), .int .i64 (x 3), .int .u32 (x 4), .int .u32 (x 5), .int .u32 (x 6), .int .u32 (x 7), .int .u32 (x 8), .int .i64 (x 9), .int .u32 (x 10), .int .u32 (x 11), .int .u32 (x 12), .int .u32 (x 13), .bool (decide (x 14 = 1)), .int .i64 (x 15), .int .i64 (x 16)] 38)).rangeAt wr.heap.size 0 (opL x) := fun j v hv => by
  rw [cell_of (heap_new wr (.cells #[.int .i64 (x 0), .int .i64 (x 1), .int .i64 (x 2), .int .i64 (x 3), .int .u32 (x 4), .int .u32 (x 5), .int .u32 (x 6), .int .u32 (x 7), .int .u32 (x 8), .int .i64 (x 9), .int .u32 (x 10), .int .u32 (x 11), .int .u32 (x 12), .int .u32 (x 13), .bool (decide (x 14 = 1)), .int .i64 (x 15), .int .i64 (x 16)] 38)) (0 + j), show 0 + j = j by omega]
  simpa [opL] using hv
/-- A history as an argument. -/
structure OpsArg (w : World) (a : Option Addr) (n : Nat) (L : List OpX) : Prop where
  len : L.length = n
  ok : ∀ x, x ∈ L → OpOk x
  lies : 0 < n → ∃ b off, a = some ⟨b, off, none⟩ ∧ b < w.heap.size ∧ OpsIn w b off L
theorem OpsArg.below {w w' : World} {a : Option Addr} {n : Nat} {L : List OpX} (h : OpsArg w a n L) (hb : Below w.heap.size w w') : OpsArg w' a n L :=
  ⟨h.len, h.ok, fun hn => by
    obtain ⟨b, off, e, hl, hc⟩ := h.lies hn
    exact ⟨b, off, e, Nat.lt_of_lt_of_le hl hb.size, fun k x hk => range_below (hc k x hk) hb hl⟩⟩
/-- The rows' own block: k of them have their words. -/
structure LB (w wr : World) (n : Nat) (A : Nat → Nat) (L : List OpX) (k : Nat) : Prop where
  blk : ∃ cs : Array Value, wr.heap[w.heap.size]? = some (.cells cs 45 (0, 0)) ∧ cs.size = n * 2 ∧ (∀ i, i < n → cs[i * 2]? = some (.int .i64 0)) ∧ ∀ i, i < k → cs[i * 2 + 1]? = some (.slice (some ⟨A i, 0, none⟩) 17 17)
  words : ∀ i x, i < k → L[i]? = some x → WordsAt wr (A i) (wsX x)
  lt : ∀ i, i < k → w.heap.size < A i ∧ A i < wr.heap.size
  below : Below w.heap.size w wr
theorem LB.next {w wr w' : World} {n k g : Nat} {A : Nat → Nat} {L : List OpX} {x : OpX} (h : LB w wr n A L k) (hk : k < n) (hx : L[k]? = some x) (hb : Below wr.heap.size wr w') (hg : wr.heap.size ≤ g) (hw : WordsAt w' g (wsX x)) :
    LB w (w'.setCell ⟨w.heap.size, k * 2 + 1, none⟩ (.slice (some ⟨g, 0, none⟩) 17 17)) n (fun i => if i = k then g else A i) L (k + 1) := by
  obtain ⟨cs, hcs, hsz, h0, h1⟩ := h.blk
  have hl := lt_of hcs
  have hcs' := (hb.block _ hl).trans hcs
  refine ⟨⟨cs.setIfInBounds (k * 2 + 1) (.slice (some ⟨g, 0, none⟩) 17 17), heap_set hcs' _ _, by simpa using hsz, fun i hi => ?_, fun i hi => ?_⟩, fun i y hi hy => ?_, fun i hi => ?_, ?_⟩
  · rw [Array.getElem?_setIfInBounds_ne (by omega)]
    exact h0 i hi
  · by_cases e : i = k
    · subst e
      rw [if_pos rfl, Array.getElem?_setIfInBounds_self_of_lt (by omega)]
    · rw [if_neg e, Array.getElem?_setIfInBounds_ne (by omega)]
      exact h1 i (by omega)
  · by_cases e : i = k
    · subst e
      obtain rfl := Option.some.inj (hx.symm.trans hy)
      rw [if_pos rfl]
      exact hw.of fun o ho => heap_other ho (by show g ≠ w.heap.size; omega) _
    · rw [if_neg e]
      have hA := h.lt i (by omega)
      exact (h.words i y (by omega) hy).of fun o ho => heap_other ((hb.block _ hA.2).trans ho) (by show A i ≠ w.heap.size; omega) _
  · by_cases e : i = k
    · subst e
      rw [if_pos rfl]
      exact ⟨by omega, by simp [World.setCell]; exact hw.lt⟩
    · rw [if_neg e]
      have hA := h.lt i (by omega)
      exact ⟨hA.1, by simp [World.setCell]; exact Nat.lt_of_lt_of_le hA.2 hb.size⟩
  · exact (h.below.trans (hb.mono h.below.size)).setCell (p := ⟨w.heap.size, k * 2 + 1, none⟩) (Nat.le_refl _) _
theorem LB.start (w : World) (n : Nat) (L : List OpX) : LB w (w.alloc (.cells (madeCells #[.int .i64 0, .slice none 0 0] (n * 2)) 45)) n (fun _ => 0) L 0 :=
  ⟨⟨_, heap_new w _, size_madeCells _ _, fun i hi => by
    unfold madeCells
    rw [Array.getElem?_map, Array.getElem?_range, if_pos (by omega)]
    simp, fun i hi => by omega⟩, fun i x hi => by omega, fun i hi => by omega, (Below.refl _ w).alloc (Nat.le_refl _) _⟩
theorem LB.rows {w wr : World} {n : Nat} {A : Nat → Nat} {L : List OpX} (h : LB w wr n A L n) (hL : L.length = n) : RowsX wr w.heap.size A L n := by
  obtain ⟨cs, hcs, hsz, h0, h1⟩ := h.blk
  exact ⟨fun i hi => (cell_of hcs (i * 2)).trans (h0 i (by omega)), fun i hi => (cell_of hcs (i * 2 + 1)).trans (h1 i hi), fun i x hi hx => h.words i x hi hx, fun i hi => (h.lt i hi).2⟩
set_option maxRecDepth 100000 in
set_option maxHeartbeats 4000000 in
theorem hprint_any (w : World) (a : Option Addr) (n c : Nat) (L : List OpX) (h : OpsArg w a n L) (hn : n ≤ 1000) :
    Calls Try.prog 7 #[.slice a n c] w fun e w' => e = .returned (.string ⟨(printX L).toArray⟩) ∧ Below w.heap.size w w' := by
  have HH := Lib.hid h
  clear h
  have hmk := fun w => make_rows w n hn
  have LS := Lib.hid (LB.start w n L)
  go_enter Try.func7, Try.ntmps7
  go_wp2_with fail
  go_loopw [4, 5, 11] (fun _ _ i wr => ∃ (k : Nat) (A : Nat → Nat), k ≤ n ∧ i = .int .i64 (k : Int) ∧ LB w wr n A L k) (fun _ _ i _ => n - (intOf i).toNat)
  case atStart => exact ⟨0, fun _ => 0, by omega, rfl, LS.out⟩
  case round =>
    clear LS
    obtain ⟨k, A, hk, rfl, hlb⟩ := hrel
    have HB := Lib.hid hlb
    have hsz := hlb.below.size
    clear hlb
    by_cases hlt : k < n
    · obtain ⟨b, off, rfl, hb, hops⟩ := HH.out.lies (by omega)
      obtain ⟨x, hx⟩ : ∃ x, L[k]? = some x := ⟨_, List.getElem?_eq_getElem (by rw [HH.out.len]; exact hlt)⟩
      have hrng := range_below (hops k x hx) HB.out.below hb
      have c0 : wr.cell? ⟨b, off + k * 17, none⟩ = some (.int .i64 (x 0)) := hrng 0 _ rfl
      have c1 : wr.cell? ⟨b, off + k * 17 + 1, none⟩ = some (.int .i64 (x 1)) := hrng 1 _ rfl
      have c2 : wr.cell? ⟨b, off + k * 17 + 2, none⟩ = some (.int .i64 (x 2)) := hrng 2 _ rfl
      have c3 : wr.cell? ⟨b, off + k * 17 + 3, none⟩ = some (.int .i64 (x 3)) := hrng 3 _ rfl
      have c4 : wr.cell? ⟨b, off + k * 17 + 4, none⟩ = some (.int .u32 (x 4)) := hrng 4 _ rfl
      have c5 : wr.cell? ⟨b, off + k * 17 + 5, none⟩ = some (.int .u32 (x 5)) := hrng 5 _ rfl
      have c6 : wr.cell? ⟨b, off + k * 17 + 6, none⟩ = some (.int .u32 (x 6)) := hrng 6 _ rfl
      have c7 : wr.cell? ⟨b, off + k * 17 + 7, none⟩ = some (.int .u32 (x 7)) := hrng 7 _ rfl
      have c8 : wr.cell? ⟨b, off + k * 17 + 8, none⟩ = some (.int .u32 (x 8)) := hrng 8 _ rfl
      have c9 : wr.cell? ⟨b, off + k * 17 + 9, none⟩ = some (.int .i64 (x 9)) := hrng 9 _ rfl
      have c10 : wr.cell? ⟨b, off + k * 17 + 10, none⟩ = some (.int .u32 (x 10)) := hrng 10 _ rfl
      have c11 : wr.cell? ⟨b, off + k * 17 + 11, none⟩ = some (.int .u32 (x 11)) := hrng 11 _ rfl
      have c12 : wr.cell? ⟨b, off + k * 17 + 12, none⟩ = some (.int .u32 (x 12)) := hrng 12 _ rfl
      have c13 : wr.cell? ⟨b, off + k * 17 + 13, none⟩ = some (.int .u32 (x 13)) := hrng 13 _ rfl
      have c14 : wr.cell? ⟨b, off + k * 17 + 14, none⟩ = some (.bool (decide (x 14 = 1))) := hrng 14 _ rfl
      have c15 : wr.cell? ⟨b, off + k * 17 + 15, none⟩ = some (.int .i64 (x 15)) := hrng 15 _ rfl
      have c16 : wr.cell? ⟨b, off + k * 17 + 16, none⟩ = some (.int .i64 (x 16)) := hrng 16 _ rfl
      have HW := Lib.hid (fun W => wordsof_any W x (HH.out.ok x (List.mem_of_getElem? hx)))
      have HX := Lib.hid hx
      have HR9 := Lib.hid (range_new wr x)
      clear hrng hops hx
      have dk : decide (k < n) = true := decide_eq_true hlt
      go_wp2_with (refine wpList_load_mid rfl 38 _ rfl wr.heap.size 0 rfl (opL x) _ HR9.out Try.underlying38 rfl op_info ?_)
      refine (HW.out _).mono ?_
      rintro e1 w1 ⟨g, rfl, hg, hw, hb1⟩
      rw [World.size_alloc] at hg
      have hbx : Below wr.heap.size wr w1 := ((Below.refl _ wr).alloc (Nat.le_refl _) (.cells #[.int .i64 (x 0), .int .i64 (x 1), .int .i64 (x 2), .int .i64 (x 3), .int .u32 (x 4), .int .u32 (x 5), .int .u32 (x 6), .int .u32 (x 7), .int .u32 (x 8), .int .i64 (x 9), .int .u32 (x 10), .int .u32 (x 11), .int .u32 (x 12), .int .u32 (x 13), .bool (decide (x 14 = 1)), .int .i64 (x 15), .int .i64 (x 16)] 38)).trans (hb1.mono (by rw [World.size_alloc]; omega))
      have HN := Lib.hid (HB.out.next hlt HX.out hbx (by omega) hw)
      obtain ⟨cs, hcs, hcz, _, _⟩ := HB.out.blk
      have hcs1 := (hbx.block _ (lt_of hcs)).trans hcs
      obtain ⟨u, cu⟩ : ∃ u, w1.cell? ⟨w.heap.size, k * 2 + 1, none⟩ = some u := ⟨_, (cell_of hcs1 (k * 2 + 1)).trans (Array.getElem?_eq_getElem (by omega))⟩
      have fu := free_of hcs1 (k * 2 + 1)
      clear c0 c1 c2 c3 c4 c5 c6 c7 c8 c9 c10 c11 c12 c13 c14 c15 c16 hw hb1 hbx hcs hcs1
      go_wp2_with fail
      go_roundw
      case rel => exact ⟨k + 1, _, by omega, by go_num, HN.out⟩
      case measure => simp [intOf]; omega
    · obtain rfl : k = n := by omega
      have hlw : w.heap.size < wr.heap.size := by obtain ⟨cs, hcs, _⟩ := HB.out.blk; exact lt_of hcs
      have HP := Lib.hid (rowsprint_any wr w.heap.size k k A L HH.out.len hn HH.out.ok hlw (HB.out.rows HH.out.len))
      have dk : decide (k < k) = false := decide_eq_false (by omega)
      go_wp2_with fail
      refine HP.out.mono ?_
      rintro e1 w1 ⟨rfl, b1⟩
      have HF := Lib.hid (HB.out.below.trans (b1.mono hsz))
      clear b1
      go_wp2_with fail
      go_ret
      exact ⟨rfl, HF.out⟩
end Go.Proofs.Ytakaclkhnajpeaa
