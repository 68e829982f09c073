import Derived.Test.YtakaclkhnajpeaaHistF
import Derived.Test.YtakaclkhnajpeaaBackA
import Derived.Test.YtakaclkhnajpeaaBld
import Derived.Test.YtakaclkhnajpeaaBldB
import Derived.Test.YtakaclkhnajpeaaRowE
import Derived.Lib.Join
namespace Go.Proofs.Ytakaclkhnajpeaa
open Go.ChangeShapes Go.WideShapes Go.ChangeAt Go.RowKit
set_option linter.unusedVariables false
set_option linter.unusedSimpArgs false
def wordsX (x : OpX) : List (List UInt8) := (List.range 17).map fun j => prnL (x j)
/-- A call's line. -/
def textX (x : OpX) : List UInt8 := joinB (wordsX x)
def printX : List OpX → List UInt8
  | [] => []
  | x :: t => textX x ++ [10] ++ printX t
theorem join_blank : ∀ (ws : List (List UInt8)), Lib.join ws [32] = joinB ws
  | [] => rfl
  | [w] => Lib.join_one w [32]
  | w :: v :: t => by
    rw [Lib.join_cons]
    have ih := join_blank (v :: t)
    rw [Lib.join_cons] at ih
    show w ++ Lib.joinTail [32] (v :: t) = w ++ 32 :: joinB (v :: t)
    rw [← ih]
    simp [Lib.joinTail]
theorem wsX_data (x : OpX) : (wsX x).map (·.data.toList) = wordsX x := by
  unfold wsX wordsX
  rw [List.map_map]
  rfl
theorem joinB_len (k : Nat) : ∀ (ws : List (List UInt8)), (∀ w, w ∈ ws → w.length ≤ k) → (joinB ws).length ≤ ws.length * (k + 1)
  | [], _ => by simp [joinB]
  | [w], h => by have := h w (List.mem_singleton.2 rfl); show w.length ≤ _; simp; omega
  | w :: v :: t, h => by
    have h1 := h w List.mem_cons_self
    have ih := joinB_len k (v :: t) fun u hu => h u (List.mem_cons_of_mem _ hu)
    show (w ++ 32 :: joinB (v :: t)).length ≤ _
    rw [List.length_append, List.length_cons, List.length_cons, Nat.succ_mul]
    omega
theorem textX_len (x : OpX) (h : ∀ j, j < 17 → i64B (x j)) : (textX x).length ≤ 374 := by
  have := joinB_len 21 (wordsX x) fun w hw => by
    obtain ⟨j, hj, rfl⟩ := List.mem_map.1 hw
    exact prnL_len (h j (List.mem_range.1 hj))
  have e : (wordsX x).length = 17 := by simp [wordsX]
  unfold textX
  omega
theorem OpOk.all {x : OpX} (hx : OpOk x) : ∀ j, j < 17 → i64B (x j) := fun j hj => by
  by_cases h : j < 4 ∨ j = 9 ∨ 14 < j
  · exact hx.i j h hj
  · by_cases h14 : j = 14
    · subst h14
      unfold i64B
      rcases hx.d with q | q <;> omega
    · have q := hx.u j (by omega) (by omega) (by omega)
      unfold u32B at q
      unfold i64B
      omega
theorem printX_len : ∀ (L : List OpX), (∀ x, x ∈ L → OpOk x) → (printX L).length ≤ L.length * 375
  | [], _ => Nat.le_refl _
  | x :: t, h => by
    have h1 := textX_len x (h x List.mem_cons_self).all
    have h2 := printX_len t fun y hy => h y (List.mem_cons_of_mem _ hy)
    show (textX x ++ [10] ++ printX t).length ≤ _
    rw [List.length_append, List.length_append, List.length_singleton, List.length_cons, Nat.succ_mul]
    omega
/-- Rows that wait to be printed: N is 0, the words of row i lie at A i. -/
structure RowsX (w : World) (g : Nat) (A : Nat → Nat) (L : List OpX) (k : Nat) : Prop where
  zero : ∀ i, i < L.length → w.cell? ⟨g, i * 2, none⟩ = some (.int .i64 0)
  cell : ∀ i, i < k → w.cell? ⟨g, i * 2 + 1, none⟩ = some (.slice (some ⟨A i, 0, none⟩) 17 17)
  words : ∀ i x, i < k → L[i]? = some x → WordsAt w (A i) (wsX x)
  lt : ∀ i, i < k → A i < w.heap.size
set_option maxRecDepth 100000 in
set_option maxHeartbeats 4000000 in
theorem rowsprint_any (w : World) (g n c : Nat) (A : Nat → Nat) (L : List OpX) (hL : L.length = n) (hn : n ≤ 1000) (hok : ∀ x, x ∈ L → OpOk x) (hg : g < w.heap.size) (hr : RowsX w g A L n) :
    Calls Try.prog 15 #[.slice (some ⟨g, 0, none⟩) n c] w fun e w' => e = .returned (.string ⟨(printX L).toArray⟩) ∧ Below w.heap.size w w' := by
  have HR := Lib.hid hr
  have HL := Lib.hid hL
  have HOK := Lib.hid hok
  clear hr hL hok
  go_enter Try.func15, Try.ntmps15
  go_wp2_with fail
  go_loopw [8] (fun i wr => ∃ (k : Nat) (T : List UInt8), k ≤ n ∧ i = .int .i64 (k : Int) ∧ T.length ≤ k * 375 ∧ printX L = T ++ printX (L.drop k) ∧ Lib.IsBuilder 73 5 w.heap.size w.heap.size (Lib.byteCells T) wr ∧ Below w.heap.size w wr) (fun i _ => n - (intOf i).toNat)
  case atStart => exact ⟨0, [], by omega, rfl, Nat.zero_le _, rfl, builder_new w _ _, (Below.refl w.heap.size w).alloc (Nat.le_refl _) _⟩
  case round =>
    obtain ⟨k, T, hk, rfl, hT, hall, hbld, hbel⟩ := hrel
    have hsz := hbel.size
    have hTl := byteCells_len T
    have HB := Lib.hid (And.intro hbld hbel)
    by_cases hlt : k < n
    · obtain ⟨x, hx⟩ : ∃ x, L[k]? = some x := ⟨_, List.getElem?_eq_getElem (by rw [HL.out]; exact hlt)⟩
      have hxm : x ∈ L := List.mem_of_getElem? hx
      have hdrop : L.drop k = x :: L.drop (k + 1) := by
        rw [List.drop_eq_getElem_cons (by rw [HL.out]; exact hlt)]
        congr 1
        rw [List.getElem?_eq_getElem (by rw [HL.out]; exact hlt)] at hx
        exact Option.some.inj hx
      have HA := Lib.hid (show printX L = T ++ textX x ++ [10] ++ printX (L.drop (k + 1)) by rw [hall, hdrop]; show T ++ (textX x ++ [10] ++ _) = _; simp)
      have hpl := textX_len x (HOK.out x hxm).all
      have HPZ := Lib.hid (str_size (textX x))
      have HPS := Lib.hid (strCells_mk (textX x))
      have c0 : wr.cell? ⟨g, k * 2, none⟩ = some (.int .i64 0) := (hbel.cell (p := ⟨g, k * 2, none⟩) hg).trans (HR.out.zero k (by rw [HL.out]; exact hlt))
      have c1 : wr.cell? ⟨g, k * 2 + 1, none⟩ = some (.slice (some ⟨A k, 0, none⟩) 17 17) := (hbel.cell (p := ⟨g, k * 2 + 1, none⟩) hg).trans (HR.out.cell k hlt)
      have hAl := HR.out.lt k hlt
      have HJ := Lib.hid (fun W (hb : Below w.heap.size w W) => show Calls Try.prog 24 #[.slice (some ⟨A k, 0, none⟩) 17 17, .string ⟨#[32]⟩] W fun e w' => e = .returned (.string ⟨(textX x).toArray⟩) ∧ Below W.heap.size W w' by
        have hw := (HR.out.words k x hlt hx).below hb hAl
        have h := Try.strings_Join (A k) 0 17 (wsX x) ⟨#[32]⟩ W (fun j y hj => by rw [show 0 + j = j by omega]; exact hw.cell j y hj) (Nat.lt_of_lt_of_le hAl hb.size) (by simp [wsX]) (by simp [wsX]) (by
          rw [wsX_data]
          show (Lib.join (wordsX x) [32]).length ≤ _
          rw [join_blank]
          show (textX x).length ≤ _
          omega)
        rw [wsX_data] at h
        have e : Lib.join (wordsX x) (ByteArray.mk #[32]).data.toList = textX x := join_blank (wordsX x)
        rw [e, show (wsX x).length = 17 by simp [wsX]] at h
        exact h)
      clear hx hxm hdrop hall hbld hbel
      generalize textX x = P at HPZ HPS HA hpl HJ
      go_wp2_with fail
      have hba := Lib.hid (show Below w.heap.size w (wr.alloc (.cells #[.int .i64 0, .slice (some ⟨A k, 0, none⟩) 17 17] 45)) from HB.out.2.alloc hsz _)
      refine (HJ.out _ hba.out).mono ?_
      rintro e1 w1 ⟨rfl, hb1⟩
      have hbx : Below wr.heap.size wr w1 := ((Below.refl _ wr).alloc (Nat.le_refl _) (.cells #[.int .i64 0, .slice (some ⟨A k, 0, none⟩) 17 17] 45)).trans (hb1.mono (by rw [World.size_alloc]; omega))
      have HS := Lib.hid (And.intro (builder_keeps HB.out.1 (show Keeps (fun _ => False) wr w1 from ⟨hbx.os, hbx.tape, hbx.output, hbx.size, fun j hj _ => hbx.block j hj⟩)) (HB.out.2.trans (hbx.mono hsz)))
      have hz1 : w.heap.size ≤ w1.heap.size := Nat.le_trans hsz hbx.size
      clear c0 c1 hb1 hbx hba
      go_wp2_with fail
      refine (writes_any _ _ _ _ _ HS.out.1 (by rw [hTl, HPZ.out]; omega) hz1).mono ?_
      rintro e2 w2 ⟨rfl, hb2, k2⟩
      have HB2 := Lib.hid (And.intro (Or.inr hb2 : Lib.IsBuilder 73 5 w.heap.size w.heap.size _ w2) (HS.out.2.trans k2))
      have hz2 := Nat.le_trans hz1 k2.size
      clear hb2 k2
      go_wp2_with fail
      refine (writeb_any _ _ _ _ _ HB2.out.1 (by rw [List.length_append, hTl, HPS.out, byteCells_len]; omega) hz2).mono ?_
      rintro e3 w3 ⟨rfl, hb3, k3⟩
      have HB3 := Lib.hid (And.intro (Or.inr hb3 : Lib.IsBuilder 73 5 w.heap.size w.heap.size _ w3) (HB2.out.2.trans k3))
      clear hb3 k3
      go_wp2_with fail
      go_roundw
      case rel => exact ⟨k + 1, T ++ P ++ [10], hlt, by go_num, by rw [List.length_append, List.length_append, List.length_singleton]; omega, HA.out, by have h := HB3.out.1; rw [HPS.out] at h; rw [byteCells_app, byteCells_app]; exact h, HB3.out.2⟩
      case measure => simp [intOf]; omega
    · obtain rfl : k = n := by omega
      have HF := Lib.hid (show printX L = T by rw [hall, List.drop_of_length_le (by rw [HL.out]; exact Nat.le_refl _)]; simp [printX])
      clear hbld hbel hall
      go_wp2_with fail
      refine (Try.Builder_String_any _ _ _ _ HB.out.1 hsz).mono ?_
      rintro e2 w2 ⟨rfl, hb⟩
      have HB2 := Lib.hid (HB.out.2.trans hb)
      clear hb
      go_wp2
      go_ret
      exact ⟨by rw [HF.out]; rfl, HB2.out⟩
theorem make_rows (w : World) (n : Nat) (hn : n ≤ 1000) : (Instr.makeSlice 41 (.int .i64 (n : Int)) (.int .i64 (n : Int))).run Try.prog w = .ok (.slice (some ⟨w.heap.size, 0, none⟩) n n) (w.alloc (.cells (madeCells #[.int .i64 0, .slice none 0 0] (n * 2)) 45)) := by
  obtain ⟨i, hi, hz0, hz1, hz2⟩ := info_parts info_row
  have h := run_make w 41 45 i (.agg #[.int .i64 0, .slice none 0 0]) Try.underlying41 hi hz0 .i64 .i64 (n : Int) (n : Int) (by omega) (by omega) (by rw [hz2]; omega) (by omega)
  rw [hz1] at h
  exact h
end Go.Proofs.Ytakaclkhnajpeaa
