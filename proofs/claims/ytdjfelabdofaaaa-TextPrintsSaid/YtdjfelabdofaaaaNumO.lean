import Derived.Test.YtdjfelabdofaaaaNumMa
import Derived.Test.YtdjfelabdofaaaaBldAz
import Derived.Test.YtdjfelabdofaaaaShelf
namespace Go.Proofs.Ytdjfelabdofaaaa
open Go.ChangeShapes Go.WideShapes Go.ChangeAt Go.RowKit
set_option linter.unusedVariables false
set_option linter.unusedSimpArgs false
set_option maxRecDepth 20000 in
set_option maxHeartbeats 1000000 in
theorem join_zero (w : World) (a : Option Addr) (c : Nat) (B : ByteArray) :
    Calls Try.prog 18 #[.slice a 0 c, .string B] w fun e w' => e = .returned (.string ⟨#[]⟩) ∧ Below w.heap.size w w' := by
  go_enter Try.func18, Try.ntmps18
  go_wp2_with fail
  go_loopw [10] (fun i wr => i = .int .i64 0 ∧ wr = w.alloc (.cells #[.pointer none, .slice none 0 0] 48)) (fun _ _ => 0)
  case atStart => exact ⟨rfl, rfl⟩
  case round =>
    obtain ⟨rfl, rfl⟩ := hrel
    have HB := Lib.hid (builder_new w 48 5)
    go_wp2_with fail
    refine (Try.Builder_String_any w.heap.size w.heap.size [] _ HB.out (by simp)).mono ?_
    rintro e w2 ⟨rfl, hb⟩
    have HB2 := Lib.hid (((Below.refl w.heap.size w).alloc (Nat.le_refl _) _).trans hb)
    clear hb
    go_wp2
    go_ret
    exact ⟨rfl, HB2.out⟩
set_option maxRecDepth 20000 in
set_option maxHeartbeats 1000000 in
theorem join_some (w : World) (g o n c : Nat) (F : Nat → Int) (b : List UInt8) (hn : n ≤ 1000) (hb : b.length ≤ 1000) (hF : ∀ i, i < n → -9223372036854775808 ≤ F i ∧ F i ≤ 9223372036854775807)
    (hg : g < w.heap.size) (hc : ∀ i, i < n → w.cell? ⟨g, o + i, none⟩ = some (.int .i64 (F i))) :
    Calls Try.prog 18 #[.slice (some ⟨g, o, none⟩) n c, .string ⟨b.toArray⟩] w fun e w' => e = .returned (.string ⟨(joinN b F n).toArray⟩) ∧ Below w.heap.size w w' := by
  have HC := Lib.hid hc
  have HL := Lib.hid (fun k (hk : k ≤ n) => joinN_len b F 1000 hb k fun i hi => hF i (by omega))
  have HF := Lib.hid hF
  have hBz := str_size b
  have HSB := Lib.hid (strCells_mk b)
  clear hc hF
  generalize (⟨b.toArray⟩ : ByteArray) = B at hBz HSB ⊢
  go_enter Try.func18, Try.ntmps18
  go_wp2_with fail
  go_loopw [10] (fun i wr => ∃ k : Nat, k ≤ n ∧ i = .int .i64 k ∧ Lib.IsBuilder 48 5 w.heap.size w.heap.size (Lib.byteCells (joinN b F k)) wr ∧ Below w.heap.size w wr) (fun i _ => n - (intOf i).toNat)
  case atStart => exact ⟨0, by omega, rfl, builder_new w _ _, (Below.refl w.heap.size w).alloc (Nat.le_refl _) _⟩
  case round =>
    obtain ⟨k, hk, rfl, hbld, hbel⟩ := hrel
    rename_i wr
    have hLk := HL.out k hk
    have hbl := byteCells_len (joinN b F k)
    have hsz := hbel.size
    have HB := Lib.hid (And.intro hbld hbel)
    by_cases hlt : k < n
    · have c0 : wr.cell? ⟨g, o + k, none⟩ = some (.int .i64 (F k)) := (hbel.cell (p := ⟨g, o + k, none⟩) hg).trans (HC.out k hlt)
      have hpz := prnL_len (HF.out k hlt)
      have hPz := str_size (prnL (F k))
      have HFk := Lib.hid (HF.out k hlt)
      have HPB := Lib.hid (And.intro (show (⟨(prnL (F k)).toArray⟩ : ByteArray) = prnB (F k) from rfl) (strCells_mk (prnL (F k))))
      rw [HPB.out.1] at hPz
      have HPS := Lib.hid (show Lib.strCells (prnB (F k)) = Lib.byteCells (prnL (F k)) from rfl)
      clear hbld hbel
      by_cases h0 : k = 0
      · subst h0
        have c0 : wr.cell? ⟨g, o, none⟩ = some (.int .i64 (F 0)) := c0
        go_wp2_with fail
        refine (print_any _ _ HFk.out).mono ?_
        rintro e1 w1 ⟨rfl, k1⟩
        have hb1 := builder_keeps HB.out.1 k1
        have HB1 := Lib.hid (HB.out.2.trans (k1.none.mono hsz))
        have hz1 : w.heap.size ≤ w1.heap.size := HB1.out.size
        clear k1
        have HS := Lib.hid hb1
        clear hb1
        go_wp2_with fail
        refine (writes_any _ _ _ _ _ HS.out (by rw [hbl]; simp [joinN]; omega) hz1).mono ?_
        rintro e2 w2 ⟨rfl, hb2, k2⟩
        have HB2 := Lib.hid (And.intro (Or.inr hb2 : Lib.IsBuilder 48 5 w.heap.size w.heap.size _ w2) (HB1.out.trans k2))
        clear hb2 k2
        go_wp2_with fail
        go_roundw
        case rel => exact ⟨1, hlt, rfl, by have h := HB2.out.1; rw [HPS.out] at h; exact h, HB2.out.2⟩
        case measure => simp [intOf]; omega
      · have hk0 : decide ((0 : Int) < (k : Int)) = true := decide_eq_true (by omega)
        have HJ := Lib.hid (joinN_more b F k (by omega))
        go_wp2_with fail
        refine (writes_any _ _ _ _ _ HB.out.1 (by rw [hbl, hBz]; omega) hsz).mono ?_
        rintro e0 w0 ⟨rfl, hb0, k0⟩
        have c1 : w0.cell? ⟨g, o + k, none⟩ = some (.int .i64 (F k)) := (k0.cell (p := ⟨g, o + k, none⟩) hg).trans c0
        have HB0 := Lib.hid (And.intro (Or.inr hb0 : Lib.IsBuilder 48 5 w.heap.size w.heap.size _ w0) (HB.out.2.trans k0))
        clear hb0 k0
        go_wp2_with fail
        refine (print_any _ _ HFk.out).mono ?_
        rintro e1 w1 ⟨rfl, k1⟩
        have HS := Lib.hid (builder_keeps HB0.out.1 k1)
        have HB1 := Lib.hid (HB0.out.2.trans (k1.none.mono HB0.out.2.size))
        have hz1 : w.heap.size ≤ w1.heap.size := HB1.out.size
        clear k1
        go_wp2_with fail
        refine (writes_any _ _ _ _ _ HS.out (by rw [List.length_append, hbl, HSB.out, byteCells_len]; omega) hz1).mono ?_
        rintro e2 w2 ⟨rfl, hb2, k2⟩
        have HB2 := Lib.hid (And.intro (Or.inr hb2 : Lib.IsBuilder 48 5 w.heap.size w.heap.size _ w2) (HB1.out.trans k2))
        clear hb2 k2
        go_wp2_with fail
        go_roundw
        case rel => exact ⟨k + 1, hlt, by go_num, by have h := HB2.out.1; rw [HPS.out, HSB.out, ← byteCells_app, ← byteCells_app, ← HJ.out] at h; exact h, HB2.out.2⟩
        case measure => simp [intOf]; omega
    · obtain rfl : k = n := by omega
      clear hbld hbel hbl hLk
      go_wp2_with fail
      refine (Try.Builder_String_any _ _ _ _ HB.out.1 hsz).mono ?_
      rintro e2 w2 ⟨rfl, hb⟩
      have HB2 := Lib.hid (HB.out.2.trans hb)
      clear hb
      go_wp2
      go_ret
      exact ⟨rfl, HB2.out⟩
end Go.Proofs.Ytdjfelabdofaaaa
