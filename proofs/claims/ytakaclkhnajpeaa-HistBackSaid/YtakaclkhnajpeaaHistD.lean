import Derived.Test.YtakaclkhnajpeaaHistB
import Derived.Test.YtakaclkhnajpeaaHistC
import Derived.Test.YtakaclkhnajpeaaRowGa
namespace Go.Proofs.Ytakaclkhnajpeaa
open Go.ChangeShapes Go.WideShapes Go.ChangeAt Go.RowKit
set_option linter.unusedVariables false
set_option linter.unusedSimpArgs false
def loH (j : Nat) : Int := if j < 4 then -99 else 0
def hiH (j : Nat) : Int := if j < 4 then 1073741824 else if j = 9 then 99 else if j < 14 then 4294967295 else if j = 14 then 1 else 1073741824
/-- The number that is read, and whether it is right. -/
def yvH (F : Nat → List UInt8) (j : Nat) : Int := (parP (F j) (loH j) (hiH j)).1
def okH (F : Nat → List UInt8) (j : Nat) : Bool := (parP (F j) (loH j) (hiH j)).2 == 0
def rightP (F : Nat → List UInt8) : Nat → Bool
  | 0 => true
  | k + 1 => rightP F k && okH F k
def zx (F : Nat → List UInt8) (k : Nat) : OpX := fun j => if j < k then yvH F j else 0
theorem yvH_bound (F : Nat → List UInt8) (j : Nat) (h : 4 ≤ j) : 0 ≤ yvH F j ∧ yvH F j ≤ 4294967295 := by
  unfold yvH parP
  have hl : loH j = 0 := if_neg (by omega)
  have hh : hiH j ≤ 4294967295 := by unfold hiH; repeat' split <;> omega
  cases valP (F j) with
  | none => simp
  | some n =>
    show 0 ≤ (if n < loH j ∨ hiH j < n then _ else _ : Int × Int).1 ∧ (if n < loH j ∨ hiH j < n then _ else _ : Int × Int).1 ≤ _
    by_cases q : n < loH j ∨ hiH j < n
    · rw [if_pos q]; simp
    · rw [if_neg q]; rw [hl] at q; simp; omega
/-- What stands while a row's numbers are taken: k are taken, m are stored. -/
structure CB (w wr : World) (N : Int) (A : Option Addr) (c : Nat) (F : Nat → List UInt8) (k m : Nat) : Prop where
  row : wr.heap[w.heap.size]? = some (.cells #[.int .i64 N, .slice A 17 c] 45 (0, 0))
  res : wr.heap[w.heap.size + 1]? = some (.cells (opA (zx F 0)) 38 (0, 0))
  at' : wr.heap[w.heap.size + 2]? = some (.cells #[.int .i64 (k : Int)] 3 (0, 0))
  rt : wr.heap[w.heap.size + 3]? = some (.cells #[.bool (rightP F k)] 4 (0, 0))
  op : wr.heap[w.heap.size + 4]? = some (.cells (opA (zx F m)) 38 (0, 0))
  below : Below w.heap.size w wr
theorem CB.store {w wr : World} {N : Int} {A : Option Addr} {c : Nat} {F : Nat → List UInt8} {k m : Nat} (h : CB w wr N A c F k m) (v : Value) (i : Nat) (he : opA (zx F (m + 1)) = (opA (zx F m)).setIfInBounds i v) : CB w (wr.setCell ⟨w.heap.size + 4, i, none⟩ v) N A c F k (m + 1) :=
  ⟨heap_other h.row (by show w.heap.size ≠ w.heap.size + 4; omega) _, heap_other h.res (by show w.heap.size + 1 ≠ w.heap.size + 4; omega) _, heap_other h.at' (by show w.heap.size + 2 ≠ w.heap.size + 4; omega) _, heap_other h.rt (by show w.heap.size + 3 ≠ w.heap.size + 4; omega) _,
    by rw [he]; exact heap_set h.op i v, h.below.setCell (p := ⟨w.heap.size + 4, i, none⟩) (by show w.heap.size ≤ w.heap.size + 4; omega) _⟩
set_option maxRecDepth 20000 in
set_option maxHeartbeats 1000000 in
theorem next_any (w wr : World) (N : Int) (A : Option Addr) (c : Nat) (F : Nat → List UInt8) (k m : Nat) (lo hi : Int) (h : CB w wr N A c F k m) (hk : k < 17) (hr : StrRow w A 17 F) (hF : ∀ i, i < 17 → (F i).length ≤ 9223372036854775807) (hlo : loH k = lo) (hhi : hiH k = hi) :
    Calls Try.prog 20 #[.int .i64 lo, .int .i64 hi, .pointer (some ⟨w.heap.size, 0, none⟩), .pointer (some ⟨w.heap.size + 2, 0, none⟩), .pointer (some ⟨w.heap.size + 3, 0, none⟩)] wr fun e w' => e = .returned (.int .i64 (yvH F k)) ∧ CB w w' N A c F (k + 1) m := by
  have hb : -9223372036854775808 ≤ lo ∧ lo ≤ 9223372036854775807 ∧ -9223372036854775808 ≤ hi ∧ hi ≤ 9223372036854775807 := by
    rw [← hlo, ← hhi]
    unfold loH hiH
    repeat' split <;> omega
  have htk : takP F 17 (k : Int) lo hi = parP (F k) lo hi := if_neg (by omega)
  have HT := Lib.hid (take_any wr N A 17 c F (k : Int) lo hi (by unfold maxLen; omega) (hr.below h.below) hF (by omega) (by omega) (by omega))
  rw [htk] at HT
  have HY := Lib.hid (show yvH F k = (parP (F k) lo hi).1 by unfold yvH; rw [hlo, hhi])
  have HO := Lib.hid (show rightP F (k + 1) = (rightP F k && ((parP (F k) lo hi).2 == 0)) by show (rightP F k && okH F k) = _; unfold okH; rw [hlo, hhi])
  generalize (parP (F k) lo hi).1 = y at HT HY
  generalize (parP (F k) lo hi).2 = f at HT HO
  have HC := Lib.hid h
  have r0 : wr.cell? ⟨w.heap.size, 0, none⟩ = some (.int .i64 N) := cell_of h.row 0
  have r1 : wr.cell? ⟨w.heap.size, 1, none⟩ = some (.slice A 17 c) := cell_of h.row 1
  have r2 : wr.cell? ⟨w.heap.size + 2, 0, none⟩ = some (.int .i64 (k : Int)) := cell_of h.at' 0
  have hrt := h.rt
  clear h hr hF hlo hhi htk hb
  generalize hrk : rightP F k = r at HO hrt
  clear hrk
  go_enter Try.func20, Try.ntmps20
  go_wp2_with fail
  refine HT.out.mono ?_
  rintro e1 w1 ⟨rfl, k1⟩
  have q2 := k1.at HC.out.at' fun h => h
  have q3 := k1.at hrt fun h => h
  have r3 : w1.cell? ⟨w.heap.size + 3, 0, none⟩ = some (.bool r) := cell_of q3 0
  have r4 : w1.cell? ⟨w.heap.size + 2, 0, none⟩ = some (.int .i64 (k : Int)) := cell_of q2 0
  have f2 := free_of q2 0
  have f3 := free_of q3 0
  have HB1 := Lib.hid (HC.out.below.trans (k1.none.mono HC.out.below.size))
  have HQ := Lib.hid (show w1.heap[w.heap.size]? = some (.cells #[.int .i64 N, .slice A 17 c] 45 (0, 0)) ∧ w1.heap[w.heap.size + 1]? = some (.cells (opA (zx F 0)) 38 (0, 0)) ∧ w1.heap[w.heap.size + 4]? = some (.cells (opA (zx F m)) 38 (0, 0)) from
    ⟨k1.at HC.out.row fun h => h, k1.at HC.out.res fun h => h, k1.at HC.out.op fun h => h⟩)
  have HQ2 := Lib.hid (And.intro q2 q3)
  have fin : ∀ (b : Bool) (W : World), rightP F (k + 1) = b → W = (w1.setCell ⟨w.heap.size + 3, 0, none⟩ (.bool b)).setCell ⟨w.heap.size + 2, 0, none⟩ (.int .i64 ((k : Int) + 1)) → CB w W N A c F (k + 1) m := fun b W hb hW => by
    subst hW
    refine ⟨heap_other (heap_other HQ.out.1 (by show w.heap.size ≠ w.heap.size + 3; omega) _) (by show w.heap.size ≠ w.heap.size + 2; omega) _, heap_other (heap_other HQ.out.2.1 (by show w.heap.size + 1 ≠ w.heap.size + 3; omega) _) (by show w.heap.size + 1 ≠ w.heap.size + 2; omega) _, ?_, ?_, heap_other (heap_other HQ.out.2.2 (by show w.heap.size + 4 ≠ w.heap.size + 3; omega) _) (by show w.heap.size + 4 ≠ w.heap.size + 2; omega) _,
      (HB1.out.setCell (p := ⟨w.heap.size + 3, 0, none⟩) (by show w.heap.size ≤ w.heap.size + 3; omega) _).setCell (p := ⟨w.heap.size + 2, 0, none⟩) (by show w.heap.size ≤ w.heap.size + 2; omega) _⟩
    · exact heap_set (heap_other HQ2.out.1 (by show w.heap.size + 2 ≠ w.heap.size + 3; omega) _) 0 _
    · rw [hb]
      exact heap_other (heap_set HQ2.out.2 0 _) (by show w.heap.size + 3 ≠ w.heap.size + 2; omega) _
  have FIN := Lib.hid fin
  clear fin k1 q2 q3 hrt r0 r1 r2
  cases r with
  | false =>
    go_wp2_with fail
    go_ret
    exact ⟨by rw [HY.out]; rfl, FIN.out false _ (by rw [HO.out]; rfl) rfl⟩
  | true =>
    cases hf : (f == 0) with
    | true =>
      rw [hf] at HO
      go_wp2_with fail
      go_ret
      exact ⟨by rw [HY.out]; rfl, FIN.out true _ (by rw [HO.out]; rfl) rfl⟩
    | false =>
      rw [hf] at HO
      go_wp2_with fail
      go_ret
      exact ⟨by rw [HY.out]; rfl, FIN.out false _ (by rw [HO.out]; rfl) rfl⟩
theorem zx_0 (F : Nat → List UInt8) : opA (zx F 1) = (opA (zx F 0)).setIfInBounds 0 (.int .i64 (yvH F 0)) := by simp [opA, opL, zx]
theorem zx_1 (F : Nat → List UInt8) : opA (zx F 2) = (opA (zx F 1)).setIfInBounds 1 (.int .i64 (yvH F 1)) := by simp [opA, opL, zx]
theorem zx_2 (F : Nat → List UInt8) : opA (zx F 3) = (opA (zx F 2)).setIfInBounds 2 (.int .i64 (yvH F 2)) := by simp [opA, opL, zx]
theorem zx_3 (F : Nat → List UInt8) : opA (zx F 4) = (opA (zx F 3)).setIfInBounds 3 (.int .i64 (yvH F 3)) := by simp [opA, opL, zx]
theorem zx_4 (F : Nat → List UInt8) : opA (zx F 5) = (opA (zx F 4)).setIfInBounds 4 (.int .u32 (yvH F 4)) := by simp [opA, opL, zx]
theorem zx_5 (F : Nat → List UInt8) : opA (zx F 6) = (opA (zx F 5)).setIfInBounds 5 (.int .u32 (yvH F 5)) := by simp [opA, opL, zx]
theorem zx_6 (F : Nat → List UInt8) : opA (zx F 7) = (opA (zx F 6)).setIfInBounds 6 (.int .u32 (yvH F 6)) := by simp [opA, opL, zx]
theorem zx_7 (F : Nat → List UInt8) : opA (zx F 8) = (opA (zx F 7)).setIfInBounds 7 (.int .u32 (yvH F 7)) := by simp [opA, opL, zx]
theorem zx_8 (F : Nat → List UInt8) : opA (zx F 9) = (opA (zx F 8)).setIfInBounds 8 (.int .u32 (yvH F 8)) := by simp [opA, opL, zx]
theorem zx_9 (F : Nat → List UInt8) : opA (zx F 10) = (opA (zx F 9)).setIfInBounds 9 (.int .i64 (yvH F 9)) := by simp [opA, opL, zx]
theorem zx_10 (F : Nat → List UInt8) : opA (zx F 11) = (opA (zx F 10)).setIfInBounds 10 (.int .u32 (yvH F 10)) := by simp [opA, opL, zx]
theorem zx_11 (F : Nat → List UInt8) : opA (zx F 12) = (opA (zx F 11)).setIfInBounds 11 (.int .u32 (yvH F 11)) := by simp [opA, opL, zx]
theorem zx_12 (F : Nat → List UInt8) : opA (zx F 13) = (opA (zx F 12)).setIfInBounds 12 (.int .u32 (yvH F 12)) := by simp [opA, opL, zx]
theorem zx_13 (F : Nat → List UInt8) : opA (zx F 14) = (opA (zx F 13)).setIfInBounds 13 (.int .u32 (yvH F 13)) := by simp [opA, opL, zx]
theorem zx_14 (F : Nat → List UInt8) : opA (zx F 15) = (opA (zx F 14)).setIfInBounds 14 (.bool (decide (yvH F 14 = 1))) := by simp [opA, opL, zx]
theorem zx_15 (F : Nat → List UInt8) : opA (zx F 16) = (opA (zx F 15)).setIfInBounds 15 (.int .i64 (yvH F 15)) := by simp [opA, opL, zx]
theorem zx_16 (F : Nat → List UInt8) : opA (zx F 17) = (opA (zx F 16)).setIfInBounds 16 (.int .i64 (yvH F 16)) := by simp [opA, opL, zx]
end Go.Proofs.Ytakaclkhnajpeaa
