import Derived.Test.YtdnppkihpddlhaaPlCa
import Derived.Test.YtdnppkihpddlhaaSets
import Derived.Laws.MakeOwn
namespace Go.Proofs.Ytdnppkihpddlhaa
open Go.ChangeShapes Go.WideShapes Go.ChangeAt Go.RowKit
set_option linter.unusedVariables false
set_option linter.unusedSimpArgs false
theorem Keeps.far {w w1 w2 : World} {S : Nat → Prop} (h : Keeps (fun _ => False) w w1) (k : Keeps S w1 w2) (hs : ∀ j, S j → w.heap.size ≤ j) : Keeps (fun _ => False) w w2 :=
  ⟨k.os.trans h.os, k.tape.trans h.tape, k.output.trans h.output, Nat.le_trans h.size k.size, fun i hi e => (k.block i (Nat.lt_of_lt_of_le hi h.size) (fun e2 => by have := hs i e2; omega)).trans (h.block i hi e)⟩
/-- The first cell of object i, the places. -/
def preP (ob : Nat → Nat → Int) : Nat → Int
  | 0 => 0
  | i + 1 => preP ob i + sizeP (ob i)
def placeP (ob : Nat → Nat → Int) (i : Nat) : Nat → Int := fun j => match j with | 0 => ob i 0 | 1 => preP ob i | 2 => ob i 1 | 3 => ob i 2 | _ => ob i 3
def zeroPl : Nat → Int := fun _ => 0
/-- A row of places in a block. -/
def PlacesAt (w : World) (g n : Nat) (F : Nat → Nat → Int) : Prop := ∃ cs : Array Value, w.heap[g]? = some (.cells cs 41 (0, 0)) ∧ cs.size = n * 5 ∧ ∀ i, i < n → ∀ (j : Nat) (v : Value), (plC (F i)).toList[j]? = some v → cs[i * 5 + j]? = some v
theorem PlacesAt.keep {S : Nat → Prop} {w w' : World} {g n : Nat} {F : Nat → Nat → Int} (h : PlacesAt w g n F) (k : Keeps S w w') (hs : ¬ S g) : PlacesAt w' g n F := by
  obtain ⟨cs, h1, h2, h3⟩ := h
  exact ⟨cs, k.at h1 hs, h2, h3⟩
theorem PlacesAt.same {w : World} {g n : Nat} {F G : Nat → Nat → Int} (h : PlacesAt w g n F) (e : ∀ i, i < n → F i = G i) : PlacesAt w g n G := by
  obtain ⟨cs, h1, h2, h3⟩ := h
  exact ⟨cs, h1, h2, fun i hi j v hv => h3 i hi j v (by rw [e i hi]; exact hv)⟩
theorem PlacesAt.cell {w : World} {g n : Nat} {F : Nat → Nat → Int} (h : PlacesAt w g n F) {i : Nat} (hi : i < n) {j : Nat} {v : Value} (hv : (plC (F i)).toList[j]? = some v) : w.cell? ⟨g, i * 5 + j, none⟩ = some v := by
  obtain ⟨cs, h1, h2, h3⟩ := h
  rw [cell_of h1]
  exact h3 i hi j v hv
theorem PlacesAt.range {w : World} {g n : Nat} {F : Nat → Nat → Int} (h : PlacesAt w g n F) {i : Nat} (hi : i < n) : w.rangeAt g (i * 5) (plC (F i)).toList := fun j v hv => h.cell hi hv
theorem PlacesAt.lt {w : World} {g n : Nat} {F : Nat → Nat → Int} (h : PlacesAt w g n F) : g < w.heap.size := by obtain ⟨cs, h1, _⟩ := h; exact lt_of h1
theorem PlacesAt.there {w : World} {g n : Nat} {F : Nat → Nat → Int} (h : PlacesAt w g n F) {i : Nat} (hi : i < n) : w.there g (i * 5) 5 := by
  obtain ⟨cs, h1, h2, h3⟩ := h
  exact there_of h1 _ _ (by omega)
/-- A place is put into the row, its first cell behind it. -/
theorem PlacesAt.put {w : World} {g n : Nat} {F : Nat → Nat → Int} (h : PlacesAt w g n F) {i : Nat} (hi : i < n) (p : Nat → Int) (z : Int) (q : Nat → Int) (hq : q 0 = p 0 ∧ q 1 = z ∧ q 2 = p 2 ∧ q 3 = p 3 ∧ q 4 = p 4) :
    PlacesAt ((w.setCells g (i * 5) (plC p).toList).setCell ⟨g, i * 5 + 1, none⟩ (.int .i64 z)) g n (fun k => if k = i then q else F k) := by
  obtain ⟨cs, h1, h2, h3⟩ := h
  have h4 := heap_sets (plC p).toList (i * 5) w g cs _ _ h1
  refine ⟨_, heap_set h4 (i * 5 + 1) _, by rw [Array.size_setIfInBounds, setsA_size]; exact h2, fun k hk j v hv => ?_⟩
  have hj : j < 5 := (List.getElem?_eq_some_iff.1 hv).1
  show ((setsA cs (i * 5) (plC p).toList).setIfInBounds (i * 5 + 1) (.int .i64 z))[k * 5 + j]? = some v
  by_cases e : k = i
  · subst e
    replace hv : (plC (if k = k then q else F k)).toList[j]? = some v := hv
    rw [if_pos rfl] at hv
    by_cases e1 : j = 1
    · subst e1
      rw [Array.getElem?_setIfInBounds_self_of_lt (by rw [setsA_size]; omega)]
      have : Value.int .i64 (q 1) = v := by simpa using hv
      rw [← this, hq.2.1]
    · rw [Array.getElem?_setIfInBounds_ne (by omega)]
      refine setsA_in _ _ _ _ _ (by show k * 5 + 5 ≤ cs.size; omega) ?_
      obtain ⟨q0, _, q2, q3, q4⟩ := hq
      rcases (by omega : j = 0 ∨ j = 2 ∨ j = 3 ∨ j = 4) with rfl | rfl | rfl | rfl
      · simpa [q0] using hv
      · simpa [q2] using hv
      · simpa [q3] using hv
      · simpa [q4] using hv
  · replace hv : (plC (if k = i then q else F k)).toList[j]? = some v := hv
    rw [if_neg e] at hv
    rw [Array.getElem?_setIfInBounds_ne (by omega), setsA_out _ _ _ _ (by show _ ∨ i * 5 + 5 ≤ _; omega)]
    exact h3 k hk j v hv
/-- Objects as a row of an argument. -/
structure ObIn (w : World) (a : Option Addr) (n : Nat) (ob oi : Nat → Nat → Int) : Prop where
  lies : 0 < n → ∃ b off, a = some ⟨b, off, none⟩ ∧ b < w.heap.size ∧ ∀ i, i < n → ∀ j, j < 10 → w.cell? ⟨b, off + i * 10 + j, none⟩ = (objC (ob i) (oi i))[j]?
theorem ObIn.keep {w w' : World} {a : Option Addr} {n : Nat} {ob oi : Nat → Nat → Int} (h : ObIn w a n ob oi) (k : Keeps (fun _ => False) w w') : ObIn w' a n ob oi :=
  ⟨fun hn => by
    obtain ⟨b, off, e, hb, hc⟩ := h.lies hn
    exact ⟨b, off, e, Nat.lt_of_lt_of_le hb k.size, fun i hi j hj => (k.none.cell (p := ⟨b, off + i * 10 + j, none⟩) hb).trans (hc i hi j hj)⟩⟩
theorem begin_any (t n : Int) (T : Nat) (w : World) (h : w.heap[T]? = some (.cells #[.int .i64 t] 3 (0, 0))) (hb : 0 ≤ t ∧ t ≤ 1000000 ∧ 0 ≤ n ∧ n ≤ 1000000) :
    Calls Try.prog 13 #[.int .i64 n, .pointer (some ⟨T, 0, none⟩)] w fun e w' => e = .returned (.int .i64 t) ∧ w'.heap[T]? = some (.cells #[.int .i64 (t + n)] 3 (0, 0)) ∧ Keeps (fun j => j = T) w w' := by
  have H := Lib.hid h
  have c0 : w.cell? ⟨T, 0, none⟩ = some (.int .i64 t) := cell_of h 0
  have f0 := free_of h 0
  have e1 : wrap64 (t + n) = t + n := IntWalk.wrap64_in _ ⟨by omega, by omega⟩
  clear h hb
  go_enter Try.func13, Try.ntmps13
  go_wp2_with fail
  go_ret
  refine ⟨rfl, ?_, ?_⟩
  · have := heap_set H.out 0 (.int .i64 (t + n))
    simpa [e1] using this
  · exact (Keeps.refl (fun j => j = T) w).setCell (p := ⟨T, 0, none⟩) (.inl rfl) _
theorem pre_bound {ob : Nat → Nat → Int} {n : Nat} (hr : ∀ i, i < n → rightS (ob i) = true) : ∀ k, k ≤ n → (k : Int) ≤ preP ob k ∧ preP ob k ≤ 258 * (k : Int)
  | 0, _ => by simp [preP]
  | k + 1, h => by
    have h1 := pre_bound hr k (by omega)
    have h2 := size_bound (hr k (by omega))
    have e : preP ob (k + 1) = preP ob k + sizeP (ob k) := rfl
    rw [e]
    omega
theorem place_info : (Try.prog.info? 41).map (·.size) = some 5 := by kernel_rfl
theorem pl_one (a b c d e : Int) : (#[.int .i64 a, .int .i64 b, .int .i64 c, .int .i64 d, .int .i64 e] : Array Value).all (·.oneCell') = true := by simp [Value.oneCell']
theorem obj_info10 : (Try.prog.info? 26).map (·.size) = some 10 := by kernel_rfl
theorem pl_zero : (Try.prog.info? 41).map (fun i => (i.zero, i.size, i.bytes)) = some (some (.agg #[.int .i64 0, .int .i64 0, .int .i64 0, .int .i64 0, .int .i64 0]), 5, 40) := by kernel_rfl
theorem make_places (w : World) (n : Nat) (hn : n ≤ 1000) : (Instr.makeSlice 32 (.int .i64 (n : Int)) (.int .i64 (n : Int))).run Try.prog w = .ok (.slice (some ⟨w.heap.size, 0, none⟩) n n) (w.alloc (.cells (madeCells #[.int .i64 0, .int .i64 0, .int .i64 0, .int .i64 0, .int .i64 0] (n * 5)) 41)) := by
  obtain ⟨i, hi, hz0, hz1, hz2⟩ := info_parts pl_zero
  have h := run_make w 32 41 i (.agg #[.int .i64 0, .int .i64 0, .int .i64 0, .int .i64 0, .int .i64 0]) Try.underlying32 hi hz0 .i64 .i64 (n : Int) (n : Int) (by omega) (by omega) (by rw [hz2]; omega) (by omega)
  rw [hz1] at h
  exact h
theorem places_new (w : World) (n : Nat) : PlacesAt (w.alloc (.cells (madeCells #[.int .i64 0, .int .i64 0, .int .i64 0, .int .i64 0, .int .i64 0] (n * 5)) 41)) w.heap.size n (fun _ => zeroPl) :=
  ⟨_, heap_new w _, size_madeCells _ _, fun i hi j v hv => by
    have hj : j < 5 := (List.getElem?_eq_some_iff.1 hv).1
    unfold madeCells
    rw [Array.getElem?_map, Array.getElem?_range, if_pos (by omega)]
    have e : (i * 5 + j) % 5 = j := by omega
    rcases (by omega : j = 0 ∨ j = 1 ∨ j = 2 ∨ j = 3 ∨ j = 4) with rfl | rfl | rfl | rfl | rfl <;> simp [zeroPl] at hv <;> simp [e, ← hv]⟩
end Go.Proofs.Ytdnppkihpddlhaa
