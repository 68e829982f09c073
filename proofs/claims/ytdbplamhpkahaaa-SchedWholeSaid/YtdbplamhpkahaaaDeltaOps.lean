import Derived.Test.YtdbplamhpkahaaaDeltaAbs
namespace Go.Proofs.Ytdbplamhpkahaaa
open Go.ChangeShapes Go.WideShapes Go.ChangeAt Go.RowKit
set_option linter.unusedVariables false
/-- Block D, made since w, is a delta list of at most m nodes, made since w, in which T is left. -/
structure DIs (w wr : World) (D : Nat) (L : List Nd) (T : Int → Nat) (m : Nat) : Prop where
  is : IsDelta wr D L
  abs : Abs L T
  len : L.length ≤ m
  below : Below w.heap.size w wr
  newD : w.heap.size ≤ D
  newN : ∀ (i : Nat) (a : Nd), L[i]? = some a → w.heap.size ≤ a.g
def DAt (w wr : World) (D : Nat) (T : Int → Nat) (m : Nat) : Prop := ∃ L, DIs w wr D L T m
theorem Abs.task16 {L : List Nd} {T : Int → Nat} (h : Abs L T) (t : Int) (ht : ¬ (0 ≤ t ∧ t < 16)) : T t = 0 := by
  by_cases e : T t = 0
  · exact e
  · obtain ⟨k, a, ha, he⟩ := h.all t e
    have := h.rng k a ha
    rw [he] at this
    exact absurd this ht
section
variable {w w1 w2 : World} {D m : Nat} {L : List Nd} {T : Int → Nat}
theorem DIs.own (h : DIs w w1 D L T m) : ∀ k, k < w1.heap.size → Own D L k → w.heap.size ≤ k := by
  intro k _ hk
  rcases hk with rfl | ⟨i, a, ha, rfl⟩
  · exact h.newD
  · exact h.newN i a ha
theorem DIs.none (h : DIs w w1 D L T m) (hk : Keeps (fun _ => False) w1 w2) : DIs w w2 D L T m :=
  ⟨h.is.none hk, h.abs, h.len, h.below.trans (hk.none.mono h.below.size), h.newD, h.newN⟩
theorem DAt.none (h : DAt w w1 D T m) (hk : Keeps (fun _ => False) w1 w2) : DAt w w2 D T m := by
  obtain ⟨L, h⟩ := h
  exact ⟨L, h.none hk⟩
theorem DAt.below (h : DAt w w1 D T m) : Below w.heap.size w w1 := h.choose_spec.below
theorem DIs.added {task : Int} {ticks : Nat} (h : DIs w w1 D L T m) (ha : Added w1 w2 D L task ticks) (h0 : T task = 0) (hr : 0 ≤ task ∧ task < 16) (ht : 0 < ticks) (ht2 : ticks < 4294967296) :
    ∃ (L' : List Nd) (k g : Nat), Ins L L' k ⟨g, task, ticks - sumX L k⟩ ∧ sumX L k ≤ ticks ∧ (∀ a : Nd, L[k]? = some a → ticks < sumX L (k + 1)) ∧ DIs w w2 D L' (fun t => if t = task then ticks else T t) (m + 1) := by
  obtain ⟨L', k, g, hI, h1, h2, hg, hd, hk⟩ := ha
  refine ⟨L', k, g, hI, h1, h2, hd, h.abs.add hI h1 h2 h0 hr ht ht2, by rw [hI.len]; have := h.len; omega, h.below.trans (hk.below h.below.size h.own), h.newD, ?_⟩
  intro i a ha
  rcases hI.cases ha with ⟨c1, c2⟩ | ⟨rfl, rfl⟩ | ⟨rfl, b, c2, rfl⟩ | ⟨c1, c2⟩
  · exact h.newN i a c2
  · exact Nat.le_trans h.below.size hg
  · exact h.newN k b c2
  · exact h.newN (i - 1) a c2
theorem DIs.removed {k : Nat} {n : Nd} (h : DIs w w1 D L T m) (hr : Removed w1 w2 D L k n) : DAt w w2 D (fun t => if t = n.t then 0 else T t) m := by
  obtain ⟨L', hI, hd, hk⟩ := hr
  refine ⟨L', hd, h.abs.del hI, by have := hI.len; have := h.len; omega, h.below.trans (hk.below h.below.size h.own), h.newD, ?_⟩
  intro i a ha
  rcases hI.cases ha with ⟨c1, c2⟩ | ⟨rfl, b, c2, rfl⟩ | ⟨c1, c2⟩
  · exact h.newN i a c2
  · exact h.newN (i + 1) b c2
  · exact h.newN (i + 1) a c2
theorem dis_ticked {a : Nd} {r : List Nd} {v : Value} (h : DIs w w1 D (a :: r) T m) (ht : Ticked w1 w2 D (a :: r) (⟨a.g, a.t, a.x - 1⟩ :: r) v) :
    ∃ k, k ≤ r.length + 1 ∧ (∀ (i : Nat) (nd : Nd), i < k → (⟨a.g, a.t, a.x - 1⟩ :: r : List Nd)[i]? = some nd → nd.x = 0) ∧ (∀ nd : Nd, (⟨a.g, a.t, a.x - 1⟩ :: r : List Nd)[k]? = some nd → nd.x ≠ 0) ∧ w2.ownsRow w1.heap.size 3 1 v k (nums (tk (⟨a.g, a.t, a.x - 1⟩ :: r)) k) ∧ DIs w w2 D ((⟨a.g, a.t, a.x - 1⟩ :: r : List Nd).drop k) (fun t => T t - 1) m := by
  obtain ⟨k, hk, hz, hnz, ho, hd, hK⟩ := ht
  refine ⟨k, hk, hz, hnz, ho, hd, h.abs.tick hk hz hnz, ?_, h.below.trans (hK.below h.below.size h.own), h.newD, ?_⟩
  · rw [List.length_drop]
    have := h.len
    simp only [List.length_cons] at this ⊢
    omega
  · intro i b hb
    rw [List.getElem?_drop] at hb
    cases hki : k + i with
    | zero => rw [hki] at hb; cases hb; exact h.newN 0 a rfl
    | succ j => rw [hki] at hb; exact h.newN (j + 1) b hb
end
theorem delta_made (w : World) : DIs w (w.alloc (.cells #[.pointer none] 48)) w.heap.size [] (fun _ => 0) 0 :=
  ⟨⟨heap_new _ _, fun i a h => by simp at h, fun i j a b h => by simp at h⟩, Abs.nil, Nat.le_refl _, ((Keeps.refl (fun _ => False) w).alloc _).none, Nat.le_refl _, fun i a h => by simp at h⟩
theorem d_add (w w1 : World) (D m : Nat) (L : List Nd) (T : Int → Nat) (task : Int) (ticks : Nat) (h : DIs w w1 D L T m) (h0 : T task = 0) (hr : 0 ≤ task ∧ task < 16) (ht : 0 < ticks) (ht2 : ticks < 4294967296) :
    Calls Try.prog 23 #[.pointer (some ⟨D, 0, none⟩), .int .i64 task, .int .u32 (ticks : Int)] w1 fun e w' => e = .returned (.bool true) ∧ ∃ (L' : List Nd) (k g : Nat), Ins L L' k ⟨g, task, ticks - sumX L k⟩ ∧ sumX L k ≤ ticks ∧ (∀ a : Nd, L[k]? = some a → ticks < sumX L (k + 1)) ∧ DIs w w' D L' (fun t => if t = task then ticks else T t) (m + 1) :=
  (dadd_yes D L task ticks w1 h.is h.abs.lt (h.abs.no h0) hr.1 hr.2 ht ht2 h.abs.x_lt).mono fun e w' ⟨h1, h2⟩ => ⟨h1, h.added h2 h0 hr ht ht2⟩
theorem d_add' (w w1 : World) (D m : Nat) (T : Int → Nat) (task : Int) (ticks : Nat) (h : DAt w w1 D T m) (h0 : T task = 0) (hr : 0 ≤ task ∧ task < 16) (ht : 0 < ticks) (ht2 : ticks < 4294967296) :
    Calls Try.prog 23 #[.pointer (some ⟨D, 0, none⟩), .int .i64 task, .int .u32 (ticks : Int)] w1 fun e w' => e = .returned (.bool true) ∧ DAt w w' D (fun t => if t = task then ticks else T t) (m + 1) := by
  obtain ⟨L, h⟩ := h
  exact (d_add w w1 D m L T task ticks h h0 hr ht ht2).mono fun e w' ⟨h1, L', k, g, _, _, _, h2⟩ => ⟨h1, L', h2⟩
set_option maxRecDepth 20000 in
theorem dadd_in (D : Nat) (L : List Nd) (task : Int) (ticks : Nat) (w : World) (h : IsDelta w D L) (hsum : sumX L L.length < 4294967296) (kk : Nat) (nk : Nd) (ht : L[kk]? = some nk ∧ nk.t = task ∧ ∀ (j : Nat) (a : Nd), j < kk → L[j]? = some a → a.t ≠ task) :
    Calls Try.prog 23 #[.pointer (some ⟨D, 0, none⟩), .int .i64 task, .int .u32 (ticks : Int)] w fun e w' => e = .returned (.bool false) ∧ Keeps (fun _ => False) w w' := by
  have HL := Lib.hid (dleft_yes D L task w h hsum kk nk ht)
  clear h ht
  go_enter Try.func23, Try.ntmps23
  go_wp2_with fail
  go_step3
  go_wp2_with fail
  refine HL.out.mono ?_
  rintro e w2 ⟨rfl, k2⟩
  go_wp2
  try rw [Exit.noGoto_ret]
  go_ret
  exact ⟨rfl, k2⟩
set_option maxRecDepth 20000 in
theorem dadd_lo (D : Nat) (L : List Nd) (task : Int) (ticks : Nat) (w : World) (h : IsDelta w D L) (hsum : sumX L L.length < 4294967296) (ht : ∀ (j : Nat) (a : Nd), L[j]? = some a → a.t ≠ task) (hl : task < 0) :
    Calls Try.prog 23 #[.pointer (some ⟨D, 0, none⟩), .int .i64 task, .int .u32 (ticks : Int)] w fun e w' => e = .returned (.bool false) ∧ Keeps (fun _ => False) w w' := by
  have HL := Lib.hid (dleft_no D L task w h hsum ht)
  have d0 : decide (task < 0) = true := decide_eq_true hl
  clear h ht
  go_enter Try.func23, Try.ntmps23
  go_wp2_with fail
  go_step3
  go_wp2_with fail
  refine HL.out.mono ?_
  rintro e w2 ⟨rfl, k2⟩
  go_wp2
  try rw [Exit.noGoto_ret]
  go_ret
  exact ⟨rfl, k2⟩
set_option maxRecDepth 20000 in
theorem dadd_hi (D : Nat) (L : List Nd) (task : Int) (ticks : Nat) (w : World) (h : IsDelta w D L) (hsum : sumX L L.length < 4294967296) (ht : ∀ (j : Nat) (a : Nd), L[j]? = some a → a.t ≠ task) (hl : 16 ≤ task) :
    Calls Try.prog 23 #[.pointer (some ⟨D, 0, none⟩), .int .i64 task, .int .u32 (ticks : Int)] w fun e w' => e = .returned (.bool false) ∧ Keeps (fun _ => False) w w' := by
  have HL := Lib.hid (dleft_no D L task w h hsum ht)
  have d0 : decide (task < 0) = false := decide_eq_false (by omega)
  have d1 : decide (16 ≤ task) = true := decide_eq_true hl
  clear h ht
  go_enter Try.func23, Try.ntmps23
  go_wp2_with fail
  go_step3
  go_wp2_with fail
  refine HL.out.mono ?_
  rintro e w2 ⟨rfl, k2⟩
  go_wp2
  try rw [Exit.noGoto_ret]
  go_ret
  exact ⟨rfl, k2⟩
set_option maxRecDepth 20000 in
theorem dadd_zero (D : Nat) (L : List Nd) (task : Int) (ticks : Nat) (w : World) (h : IsDelta w D L) (hsum : sumX L L.length < 4294967296) (ht : ∀ (j : Nat) (a : Nd), L[j]? = some a → a.t ≠ task) (hl : 0 ≤ task ∧ task < 16) (hz : ticks = 0) :
    Calls Try.prog 23 #[.pointer (some ⟨D, 0, none⟩), .int .i64 task, .int .u32 (ticks : Int)] w fun e w' => e = .returned (.bool false) ∧ Keeps (fun _ => False) w w' := by
  have HL := Lib.hid (dleft_no D L task w h hsum ht)
  have d0 : decide (task < 0) = false := decide_eq_false (by omega)
  have d1 : decide (16 ≤ task) = false := decide_eq_false (by omega)
  subst hz
  clear h ht
  go_enter Try.func23, Try.ntmps23
  go_wp2_with fail
  go_step3
  go_wp2_with fail
  refine HL.out.mono ?_
  rintro e w2 ⟨rfl, k2⟩
  go_wp2
  try rw [Exit.noGoto_ret]
  go_ret
  exact ⟨rfl, k2⟩
theorem d_add_no (w w1 : World) (D m : Nat) (T : Int → Nat) (task : Int) (ticks : Nat) (h : DAt w w1 D T m) (hn : ¬ (T task = 0 ∧ (0 ≤ task ∧ task < 16) ∧ 0 < ticks)) :
    Calls Try.prog 23 #[.pointer (some ⟨D, 0, none⟩), .int .i64 task, .int .u32 (ticks : Int)] w1 fun e w' => e = .returned (.bool false) ∧ DAt w w' D T m := by
  obtain ⟨L, h⟩ := h
  by_cases h0 : T task = 0
  · have hno := h.abs.no h0
    rcases (by omega : task < 0 ∨ 16 ≤ task ∨ ((0 ≤ task ∧ task < 16) ∧ ticks = 0)) with h1 | h1 | ⟨h1, h2⟩
    · exact (dadd_lo D L task ticks w1 h.is h.abs.lt hno h1).mono fun e w' ⟨h1, h2⟩ => ⟨h1, L, h.none h2⟩
    · exact (dadd_hi D L task ticks w1 h.is h.abs.lt hno h1).mono fun e w' ⟨h1, h2⟩ => ⟨h1, L, h.none h2⟩
    · exact (dadd_zero D L task ticks w1 h.is h.abs.lt hno h1 h2).mono fun e w' ⟨h1, h2⟩ => ⟨h1, L, h.none h2⟩
  · obtain ⟨k, a, ha, he, hfirst, _⟩ := h.abs.yes h0
    exact (dadd_in D L task ticks w1 h.is h.abs.lt k a ⟨ha, he, hfirst⟩).mono fun e w' ⟨h1, h2⟩ => ⟨h1, L, h.none h2⟩
theorem d_left (w w1 : World) (D m : Nat) (T : Int → Nat) (t : Int) (h : DAt w w1 D T m) :
    Calls Try.prog 27 #[.pointer (some ⟨D, 0, none⟩), .int .i64 t] w1 fun e w' => e = .returned (.tuple #[.int .u32 (T t : Int), .bool (decide (T t ≠ 0))]) ∧ Keeps (fun _ => False) w1 w' := by
  obtain ⟨L, h⟩ := h
  by_cases h0 : T t = 0
  · rw [h0, decide_eq_false (by omega)]
    exact dleft_no D L t w1 h.is h.abs.lt (h.abs.no h0)
  · obtain ⟨k, a, ha, he, hfirst, hs⟩ := h.abs.yes h0
    rw [decide_eq_true h0, ← hs]
    exact dleft_yes D L t w1 h.is h.abs.lt k a ⟨ha, he, hfirst⟩
theorem d_rem (w w1 : World) (D m : Nat) (T : Int → Nat) (t : Int) (h : DAt w w1 D T m) :
    Calls Try.prog 24 #[.pointer (some ⟨D, 0, none⟩), .int .i64 t] w1 fun e w' => e = .returned (.tuple #[.int .u32 (T t : Int), .bool (decide (T t ≠ 0))]) ∧ DAt w w' D (fun z => if z = t then 0 else T z) m := by
  obtain ⟨L, h⟩ := h
  by_cases h0 : T t = 0
  · rw [h0, decide_eq_false (by omega)]
    refine (drem_no D L t w1 h.is h.abs.lt (h.abs.no h0)).mono fun e w' ⟨h1, h2⟩ => ⟨h1, L, ?_⟩
    have h3 := h.none h2
    exact ⟨h3.is, h3.abs.congr fun z => by by_cases e : z = t; subst e; rw [if_pos rfl, h0]; rw [if_neg e], h3.len, h3.below, h3.newD, h3.newN⟩
  · obtain ⟨k, a, ha, he, hfirst, hs⟩ := h.abs.yes h0
    rw [decide_eq_true h0, ← hs]
    refine (drem_yes D L t k a w1 h.is h.abs.lt h.abs.x_lt ⟨ha, he, hfirst⟩).mono fun e w' ⟨h1, h2⟩ => ⟨h1, ?_⟩
    have := h.removed h2
    rw [he] at this
    exact this
theorem d_tick (w w1 : World) (D m : Nat) (T : Int → Nat) (h : DAt w w1 D T m) (hm : m ≤ 1000) :
    Calls Try.prog 26 #[.pointer (some ⟨D, 0, none⟩)] w1 fun e w' => ∃ v, e = .returned v ∧ DAt w w' D (fun t => T t - 1) m := by
  obtain ⟨L, h⟩ := h
  cases L with
  | nil =>
    refine (dtick_none D w1 h.is).mono fun e w' ⟨h1, h2⟩ => ⟨_, h1, [], ?_⟩
    subst h2
    exact ⟨h.is, h.abs.congr fun z => by
      have : T z = 0 := by
        by_cases e : T z = 0
        · exact e
        · obtain ⟨k, a, ha, _⟩ := h.abs.all z e
          simp at ha
      rw [this], h.len, h.below, h.newD, h.newN⟩
  | cons a r =>
    have h3 : 0 < sumX (a :: r) 1 := h.abs.pos 0 a rfl
    have h2 : sumX (a :: r) 1 = 0 + a.x := rfl
    have hl := h.len
    simp only [List.length_cons] at hl
    refine (dtick_some D a r w1 h.is (by omega) (by omega) h.abs.x_lt).mono fun e w' ⟨v, h1, h2⟩ => ⟨v, h1, ?_⟩
    obtain ⟨k, _, _, _, _, h5⟩ := dis_ticked h h2
    exact ⟨_, h5⟩
theorem d_len (w w1 : World) (D m n : Nat) (T : Int → Nat) (h : DAt w w1 D T m) (hm : m ≤ 1000) (hn : ∀ t : Int, (n : Int) ≤ t → T t = 0) :
    Calls Try.prog 28 #[.pointer (some ⟨D, 0, none⟩)] w1 fun e w' => e = .returned (.int .i64 (cntT T n : Int)) ∧ Keeps (fun _ => False) w1 w' := by
  obtain ⟨L, h⟩ := h
  rw [← h.abs.count n hn]
  exact dlen D L w1 h.is (by have := h.len; omega)
end Go.Proofs.Ytdbplamhpkahaaa
