import Derived.Test.YtfniicgfnlklbabDeltaDocD
namespace Go.Proofs.Ytfniicgfnlklbab
open Go.ChangeShapes Go.WideShapes Go.ChangeAt Go.RowKit
set_option linter.unusedVariables false
set_option linter.unusedSimpArgs false
/-- The program's delta list and the document's row, side by side: D: the list's head, X: the box of the document's delta. -/
structure BD (W w : World) (D X : Nat) (L : List Nd) (T : Int → Nat) (A : Option Addr) (c : Nat) (R : List (Int × Nat)) : Prop where
  is : IsDelta w D L
  abs : Abs L T
  lp : LP w A c R
  box : w.heap[X]? = some (.cells #[.slice A R.length c] 30 (0, 0))
  offX : ∀ k, Own D L k → k ≠ X ∧ ∀ b off, A = some ⟨b, off, none⟩ → k ≠ b
  farX : ∀ b off, A = some ⟨b, off, none⟩ → b ≠ X
  newO : ∀ k, Own D L k → W.heap.size ≤ k
  newX : W.heap.size ≤ X
  keep : Keeps (fun _ => False) W w
theorem keeps_over {S : Nat → Prop} {a w w' : World} (h : Keeps (fun _ => False) a w) (k : Keeps S w w') (hs : ∀ z, S z → a.heap.size ≤ z) : Keeps (fun _ => False) a w' :=
  ⟨k.os.trans h.os, k.tape.trans h.tape, k.output.trans h.output, Nat.le_trans h.size k.size, fun z hz _ => (k.block z (Nat.lt_of_lt_of_le hz h.size) fun hS => by have := hs z hS; omega).trans (h.block z hz fun h => h)⟩
section
variable {W w w' : World} {D X : Nat} {L L' : List Nd} {T T' : Int → Nat} {A A' : Option Addr} {c c' : Nat} {R R' : List (Int × Nat)}
theorem BD.own_lt (h : BD W w D X L T A c R) : ∀ k, Own D L k → k < w.heap.size := by
  intro k hk
  rcases hk with rfl | ⟨i, a, ha, rfl⟩
  · exact lt_of h.is.head
  · exact lt_of (h.is.node i a ha)
theorem BD.lp_lt (h : BD W w D X L T A c R) : ∀ b off, A = some ⟨b, off, Option.none⟩ → b < w.heap.size := by
  intro b off e
  obtain ⟨b', e', hb, _⟩ := h.lp.lies _ e
  injection e' with e1
  subst e1
  exact hb
theorem BD.none (h : BD W w D X L T A c R) (k : Keeps (fun _ => False) w w') : BD W w' D X L T A c R :=
  ⟨h.is.none k, h.abs, h.lp.none k, k.at h.box fun h => h, h.offX, h.farX, h.newO, h.newX, h.keep.trans k⟩
theorem BD.step (h : BD W w D X L T A c R) (k : Keeps (Own D L) w w') (hi : IsDelta w' D L') (ha : Abs L' T') (ho : ∀ j, Own D L' j → Own D L j ∨ w.heap.size ≤ j) : BD W w' D X L' T' A c R := by
  refine ⟨hi, ha, h.lp.keeps k fun b off e hb => (h.offX b hb).2 b off e rfl, k.at h.box fun hb => (h.offX X hb).1 rfl, fun j hj => ?_, h.farX, fun j hj => ?_, h.newX, keeps_over h.keep k h.newO⟩
  · rcases ho j hj with h1 | h1
    · exact h.offX j h1
    · have h2 := lt_of h.box
      exact ⟨by omega, fun b off e => by have := h.lp_lt b off e; omega⟩
  · rcases ho j hj with h1 | h1
    · exact h.newO j h1
    · have := h.keep.size
      omega
theorem BD.store (h : BD W w D X L T A c R) (k : Keeps (fun _ => False) w w') (q : LP w' A' c' R') (hf : A' = A ∨ ∀ b off, A' = some ⟨b, off, Option.none⟩ → w.heap.size ≤ b) : BD W (w'.setCell ⟨X, 0, Option.none⟩ (.slice A' R'.length c')) D X L T A' c' R' := by
  have hX := lt_of h.box
  have ks : Keeps (fun k => k = X) w' (w'.setCell ⟨X, 0, Option.none⟩ (.slice A' R'.length c')) := (Keeps.refl (fun k => k = X) w').setCell (p := ⟨X, 0, Option.none⟩) (.inl rfl) _
  have hfar : ∀ b off, A' = some ⟨b, off, Option.none⟩ → b ≠ X := fun b off e => by
    rcases hf with rfl | hf
    · exact h.farX b off e
    · have := hf b off e; omega
  refine ⟨(h.is.none k).keeps ks (fun e => (h.offX D (.inl rfl)).1 e) fun i nd hi e => (h.offX nd.g (.inr ⟨i, nd, hi, rfl⟩)).1 e, h.abs, q.keeps ks fun b off e hb => hfar b off e hb, ?_, fun j hj => ⟨(h.offX j hj).1, fun b off e => ?_⟩, hfar, h.newO, h.newX, keeps_over (h.keep.trans k) ks fun z hz => by rw [hz]; exact h.newX⟩
  · exact heap_set (k.at h.box fun h => h) 0 (.slice A' R'.length c')
  · rcases hf with rfl | hf
    · exact (h.offX j hj).2 b off e
    · have h1 := hf b off e
      have h2 := h.own_lt j hj
      omega
end
theorem Abs.T_lt {L : List Nd} {T : Int → Nat} (h : Abs L T) (t : Int) : T t < 4294967296 := by
  by_cases e : T t = 0
  · omega
  · obtain ⟨i, a, ha, et⟩ := h.all t e
    have h1 := h.mem i a ha
    have h2 := sumX_mono L (show i + 1 ≤ L.length from (List.getElem?_eq_some_iff.1 ha).1)
    have h3 := h.lt
    rw [et] at h1
    omega
theorem RelD.len {L : List Nd} {T : Int → Nat} {R : List (Int × Nat)} (h : RelD L T R) (hA : Abs L T) : L.length = R.length := by
  have := congrArg List.length (h.list hA)
  rw [List.length_map, List.length_map, sortS_len] at this
  exact this
theorem RelD.says {L : List Nd} {T : Int → Nat} {R : List (Int × Nat)} (h : RelD L T R) (hA : Abs L T) (hl : L.length ≤ 100) : Says T R :=
  ⟨h.val, h.all, h.nd, hA.T_lt, by rw [← h.len hA]; exact hl⟩
section
variable (W w : World) (D X m : Nat) (L : List Nd) (T : Int → Nat) (A : Option Addr) (c : Nat) (R : List (Int × Nat))
theorem bd_left (h : BD W w D X L T A c R) (t : Int) :
    Calls Try.prog 14 #[.pointer (some ⟨D, 0, none⟩), .int .i64 t] w fun e w' => e = .returned (.tuple #[.int .u32 (T t : Int), .bool (decide (T t ≠ 0))]) ∧ Keeps (fun _ => False) w w' := by
  by_cases h0 : T t = 0
  · rw [h0, decide_eq_false (by omega)]
    exact dleft_no D L t w h.is h.abs.lt (h.abs.no h0)
  · obtain ⟨k, a, ha, he, hfirst, hs⟩ := h.abs.yes h0
    rw [decide_eq_true h0, ← hs]
    exact dleft_yes D L t w h.is h.abs.lt k a ⟨ha, he, hfirst⟩
theorem bd_add (h : BD W w D X L T A c R) (hr : RelD L T R) (task : Int) (ticks : Nat) (ht2 : ticks < 4294967296) :
    Calls Try.prog 7 #[.pointer (some ⟨D, 0, none⟩), .int .i64 task, .int .u32 (ticks : Int)] w fun e w' => e = .returned (.bool (decide (T task = 0 ∧ (0 ≤ task ∧ task < 16) ∧ 0 < ticks))) ∧ ∃ L' T', BD W w' D X L' T' A c R ∧ RelD L' T' (if T task = 0 ∧ (0 ≤ task ∧ task < 16) ∧ 0 < ticks then R ++ [(task, ticks)] else R) ∧ L'.length ≤ L.length + 1 := by
  by_cases hc : T task = 0 ∧ (0 ≤ task ∧ task < 16) ∧ 0 < ticks
  · rw [if_pos hc, decide_eq_true hc]
    refine (dadd_yes D L task ticks w h.is h.abs.lt (h.abs.no hc.1) hc.2.1.1 hc.2.1.2 hc.2.2 ht2 h.abs.x_lt).mono fun e w' ⟨h1, h2⟩ => ⟨h1, ?_⟩
    obtain ⟨L', k, g, hI, s1, s2, hg, hd, hk⟩ := h2
    have hA' := h.abs.add hI s1 s2 hc.1 hc.2.1 hc.2.2 ht2
    refine ⟨L', _, h.step hk hd hA' fun j hj => ?_, hr.add h.abs hI s2 hc.1 hc.2.2, by rw [hI.len]; omega⟩
    rcases hj with rfl | ⟨i, a, ha, rfl⟩
    · exact .inl (.inl rfl)
    · rcases hI.cases ha with ⟨c1, c2⟩ | ⟨rfl, rfl⟩ | ⟨rfl, b, c2, rfl⟩ | ⟨c1, c2⟩
      · exact .inl (.inr ⟨i, a, c2, rfl⟩)
      · exact .inr hg
      · exact .inl (.inr ⟨k, b, c2, rfl⟩)
      · exact .inl (.inr ⟨i - 1, a, c2, rfl⟩)
  · rw [if_neg hc, decide_eq_false hc]
    have out : ∀ {e : Ending} {w' : World}, (e = .returned (.bool false) ∧ Keeps (fun _ => False) w w') → e = .returned (.bool false) ∧ ∃ L' T', BD W w' D X L' T' A c R ∧ RelD L' T' R ∧ L'.length ≤ L.length + 1 := by
      rintro e w' ⟨h1, k⟩
      exact ⟨h1, L, T, h.none k, hr, by omega⟩
    by_cases h0 : T task = 0
    · have hno := h.abs.no h0
      rcases (by omega : task < 0 ∨ 16 ≤ task ∨ ((0 ≤ task ∧ task < 16) ∧ ticks = 0)) with h1 | h1 | ⟨h1, h2⟩
      · exact (dadd_lo D L task ticks w h.is h.abs.lt hno h1).mono fun e w' hh => out hh
      · exact (dadd_hi D L task ticks w h.is h.abs.lt hno h1).mono fun e w' hh => out hh
      · exact (dadd_zero D L task ticks w h.is h.abs.lt hno h1 h2).mono fun e w' hh => out hh
    · obtain ⟨k, a, ha, he, hfirst, _⟩ := h.abs.yes h0
      exact (dadd_in D L task ticks w h.is h.abs.lt k a ⟨ha, he, hfirst⟩).mono fun e w' hh => out hh
end
end Go.Proofs.Ytfniicgfnlklbab
