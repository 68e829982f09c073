import Derived.Test.YtlpnobpgphmngacDeltaNil
import Derived.Test.YtlpnobpgphmngacDeltaLeftLaw
namespace Go.Proofs.Ytlpnobpgphmngac
open Go.ChangeShapes Go.WideShapes Go.ChangeAt Go.RowKit
set_option linter.unusedVariables false
/-- Of two tasks that have the same ticks left, the smaller stands first. -/
def Ord (L : List Nd) (T : Int → Nat) : Prop := ∀ (i j : Nat) (a b : Nd), i < j → L[i]? = some a → L[j]? = some b → T a.t = T b.t → a.t < b.t
theorem Ord.add {L L' : List Nd} {T : Int → Nat} {k g ticks : Nat} {task : Int} (h : Ord L T) (hA : Abs L T) (hI : Ins L L' k ⟨g, task, ticks - sumX L k⟩) (h2 : ∀ a : Nd, L[k]? = some a → ticks < sumX L (k + 1)) (h0 : T task = 0) (hlt : ∀ (i : Nat) (a : Nd), L[i]? = some a → a.t < task) : Ord L' (fun t => if t = task then ticks else T t) := by
  have old : ∀ {i : Nat} {a : Nd}, L'[i]? = some a → (i = k ∧ a.t = task) ∨ (∃ (i0 : Nat) (b : Nd), L[i0]? = some b ∧ b.t = a.t ∧ a.t ≠ task ∧ ((i < k ∧ i0 = i) ∨ (k < i ∧ i0 + 1 = i))) := by
    intro i a ha
    rcases hI.cases ha with ⟨c1, c2⟩ | ⟨rfl, rfl⟩ | ⟨rfl, b, c2, rfl⟩ | ⟨c1, c2⟩
    · exact .inr ⟨i, a, c2, rfl, hA.no h0 i a c2, .inl ⟨c1, rfl⟩⟩
    · exact .inl ⟨rfl, rfl⟩
    · exact .inr ⟨k, b, c2, rfl, hA.no h0 k b c2, .inr ⟨by omega, rfl⟩⟩
    · exact .inr ⟨i - 1, a, c2, rfl, hA.no h0 (i - 1) a c2, .inr ⟨by omega, by omega⟩⟩
  intro i j a b hij ha hb he
  rcases old ha with ⟨rfl, e1⟩ | ⟨i0, a0, e1, e2, e3, e4⟩
  · rcases old hb with ⟨rfl, e5⟩ | ⟨j0, b0, f1, f2, f3, f4⟩
    · omega
    · dsimp only at he
      rw [if_pos e1, if_neg f3] at he
      have hm := hA.mem j0 b0 f1
      rw [f2, ← he] at hm
      rcases f4 with f4 | f4
      · omega
      · have hkl : i < L.length := by have := get_lt f1; omega
        have := h2 _ (List.getElem?_eq_getElem hkl)
        have := sumX_mono L (show i + 1 ≤ j0 + 1 by omega)
        omega
  · rcases old hb with ⟨rfl, e5⟩ | ⟨j0, b0, f1, f2, f3, f4⟩
    · rw [e5, ← e2]
      exact hlt i0 a0 e1
    · dsimp only at he
      rw [if_neg e3, if_neg f3] at he
      have := h i0 j0 a0 b0 (by omega) e1 f1 (by rw [e2, f2]; exact he)
      omega
theorem Ord.del {L L' : List Nd} {T : Int → Nat} {k : Nat} {n : Nd} (h : Ord L T) (hA : Abs L T) (hI : Del L L' k n) : Ord L' (fun t => if t = n.t then 0 else T t) := by
  have old : ∀ {i : Nat} {a : Nd}, L'[i]? = some a → ∃ (i0 : Nat) (b : Nd), L[i0]? = some b ∧ b.t = a.t ∧ a.t ≠ n.t ∧ ((i < k ∧ i0 = i) ∨ (k ≤ i ∧ i0 = i + 1)) := by
    intro i a ha
    rcases hI.cases ha with ⟨c1, c2⟩ | ⟨rfl, b, c2, rfl⟩ | ⟨c1, c2⟩
    · exact ⟨i, a, c2, rfl, fun e => by have := hA.uniq i k a n c2 hI.at_ e; omega, .inl ⟨c1, rfl⟩⟩
    · exact ⟨i + 1, b, c2, rfl, fun e => by have := hA.uniq (i + 1) i b n c2 hI.at_ e; omega, .inr ⟨by omega, rfl⟩⟩
    · exact ⟨i + 1, a, c2, rfl, fun e => by have := hA.uniq (i + 1) k a n c2 hI.at_ e; omega, .inr ⟨by omega, rfl⟩⟩
  intro i j a b hij ha hb he
  obtain ⟨i0, a0, e1, e2, e3, e4⟩ := old ha
  obtain ⟨j0, b0, f1, f2, f3, f4⟩ := old hb
  dsimp only at he
  rw [if_neg e3, if_neg f3] at he
  have := h i0 j0 a0 b0 (by omega) e1 f1 (by rw [e2, f2]; exact he)
  omega
theorem Ord.tick {a : Nd} {r : List Nd} {T : Int → Nat} (k : Nat) (h : Ord (a :: r) T) (hA : Abs (a :: r) T) : Ord ((⟨a.g, a.t, a.x - 1⟩ :: r : List Nd).drop k) (fun t => T t - 1) := by
  have old : ∀ {i : Nat} {c : Nd}, ((⟨a.g, a.t, a.x - 1⟩ :: r : List Nd).drop k)[i]? = some c → ∃ b, (a :: r)[k + i]? = some b ∧ b.t = c.t := by
    intro i c hc
    rw [List.getElem?_drop] at hc
    cases hki : k + i with
    | zero => rw [hki] at hc; cases hc; exact ⟨a, rfl, rfl⟩
    | succ z => rw [hki] at hc; exact ⟨c, hc, rfl⟩
  intro i j x y hij hx hy he
  obtain ⟨x0, e1, e2⟩ := old hx
  obtain ⟨y0, f1, f2⟩ := old hy
  have p1 := hA.pos _ _ e1
  have p2 := hA.pos _ _ f1
  have m1 := hA.mem _ _ e1
  have m2 := hA.mem _ _ f1
  dsimp only at he
  rw [← e2, ← f2] at he
  have := h (k + i) (k + j) x0 y0 (by omega) e1 f1 (by omega)
  omega
/-- What Tick tells: the tasks that had one tick left, the smaller first. -/
structure Told (T : Int → Nat) (n : Nat) (F : Nat → Int) : Prop where
  up : ∀ i j, i < j → j < n → F i < F j
  one : ∀ j, j < n → T (F j) = 1
  all : ∀ t : Int, T t = 1 → ∃ j, j < n ∧ F j = t
theorem told_of {a : Nd} {r : List Nd} {T : Int → Nat} {k : Nat} (h : Ord (a :: r) T) (hA : Abs (a :: r) T) (hk : k ≤ r.length + 1)
    (hz : ∀ (i : Nat) (b : Nd), i < k → (⟨a.g, a.t, a.x - 1⟩ :: r : List Nd)[i]? = some b → b.x = 0) (hnz : ∀ b : Nd, (⟨a.g, a.t, a.x - 1⟩ :: r : List Nd)[k]? = some b → b.x ≠ 0) : Told T k (tk (⟨a.g, a.t, a.x - 1⟩ :: r)) := by
  have h1 : 1 ≤ a.x := by
    have h3 : 0 < sumX (a :: r) 1 := hA.pos 0 a rfl
    have h2 : sumX (a :: r) 1 = 0 + a.x := rfl
    omega
  have at_ : ∀ j, j ≤ r.length → ∃ b, (a :: r)[j]? = some b ∧ tk (⟨a.g, a.t, a.x - 1⟩ :: r) j = b.t := by
    intro j hj
    cases j with
    | zero => exact ⟨a, rfl, rfl⟩
    | succ z =>
      have hb := List.getElem?_eq_getElem (l := r) (i := z) (by omega)
      exact ⟨r[z], hb, tk_some (L := ⟨a.g, a.t, a.x - 1⟩ :: r) (i := z + 1) hb⟩
  have sum1 : ∀ j, j < k → sumX (a :: r) (j + 1) = 1 := by
    intro j hj
    have := sumX_dec a r h1 j
    have := sumX_zero (L := ⟨a.g, a.t, a.x - 1⟩ :: r) (j + 1) fun i b hi hb => hz i b (by omega) hb
    omega
  refine ⟨?_, ?_, ?_⟩
  · intro i j hij hj
    obtain ⟨x, e1, e2⟩ := at_ i (by omega)
    obtain ⟨y, f1, f2⟩ := at_ j (by omega)
    rw [e2, f2]
    exact h i j x y hij e1 f1 (by rw [hA.mem i x e1, hA.mem j y f1, sum1 i (by omega), sum1 j hj])
  · intro j hj
    obtain ⟨y, f1, f2⟩ := at_ j (by omega)
    rw [f2, hA.mem j y f1, sum1 j hj]
  · intro t ht
    obtain ⟨q, b, hb, he, _, hs⟩ := hA.yes (t := t) (by omega)
    have hq := get_lt hb
    simp only [List.length_cons] at hq
    have hqk : q < k := by
      rcases Nat.lt_or_ge q k with c | c
      · exact c
      · exfalso
        have hkl : k < (⟨a.g, a.t, a.x - 1⟩ :: r : List Nd).length := by simp only [List.length_cons]; omega
        have hkn := List.getElem?_eq_getElem hkl
        have n0 := hnz _ hkn
        have s1 := sumX_succ hkn
        have s2 := sumX_mono (⟨a.g, a.t, a.x - 1⟩ :: r) (show k + 1 ≤ q + 1 by omega)
        have s3 := sumX_dec a r h1 q
        omega
    refine ⟨q, hqk, ?_⟩
    obtain ⟨y, f1, f2⟩ := at_ q (by omega)
    rw [hb] at f1
    cases f1
    rw [f2, he]
/-- A delta list in order, all of whose tasks lie below hi. -/
def DSo (w wr : World) (D : Nat) (T : Int → Nat) (m : Nat) : Prop := ∃ L, DIs w wr D L T m ∧ Ord L T
/-- The same, and beside it the copy, which nobody turns. -/
def DCo (w wr : World) (D : Nat) (T : Int → Nat) (m C : Nat) (M : List Nd) : Prop := ∃ L, DIs w wr D L T m ∧ Ord L T ∧ IsDelta wr C M ∧ ∀ k, Own C M k → ¬ Own D L k
section
variable {w w1 w2 : World} {D m C : Nat} {T : Int → Nat} {M : List Nd}
theorem DSo.none (h : DSo w w1 D T m) (hk : Keeps (fun _ => False) w1 w2) : DSo w w2 D T m := by
  obtain ⟨L, h1, h2⟩ := h
  exact ⟨L, h1.none hk, h2⟩
theorem DSo.at (h : DSo w w1 D T m) : DAt w w1 D T m := by
  obtain ⟨L, h1, _⟩ := h
  exact ⟨L, h1⟩
theorem DCo.none (h : DCo w w1 D T m C M) (hk : Keeps (fun _ => False) w1 w2) : DCo w w2 D T m C M := by
  obtain ⟨L, h1, h2, h3, h4⟩ := h
  exact ⟨L, h1.none hk, h2, h3.none hk, h4⟩
theorem DCo.at (h : DCo w w1 D T m C M) : DAt w w1 D T m := by
  obtain ⟨L, h1, _⟩ := h
  exact ⟨L, h1⟩
theorem DCo.cp (h : DCo w w1 D T m C M) : IsDelta w1 C M := h.choose_spec.2.2.1
theorem DSo.congr {T' : Int → Nat} (h : DSo w w1 D T m) (e : ∀ t, T' t = T t) : DSo w w1 D T' m := by
  rw [show T' = T from funext e]; exact h
theorem DCo.congr {T' : Int → Nat} (h : DCo w w1 D T m C M) (e : ∀ t, T' t = T t) : DCo w w1 D T' m C M := by
  rw [show T' = T from funext e]; exact h
theorem DSo.mono {m' : Nat} (h : DSo w w1 D T m) (e : m ≤ m') : DSo w w1 D T m' := by
  obtain ⟨L, h, h2⟩ := h
  exact ⟨L, ⟨h.is, h.abs, Nat.le_trans h.len e, h.below, h.newD, h.newN⟩, h2⟩
end
theorem so_made (w : World) : DSo w (w.alloc (.cells #[.pointer none] 27)) w.heap.size (fun _ => 0) 0 :=
  ⟨[], delta_made w, fun i j a b _ h => by simp at h⟩
theorem so_add (w w1 : World) (D m : Nat) (T : Int → Nat) (task : Int) (ticks : Nat) (h : DSo w w1 D T m) (h0 : T task = 0) (hr : 0 ≤ task ∧ task < 16) (ht : 0 < ticks) (ht2 : ticks < 4294967296) (hlt : ∀ t : Int, T t ≠ 0 → t < task) :
    Calls Try.prog 10 #[.pointer (some ⟨D, 0, none⟩), .int .i64 task, .int .u32 (ticks : Int)] w1 fun e w' => e = .returned (.bool true) ∧ DSo w w' D (fun t => if t = task then ticks else T t) (m + 1) := by
  obtain ⟨L, h, ho⟩ := h
  refine (d_add w w1 D m L T task ticks h h0 hr ht ht2).mono fun e w' ⟨h1, L', k, g, hI, hs, h2, h3⟩ => ⟨h1, L', h3, ho.add h.abs hI h2 h0 fun i a ha => hlt a.t ?_⟩
  have p1 := h.abs.pos _ _ ha
  have p2 := h.abs.mem _ _ ha
  omega
theorem so_add_no (w w1 : World) (D m : Nat) (T : Int → Nat) (task : Int) (ticks : Nat) (h : DSo w w1 D T m) (h0 : T task = 0) (hl : 0 ≤ task ∧ task < 16) (ht : ticks = 0) :
    Calls Try.prog 10 #[.pointer (some ⟨D, 0, none⟩), .int .i64 task, .int .u32 (ticks : Int)] w1 fun e w' => e = .returned (.bool false) ∧ DSo w w' D T m := by
  obtain ⟨L, h, ho⟩ := h
  exact (dadd_zero D L task ticks w1 h.is h.abs.lt (h.abs.no h0) hl ht).mono fun e w' ⟨h1, h2⟩ => ⟨h1, L, h.none h2, ho⟩
theorem so_rem (w w1 : World) (D m : Nat) (T : Int → Nat) (t : Int) (h : DSo w w1 D T m) :
    Calls Try.prog 12 #[.pointer (some ⟨D, 0, none⟩), .int .i64 t] w1 fun e w' => e = .returned (.tuple #[.int .u32 (T t : Int), .bool (decide (T t ≠ 0))]) ∧ DSo w w' D (fun z => if z = t then 0 else T z) m := by
  obtain ⟨L, h, ho⟩ := h
  by_cases h0 : T t = 0
  · have e : (fun z => if z = t then 0 else T z) = T := funext fun z => by by_cases e : z = t; subst e; rw [if_pos rfl, h0]; rw [if_neg e]
    rw [e, h0, decide_eq_false (by omega)]
    exact (drem_no D L t w1 h.is h.abs.lt (h.abs.no h0)).mono fun e w' ⟨h1, h2⟩ => ⟨h1, L, h.none h2, ho⟩
  · obtain ⟨k, a, ha, he, hfirst, hs⟩ := h.abs.yes h0
    rw [decide_eq_true h0, ← hs]
    refine (drem_yes D L t k a w1 h.is h.abs.lt h.abs.x_lt ⟨ha, he, hfirst⟩).mono fun e w' ⟨h1, L', hI, hd, hk⟩ => ⟨h1, L', ?_⟩
    have hdel := ho.del h.abs hI
    have habs := h.abs.del hI
    rw [he] at hdel habs
    refine ⟨⟨hd, habs, by have := hI.len; have := h.len; omega, h.below.trans (hk.below h.below.size h.own), h.newD, ?_⟩, hdel⟩
    intro i a ha
    rcases hI.cases ha with ⟨c1, c2⟩ | ⟨rfl, b, c2, rfl⟩ | ⟨c1, c2⟩
    · exact h.newN i a c2
    · exact h.newN (i + 1) b c2
    · exact h.newN (i + 1) a c2
theorem so_copy (w w1 : World) (D m : Nat) (T : Int → Nat) (h : DSo w w1 D T m) (hm : m ≤ 1000) :
    Calls Try.prog 22 #[.pointer (some ⟨D, 0, none⟩)] w1 fun e w' => ∃ C M, e = .returned (.pointer (some ⟨C, 0, none⟩)) ∧ M.length ≤ m ∧ DCo w w' D T m C M := by
  obtain ⟨L, h, ho⟩ := h
  refine (dcopy D L w1 h.is (by have := h.len; omega)).mono fun e w' ⟨h1, M, h2⟩ => ⟨_, M, h1, by rw [h2.len]; exact h.len, L, ?_, ho, h2.is, ?_⟩
  · exact ⟨h.is.below h2.below h.is.lt fun i nd hi => lt_of (h.is.node i nd hi), h.abs, h.len, h.below.trans (h2.below.mono h.below.size), h.newD, h.newN⟩
  · intro k hk hk2
    have a1 : w1.heap.size ≤ k := by
      rcases hk with rfl | ⟨i, a, ha, rfl⟩
      · exact h2.lo
      · exact h2.new i a ha
    have a2 : k < w1.heap.size := by
      rcases hk2 with rfl | ⟨i, a, ha, rfl⟩
      · exact h.is.lt
      · exact lt_of (h.is.node i a ha)
    omega
theorem co_tick (w w1 : World) (D m C : Nat) (M : List Nd) (T : Int → Nat) (h : DCo w w1 D T m C M) (hm : m ≤ 1000) :
    Calls Try.prog 16 #[.pointer (some ⟨D, 0, none⟩)] w1 fun e w' => ∃ a n c F, e = .returned (.slice a n c) ∧ n ≤ m ∧ Row w' a n F ∧ Told T n F ∧ DCo w w' D (fun t => T t - 1) m C M := by
  obtain ⟨L, h, ho, hc, hap⟩ := h
  cases L with
  | nil =>
    refine (dtick_none D w1 h.is).mono fun e w' ⟨h1, h2⟩ => ⟨_, _, _, fun _ => 0, h1, by omega, fun hp => by omega, ?_, [], ?_, ?_, ?_, hap⟩
    · have hz : ∀ z, T z = 0 := fun z => by
        by_cases e : T z = 0
        · exact e
        · obtain ⟨k, a, ha, _⟩ := h.abs.all z e
          simp at ha
      exact ⟨fun i j _ hj => by omega, fun j hj => by omega, fun t ht => by rw [hz t] at ht; omega⟩
    · subst h2
      exact ⟨h.is, h.abs.congr fun z => by
        have : T z = 0 := by
          by_cases e : T z = 0
          · exact e
          · obtain ⟨k, a, ha, _⟩ := h.abs.all z e
            simp at ha
        rw [this], h.len, h.below, h.newD, h.newN⟩
    · exact fun i j a b _ h => by simp at h
    · subst h2
      exact hc
  | cons a r =>
    have h3 : 0 < sumX (a :: r) 1 := h.abs.pos 0 a rfl
    have h2 : sumX (a :: r) 1 = 0 + a.x := rfl
    have hl := h.len
    simp only [List.length_cons] at hl
    refine (dtick_some D a r w1 h.is (by omega) (by omega) h.abs.x_lt).mono fun e w' ⟨v, h1, h2⟩ => ?_
    have hK : Keeps (Own D (a :: r)) w1 w' := by obtain ⟨_, _, _, _, _, _, hK⟩ := h2; exact hK
    obtain ⟨k, hkl, hz, hnz, hown, h5⟩ := dis_ticked h h2
    obtain ⟨s, cap, rfl, hrow⟩ := Row.ofOwn hown
    refine ⟨s, k, cap, _, h1, by omega, hrow, told_of ho h.abs hkl hz hnz, _, h5, ho.tick k h.abs, hc.keeps hK (hap C (.inl rfl)) (fun i nd hi => hap nd.g (.inr ⟨i, nd, hi, rfl⟩)), ?_⟩
    intro q hq hq2
    refine hap q hq ?_
    rcases hq2 with rfl | ⟨i, b, hb, rfl⟩
    · exact .inl rfl
    · rw [List.getElem?_drop] at hb
      cases hki : k + i with
      | zero => rw [hki] at hb; cases hb; exact .inr ⟨0, a, rfl, rfl⟩
      | succ z => rw [hki] at hb; exact .inr ⟨z + 1, b, hb, rfl⟩
end Go.Proofs.Ytlpnobpgphmngac
