import Derived.Test.YtfniicgfnlklbabDeltaRefU
namespace Go.Proofs.Ytfniicgfnlklbab
open Go.ChangeShapes Go.WideShapes Go.ChangeAt Go.RowKit
set_option linter.unusedVariables false
/-- Of two tasks that have the same ticks left, the one that B puts before the other stands first. -/
def OrdB (B : Int → Int → Prop) (L : List Nd) (T : Int → Nat) : Prop := ∀ (i j : Nat) (a b : Nd), i < j → L[i]? = some a → L[j]? = some b → T a.t = T b.t → B a.t b.t
theorem OrdB.add {B : Int → Int → Prop} {L L' : List Nd} {T : Int → Nat} {k g ticks : Nat} {task : Int} (h : OrdB B L T) (hA : Abs L T) (hI : Ins L L' k ⟨g, task, ticks - sumX L k⟩) (h2 : ∀ a : Nd, L[k]? = some a → ticks < sumX L (k + 1)) (h0 : T task = 0) (hlt : ∀ (i : Nat) (a : Nd), L[i]? = some a → B a.t task) : OrdB B L' (fun t => if t = task then ticks else T t) := by
  have old : ∀ {i : Nat} {a : Nd}, L'[i]? = some a → (i = k ∧ a.t = task) ∨ (∃ (i0 : Nat) (b : Nd), L[i0]? = some b ∧ b.t = a.t ∧ a.t ≠ task ∧ ((i < k ∧ i0 = i) ∨ (k < i ∧ i0 + 1 = i))) := by
    intro i a ha
    rcases hI.cases ha with ⟨c1, c2⟩ | ⟨rfl, rfl⟩ | ⟨rfl, b, c2, rfl⟩ | ⟨c1, c2⟩
    · exact .inr ⟨i, a, c2, rfl, hA.no h0 i a c2, .inl ⟨c1, rfl⟩⟩
    · exact .inl ⟨rfl, rfl⟩
    · exact .inr ⟨k, b, c2, rfl, hA.no h0 k b c2, .inr ⟨by omega, rfl⟩⟩
    · exact .inr ⟨i - 1, a, c2, rfl, hA.no h0 (i - 1) a c2, .inr ⟨by omega, by omega⟩⟩
  intro i j a b hij ha hb he
  rcases old ha with ⟨rfl, e1⟩ | ⟨i0, a0, e1, e2, e3, e4⟩
  · rcases old hb with ⟨rfl, e5⟩ | ⟨j0, b0, f1, f2, f3, f4⟩
    · omega
    · dsimp only at he
      rw [if_pos e1, if_neg f3] at he
      have hm := hA.mem j0 b0 f1
      rw [f2, ← he] at hm
      rcases f4 with f4 | f4
      · omega
      · have hkl : i < L.length := by have := get_lt f1; omega
        have := h2 _ (List.getElem?_eq_getElem hkl)
        have := sumX_mono L (show i + 1 ≤ j0 + 1 by omega)
        omega
  · rcases old hb with ⟨rfl, e5⟩ | ⟨j0, b0, f1, f2, f3, f4⟩
    · rw [e5, ← e2]
      exact hlt i0 a0 e1
    · dsimp only at he
      rw [if_neg e3, if_neg f3] at he
      have := h i0 j0 a0 b0 (by omega) e1 f1 (by rw [e2, f2]; exact he)
      rw [← e2, ← f2]
      exact this
theorem OrdB.del {B : Int → Int → Prop} {L L' : List Nd} {T : Int → Nat} {k : Nat} {n : Nd} (h : OrdB B L T) (hA : Abs L T) (hI : Del L L' k n) : OrdB B L' (fun t => if t = n.t then 0 else T t) := by
  have old : ∀ {i : Nat} {a : Nd}, L'[i]? = some a → ∃ (i0 : Nat) (b : Nd), L[i0]? = some b ∧ b.t = a.t ∧ a.t ≠ n.t ∧ ((i < k ∧ i0 = i) ∨ (k ≤ i ∧ i0 = i + 1)) := by
    intro i a ha
    rcases hI.cases ha with ⟨c1, c2⟩ | ⟨rfl, b, c2, rfl⟩ | ⟨c1, c2⟩
    · exact ⟨i, a, c2, rfl, fun e => by have := hA.uniq i k a n c2 hI.at_ e; omega, .inl ⟨c1, rfl⟩⟩
    · exact ⟨i + 1, b, c2, rfl, fun e => by have := hA.uniq (i + 1) i b n c2 hI.at_ e; omega, .inr ⟨by omega, rfl⟩⟩
    · exact ⟨i + 1, a, c2, rfl, fun e => by have := hA.uniq (i + 1) k a n c2 hI.at_ e; omega, .inr ⟨by omega, rfl⟩⟩
  intro i j a b hij ha hb he
  obtain ⟨i0, a0, e1, e2, e3, e4⟩ := old ha
  obtain ⟨j0, b0, f1, f2, f3, f4⟩ := old hb
  dsimp only at he
  rw [if_neg e3, if_neg f3] at he
  have := h i0 j0 a0 b0 (by omega) e1 f1 (by rw [e2, f2]; exact he)
  rw [← e2, ← f2]
  exact this
theorem OrdB.tick {B : Int → Int → Prop} {a : Nd} {r : List Nd} {T : Int → Nat} (k : Nat) (h : OrdB B (a :: r) T) (hA : Abs (a :: r) T) : OrdB B ((⟨a.g, a.t, a.x - 1⟩ :: r : List Nd).drop k) (fun t => T t - 1) := by
  have old : ∀ {i : Nat} {c : Nd}, ((⟨a.g, a.t, a.x - 1⟩ :: r : List Nd).drop k)[i]? = some c → ∃ b, (a :: r)[k + i]? = some b ∧ b.t = c.t := by
    intro i c hc
    rw [List.getElem?_drop] at hc
    cases hki : k + i with
    | zero => rw [hki] at hc; cases hc; exact ⟨a, rfl, rfl⟩
    | succ z => rw [hki] at hc; exact ⟨c, hc, rfl⟩
  intro i j x y hij hx hy he
  obtain ⟨x0, e1, e2⟩ := old hx
  obtain ⟨y0, f1, f2⟩ := old hy
  have p1 := hA.pos _ _ e1
  have p2 := hA.pos _ _ f1
  have m1 := hA.mem _ _ e1
  have m2 := hA.mem _ _ f1
  dsimp only at he
  rw [← e2, ← f2] at he
  have := h (k + i) (k + j) x0 y0 (by omega) e1 f1 (by omega)
  rw [← e2, ← f2]
  exact this
theorem OrdB.mono {B B' : Int → Int → Prop} {L : List Nd} {T : Int → Nat} (h : OrdB B L T) (e : ∀ (i j : Nat) (a b : Nd), L[i]? = some a → L[j]? = some b → B a.t b.t → B' a.t b.t) : OrdB B' L T :=
  fun i j a b hij ha hb he => e i j a b ha hb (h i j a b hij ha hb he)
theorem OrdB.nil (B : Int → Int → Prop) (T : Int → Nat) : OrdB B [] T := fun i j a b _ h => by simp at h
end Go.Proofs.Ytfniicgfnlklbab
