import Derived.Test.YtfniicgfnlklbabDeltaRef
import Derived.Laws.AppendOwnNone
namespace Go.Proofs.Ytfniicgfnlklbab
open Go.ChangeShapes Go.WideShapes Go.ChangeAt Go.RowKit
set_option linter.unusedVariables false
section
variable (a : Option Addr) (n c : Nat) (P : Nat → Int) (X : Nat → Nat) (t : Int) (w : World)
set_option maxRecDepth 20000 in
theorem rleft_no (hn : n ≤ 1000) (h : RRow w a n P X) (ht : ∀ i, i < n → P i ≠ t) :
    Calls Try.prog 15 #[.agg #[.slice a n c], .int .i64 t] w fun e w' => e = .returned (.tuple #[.int .u32 0, .bool false]) ∧ Keeps (fun _ => False) w w' := by
  have HP := Lib.hid (fun w1 h1 => rplace_no a n c P X t w1 hn h1 ht)
  have HR := Lib.hid h
  clear h ht
  go_enter Try.func15, Try.ntmps15
  go_wp2_with fail
  refine (HP.out _ (HR.out.none ((Keeps.refl _ _).alloc _))).mono ?_
  rintro e w1 ⟨rfl, k1⟩
  go_wp2
  exact bodyPost_ret (v := .tuple #[.int .u32 0, .bool false]) (by simp [results, Try.results15, go_sem]) rfl ⟨rfl, ((Keeps.refl _ _).alloc _).trans k1⟩
set_option maxRecDepth 20000 in
theorem rleft_yes (hn : n ≤ 1000) (q : Nat) (hq : q < n) (h : RRow w a n P X) (ht : ∀ i, i < q → P i ≠ t) (he : P q = t) (hx : X q < 4294967296) :
    Calls Try.prog 15 #[.agg #[.slice a n c], .int .i64 t] w fun e w' => e = .returned (.tuple #[.int .u32 (X q : Int), .bool true]) ∧ Keeps (fun _ => False) w w' := by
  have HP := Lib.hid (fun w1 h1 => rplace_yes a n c P X t w1 hn q hq h1 ht he)
  have HR := Lib.hid h
  clear h ht he
  go_enter Try.func15, Try.ntmps15
  go_wp2_with fail
  refine (HP.out _ (HR.out.none ((Keeps.refl _ _).alloc _))).mono ?_
  rintro e w1 ⟨rfl, k1⟩
  have q0 : w1.cell? ⟨w.heap.size, 0, none⟩ = some (.slice a n c) := cell_of (k1.at (heap_new w _) fun h => h) 0
  obtain ⟨b, off, rfl, hb, hc⟩ := (HR.out.none (((Keeps.refl _ _).alloc (.cells #[.slice a n c] 30)).trans k1)) (by omega)
  obtain ⟨z0, z1⟩ := hc q hq
  have HK := Lib.hid k1
  clear hc k1
  go_wp2
  exact bodyPost_ret (v := .tuple #[.int .u32 (X q : Int), .bool true]) (by simp [results, Try.results15, go_sem]) rfl ⟨rfl, ((Keeps.refl _ _).alloc _).trans HK.out⟩
end
/-- The cells of n waits. -/
def flatW (P : Nat → Int) (X : Nat → Nat) : Nat → List Value
  | 0 => []
  | n + 1 => flatW P X n ++ [.int .i64 (P n), .int .u64 (X n : Int)]
theorem flatW_len (P : Nat → Int) (X : Nat → Nat) (n : Nat) : (flatW P X n).length = n * 2 := by
  induction n with
  | zero => rfl
  | succ n ih => rw [flatW, List.length_append, ih]; simp; omega
theorem flatW_at (P : Nat → Int) (X : Nat → Nat) (n i : Nat) (h : i < n) : (flatW P X n)[i * 2]? = some (.int .i64 (P i)) ∧ (flatW P X n)[i * 2 + 1]? = some (.int .u64 (X i : Int)) := by
  induction n with
  | zero => omega
  | succ n ih =>
    have hl := flatW_len P X n
    rw [flatW]
    by_cases e : i = n
    · subst e
      rw [List.getElem?_append_right (by omega), List.getElem?_append_right (by omega), hl]
      simp
    · rw [List.getElem?_append_left (by omega), List.getElem?_append_left (by omega)]
      exact ih (by omega)
theorem flatW_one (P : Nat → Int) (X : Nat → Nat) (n : Nat) : ∀ u ∈ flatW P X n, u.oneCell' = true := by
  induction n with
  | zero => intro u hu; simp [flatW] at hu
  | succ n ih =>
    intro u hu
    rw [flatW, List.mem_append] at hu
    rcases hu with hu | hu
    · exact ih u hu
    · simp at hu
      rcases hu with rfl | rfl <;> rfl
theorem flatW_congr {P Q : Nat → Int} {X Y : Nat → Nat} (n : Nat) (h : ∀ i, i < n → P i = Q i ∧ X i = Y i) : flatW P X n = flatW Q Y n := by
  induction n with
  | zero => rfl
  | succ n ih => rw [flatW, flatW, ih fun i hi => h i (by omega), (h n (by omega)).1, (h n (by omega)).2]
theorem rrow_news {w : World} {b off n : Nat} {P : Nat → Int} {X : Nat → Nat} (h : RRow w (some ⟨b, off, none⟩) n P X) : ∀ (j : Nat) (u : Value), (flatW P X n)[j]? = some u → w.cell? ((⟨b, off, none⟩ : Addr).add j) = some u := by
  intro j u hj
  rw [show ((⟨b, off, none⟩ : Addr).add j) = ⟨b, off + j, none⟩ by simp [Addr.add]]
  have hl := flatW_len P X n
  have hjn : j < n * 2 := by
    rcases Nat.lt_or_ge j (n * 2) with c | c
    · exact c
    · rw [List.getElem?_eq_none (by omega)] at hj; cases hj
  obtain ⟨b', off', e, hb, hc⟩ := h (by omega)
  cases e
  have hi := hc (j / 2) (by omega)
  have hf := flatW_at P X n (j / 2) (by omega)
  rcases Nat.mod_two_eq_zero_or_one j with e | e
  · have ej : j / 2 * 2 = j := by omega
    rw [ej] at hf hi
    rw [hf.1] at hj
    cases hj
    exact hi.1
  · have ej : j / 2 * 2 + 1 = j := by omega
    have ej2 : off + j / 2 * 2 + 1 = off + j := by omega
    rw [ej] at hf
    rw [ej2] at hi
    rw [hf.2] at hj
    cases hj
    exact hi.2
theorem rrow_owns {w : World} {base : Nat} {v : Value} {n : Nat} {P : Nat → Int} {X : Nat → Nat} {E : TypeId} (h : w.ownsRow base E 2 v n (flatW P X n)) : ∃ a c, v = .slice a n c ∧ RRow w a n P X ∧ (a = none → c = 0) ∧ n ≤ c := by
  obtain ⟨h1, h | ⟨g, cap, cur, rfl, hg, hb, hc1, hc2, hs, ht⟩⟩ := h
  · exact ⟨none, 0, by rw [h.1, h.2], fun hp => by omega, fun _ => rfl, by omega⟩
  · refine ⟨_, cap, rfl, fun hp => ⟨g, 0, rfl, lt_of hb, fun i hi => ?_⟩, (fun e => by cases e), hc1⟩
    have hf := flatW_at P X n i hi
    rw [← ht] at hf
    rw [List.getElem?_take, if_pos (by omega), List.getElem?_take, if_pos (by omega)] at hf
    have e1 : w.cell? ⟨g, 0 + i * 2, none⟩ = cur[i * 2]? := by simp [World.cell?, hb]
    have e2 : w.cell? ⟨g, 0 + i * 2 + 1, none⟩ = cur[i * 2 + 1]? := by simp [World.cell?, hb]
    rw [e1, e2]
    simpa using hf
end Go.Proofs.Ytfniicgfnlklbab
