import Derived.Test.YtkhmfjfclpehfaaGreatItem
import Derived.Test.YtkhmfjfclpehfaaGreatCopyK
namespace Go.Proofs.YtkhmfjfclpehfaaGreat
open Go.ChangeShapes Go.WideShapes Go.ChangeAt Go.RowKit
set_option linter.unusedVariables false
set_option linter.unusedSimpArgs false
/-- The cells of values one behind the other. -/
def flatV : List W4 → List Value
  | [] => []
  | x :: t => x.l ++ flatV t
theorem flatV_len : ∀ R : List W4, (flatV R).length = R.length * 4
  | [] => rfl
  | x :: t => by
    show (x.l ++ flatV t).length = _
    rw [List.length_append, flatV_len t]
    show 4 + t.length * 4 = (t.length + 1) * 4
    omega
theorem flatV_app : ∀ R S : List W4, flatV (R ++ S) = flatV R ++ flatV S
  | [], S => rfl
  | x :: t, S => by
    show x.l ++ flatV (t ++ S) = (x.l ++ flatV t) ++ flatV S
    rw [flatV_app t S, List.append_assoc]
theorem flatV_get : ∀ (R : List W4) (k : Nat) (x : W4) (j : Nat) (v : Value), R[k]? = some x → x.l[j]? = some v → (flatV R)[k * 4 + j]? = some v
  | [], k, x, j, v, h, _ => by cases k <;> cases h
  | y :: t, 0, x, j, v, h, hv => by
    cases h
    show (y.l ++ flatV t)[0 * 4 + j]? = _
    have hj : j < y.l.length := (List.getElem?_eq_some_iff.1 hv).1
    rw [show 0 * 4 + j = j by omega, List.getElem?_append_left hj]
    exact hv
  | y :: t, k + 1, x, j, v, h, hv => by
    show (y.l ++ flatV t)[(k + 1) * 4 + j]? = _
    rw [List.getElem?_append_right (by show 4 ≤ _; omega), show (k + 1) * 4 + j - y.l.length = k * 4 + j by show (k + 1) * 4 + j - 4 = _; omega]
    exact flatV_get t k x j v h hv
theorem flatV_of : ∀ (R : List W4) (i : Nat) (v : Value), (flatV R)[i]? = some v → ∃ x, R[i / 4]? = some x ∧ x.l[i % 4]? = some v := fun R i v h => by
  have hi : i < R.length * 4 := by
    have := (List.getElem?_eq_some_iff.1 h).1
    rwa [flatV_len] at this
  obtain ⟨x, hx⟩ : ∃ x, R[i / 4]? = some x := ⟨_, List.getElem?_eq_getElem (by omega)⟩
  obtain ⟨u, hu⟩ : ∃ u, x.l[i % 4]? = some u := ⟨_, List.getElem?_eq_getElem (by show i % 4 < 4; omega)⟩
  have := flatV_get R _ x _ u hx hu
  rw [show i / 4 * 4 + i % 4 = i by omega, h] at this
  cases this
  exact ⟨x, hx, hu⟩
theorem flatV_one (R : List W4) : ∀ u ∈ flatV R, u.oneCell' = true := fun u hu => by
  obtain ⟨i, hi, rfl⟩ := List.getElem_of_mem hu
  obtain ⟨x, _, hx⟩ := flatV_of R i _ (List.getElem?_eq_getElem hi)
  have := List.mem_of_getElem? hx
  simp at this
  rcases this with h | h | h | h <;> rw [h] <;> rfl
/-- A row of one's own, as values. -/
theorem row_own {w : World} {B n : Nat} {T : TypeId} {v : Value} {R : List W4} (h : w.ownsRow B T 4 v n (flatV R)) (hn : R.length = n) : ∃ a c, v = .slice a n c ∧ n ≤ c ∧ c ≤ maxLen ∧ (a = none → c = 0) ∧ RowIn w a R ∧ (∀ b off, a = some ⟨b, off, none⟩ → B ≤ b) := by
  rcases h.2 with ⟨rfl, h0⟩ | ⟨g, cap, cur, rfl, hg, hcur, hc, hm, hs, ht⟩
  · exact ⟨none, 0, by rw [h0], by omega, by unfold maxLen; omega, fun _ => rfl, fun hp => by omega, fun b off e => by cases e⟩
  · refine ⟨_, cap, rfl, hc, hm, (fun e => by cases e), fun _ => ⟨g, 0, rfl, lt_of hcur, fun k x hk j u hu => ?_⟩, fun b off e => by cases e; exact hg⟩
    have e1 := flatV_get R k x j u hk hu
    rw [← ht, List.getElem?_take] at e1
    split at e1
    · rw [cell_of hcur, show 0 + k * 4 + j = k * 4 + j by omega]
      simpa using e1
    · cases e1
/-- Values that lie somewhere, copied into a row just made. -/
theorem copy_values {w : World} {T dT : TypeId} {g cap B : Nat} {cur : Array Value} (hu : Tryz.prog.underlying dT = some (.slice T)) (hs : (Tryz.prog.info? T).map (·.size) = some 4)
    (hg : w.heap[g]? = some (.cells cur T (0, 0))) (hB : B ≤ g) (hcur : cur.size = cap * 4) (hcm : cap ≤ maxLen) (R : List W4) (hR : R.length ≤ cap) (a : Option Addr) (c : Nat) (h : RowIn w a R) (ty : TypeId) :
    ∃ w', (Builtin.copy_ #[dT, dT] ty #[.slice (some ⟨g, 0, none⟩) R.length cap, .slice a R.length c]).run Tryz.prog w = .ok (goInt R.length) w' ∧ w'.ownsRow B T 4 (.slice (some ⟨g, 0, none⟩) R.length cap) R.length (flatV R) ∧ w.grownBy w' (some g) := by
  rcases Nat.eq_zero_or_pos R.length with h0 | hp
  · have hRn : R = [] := List.eq_nil_of_length_eq_zero h0
    subst hRn
    refine ⟨w, run_copy_zero w dT dT ty T 4 _ _ 0 cap 0 c hu hs rfl, ⟨rfl, .inr ⟨g, cap, cur, rfl, hB, hg, Nat.zero_le _, hcm, hcur, rfl⟩⟩, rfl, rfl, rfl, Nat.le_refl _, fun _ _ _ => rfl⟩
  · obtain ⟨b, off, rfl, hb, hr⟩ := h hp
    have hfit : (flatV R).length ≤ cur.size := by rw [flatV_len, hcur]; exact Nat.mul_le_mul_right 4 hR
    have hrun := run_copy_k w dT dT ty T 4 g 0 R.length cap ⟨b, off, none⟩ R.length c cur T (flatV R) (by omega) hu hs hg (by rw [flatV_len]; rw [show Nat.min R.length R.length = R.length from Nat.min_self _]) (fun j v hj => by
      obtain ⟨x, hx, hv⟩ := flatV_of R j v hj
      have := hr _ x hx _ v hv
      rw [show (⟨b, off, none⟩ : Addr).add j = ⟨b, off + j, none⟩ by unfold Addr.add; split <;> simp_all]
      rw [show off + j / 4 * 4 + j % 4 = off + j by omega] at this
      exact this) (by omega) (flatV_one R)
    rw [show Nat.min R.length R.length = R.length from Nat.min_self _] at hrun
    refine ⟨_, hrun, ⟨flatV_len R, .inr ⟨g, cap, _, rfl, hB, setRow_heap w g cur _ T _ hg, hR, hcm, ?_, ?_⟩⟩, ?_⟩
    · simp
      have := hfit
      omega
    · simp [flatV_len]
    · exact ⟨rfl, rfl, rfl, by simp [World.setRow], fun k hk hne => setRow_other w g k _ (by intro e; subst e; exact hne rfl)⟩
theorem Keeps.grown0 {w w' : World} (h : Keeps (fun _ => False) w w') (row : Option Nat) : w.grownBy w' row := ⟨h.os, h.tape, h.output, h.size, fun k hk _ => h.block k hk fun h => h⟩
theorem own_keeps {w w' : World} {B n : Nat} {T : TypeId} {v : Value} {xs : List Value} (h : w.ownsRow B T 4 v n xs) (hk : Keeps (fun _ => False) w w') : w'.ownsRow B T 4 v n xs :=
  h.kept (hk.grown0 none) (by cases e : v.ownBlock <;> simp)
/-- A block grows that none of these is. -/
theorem Has.grown {w w1 w2 : World} {L : List (Nat × Obj)} {g : Nat} (h : Has w w1 L) (hg : w1.grownBy w2 (some g)) (hB : w.heap.size ≤ g) (hL : ∀ x, x ∈ L → x.1 ≠ g) : Has w w2 L :=
  ⟨⟨hg.os.trans h.keeps.os, hg.tape.trans h.keeps.tape, hg.output.trans h.keeps.output, Nat.le_trans h.keeps.size hg.size, fun k hk hs => by
    rw [hg.block k (Nat.lt_of_lt_of_le hk h.keeps.size) (by intro e; cases e; omega)]
    exact h.keeps.block k hk hs⟩, fun x hx => by
    rw [hg.block x.1 (lt_of (h.all x hx)) (by intro e; cases e; exact hL x hx rfl)]
    exact h.all x hx⟩
end Go.Proofs.YtkhmfjfclpehfaaGreat
