import Derived.Test.YtnogdeihiiejkaaPlF
import Derived.Test.YtnogdeihiiejkaaAppC
namespace Go.Proofs.Ytnogdeihiiejkaa
open Go.ChangeShapes Go.WideShapes Go.ChangeAt Go.RowKit
set_option linter.unusedVariables false
set_option linter.unusedSimpArgs false
theorem each_ok {part : Int} {f : Nat → Int} {n : Nat} (h : (eachV part f n).1 = 0) : ∀ i, i < n → f i = 0 := by
  intro i hi
  unfold eachV at h
  cases hf : firstN f n with
  | none => exact firstN_none hf i hi
  | some k =>
    rw [hf] at h
    exact absurd h (firstN_some hf).2.1
/-- A configuration that is told right. -/
structure GoodC (c : CfD) : Prop where
  t1 : 1 ≤ c.nT
  t : c.nT ≤ 16
  l : c.nL ≤ 31
  o : c.nO ≤ 16
  room : ∀ i, i < c.nL → pow2 (c.lr i) = true ∧ 1 ≤ c.lr i ∧ c.lr i ≤ 64
  right : ∀ i, i < c.nO → rightS (c.ob i) = true
theorem good_of {c : CfD} (h : badOf c = (0, 0, 0)) : GoodC c := by
  have h0 : (badOf c).1 = 0 := by rw [h]
  unfold badOf at h0
  by_cases h1 : (bad1 c).1 = 0
  · rw [if_pos h1] at h0
    by_cases h2 : (bad2 c).1 = 0
    · rw [if_pos h2] at h0
      by_cases h3 : (bad3 c).1 = 0
      · rw [if_pos h3] at h0
        have c1 := each_ok h1
        have c3 := each_ok h3
        have c4 := each_ok h0
        have hb : ∀ i, i < 4 → cntB c i = true := fun i hi => by
          have := c1 i hi
          unfold cntF at this
          split at this
          · assumption
          · cases this
        have b0 := hb 0 (by omega); have b1 := hb 1 (by omega); have b2 := hb 2 (by omega)
        simp [cntB] at b0 b1 b2
        refine ⟨by omega, by omega, by omega, by omega, fun i hi => ?_, fun i hi => ?_⟩
        · have := c3 i hi
          unfold levelF at this
          split at this
          · rename_i hr
            unfold roomB at hr
            simp only [Bool.and_eq_true, decide_eq_true_eq] at hr
            exact ⟨hr.1, pow2_pos hr.1, hr.2⟩
          · cases this
        · have := c4 i hi
          cases hr : rightS (c.ob i) with
          | true => rfl
          | false =>
            unfold objF at this
            rw [hr] at this
            split at this
            · cases this
            · split at this
              · cases this
              · rw [if_pos rfl] at this; cases this
      · rw [if_neg h3] at h0; exact absurd h0 h3
    · rw [if_neg h2] at h0; exact absurd h0 h2
  · rw [if_neg h1] at h0; exact absurd h0 h1
/-- Where the levels' lines begin. -/
def lnP (base : Int) (lr : Nat → Int) : Nat → Int
  | 0 => base
  | i + 1 => lnP base lr i + (2 + lr i) + 1
@[reducible] def lineC (base : Int) (lr : Nat → Int) (i : Nat) : List Value := [.int .i64 1, .int .i64 (lnP base lr i), .int .i64 (lr i), .int .i64 1, .int .i64 0, .int .i64 (lnP base lr i + (2 + lr i))]
def linesF (base : Int) (lr : Nat → Int) (n : Nat) : List Value := (List.range n).flatMap (lineC base lr)
def asksF (t : Int) (n : Nat) : List Value := (List.range n).map fun (i : Nat) => Value.int .i64 (t + (i : Int))
theorem lines_next (base : Int) (lr : Nat → Int) (n : Nat) : linesF base lr (n + 1) = linesF base lr n ++ lineC base lr n := by unfold linesF; rw [List.range_succ, List.flatMap_append]; simp
theorem asks_next (t : Int) (n : Nat) : asksF t (n + 1) = asksF t n ++ [.int .i64 (t + (n : Int))] := by unfold asksF; rw [List.range_succ, List.map_append]; rfl
theorem ln_bound {base : Int} {lr : Nat → Int} {n : Nat} (hr : ∀ i, i < n → 1 ≤ lr i ∧ lr i ≤ 64) : ∀ k, k ≤ n → base ≤ lnP base lr k ∧ lnP base lr k ≤ base + 67 * (k : Int)
  | 0, _ => by simp [lnP]
  | k + 1, h => by
    have h1 := ln_bound (base := base) hr k (by omega)
    have h2 := hr k (by omega)
    have e : lnP base lr (k + 1) = lnP base lr k + (2 + lr k) + 1 := rfl
    rw [e]
    omega
/-- A line's place. -/
def lnPl (at_ r : Int) : Nat → Int := fun j => match j with | 0 => 1 | 1 => at_ | 2 => r | 3 => 1 | _ => 0
theorem lnPl_right (a r : Int) (h : pow2 r = true) (hr : r ≤ 64) : rightS (oOf (lnPl a r)) = true := by
  unfold rightS oOf lnPl
  simp [h, hr]
theorem lnPl_size (a r : Int) (h : pow2 r = true) (hr : r ≤ 64) : sizeP (oOf (lnPl a r)) = 2 + r := by
  unfold sizeP
  rw [if_pos (lnPl_right a r h hr)]
  show aheadP 1 + (if (1 : Int) = 1 then r else _) * 1 = _
  rw [if_pos rfl, Int.mul_one]
  rfl
theorem take_any (t n : Int) (T : Nat) (w : World) (h : w.heap[T]? = some (.cells #[.int .i64 t] 3 (0, 0))) (hb : 0 ≤ t ∧ t ≤ 1000000 ∧ 0 ≤ n ∧ n ≤ 1000000) :
    Calls Try.prog 13 #[.int .i64 n, .pointer (some ⟨T, 0, none⟩)] w fun e w' => e = .returned (.int .i64 t) ∧ w'.heap[T]? = some (.cells #[.int .i64 (t + n)] 3 (0, 0)) ∧ Keeps (fun j => j = T) w w' := by
  have H := Lib.hid h
  have c0 : w.cell? ⟨T, 0, none⟩ = some (.int .i64 t) := cell_of h 0
  have f0 := free_of h 0
  have e1 : wrap64 (t + n) = t + n := IntWalk.wrap64_in _ ⟨by omega, by omega⟩
  clear h hb
  go_enter Try.func13, Try.ntmps13
  go_wp2_with fail
  go_ret
  refine ⟨rfl, ?_, ?_⟩
  · have := heap_set H.out 0 (.int .i64 (t + n))
    simpa [e1] using this
  · exact (Keeps.refl (fun j => j = T) w).setCell (p := ⟨T, 0, none⟩) (.inl rfl) _
/-- What Of stands on: the configuration's box, the plan's, the number of cells. -/
structure PoB (w W : World) (CB PB T : Nat) (cc cs : Array Value) (t : Int) : Prop where
  keeps : Keeps (fun _ => False) w W
  cfg : W.heap[CB]? = some (.cells cc 26 (0, 0))
  box : W.heap[PB]? = some (.cells cs 33 (0, 0))
  tot : W.heap[T]? = some (.cells #[.int .i64 t] 3 (0, 0))
  ne : CB ≠ PB ∧ CB ≠ T ∧ PB ≠ T
  res : ∃ rs : Array Value, W.heap[CB + 1]? = some (.cells rs 33 (0, 0)) ∧ rs.size = 5
  ne2 : CB + 1 ≠ PB ∧ CB + 1 ≠ T
  ge : w.heap.size ≤ CB ∧ w.heap.size ≤ PB ∧ w.heap.size ≤ T
theorem PoB.none {w W W' : World} {CB PB T : Nat} {cc cs : Array Value} {t : Int} (h : PoB w W CB PB T cc cs t) (k : Keeps (fun _ => False) W W') : PoB w W' CB PB T cc cs t :=
  ⟨h.keeps.trans k, k.at h.cfg (fun h => h), k.at h.box (fun h => h), k.at h.tot (fun h => h), h.ne, h.res.imp fun rs hr => ⟨k.at hr.1 (fun h => h), hr.2⟩, h.ne2, h.ge⟩
theorem PoB.took {w W W' : World} {CB PB T : Nat} {cc cs : Array Value} {t t' : Int} (h : PoB w W CB PB T cc cs t) (k : Keeps (fun j => j = T) W W') (ht : W'.heap[T]? = some (.cells #[.int .i64 t'] 3 (0, 0))) : PoB w W' CB PB T cc cs t' :=
  ⟨h.keeps.far k (fun j e => by rw [e]; exact h.ge.2.2), k.at h.cfg h.ne.2.1, k.at h.box h.ne.2.2, ht, h.ne, h.res.imp fun rs hr => ⟨k.at hr.1 h.ne2.2, hr.2⟩, h.ne2, h.ge⟩
theorem PoB.put {w W : World} {CB PB T : Nat} {cc cs : Array Value} {t : Int} (h : PoB w W CB PB T cc cs t) (i : Nat) (v : Value) : PoB w (W.setCell ⟨PB, i, Option.none⟩ v) CB PB T cc (cs.setIfInBounds i v) t :=
  have k : Keeps (fun j => j = PB) W (W.setCell ⟨PB, i, Option.none⟩ v) := (Keeps.refl (fun j => j = PB) W).setCell (p := ⟨PB, i, Option.none⟩) (.inl rfl) _
  ⟨h.keeps.far k (fun j e => by rw [e]; exact h.ge.2.1), k.at h.cfg h.ne.1, heap_set h.box i v, k.at h.tot (fun e => h.ne.2.2 e.symm), h.ne, h.res.imp fun rs hr => ⟨k.at hr.1 h.ne2.1, hr.2⟩, h.ne2, h.ge⟩
end Go.Proofs.Ytnogdeihiiejkaa
