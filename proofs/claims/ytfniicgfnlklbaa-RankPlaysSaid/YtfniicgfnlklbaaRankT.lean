import Derived.Test.YtfniicgfnlklbaaRankS
import Derived.Deep.WholeRow
import Derived.Great.BuildSlice
namespace Go.Proofs.Ytfniicgfnlklbaa
open Go.ChangeShapes Go.WideShapes Go.ChangeAt Go.RowKit
set_option linter.unusedVariables false
set_option linter.unusedSimpArgs false
theorem canAdd_back (s : RkT) (t : Int) (h : canRem s.2 t = true) (hs : ∀ t, t < 16 → s.2 t ≤ 32) : canAdd (remT s t).2 t (prioT s t : Int) = true := by
  have h1 := of_decide_eq_true h
  have h2 := hs t.toNat (by omega)
  unfold canAdd remT prioT
  rw [if_pos h, if_pos h]
  refine decide_eq_true ⟨h1.1, ⟨by omega, by omega⟩, ?_⟩
  simp [setP]
theorem rks_turn (w : World) (b : Nat) (s : RkT) (h : RkS w b s) (t : Int) :
    Calls Try.prog 11 #[.pointer (some ⟨b, 0, none⟩), .int .i64 t] w fun e w' => e = .returned (.bool (canRem s.2 t)) ∧ RkS w' b (turnT s t) ∧ Keeps (fun k => k = b) w w' := by
  have HP := Lib.hid (rks_prio w b s h t)
  rcases hc : canRem s.2 t with _ | _
  · have HF := Lib.hid (show RkS w b (turnT s t) by unfold turnT; rw [hc]; exact h)
    rw [hc] at HP
    clear hc h
    go_enter Try.func11, Try.ntmps11
    go_wp2_with fail
    refine HP.out.mono ?_
    rintro e w' ⟨rfl, rfl⟩
    go_wp2
    go_ret
    exact ⟨rfl, HF.out, Keeps.refl _ _⟩
  · have HB := Lib.hid (canAdd_back s t hc h.small)
    have HR := Lib.hid (rks_rem w b s h t)
    have HT := Lib.hid (show turnT s t = addT (remT s t) t (prioT s t : Int) by unfold turnT; rw [if_pos hc])
    rw [hc] at HP HR
    clear hc h
    go_enter Try.func11, Try.ntmps11
    go_wp2_with fail
    refine HP.out.mono ?_
    rintro e w' ⟨rfl, rfl⟩
    go_wp2_with fail
    refine HR.out.mono ?_
    rintro e w1 ⟨rfl, hS, hK⟩
    have HA := Lib.hid (rks_add w1 b (remT s t) hS t (prioT s t : Int))
    rw [HB.out] at HA
    have HK := Lib.hid hK
    clear hS hK
    go_wp2_with fail
    refine HA.out.mono ?_
    rintro e w2 ⟨rfl, hS2, hK2⟩
    have HS := Lib.hid (And.intro hS2 (HK.out.trans hK2))
    clear hS2 hK2
    go_wp2
    go_ret
    exact ⟨rfl, by rw [HT.out]; exact HS.out.1, HS.out.2⟩
theorem RkM.ones {w : World} {b : Nat} {X : Nat → Nat → Int} {m pr : Nat → Nat} {bs : Nat} {cs : Array Value} (hs : cs.size = 561) (h3 : ∀ p i, p < 32 → i < 16 → cs[p * 16 + i]? = some (.int .i8 (X p i))) (h4 : ∀ p, p < 32 → cs[512 + p]? = some (.int .i64 (m p : Int))) (h5 : ∀ t, t < 16 → cs[544 + t]? = some (.int .i64 (pr t : Int))) (h6 : cs[560]? = some (.int .u32 (bs : Int))) : cs.all (·.oneCell') = true := by
  rw [Array.all_eq_true]
  intro i hi
  have hx : cs[i]? = some cs[i] := Array.getElem?_eq_getElem hi
  by_cases h1 : i < 512
  · have := h3 (i / 16) (i % 16) (by omega) (by omega)
    rw [show i / 16 * 16 + i % 16 = i by omega, hx] at this
    rw [Option.some.inj this]; rfl
  · by_cases h2 : i < 544
    · have := h4 (i - 512) (by omega)
      rw [show 512 + (i - 512) = i by omega, hx] at this
      rw [Option.some.inj this]; rfl
    · by_cases h2 : i < 560
      · have := h5 (i - 544) (by omega)
        rw [show 544 + (i - 544) = i by omega, hx] at this
        rw [Option.some.inj this]; rfl
      · obtain rfl : i = 560 := by omega
        rw [h6] at hx; rw [← Option.some.inj hx]; rfl
def zAt (k : IntKind) (v : Option Value) : Bool := match v with | some (.int k' 0) => k' == k | _ => false
theorem zAt_eq {k : IntKind} {v : Option Value} (h : zAt k v = true) : v = some (.int k 0) := by
  unfold zAt at h
  split at h
  · rw [beq_iff_eq.1 h]
  · cases h
/-- The cells of a rank that nobody has touched. -/
theorem rk_zeros : ∃ zs : Array Value, Try.prog.built 32 [] = some zs ∧ (∀ w, (zeroValue 32).run Try.prog w = .ok (.agg zs) w) ∧ zs.size = 561 ∧ (∀ p i, p < 32 → i < 16 → zs[p * 16 + i]? = some (.int .i8 0)) ∧ (∀ p, p < 32 → zs[512 + p]? = some (.int .i64 0)) ∧ (∀ t, t < 16 → zs[544 + t]? = some (.int .i64 0)) ∧ zs[560]? = some (.int .u32 0) := by
  refine ⟨(Try.prog.built 32 []).getD #[], by kernel_rfl, fun w => by kernel_rfl, by kernel_rfl, fun p i hp hi => ?_, fun p hp => ?_, fun t ht => ?_, ?_⟩
  · have h : (List.range 512).all (fun i => zAt .i8 ((Try.prog.built 32 []).getD #[])[i]?) = true := by kernel_rfl
    exact zAt_eq (List.all_eq_true.1 h (p * 16 + i) (List.mem_range.2 (by omega)))
  · have h : (List.range 32).all (fun i => zAt .i64 ((Try.prog.built 32 []).getD #[])[512 + i]?) = true := by kernel_rfl
    exact zAt_eq (List.all_eq_true.1 h p (List.mem_range.2 hp))
  · have h : (List.range 16).all (fun i => zAt .i64 ((Try.prog.built 32 []).getD #[])[544 + i]?) = true := by kernel_rfl
    exact zAt_eq (List.all_eq_true.1 h t (List.mem_range.2 ht))
  · have h : zAt .u32 ((Try.prog.built 32 []).getD #[])[560]? = true := by kernel_rfl
    exact zAt_eq h
/-- A copy: another block, the same cells. -/
theorem rks_copy (w : World) (b : Nat) (s : RkT) (h : RkS w b s) :
    Calls Try.prog 23 #[.pointer (some ⟨b, 0, none⟩)] w fun e w' => e = .returned (.pointer (some ⟨w.heap.size, 0, none⟩)) ∧ RkS w' w.heap.size s ∧ Keeps (fun _ => False) w w' := by
  obtain ⟨X, m, bs, hm, ho⟩ := h.one
  obtain ⟨cs, hb, hs, h3, h4, h5, h6⟩ := hm.one
  have l1 := lt_of hb
  obtain ⟨zs, _, hz, hzs, _⟩ := rk_zeros
  have HZS := Lib.hid hzs
  clear hzs
  have hi : (Try.prog.info? 32).map (·.size) = some cs.size := by rw [hs]; kernel_rfl
  have h1 : cs.all (·.oneCell') = true := RkM.ones (w := w) (b := b) hs h3 h4 h5 h6
  have HB := Lib.hid (And.intro hb (And.intro hs (And.intro h3 (And.intro h4 (And.intro h5 h6)))))
  have HI := Lib.hid hi
  have H1 := Lib.hid h1
  have HO := Lib.hid ho
  clear hb hs h3 h4 h5 h6 hi h1 hm ho h
  go_enter Try.func23, Try.ntmps23
  go_wp2_with (first
    | (with_reducible refine wpList_load_row rfl 32 (.tmp 7) rfl b rfl 32 cs (0, 0) _ HB.out.1 Try.underlying32 rfl HI.out ?_)
    | (refine wpList_store_row rfl 32 (.tmp 3) (.tmp 8) rfl w.heap.size cs rfl rfl 32 _ (heap_new _ _) HI.out (by rw [HB.out.2.1]; exact HZS.out) H1.out ?_; rw [World.setRow_alloc_new]))
  go_ret
  exact ⟨rfl, ⟨X, m, bs, ⟨cs, heap_new _ _, HB.out.2⟩, HO.out⟩, (Keeps.refl _ _).alloc _⟩
end Go.Proofs.Ytfniicgfnlklbaa
