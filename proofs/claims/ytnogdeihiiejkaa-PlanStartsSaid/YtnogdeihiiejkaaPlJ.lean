import Derived.Test.YtnogdeihiiejkaaPlI
namespace Go.Proofs.Ytnogdeihiiejkaa
open Go.ChangeShapes Go.WideShapes Go.ChangeAt Go.RowKit
set_option linter.unusedVariables false
set_option linter.unusedSimpArgs false
theorem mem_bad (c : CfD) (w : World) (hc : CfIn w c) (ho : c.Ok) (hv : badOf c ≠ (0, 0, 0)) :
    Calls Try.prog 7 #[.agg c.cells] w fun e w' => e = .returned (.pointer none) ∧ Keeps (fun _ => False) w w' := by
  have HP := Lib.hid (fun W (k : Keeps (fun _ => False) w W) => plan_bad c W (hc.none k) ho hv)
  have HB := Lib.hid ((Has.start w).alloc (.cells c.cells 26))
  clear hc ho hv
  go_enter Try.func7, Try.ntmps7
  go_wp2_with fail
  refine (HP.out _ HB.out.keeps).mono ?_
  rintro e1 w1 ⟨rfl, k1⟩
  replace HB := Lib.hid (HB.out.none k1)
  clear k1
  go_wp2_with fail
  go_ret
  exact ⟨rfl, HB.out.keeps.alloc _⟩
/-- The words of the objects, and no others. -/
def memW (N : Nat → Nat) (m : Nat) : Nat → Nat := fun i => if i < m then N i else 0
theorem words_splice (N : Nat → Nat) (m n : Nat) (h : m ≤ n) : splice (words (fun _ => 0) n) 0 (words N m) = words (memW N m) n := by
  unfold splice words memW
  rw [List.take_zero, List.nil_append]
  apply List.ext_getElem?
  intro i
  by_cases hi : i < m
  · rw [List.getElem?_append_left (by simpa using hi)]
    simp [hi, show i < n by omega]
  · rw [List.getElem?_append_right (by simp; omega)]
    by_cases h2 : i < n
    · simp only [List.getElem?_drop, List.getElem?_map, List.length_map, List.length_range]
      rw [show 0 + m + (i - m) = i by omega]
      simp [h2, hi]
    · simp only [List.getElem?_drop, List.getElem?_map, List.length_map, List.length_range]
      rw [show 0 + m + (i - m) = i by omega]
      simp [h2]
def cellsN (c : CfD) : Nat := (tickP c + 1 + (c.nT : Int)).toNat
theorem plan_nums {c : CfD} (h : GoodC c) : 0 ≤ baseP c ∧ baseP c ≤ 4128 ∧ baseP c ≤ tickP c ∧ tickP c ≤ 6300 := by
  have h1 := pre_bound h.right c.nO (Nat.le_refl _)
  have h2 := ln_bound (base := baseP c) (fun i hi => (h.room i hi).2) c.nL (Nat.le_refl _)
  have := h.o
  have := h.l
  unfold tickP
  unfold baseP at h2 ⊢
  omega
set_option maxRecDepth 20000 in
set_option maxHeartbeats 4000000 in
theorem mem_good (c : CfD) (w : World) (hc : CfIn w c) (ho : c.Ok) (hv : badOf c = (0, 0, 0)) (hoi : ∀ i, i < c.nO → ∀ j, j < 4 → 0 ≤ c.oi i j) :
    Calls Try.prog 7 #[.agg c.cells] w fun e w' => ∃ b q, e = .returned (.pointer (some ⟨b, 0, none⟩)) ∧ IsMem w' b q (cellsN c) (memW (startW c.ob c.oi c.nO) (baseP c).toNat) ∧ Keeps (fun _ => False) w w' := by
  have HP := Lib.hid (fun W (k : Keeps (fun _ => False) w W) => plan_good c W (hc.none k) ho hv)
  have hgo := good_of hv
  have HST := Lib.hid (fun W (k : Keeps (fun _ => False) w W) => start_any W c.oa c.nO c.oc c.ob c.oi ((ObIn.of hc).keep k) hgo.o hgo.right (fun i hi => ho.ob i hi 1 (by omega)) hoi)
  have HB := Lib.hid ((Has.start w).alloc (.cells c.cells 26))
  have hn := plan_nums hgo
  have hT := hgo.t
  obtain ⟨m, hm⟩ : ∃ m : Nat, baseP c = (m : Int) := ⟨(baseP c).toNat, by omega⟩
  obtain ⟨n, hnn⟩ : ∃ n : Nat, tickP c + 1 + (c.nT : Int) = (n : Int) := ⟨(tickP c + 1 + (c.nT : Int)).toNat, by omega⟩
  have hmn : m ≤ n := by omega
  have HMN := Lib.hid hmn
  have HN := Lib.hid (show cellsN c = n ∧ (baseP c).toNat = m ∧ n ≤ 65536 from ⟨by unfold cellsN; omega, by omega, by omega⟩)
  have HNN := Lib.hid hnn
  have hmk := fun W => make_words W n (by omega)
  rw [show preP c.ob c.nO = (m : Int) from hm, Int.toNat_natCast] at HST
  have hsz : (Try.prog.info? 43).map (·.size) = some 1 := by kernel_rfl
  rw [HN.out.1, HN.out.2.1]
  clear hc ho hv hoi hgo hn hT hm hnn hmn
  go_enter Try.func7, Try.ntmps7
  go_wp2_with fail
  refine (HP.out _ HB.out.keeps).mono ?_
  rintro e1 w1 ⟨g, la, lc, aa, ac, rfl, _, _, _, k1⟩
  rw [HNN.out]
  replace HB := Lib.hid (HB.out.none k1)
  obtain ⟨q0, q1, q2, q3⟩ := four_cells (HB.out.at 0 rfl)
  have hl := lt_of (HB.out.at 0 rfl)
  clear k1 HP
  go_wp2_with fail
  clear q0 q1 q2 q3
  obtain ⟨W2, hW2⟩ : ∃ W2, W2 = (w1.alloc (.cells #[.slice (some ⟨g, 0, none⟩) c.nO c.nO, .slice la c.nL lc, .int .i64 (tickP c), .slice aa c.nT ac, .int .i64 (n : Int)] 33)).alloc (.cells (words (fun _ => 0) n).toArray 43) := ⟨_, rfl⟩
  obtain ⟨q0, hq0⟩ : ∃ q0, q0 = w1.heap.size + 1 := ⟨_, rfl⟩
  have hw0 : w.heap.size ≤ w1.heap.size := HB.out.keeps.size
  have HQ := Lib.hid (show W2.heap[q0]? = some (.cells (words (fun _ => 0) n).toArray 43 (0, 0)) ∧ Keeps (fun _ => False) w W2 ∧ w.heap.size ≤ q0 from by
    have h := heap_new (w1.alloc (.cells #[.slice (some ⟨g, 0, none⟩) c.nO c.nO, .slice la c.nL lc, .int .i64 (tickP c), .slice aa c.nT ac, .int .i64 (n : Int)] 33)) (.cells (words (fun _ => 0) n).toArray 43)
    rw [World.size_alloc, ← hW2, ← hq0] at h
    exact ⟨h, by rw [hW2]; exact (HB.out.keeps.alloc _).alloc _, by omega⟩)
  rw [← hW2, ← hq0]
  clear hW2 hq0 hw0 hl HB HNN
  refine (HST.out _ HQ.out.2.1).mono ?_
  rintro e3 w3 ⟨b3, q3, rfl, hm3, k3⟩
  have HM3 := Lib.hid hm3
  have HK3 := Lib.hid (HQ.out.2.1.trans k3)
  have HG3 := Lib.hid (k3.at HQ.out.1 (fun h => h))
  clear k3 hm3 HST
  go_wp2_with fail
  refine (all_any _ _ _ _ _ HM3.out).mono ?_
  rintro e4 w4 ⟨rfl, hg4, k4⟩
  have HG4 := Lib.hid hg4
  have HQ4 := Lib.hid (k4.at HG3.out (fun h => h))
  have HK4 := Lib.hid (HK3.out.trans k4)
  have HCP := Lib.hid (show ∀ j v, (words (startW c.ob c.oi c.nO) m)[j]? = some v → w4.cell? ((⟨w3.heap.size, 0, none⟩ : Addr).add j) = some v from fun j v hv => by
    rw [Addr.add_mid, cell_of HG4.out (0 + j), show 0 + j = j by omega]
    simpa using hv)
  have HBL := Lib.hid (HK4.out.none)
  have hcl : (words (startW c.ob c.oi c.nO) m).length = Nat.min m n := by
    rw [show (words (startW c.ob c.oi c.nO) m).length = m by simp [words]]
    exact (Nat.min_eq_left HMN.out).symm
  have hfit : 0 + (words (startW c.ob c.oi c.nO) m).length ≤ (words (fun _ => 0) n).length := by
    have := HMN.out
    simp [words]
    omega
  have hone : ∀ v ∈ words (startW c.ob c.oi c.nO) m, v.oneCell' = true := by simp [words, Value.oneCell']
  clear hg4 k4
  go_wp2_with (refine wpList_copy_splice rfl (.tmp 16) (.tmp 20) 38 38 rfl 43 Try.underlying38 hsz _ _ n n m m rfl rfl q0 0 (words (fun _ => 0) n) 43 HQ4.out (words (startW c.ob c.oi c.nO) m) hcl (fun _ => ⟨rfl, ⟨w3.heap.size, 0, none⟩, rfl, HCP.out⟩) hfit hone w.heap.size w HBL.out HQ.out.2.2 ?_; intro w5 hg5 hb5)
  have HG5 := Lib.hid (show w5.heap[q0]? = some (.cells (words (memW (startW c.ob c.oi c.nO) m) n).toArray 43 (0, 0)) from by
    have := hg5.out
    rwa [words_splice _ _ _ HMN.out] at this)
  have HB5 := Lib.hid hb5
  clear hg5 hb5
  go_wp2_with fail
  refine (of_words w5 q0 n _ HG5.out HN.out.2.2).mono ?_
  rintro e6 w6 ⟨b6, q6, rfl, hm6, k6⟩
  have HM6 := Lib.hid (And.intro hm6 (Keeps.ofBelow HB5.out |>.trans k6))
  clear hm6 k6
  go_wp2_with fail
  go_ret
  exact ⟨b6, q6, rfl, HM6.out.1, HM6.out.2⟩
end Go.Proofs.Ytnogdeihiiejkaa
