import Derived.Test.YthnmlklgbggmbaaGreatPlIq
import Derived.Lib.TrailingZeros
import Derived.Lib.BitFns
import Derived.Test.YthnmlklgbggmbaaGreatObjq
import Derived.Test.YthnmlklgbggmbaaGreatRows
import Derived.WalkKit
import Derived.ProofKit
import Derived.OpenShut
import Derived.WalkLawsBesides
import Derived.WalkSpells
import Derived.Lib.Hide
import Derived.Outline
import Derived.Laws.BitsAllLaws
import Derived.Laws.ShiftsVarLaws
import Derived.Deep.QuietTactic
import Derived.BigQuiet
import Derived.BigRegion
import Derived.Test.YthnmlklgbggmbaaGreatShelf
namespace Go.Proofs.YthnmlklgbggmbaaGreat
open Go.ChangeShapes Go.WideShapes Go.ChangeAt Go.RowKit
set_option linter.unusedVariables false
set_option linter.unusedSimpArgs false
def memW (N : Nat → Nat) (m : Nat) : Nat → Nat := fun i => if i < m then N i else 0
theorem words_splice (N : Nat → Nat) (m n : Nat) (h : m ≤ n) : splice (words (fun _ => 0) n) 0 (words N m) = words (memW N m) n := by
  unfold splice words memW
  rw [List.take_zero, List.nil_append]
  apply List.ext_getElem?
  intro i
  by_cases hi : i < m
  · rw [List.getElem?_append_left (by simpa using hi)]
    simp [hi, show i < n by omega]
  · rw [List.getElem?_append_right (by simp; omega)]
    by_cases h2 : i < n
    · simp only [List.getElem?_drop, List.getElem?_map, List.length_map, List.length_range]
      rw [show 0 + m + (i - m) = i by omega]
      simp [h2, hi]
    · simp only [List.getElem?_drop, List.getElem?_map, List.length_map, List.length_range]
      rw [show 0 + m + (i - m) = i by omega]
      simp [h2]
def cellsN (c : CfD) : Nat := (tickP c + 1 + (c.nT : Int)).toNat
theorem plan_nums {c : CfD} (h : GoodC c) : 0 ≤ baseP c ∧ baseP c ≤ 4128 ∧ baseP c ≤ tickP c ∧ tickP c ≤ 6300 := by
  have h1 := pre_bound h.right c.nO (Nat.le_refl _)
  have h2 := ln_bound (base := baseP c) (fun i hi => (h.room i hi).2) c.nL (Nat.le_refl _)
  have := h.o
  have := h.l
  unfold tickP
  unfold baseP at h2 ⊢
  omega
set_option maxRecDepth 20000 in
set_option maxHeartbeats 4000000 in
theorem mem_good (c : CfD) (w : World) (hc : CfIn w c) (ho : c.Ok) (hv : badOf c = (0, 0, 0)) (hoi : ∀ i, i < c.nO → ∀ j, j < 4 → 0 ≤ c.oi i j) :
    Calls Tryz.prog 60 #[.agg c.cells] w fun e w' => ∃ b q, e = .returned (.pointer (some ⟨b, 0, none⟩)) ∧ IsMem w' b q (cellsN c) (memW (startW c.ob c.oi c.nO) (baseP c).toNat) ∧ Keeps (fun _ => False) w w' := by
  have HP := Lib.hid (fun W (k : Keeps (fun _ => False) w W) => plan_good c W (hc.none k) ho hv)
  have hgo := good_of hv
  have HST := Lib.hid (fun W (k : Keeps (fun _ => False) w W) => start_any W c.oa c.nO c.oc c.ob c.oi ((ObIn.of hc).keep k) hgo.o hgo.right (fun i hi => ho.ob i hi 1 (by omega)) hoi)
  have HB := Lib.hid ((Has.start w).alloc (.cells c.cells 26))
  have hn := plan_nums hgo
  have hT := hgo.t
  obtain ⟨m, hm⟩ : ∃ m : Nat, baseP c = (m : Int) := ⟨(baseP c).toNat, by omega⟩
  obtain ⟨n, hnn⟩ : ∃ n : Nat, tickP c + 1 + (c.nT : Int) = (n : Int) := ⟨(tickP c + 1 + (c.nT : Int)).toNat, by omega⟩
  have hmn : m ≤ n := by omega
  have HMN := Lib.hid hmn
  have HN := Lib.hid (show cellsN c = n ∧ (baseP c).toNat = m ∧ n ≤ 65536 from ⟨by unfold cellsN; omega, by omega, by omega⟩)
  have HNN := Lib.hid hnn
  have hmk := fun W => make_words W n (by omega)
  rw [show preP c.ob c.nO = (m : Int) from hm, Int.toNat_natCast] at HST
  have hsz : (Tryz.prog.info? 38).map (·.size) = some 1 := by kernel_rfl
  rw [HN.out.1, HN.out.2.1]
  clear hc ho hv hoi hgo hn hT hm hnn hmn
  go_enter Tryz.func60, Tryz.ntmps60
  go_wp2_with fail
  refine (HP.out _ HB.out.keeps).mono ?_
  rintro e1 w1 ⟨g, la, lc, aa, ac, rfl, _, _, _, k1⟩
  rw [HNN.out]
  replace HB := Lib.hid (HB.out.none k1)
  obtain ⟨q0, q1, q2, q3⟩ := four_cells (HB.out.at 0 rfl)
  have hl := lt_of (HB.out.at 0 rfl)
  clear k1 HP
  go_wp2_with fail
  clear q0 q1 q2 q3
  obtain ⟨W2, hW2⟩ : ∃ W2, W2 = (w1.alloc (.cells #[.slice (some ⟨g, 0, none⟩) c.nO c.nO, .slice la c.nL lc, .int .i64 (tickP c), .slice aa c.nT ac, .int .i64 (n : Int)] 83)).alloc (.cells (words (fun _ => 0) n).toArray 38) := ⟨_, rfl⟩
  obtain ⟨q0, hq0⟩ : ∃ q0, q0 = w1.heap.size + 1 := ⟨_, rfl⟩
  have hw0 : w.heap.size ≤ w1.heap.size := HB.out.keeps.size
  have HQ := Lib.hid (show W2.heap[q0]? = some (.cells (words (fun _ => 0) n).toArray 38 (0, 0)) ∧ Keeps (fun _ => False) w W2 ∧ w.heap.size ≤ q0 from by
    have h := heap_new (w1.alloc (.cells #[.slice (some ⟨g, 0, none⟩) c.nO c.nO, .slice la c.nL lc, .int .i64 (tickP c), .slice aa c.nT ac, .int .i64 (n : Int)] 83)) (.cells (words (fun _ => 0) n).toArray 38)
    rw [World.size_alloc, ← hW2, ← hq0] at h
    exact ⟨h, by rw [hW2]; exact (HB.out.keeps.alloc _).alloc _, by omega⟩)
  rw [← hW2, ← hq0]
  clear hW2 hq0 hw0 hl HB HNN
  refine (HST.out _ HQ.out.2.1).mono ?_
  rintro e3 w3 ⟨b3, q3, rfl, hm3, k3⟩
  have HM3 := Lib.hid hm3
  have HK3 := Lib.hid (HQ.out.2.1.trans k3)
  have HG3 := Lib.hid (k3.at HQ.out.1 (fun h => h))
  clear k3 hm3 HST
  go_wp2_with fail
  refine (all_any _ _ _ _ _ HM3.out).mono ?_
  rintro e4 w4 ⟨rfl, hg4, k4⟩
  have HG4 := Lib.hid hg4
  have HQ4 := Lib.hid (k4.at HG3.out (fun h => h))
  have HK4 := Lib.hid (HK3.out.trans k4)
  have HCP := Lib.hid (show ∀ j v, (words (startW c.ob c.oi c.nO) m)[j]? = some v → w4.cell? ((⟨w3.heap.size, 0, none⟩ : Addr).add j) = some v from fun j v hv => by
    rw [Addr.add_mid, cell_of HG4.out (0 + j), show 0 + j = j by omega]
    simpa using hv)
  have HBL := Lib.hid (HK4.out.none)
  have hcl : (words (startW c.ob c.oi c.nO) m).length = Nat.min m n := by
    rw [show (words (startW c.ob c.oi c.nO) m).length = m by simp [words]]
    exact (Nat.min_eq_left HMN.out).symm
  have hfit : 0 + (words (startW c.ob c.oi c.nO) m).length ≤ (words (fun _ => 0) n).length := by
    have := HMN.out
    simp [words]
    omega
  have hone : ∀ v ∈ words (startW c.ob c.oi c.nO) m, v.oneCell' = true := by simp [words, Value.oneCell']
  clear hg4 k4
  go_wp2_with (refine wpList_copy_splice rfl (.tmp 16) (.tmp 20) 41 41 rfl 38 Tryz.underlying41 hsz _ _ n n m m rfl rfl q0 0 (words (fun _ => 0) n) 38 HQ4.out (words (startW c.ob c.oi c.nO) m) hcl (fun _ => ⟨rfl, ⟨w3.heap.size, 0, none⟩, rfl, HCP.out⟩) hfit hone w.heap.size w HBL.out HQ.out.2.2 ?_; intro w5 hg5 hb5)
  have HG5 := Lib.hid (show w5.heap[q0]? = some (.cells (words (memW (startW c.ob c.oi c.nO) m) n).toArray 38 (0, 0)) from by
    have := hg5.out
    rwa [words_splice _ _ _ HMN.out] at this)
  have HB5 := Lib.hid hb5
  clear hg5 hb5
  go_wp2_with fail
  refine (of_words w5 q0 n _ HG5.out HN.out.2.2).mono ?_
  rintro e6 w6 ⟨b6, q6, rfl, hm6, k6⟩
  have HM6 := Lib.hid (And.intro hm6 (Keeps.ofBelow HB5.out |>.trans k6))
  clear hm6 k6
  go_wp2_with fail
  go_ret
  exact ⟨b6, q6, rfl, HM6.out.1, HM6.out.2⟩
end Go.Proofs.YthnmlklgbggmbaaGreat
namespace Go.Proofs.YthnmlklgbggmbaaGreat

def bitW (i : Int) : Nat := if 0 ≤ i ∧ i < 32 then 2 ^ i.toNat else 0
def setB (w : Nat) (i : Int) : Nat := w ||| bitW i
def clrB (w : Nat) (i : Int) : Nat := w &&& (4294967295 - bitW i)
theorem bitW_lt (i : Int) : bitW i < 4294967296 := by
  unfold bitW
  split
  · have : 2 ^ i.toNat < 2 ^ 32 := Nat.pow_lt_pow_right (by omega) (by omega)
    omega
  · omega
theorem setB_lt {w : Nat} (h : w < 4294967296) (i : Int) : setB w i < 4294967296 := Nat.or_lt_two_pow (n := 32) h (bitW_lt i)
theorem clrB_lt {w : Nat} (h : w < 4294967296) (i : Int) : clrB w i < 4294967296 := by
  have : w &&& (4294967295 - bitW i) ≤ w := Nat.and_le_left
  unfold clrB; omega
theorem testBit_ge {w j : Nat} (h : w < 4294967296) (hj : 32 ≤ j) : w.testBit j = false :=
  Nat.testBit_lt_two_pow (Nat.lt_of_lt_of_le h (Nat.pow_le_pow_right (by omega) hj : 2 ^ 32 ≤ 2 ^ j))
theorem bitW_testBit (i : Int) (j : Nat) : (bitW i).testBit j = decide ((j : Int) = i ∧ j < 32) := by
  unfold bitW
  split
  · rename_i h
    rw [Nat.testBit_two_pow, Bool.eq_iff_iff]
    simp only [decide_eq_true_eq]
    omega
  · rename_i h
    rw [Nat.zero_testBit]
    symm
    simp only [decide_eq_false_iff_not]
    omega
theorem setB_testBit (w : Nat) (i : Int) (j : Nat) : (setB w i).testBit j = (w.testBit j || decide ((j : Int) = i ∧ j < 32)) := by
  unfold setB; rw [Nat.testBit_or, bitW_testBit]
theorem clrB_testBit {w : Nat} (h : w < 4294967296) (i : Int) (j : Nat) : (clrB w i).testBit j = (w.testBit j && !decide ((j : Int) = i)) := by
  by_cases hj : j < 32
  · have e : (4294967295 - bitW i).testBit j = !(bitW i).testBit j := by
      have := Nat.testBit_two_pow_sub_succ (n := 32) (bitW_lt i) j
      have e2 : 2 ^ 32 - (bitW i + 1) = 4294967295 - bitW i := by omega
      rw [e2] at this
      rw [this]; simp [hj]
    unfold clrB
    rw [Nat.testBit_and, e, bitW_testBit]
    simp [hj]
  · rw [testBit_ge (clrB_lt h i) (by omega), testBit_ge h (by omega)]; rfl
theorem bitLenAux_bds : ∀ (f x : Nat), x < 2 ^ f → x ≠ 0 → 1 ≤ Lib.bitLenAux f x ∧ 2 ^ (Lib.bitLenAux f x - 1) ≤ x ∧ x < 2 ^ Lib.bitLenAux f x
  | 0, x, h, h0 => by simp at h; omega
  | f + 1, x, h, h0 => by
    simp only [Lib.bitLenAux, if_neg h0]
    by_cases h2 : x / 2 = 0
    · have : x = 1 := by omega
      subst this
      cases f <;> simp [Lib.bitLenAux]
    · obtain ⟨a, b, c⟩ := bitLenAux_bds f (x / 2) (by rw [Nat.pow_succ] at h; omega) h2
      generalize Lib.bitLenAux f (x / 2) = k at *
      obtain ⟨k, rfl⟩ : ∃ m, k = m + 1 := ⟨k - 1, by omega⟩
      refine ⟨by omega, ?_, ?_⟩
      · have e : 1 + (k + 1) - 1 = (k + 1 - 1) + 1 := by omega
        rw [e, Nat.pow_succ]; omega
      · have e : 1 + (k + 1) = (k + 1) + 1 := by omega
        rw [e, Nat.pow_succ]; omega
theorem high_spec {w : Nat} (h : w < 4294967296) (h0 : w ≠ 0) : 1 ≤ Lib.bitLen w ∧ Lib.bitLen w ≤ 32 ∧ w.testBit (Lib.bitLen w - 1) = true ∧ ∀ j, Lib.bitLen w ≤ j → w.testBit j = false := by
  obtain ⟨a, b, c⟩ := bitLenAux_bds 64 w (by omega) h0
  have hl : Lib.bitLen w = Lib.bitLenAux 64 w := rfl
  rw [hl]
  generalize Lib.bitLenAux 64 w = k at *
  have hz : ∀ j, k ≤ j → w.testBit j = false := fun j hj => Nat.testBit_lt_two_pow (Nat.lt_of_lt_of_le c (Nat.pow_le_pow_right (by omega) hj))
  refine ⟨a, ?_, ?_, hz⟩
  · rcases Nat.lt_or_ge 32 k with h1 | h1
    · have : 2 ^ 32 ≤ 2 ^ (k - 1) := Nat.pow_le_pow_right (by omega) (by omega)
      omega
    · exact h1
  · obtain ⟨i, hi, ht⟩ := Nat.exists_ge_and_testBit_of_ge_two_pow b
    rcases Nat.lt_or_ge i k with h1 | h1
    · have : i = k - 1 := by omega
      rw [← this]; exact ht
    · rw [hz i h1] at ht; cases ht
end Go.Proofs.YthnmlklgbggmbaaGreat
namespace Go.Proofs.YthnmlklgbggmbaaGreat
open Go.ChangeShapes Go.WideShapes Go.ChangeAt Go.RowKit
set_option linter.unusedVariables false

theorem bit_any (i : Int) (w : World) :
    Calls Tryz.prog 149 #[.int .i64 i] w fun e w' => e = .returned (.int .u32 (bitW i)) ∧ w = w' := by
  by_cases h0 : i < 0
  · go_enter Tryz.func149, Tryz.ntmps149
    go_wp2
    go_ret
    exact ⟨ret_u32 (by rw [bitW, if_neg (by omega)]; rfl), rfl⟩
  · by_cases h1 : 32 ≤ i
    · go_enter Tryz.func149, Tryz.ntmps149
      go_wp2
      go_ret
      exact ⟨ret_u32 (by rw [bitW, if_neg (by omega)]; rfl), rfl⟩
    · have h2 : 0 ≤ i := by omega
      have h3 : i < 32 := by omega
      go_enter Tryz.func149, Tryz.ntmps149
      go_wp2
      go_ret
      refine ⟨ret_u32 ?_, rfl⟩
      have hp : 2 ^ i.toNat < 2 ^ 32 := Nat.pow_lt_pow_right (by omega) (by omega)
      have e : ((2 : Int) ^ i.toNat) = ((2 ^ i.toNat : Nat) : Int) := by simp
      rw [bitW, if_pos ⟨h2, h3⟩, e]
      have e2 : (2 : Nat) ^ 32 = 4294967296 := rfl
      generalize 2 ^ i.toNat = z at *
      omega
theorem with_any (x : Nat) (i : Int) (w : World) (hx : x < 4294967296) :
    Calls Tryz.prog 126 #[.int .u32 x, .int .i64 i] w fun e w' => e = .returned (.int .u32 (setB x i)) ∧ w = w' := by
  have e : bits .or .u32 (x : Int) (bitW i : Int) = ((x ||| bitW i : Nat) : Int) := u32_or_nat _ _ hx (bitW_lt i)
  go_enter Tryz.func126, Tryz.ntmps126
  go_wp2_with fail
  refine (bit_any _ _).mono ?_
  rintro e w' ⟨rfl, rfl⟩
  go_wp2
  go_ret
  exact ⟨rfl, rfl⟩
theorem without_any (x : Nat) (i : Int) (w : World) (hx : x < 4294967296) :
    Calls Tryz.prog 95 #[.int .u32 x, .int .i64 i] w fun e w' => e = .returned (.int .u32 (clrB x i)) ∧ w = w' := by
  have e : bits .andNot .u32 (x : Int) (bitW i : Int) = ((x &&& (4294967295 - bitW i) : Nat) : Int) := u32_andNot_nat _ _ hx (bitW_lt i)
  go_enter Tryz.func95, Tryz.ntmps95
  go_wp2_with fail
  refine (bit_any _ _).mono ?_
  rintro e w' ⟨rfl, rfl⟩
  go_wp2
  go_ret
  exact ⟨rfl, rfl⟩
end Go.Proofs.YthnmlklgbggmbaaGreat
namespace Go.Proofs.YthnmlklgbggmbaaGreat
open Go.ChangeShapes Go.WideShapes Go.ChangeAt Go.RowKit
set_option linter.unusedVariables false
set_option linter.unusedSimpArgs false
structure RkM (w : World) (b : Nat) (X : Nat → Nat → Int) (m pr : Nat → Nat) (bs : Nat) : Prop where
  one : ∃ cs : Array Value, w.heap[b]? = some (.cells cs 154 (0, 0)) ∧ cs.size = 561 ∧ (∀ p i, p < 32 → i < 16 → cs[p * 16 + i]? = some (.int .i8 (X p i))) ∧ (∀ p, p < 32 → cs[512 + p]? = some (.int .i64 (m p : Int))) ∧ (∀ t, t < 16 → cs[544 + t]? = some (.int .i64 (pr t : Int))) ∧ cs[560]? = some (.int .u32 (bs : Int))
section
variable {w wr : World} {b : Nat} {X : Nat → Nat → Int} {m pr : Nat → Nat} {bs : Nat}
theorem RkM.keeps {S : Nat → Prop} (h : RkM w b X m pr bs) (k : Keeps S w wr) (hs : ¬ S b) : RkM wr b X m pr bs := by
  obtain ⟨cs, h1, h2⟩ := h.one
  exact ⟨cs, k.at h1 hs, h2⟩
theorem RkM.lt (h : RkM w b X m pr bs) : b < w.heap.size := by obtain ⟨cs, h1, _⟩ := h.one; exact lt_of h1
theorem RkM.row (h : RkM w b X m pr bs) (p i : Nat) (hp : p < 32) (hi : i < 16) : w.cell? ⟨b, p * 16 + i, none⟩ = some (.int .i8 (X p i)) := by
  obtain ⟨cs, h1, _, h3, _⟩ := h.one
  exact (cell_of h1 _).trans (h3 p i hp hi)
theorem RkM.many (h : RkM w b X m pr bs) (p : Nat) (hp : p < 32) : w.cell? ⟨b, 512 + p, none⟩ = some (.int .i64 (m p : Int)) := by
  obtain ⟨cs, h1, _, _, h4, _⟩ := h.one
  exact (cell_of h1 _).trans (h4 p hp)
theorem RkM.prio (h : RkM w b X m pr bs) (t : Nat) (ht : t < 16) : w.cell? ⟨b, 544 + t, none⟩ = some (.int .i64 (pr t : Int)) := by
  obtain ⟨cs, h1, _, _, _, h5, _⟩ := h.one
  exact (cell_of h1 _).trans (h5 t ht)
theorem RkM.bits (h : RkM w b X m pr bs) : w.cell? ⟨b, 560, none⟩ = some (.int .u32 (bs : Int)) := by
  obtain ⟨cs, h1, _, _, _, _, h6⟩ := h.one
  exact (cell_of h1 _).trans h6
theorem RkM.free (h : RkM w b X m pr bs) (i : Nat) : w.frozen? ⟨b, i, none⟩ = false := by
  obtain ⟨cs, h1, _⟩ := h.one
  exact free_of h1 i
theorem RkM.setRow (h : RkM w b X m pr bs) (p i : Nat) (hp : p < 32) (hi : i < 16) (u : Int) : RkM (w.setCell ⟨b, p * 16 + i, none⟩ (.int .i8 u)) b (fun q j => if q = p ∧ j = i then u else X q j) m pr bs := by
  obtain ⟨cs, h1, h2, h3, h4, h5, h6⟩ := h.one
  refine ⟨_, heap_set h1 (p * 16 + i) _, by simp [h2], fun q j hq hj => ?_, fun q hq => ?_, fun t ht => ?_, ?_⟩
  · rw [Array.getElem?_setIfInBounds]
    by_cases e : q = p ∧ j = i
    · obtain ⟨rfl, rfl⟩ := e
      rw [if_pos rfl, if_pos (by omega)]; simp
    · rw [if_neg (by omega), if_neg e]; exact h3 q j hq hj
  · rw [Array.getElem?_setIfInBounds, if_neg (by omega)]; exact h4 q hq
  · rw [Array.getElem?_setIfInBounds, if_neg (by omega)]; exact h5 t ht
  · rw [Array.getElem?_setIfInBounds, if_neg (by omega)]; exact h6
theorem RkM.setMany (h : RkM w b X m pr bs) (p : Nat) (hp : p < 32) (u : Nat) (z : Int) (hz : z = (u : Int)) : RkM (w.setCell ⟨b, 512 + p, none⟩ (.int .i64 z)) b X (fun q => if q = p then u else m q) pr bs := by
  subst hz
  obtain ⟨cs, h1, h2, h3, h4, h5, h6⟩ := h.one
  refine ⟨_, heap_set h1 (512 + p) _, by simp [h2], fun q j hq hj => ?_, fun q hq => ?_, fun t ht => ?_, ?_⟩
  · rw [Array.getElem?_setIfInBounds, if_neg (by omega)]; exact h3 q j hq hj
  · rw [Array.getElem?_setIfInBounds]
    by_cases e : q = p
    · subst e
      rw [if_pos rfl, if_pos (by omega)]; simp
    · rw [if_neg (by omega), if_neg e]; exact h4 q hq
  · rw [Array.getElem?_setIfInBounds, if_neg (by omega)]; exact h5 t ht
  · rw [Array.getElem?_setIfInBounds, if_neg (by omega)]; exact h6
theorem RkM.setPrio (h : RkM w b X m pr bs) (t : Nat) (ht : t < 16) (u : Nat) (z : Int) (hz : z = (u : Int)) : RkM (w.setCell ⟨b, 544 + t, none⟩ (.int .i64 z)) b X m (fun q => if q = t then u else pr q) bs := by
  subst hz
  obtain ⟨cs, h1, h2, h3, h4, h5, h6⟩ := h.one
  refine ⟨_, heap_set h1 (544 + t) _, by simp [h2], fun q j hq hj => ?_, fun q hq => ?_, fun q hq => ?_, ?_⟩
  · rw [Array.getElem?_setIfInBounds, if_neg (by omega)]; exact h3 q j hq hj
  · rw [Array.getElem?_setIfInBounds, if_neg (by omega)]; exact h4 q hq
  · rw [Array.getElem?_setIfInBounds]
    by_cases e : q = t
    · subst e
      rw [if_pos rfl, if_pos (by omega)]; simp
    · rw [if_neg (by omega), if_neg e]; exact h5 q hq
  · rw [Array.getElem?_setIfInBounds, if_neg (by omega)]; exact h6
theorem RkM.setBits (h : RkM w b X m pr bs) (u : Nat) (z : Int) (hz : z = (u : Int)) : RkM (w.setCell ⟨b, 560, none⟩ (.int .u32 z)) b X m pr u := by
  subst hz
  obtain ⟨cs, h1, h2, h3, h4, h5, h6⟩ := h.one
  refine ⟨_, heap_set h1 560 _, by simp [h2], fun q j hq hj => ?_, fun q hq => ?_, fun q hq => ?_, ?_⟩
  · rw [Array.getElem?_setIfInBounds, if_neg (by omega)]; exact h3 q j hq hj
  · rw [Array.getElem?_setIfInBounds, if_neg (by omega)]; exact h4 q hq
  · rw [Array.getElem?_setIfInBounds, if_neg (by omega)]; exact h5 q hq
  · rw [Array.getElem?_setIfInBounds, if_pos rfl, if_pos (by omega)]
end
theorem rkhas_any (t : Int) (w : World) :
    Calls Tryz.prog 125 #[.int .i64 t] w fun e w' => e = .returned (.bool (decide (0 ≤ t) && decide (t < 16))) ∧ w = w' := by
  rcases h : decide (0 ≤ t)
  all_goals
    go_enter Tryz.func125, Tryz.ntmps125
    go_wp2
    go_ret
    exact ⟨by simp, rfl⟩
theorem rkbits_any (w : World) (b : Nat) (X : Nat → Nat → Int) (m pr : Nat → Nat) (bs : Nat) (h : RkM w b X m pr bs) :
    Calls Tryz.prog 93 #[.pointer (some ⟨b, 0, none⟩)] w fun e w' => e = .returned (.int .u32 (bs : Int)) ∧ w = w' := by
  have c0 := h.bits
  have lx := h.lt
  go_enter Tryz.func93, Tryz.ntmps93
  go_wp2
  go_ret
  exact ⟨rfl, rfl⟩
set_option maxHeartbeats 1000000 in
theorem rkadd_yes (w : World) (b : Nat) (X : Nat → Nat → Int) (m pr : Nat → Nat) (bs : Nat) (h : RkM w b X m pr bs) (t p : Nat) (ht : t < 16) (hp : p < 32) (h0 : pr t = 0) (hm : m p < 16) (hbs : bs < 4294967296) :
    Calls Tryz.prog 74 #[.pointer (some ⟨b, 0, none⟩), .int .i64 (t : Int), .int .i64 (p : Int)] w fun e w' => e = .returned (.bool true) ∧ RkM w' b (fun q j => if q = p ∧ j = m p then (t : Int) else X q j) (fun q => if q = p then m p + 1 else m q) (fun q => if q = t then p + 1 else pr q) (setB bs (p : Int)) ∧ Keeps (fun k => k = b) w w' := by
  have H := Lib.hid h
  have c0 := h.prio t ht
  rw [h0] at c0
  have lx := h.lt
  have hb : (decide ((0 : Int) ≤ (t : Int)) && decide ((t : Int) < 16)) = true := by
    rw [Bool.and_eq_true, decide_eq_true_eq, decide_eq_true_eq]; omega
  have HB := Lib.hid hb
  have d1 : decide ((p : Int) < 0) = false := decide_eq_false (by omega)
  have d2 : decide ((32 : Int) ≤ (p : Int)) = false := decide_eq_false (by omega)
  have W8 : IntKind.i8.wrap (t : Int) = (t : Int) := by simp [IntKind.wrap, IntKind.signed, IntKind.bits]; omega
  have HP := Lib.hid (And.intro ht (And.intro hp (And.intro hm hbs)))
  clear hb h h0
  go_enter Tryz.func74, Tryz.ntmps74
  go_wp2_with fail
  refine (rkhas_any _ _).mono ?_
  rintro e w' ⟨rfl, rfl⟩
  rw [HB.out]
  have c1 := H.out.many p hp
  have c2 := H.out.row p (m p) hp hm
  have f2 := H.out.free (p * 16 + m p)
  have f1 := H.out.free (512 + p)
  go_wp2_with fail
  go_region
  have H1 := Lib.hid (((H.out.setRow p (m p) hp hm (t : Int)).keeps (Keeps.refl (fun _ => False) _).drew (fun h => h)))
  have K1 := Lib.hid ((((Keeps.refl (fun k => k = b) w).setCell (p := ⟨b, p * 16 + m p, none⟩) (.inl rfl) (.int .i8 (t : Int))).drew))
  clear c0 c1 c2 f1 f2 lx
  generalize hW : World.drew (World.setCell w _ _) = W1 at H1 K1 ⊢
  clear hW H
  have c1 := H1.out.many p hp
  have f1 := H1.out.free (512 + p)
  have lx := H1.out.lt
  have W4 : wrap64 ((m p : Int) + 1) = ((m p + 1 : Nat) : Int) := by rw [IntWalk.wrap64_in _ ⟨by omega, by omega⟩]; omega
  go_wp2_with fail
  go_region
  have H2 := Lib.hid (((H1.out.setMany p hp (m p + 1) ((m p : Int) + 1) (by omega)).keeps (Keeps.refl (fun _ => False) _).drew (fun h => h)))
  have K2 := Lib.hid ((K1.out.setCell (p := ⟨b, 512 + p, none⟩) (.inl rfl) (.int .i64 ((m p : Int) + 1))).drew)
  clear c1 f1 lx W4
  generalize hW : World.drew (World.setCell W1 _ _) = W2 at H2 K2 ⊢
  clear hW H1 K1
  have c1 := H2.out.prio t ht
  have f1 := H2.out.free (544 + t)
  have lx := H2.out.lt
  have W4 : wrap64 ((p : Int) + 1) = (p : Int) + 1 := by rw [IntWalk.wrap64_in _ ⟨by omega, by omega⟩]
  have H3 := Lib.hid (H2.out.setPrio t ht (p + 1) ((p : Int) + 1) (by omega))
  have K3 := Lib.hid (K2.out.setCell (p := ⟨b, 544 + t, none⟩) (.inl rfl) (.int .i64 ((p : Int) + 1)))
  have c3 := H3.out.bits
  have f3 := H3.out.free 560
  have lx3 := H3.out.lt
  go_wp2_with fail
  refine (with_any bs (p : Int) _ hbs).mono ?_
  rintro e w' ⟨rfl, rfl⟩
  have H4 := Lib.hid (H3.out.setBits (setB bs (p : Int)) _ rfl)
  have K4 := Lib.hid (K3.out.setCell (p := ⟨b, 560, none⟩) (.inl rfl) (.int .u32 (setB bs (p : Int) : Int)))
  go_wp2
  go_ret
  exact ⟨rfl, H4.out, K4.out⟩
end Go.Proofs.YthnmlklgbggmbaaGreat
namespace Go.Proofs.YthnmlklgbggmbaaGreat
open Go.ChangeShapes Go.WideShapes Go.ChangeAt Go.RowKit
set_option linter.unusedVariables false
theorem high_any (x : Nat) (w : World) (hx : x < 4294967296) :
    Calls Tryz.prog 94 #[.int .u32 x] w fun e w' => e = .returned (.int .i64 ((Lib.bitLen x : Int) - 1)) ∧ w = w' := by
  have hle : Lib.bitLen x ≤ 32 := Lib.bitLen_le x 32 (by omega) hx
  have H := Lib.hid (Tryz.bits_Len32 (x : Int) w (by omega) (by omega))
  go_enter Tryz.func94, Tryz.ntmps94
  go_wp2_with fail
  refine H.out.mono ?_
  rintro e w' ⟨rfl, rfl⟩
  go_wp2
  go_ret
  exact ⟨rfl, rfl⟩
end Go.Proofs.YthnmlklgbggmbaaGreat
namespace Go.Proofs.YthnmlklgbggmbaaGreat
open Go.ChangeShapes Go.WideShapes Go.ChangeAt Go.RowKit
set_option linter.unusedVariables false
set_option linter.unusedSimpArgs false
theorem rkadd_t_out (w : World) (b : Nat) (t p : Int) (hh : ¬ (0 ≤ t ∧ t < 16)) :
    Calls Tryz.prog 74 #[.pointer (some ⟨b, 0, none⟩), .int .i64 t, .int .i64 p] w fun e w' => e = .returned (.bool false) ∧ w = w' := by
  have hb : (decide (0 ≤ t) && decide (t < 16)) = false := by
    rw [Bool.and_eq_false_iff, decide_eq_false_iff_not, decide_eq_false_iff_not]; omega
  have HB := Lib.hid hb
  clear hb hh
  go_enter Tryz.func74, Tryz.ntmps74
  go_wp2_with fail
  refine (rkhas_any _ _).mono ?_
  rintro e w' ⟨rfl, rfl⟩
  rw [HB.out]
  go_wp2
  go_ret
  exact ⟨rfl, rfl⟩
theorem rkadd_p_low (w : World) (b : Nat) (t p : Int) (hh : (0 ≤ t ∧ t < 16) ∧ p < 0) :
    Calls Tryz.prog 74 #[.pointer (some ⟨b, 0, none⟩), .int .i64 t, .int .i64 p] w fun e w' => e = .returned (.bool false) ∧ w = w' := by
  have hb : (decide (0 ≤ t) && decide (t < 16)) = true := by
    rw [Bool.and_eq_true, decide_eq_true_eq, decide_eq_true_eq]; omega
  have d1 : decide (p < 0) = true := decide_eq_true hh.2
  have HB := Lib.hid hb
  clear hb hh
  go_enter Tryz.func74, Tryz.ntmps74
  go_wp2_with fail
  refine (rkhas_any _ _).mono ?_
  rintro e w' ⟨rfl, rfl⟩
  rw [HB.out]
  go_wp2
  go_ret
  exact ⟨rfl, rfl⟩
theorem rkadd_p_high (w : World) (b : Nat) (t p : Int) (hh : (0 ≤ t ∧ t < 16) ∧ 32 ≤ p) :
    Calls Tryz.prog 74 #[.pointer (some ⟨b, 0, none⟩), .int .i64 t, .int .i64 p] w fun e w' => e = .returned (.bool false) ∧ w = w' := by
  have hb : (decide (0 ≤ t) && decide (t < 16)) = true := by
    rw [Bool.and_eq_true, decide_eq_true_eq, decide_eq_true_eq]; omega
  have d1 : decide (p < 0) = false := decide_eq_false (by omega)
  have d2 : decide (32 ≤ p) = true := decide_eq_true hh.2
  have HB := Lib.hid hb
  clear hb hh
  go_enter Tryz.func74, Tryz.ntmps74
  go_wp2_with fail
  refine (rkhas_any _ _).mono ?_
  rintro e w' ⟨rfl, rfl⟩
  rw [HB.out]
  go_wp2
  go_ret
  exact ⟨rfl, rfl⟩
theorem rkadd_there (w : World) (b : Nat) (X : Nat → Nat → Int) (m pr : Nat → Nat) (bs : Nat) (h : RkM w b X m pr bs) (t : Nat) (p : Int) (ht : t < 16) (hp : 0 ≤ p ∧ p < 32) (h0 : 0 < pr t) :
    Calls Tryz.prog 74 #[.pointer (some ⟨b, 0, none⟩), .int .i64 (t : Int), .int .i64 p] w fun e w' => e = .returned (.bool false) ∧ w = w' := by
  have hb : (decide ((0 : Int) ≤ (t : Int)) && decide ((t : Int) < 16)) = true := by
    rw [Bool.and_eq_true, decide_eq_true_eq, decide_eq_true_eq]; omega
  have d1 : decide (p < 0) = false := decide_eq_false (by omega)
  have d2 : decide (32 ≤ p) = false := decide_eq_false (by omega)
  have d3 : decide ((0 : Int) < (pr t : Int)) = true := decide_eq_true (by omega)
  have d4 : decide (0 < pr t) = true := decide_eq_true h0
  have d5 : (0 < pr t) = True := eq_true h0
  have HB := Lib.hid hb
  have c0 := h.prio t ht
  have lx := h.lt
  clear hb hp h0 h
  go_enter Tryz.func74, Tryz.ntmps74
  go_wp2_with fail
  refine (rkhas_any _ _).mono ?_
  rintro e w' ⟨rfl, rfl⟩
  rw [HB.out]
  go_wp2
  go_ret
  exact ⟨rfl, rfl⟩
theorem rkfirst_any (w : World) (b : Nat) (X : Nat → Nat → Int) (m pr : Nat → Nat) (bs : Nat) (h : RkM w b X m pr bs) (hbs : bs < 4294967296) (hX : bs ≠ 0 → -128 ≤ X (Lib.bitLen bs - 1) 0 ∧ X (Lib.bitLen bs - 1) 0 ≤ 127) :
    Calls Tryz.prog 127 #[.pointer (some ⟨b, 0, none⟩)] w fun e w' => e = .returned (.tuple #[.int .i64 (if bs = 0 then 0 else X (Lib.bitLen bs - 1) 0), .bool (decide (bs ≠ 0))]) ∧ w = w' := by
  have HBi := Lib.hid (rkbits_any w b X m pr bs h)
  have HHi := Lib.hid (high_any bs w hbs)
  have hle : Lib.bitLen bs ≤ 32 := Lib.bitLen_le bs 32 (by omega) hbs
  by_cases hz : bs = 0
  · subst hz
    have z0 : (Lib.bitLen 0 : Int) - 1 = -1 := by rfl
    clear h hX
    go_enter Tryz.func127, Tryz.ntmps127
    go_wp2_with fail
    refine HBi.out.mono ?_
    rintro e w' ⟨rfl, rfl⟩
    go_wp2_with fail
    refine HHi.out.mono ?_
    rintro e w' ⟨rfl, rfl⟩
    rw [z0]
    go_wp2
    exact bodyPost_ret (v := .tuple #[.int .i64 0, .bool false]) (by simp [results, Tryz.results127, go_sem, *]) rfl ⟨by simp, rfl⟩
  · have hpos : 0 < Lib.bitLen bs := by
      rcases Nat.eq_zero_or_pos (Lib.bitLen bs) with h1 | h1
      · exact absurd (by
          by_cases e : bs = 0
          · exact e
          · simp [Lib.bitLen, Lib.bitLenAux, e] at h1) hz
      · exact h1
    obtain ⟨p, hp⟩ : ∃ p, Lib.bitLen bs = p + 1 := ⟨Lib.bitLen bs - 1, by omega⟩
    have hx := hX hz
    rw [hp] at HHi hx ⊢
    have c0 := h.row p 0 (by omega) (by omega)
    rw [Nat.add_zero] at c0
    have z0 : (((p + 1 : Nat) : Int) - 1) = (p : Int) := by omega
    have lx := h.lt
    have d0 : decide ((p : Int) < 0) = false := decide_eq_false (by omega)
    have d1 : p < 32 := by omega
    have W8 : IntKind.i64.wrap (X p 0) = X p 0 := IntWalk.i64_in _ ⟨by have := hx.1; simp at this; omega, by have := hx.2; simp at this; omega⟩
    clear h hX hle hpos hp
    go_enter Tryz.func127, Tryz.ntmps127
    go_wp2_with fail
    refine HBi.out.mono ?_
    rintro e w' ⟨rfl, rfl⟩
    go_wp2_with fail
    refine HHi.out.mono ?_
    rintro e w' ⟨rfl, rfl⟩
    rw [z0]
    go_wp2
    exact bodyPost_ret (v := .tuple #[.int .i64 (X p 0), .bool true]) (by simp [results, Tryz.results127, go_sem, *]) rfl ⟨by simp [hz], rfl⟩
end Go.Proofs.YthnmlklgbggmbaaGreat
