import Derived.Test.YthnmlklgbggmbaaGreatPlGz
import Derived.Test.YthnmlklgbggmbaaGreatBaseZ
namespace Go.Proofs.YthnmlklgbggmbaaGreat
open Go.ChangeShapes Go.WideShapes Go.ChangeAt Go.RowKit
set_option linter.unusedVariables false
set_option linter.unusedSimpArgs false
theorem mem_bad (c : CfD) (w : World) (hc : CfIn w c) (ho : c.Ok) (hv : badOf c ≠ (0, 0, 0)) :
    Calls Tryz.prog 60 #[.agg c.cells] w fun e w' => e = .returned (.pointer none) ∧ Keeps (fun _ => False) w w' := by
  have HP := Lib.hid (fun W (k : Keeps (fun _ => False) w W) => plan_bad c W (hc.none k) ho hv)
  have HB := Lib.hid ((Has.start w).alloc (.cells c.cells 26))
  clear hc ho hv
  go_enter Tryz.func60, Tryz.ntmps60
  go_wp2_with fail
  refine (HP.out _ HB.out.keeps).mono ?_
  rintro e1 w1 ⟨rfl, k1⟩
  replace HB := Lib.hid (HB.out.none k1)
  clear k1
  go_wp2_with fail
  go_ret
  exact ⟨rfl, HB.out.keeps.alloc _⟩
/-- The words of the objects, and no others. -/
def memW (N : Nat → Nat) (m : Nat) : Nat → Nat := fun i => if i < m then N i else 0
theorem words_splice (N : Nat → Nat) (m n : Nat) (h : m ≤ n) : splice (words (fun _ => 0) n) 0 (words N m) = words (memW N m) n := by
  unfold splice words memW
  rw [List.take_zero, List.nil_append]
  apply List.ext_getElem?
  intro i
  by_cases hi : i < m
  · rw [List.getElem?_append_left (by simpa using hi)]
    simp [hi, show i < n by omega]
  · rw [List.getElem?_append_right (by simp; omega)]
    by_cases h2 : i < n
    · simp only [List.getElem?_drop, List.getElem?_map, List.length_map, List.length_range]
      rw [show 0 + m + (i - m) = i by omega]
      simp [h2, hi]
    · simp only [List.getElem?_drop, List.getElem?_map, List.length_map, List.length_range]
      rw [show 0 + m + (i - m) = i by omega]
      simp [h2]
def cellsN (c : CfD) : Nat := (tickP c + 1 + (c.nT : Int)).toNat
theorem plan_nums {c : CfD} (h : GoodC c) : 0 ≤ baseP c ∧ baseP c ≤ 4128 ∧ baseP c ≤ tickP c ∧ tickP c ≤ 6300 := by
  have h1 := pre_bound h.right c.nO (Nat.le_refl _)
  have h2 := ln_bound (base := baseP c) (fun i hi => (h.room i hi).2) c.nL (Nat.le_refl _)
  have := h.o
  have := h.l
  unfold tickP
  unfold baseP at h2 ⊢
  omega
set_option maxRecDepth 20000 in
set_option maxHeartbeats 4000000 in
theorem mem_good (c : CfD) (w : World) (hc : CfIn w c) (ho : c.Ok) (hv : badOf c = (0, 0, 0)) (hoi : ∀ i, i < c.nO → ∀ j, j < 4 → 0 ≤ c.oi i j) :
    Calls Tryz.prog 60 #[.agg c.cells] w fun e w' => ∃ b q, e = .returned (.pointer (some ⟨b, 0, none⟩)) ∧ IsMem w' b q (cellsN c) (memW (startW c.ob c.oi c.nO) (baseP c).toNat) ∧ Keeps (fun _ => False) w w' := by
  have HP := Lib.hid (fun W (k : Keeps (fun _ => False) w W) => plan_good c W (hc.none k) ho hv)
  have hgo := good_of hv
  have HST := Lib.hid (fun W (k : Keeps (fun _ => False) w W) => start_any W c.oa c.nO c.oc c.ob c.oi ((ObIn.of hc).keep k) hgo.o hgo.right (fun i hi => ho.ob i hi 1 (by omega)) hoi)
  have HB := Lib.hid ((Has.start w).alloc (.cells c.cells 26))
  have hn := plan_nums hgo
  have hT := hgo.t
  obtain ⟨m, hm⟩ : ∃ m : Nat, baseP c = (m : Int) := ⟨(baseP c).toNat, by omega⟩
  obtain ⟨n, hnn⟩ : ∃ n : Nat, tickP c + 1 + (c.nT : Int) = (n : Int) := ⟨(tickP c + 1 + (c.nT : Int)).toNat, by omega⟩
  have hmn : m ≤ n := by omega
  have HMN := Lib.hid hmn
  have HN := Lib.hid (show cellsN c = n ∧ (baseP c).toNat = m ∧ n ≤ 65536 from ⟨by unfold cellsN; omega, by omega, by omega⟩)
  have HNN := Lib.hid hnn
  have hmk := fun W => make_words W n (by omega)
  rw [show preP c.ob c.nO = (m : Int) from hm, Int.toNat_natCast] at HST
  have hsz : (Tryz.prog.info? 38).map (·.size) = some 1 := by kernel_rfl
  rw [HN.out.1, HN.out.2.1]
  clear hc ho hv hoi hgo hn hT hm hnn hmn
  go_enter Tryz.func60, Tryz.ntmps60
  go_wp2_with fail
  refine (HP.out _ HB.out.keeps).mono ?_
  rintro e1 w1 ⟨g, la, lc, aa, ac, rfl, _, _, _, k1⟩
  rw [HNN.out]
  replace HB := Lib.hid (HB.out.none k1)
  obtain ⟨q0, q1, q2, q3⟩ := four_cells (HB.out.at 0 rfl)
  have hl := lt_of (HB.out.at 0 rfl)
  clear k1 HP
  go_wp2_with fail
  clear q0 q1 q2 q3
  obtain ⟨W2, hW2⟩ : ∃ W2, W2 = (w1.alloc (.cells #[.slice (some ⟨g, 0, none⟩) c.nO c.nO, .slice la c.nL lc, .int .i64 (tickP c), .slice aa c.nT ac, .int .i64 (n : Int)] 83)).alloc (.cells (words (fun _ => 0) n).toArray 38) := ⟨_, rfl⟩
  obtain ⟨q0, hq0⟩ : ∃ q0, q0 = w1.heap.size + 1 := ⟨_, rfl⟩
  have hw0 : w.heap.size ≤ w1.heap.size := HB.out.keeps.size
  have HQ := Lib.hid (show W2.heap[q0]? = some (.cells (words (fun _ => 0) n).toArray 38 (0, 0)) ∧ Keeps (fun _ => False) w W2 ∧ w.heap.size ≤ q0 from by
    have h := heap_new (w1.alloc (.cells #[.slice (some ⟨g, 0, none⟩) c.nO c.nO, .slice la c.nL lc, .int .i64 (tickP c), .slice aa c.nT ac, .int .i64 (n : Int)] 83)) (.cells (words (fun _ => 0) n).toArray 38)
    rw [World.size_alloc, ← hW2, ← hq0] at h
    exact ⟨h, by rw [hW2]; exact (HB.out.keeps.alloc _).alloc _, by omega⟩)
  rw [← hW2, ← hq0]
  clear hW2 hq0 hw0 hl HB HNN
  refine (HST.out _ HQ.out.2.1).mono ?_
  rintro e3 w3 ⟨b3, q3, rfl, hm3, k3⟩
  have HM3 := Lib.hid hm3
  have HK3 := Lib.hid (HQ.out.2.1.trans k3)
  have HG3 := Lib.hid (k3.at HQ.out.1 (fun h => h))
  clear k3 hm3 HST
  go_wp2_with fail
  refine (all_any _ _ _ _ _ HM3.out).mono ?_
  rintro e4 w4 ⟨rfl, hg4, k4⟩
  have HG4 := Lib.hid hg4
  have HQ4 := Lib.hid (k4.at HG3.out (fun h => h))
  have HK4 := Lib.hid (HK3.out.trans k4)
  have HCP := Lib.hid (show ∀ j v, (words (startW c.ob c.oi c.nO) m)[j]? = some v → w4.cell? ((⟨w3.heap.size, 0, none⟩ : Addr).add j) = some v from fun j v hv => by
    rw [Addr.add_mid, cell_of HG4.out (0 + j), show 0 + j = j by omega]
    simpa using hv)
  have HBL := Lib.hid (HK4.out.none)
  have hcl : (words (startW c.ob c.oi c.nO) m).length = Nat.min m n := by
    rw [show (words (startW c.ob c.oi c.nO) m).length = m by simp [words]]
    exact (Nat.min_eq_left HMN.out).symm
  have hfit : 0 + (words (startW c.ob c.oi c.nO) m).length ≤ (words (fun _ => 0) n).length := by
    have := HMN.out
    simp [words]
    omega
  have hone : ∀ v ∈ words (startW c.ob c.oi c.nO) m, v.oneCell' = true := by simp [words, Value.oneCell']
  clear hg4 k4
  go_wp2_with (refine wpList_copy_splice rfl (.tmp 16) (.tmp 20) 41 41 rfl 38 Tryz.underlying41 hsz _ _ n n m m rfl rfl q0 0 (words (fun _ => 0) n) 38 HQ4.out (words (startW c.ob c.oi c.nO) m) hcl (fun _ => ⟨rfl, ⟨w3.heap.size, 0, none⟩, rfl, HCP.out⟩) hfit hone w.heap.size w HBL.out HQ.out.2.2 ?_; intro w5 hg5 hb5)
  have HG5 := Lib.hid (show w5.heap[q0]? = some (.cells (words (memW (startW c.ob c.oi c.nO) m) n).toArray 38 (0, 0)) from by
    have := hg5.out
    rwa [words_splice _ _ _ HMN.out] at this)
  have HB5 := Lib.hid hb5
  clear hg5 hb5
  go_wp2_with fail
  refine (of_words w5 q0 n _ HG5.out HN.out.2.2).mono ?_
  rintro e6 w6 ⟨b6, q6, rfl, hm6, k6⟩
  have HM6 := Lib.hid (And.intro hm6 (Keeps.ofBelow HB5.out |>.trans k6))
  clear hm6 k6
  go_wp2_with fail
  go_ret
  exact ⟨b6, q6, rfl, HM6.out.1, HM6.out.2⟩
end Go.Proofs.YthnmlklgbggmbaaGreat
namespace Go.Proofs.YthnmlklgbggmbaaGreat
open Go.ChangeShapes Go.WideShapes Go.ChangeAt Go.RowKit
set_option linter.unusedVariables false
set_option linter.unusedSimpArgs false
/-- A stretch: its first cell, how many, the part, the index. -/
abbrev StX := Int × Int × Int × Int
@[reducible] def stC (x : StX) : List Value := [.int .i64 x.1, .int .i64 x.2.1, .int .i64 x.2.2.1, .int .i64 x.2.2.2]
def flatT (L : List StX) : List Value := L.flatMap stC
theorem flatT_app (A B : List StX) : flatT (A ++ B) = flatT A ++ flatT B := List.flatMap_append
theorem flatT_len (L : List StX) : (flatT L).length = L.length * 4 := by
  unfold flatT
  induction L with
  | nil => rfl
  | cons x t ih => rw [List.flatMap_cons, List.length_append, ih]; show 4 + t.length * 4 = (t.length + 1) * 4; omega
theorem flatT_one (L : List StX) : ∀ u, u ∈ flatT L → u.oneCell' = true := by
  intro u hu
  obtain ⟨x, _, hx⟩ := List.mem_flatMap.1 hu
  simp only [stC, List.mem_cons, List.not_mem_nil, or_false] at hx
  rcases hx with rfl | rfl | rfl | rfl <;> rfl
theorem flat_get {α : Type} {f : Nat → List α} {m : Nat} (hf : ∀ i, (f i).length = m) : ∀ n k r, k < n → r < m → ((List.range n).flatMap f)[k * m + r]? = (f k)[r]?
  | 0, k, r, h, _ => absurd h (Nat.not_lt_zero _)
  | n + 1, k, r, h, hr => by
    have hl : ((List.range n).flatMap f).length = n * m := by
      clear h
      induction n with
      | zero => simp
      | succ n ih => rw [List.range_succ, List.flatMap_append, List.length_append, ih]; simp [hf, Nat.add_mul]
    rw [List.range_succ, List.flatMap_append]
    by_cases hk : k < n
    · have : k * m + r < n * m := by
        have := Nat.mul_le_mul_right m (show k + 1 ≤ n by omega)
        rw [Nat.add_mul, Nat.one_mul] at this
        omega
      rw [List.getElem?_append_left (by omega)]
      exact flat_get hf n k r hk hr
    · obtain rfl : k = n := by omega
      rw [List.getElem?_append_right (by omega), hl, show k * m + r - k * m = r by omega]
      simp
def objSt (c : CfD) (n : Nat) : List StX := (List.range n).map fun i => (preP c.ob i, sizeP (c.ob i), 1, (i : Int))
def lvSt (c : CfD) (n : Nat) : List StX := (List.range n).flatMap fun i => [(lnP (baseP c) c.lr i, 2 + c.lr i, 2, (i : Int)), (lnP (baseP c) c.lr i + (2 + c.lr i), 1, 3, (i : Int))]
def askSt (c : CfD) (n : Nat) : List StX := (List.range n).map fun (i : Nat) => (tickP c + 1 + (i : Int), 1, 5, (i : Int))
def allSt (c : CfD) : List StX := objSt c c.nO ++ (lvSt c c.nL ++ ((tickP c, 1, 4, 0) :: askSt c c.nT))
theorem objSt_next (c : CfD) (n : Nat) : objSt c (n + 1) = objSt c n ++ [(preP c.ob n, sizeP (c.ob n), 1, (n : Int))] := by unfold objSt; rw [List.range_succ, List.map_append]; rfl
theorem lvSt_next (c : CfD) (n : Nat) : lvSt c (n + 1) = lvSt c n ++ [(lnP (baseP c) c.lr n, 2 + c.lr n, 2, (n : Int)), (lnP (baseP c) c.lr n + (2 + c.lr n), 1, 3, (n : Int))] := by unfold lvSt; rw [List.range_succ, List.flatMap_append]; simp
theorem askSt_next (c : CfD) (n : Nat) : askSt c (n + 1) = askSt c n ++ [(tickP c + 1 + (n : Int), 1, 5, (n : Int))] := by unfold askSt; rw [List.range_succ, List.map_append]; rfl
theorem objSt_len (c : CfD) (n : Nat) : (objSt c n).length = n := by unfold objSt; simp
theorem lvSt_len (c : CfD) : ∀ n : Nat, (lvSt c n).length = 2 * n
  | 0 => rfl
  | n + 1 => by rw [lvSt_next, List.length_append, lvSt_len c n]; show _ + 2 = _; omega
theorem askSt_len (c : CfD) (n : Nat) : (askSt c n).length = n := by unfold askSt; simp
/-- The lines, the asks: where they lie. -/
theorem line_at {w : World} {B nL lc : Nat} {la : Option Addr} {base : Int} {lr : Nat → Int} (h : w.ownsRow B 148 6 (.slice la nL lc) nL (linesF base lr nL)) {k : Nat} (hk : k < nL) : ∃ b, la = some ⟨b, 0, Option.none⟩ ∧ b < w.heap.size ∧ w.rangeAt b (k * 6) (lineC base lr k) := by
  rcases h.2 with ⟨_, h0⟩ | ⟨b, cap, cur, e, _, hb, _⟩
  · omega
  · injection e with e1 _ _
    refine ⟨b, e1, lt_of hb, fun j v hv => ?_⟩
    have hj : j < 6 := (List.getElem?_eq_some_iff.1 hv).1
    have := h.cells (g := b) (by rw [e1]; rfl) (k * 6 + j) v (by unfold linesF; rw [flat_get (m := 6) (fun i => rfl) nL k j hk hj]; exact hv)
    rwa [Addr.add_mid, Nat.zero_add] at this
theorem ask_at {w : World} {B n ac : Nat} {aa : Option Addr} {t : Int} (h : w.ownsRow B 3 1 (.slice aa n ac) n (asksF t n)) {k : Nat} (hk : k < n) : ∃ b, aa = some ⟨b, 0, Option.none⟩ ∧ b < w.heap.size ∧ w.cell? ⟨b, k, Option.none⟩ = some (.int .i64 (t + (k : Int))) := by
  rcases h.2 with ⟨_, h0⟩ | ⟨b, cap, cur, e, _, hb, _⟩
  · omega
  · injection e with e1 _ _
    refine ⟨b, e1, lt_of hb, ?_⟩
    have := h.cells (g := b) (by rw [e1]; rfl) k (.int .i64 (t + (k : Int))) (by unfold asksF; simp [hk])
    rwa [Addr.add_mid, Nat.zero_add] at this
end Go.Proofs.YthnmlklgbggmbaaGreat
namespace Go.Proofs.YthnmlklgbggmbaaGreat
open Go.ChangeShapes Go.WideShapes Go.ChangeAt Go.RowKit
set_option linter.unusedVariables false
set_option linter.unusedSimpArgs false
theorem pl5 {W : World} {QB : Nat} {p : Nat → Int} (h : W.heap[QB]? = some (.cells (plC p) 145 (0, 0))) : W.rangeAt QB 0 (plC p).toList := fun j v hv => by
  rw [cell_of h (0 + j), show 0 + j = j by omega]
  simpa using hv
theorem ln5 {W : World} {QB : Nat} {a b c d e f : Int} (h : W.heap[QB]? = some (.cells #[.int .i64 a, .int .i64 b, .int .i64 c, .int .i64 d, .int .i64 e, .int .i64 f] 148 (0, 0))) : W.rangeAt QB 0 [.int .i64 a, .int .i64 b, .int .i64 c, .int .i64 d, .int .i64 e] := fun j v hv => by
  have hj : j < 5 := (List.getElem?_eq_some_iff.1 hv).1
  rw [cell_of h (0 + j), show 0 + j = j by omega]
  rcases (by omega : j = 0 ∨ j = 1 ∨ j = 2 ∨ j = 3 ∨ j = 4) with rfl | rfl | rfl | rfl | rfl <;> simpa using hv
theorem line_info6 : (Tryz.prog.info? 148).map (·.size) = some 6 := by kernel_rfl
end Go.Proofs.YthnmlklgbggmbaaGreat
namespace Go.Proofs.YthnmlklgbggmbaaGreat
open Go.ChangeShapes Go.WideShapes Go.ChangeAt Go.RowKit
set_option linter.unusedVariables false
set_option linter.unusedSimpArgs false
/-- Is a cell in a stretch? -/
def inSt (at_ : Int) (x : StX) : Bool := decide (x.1 ≤ at_) && decide (at_ - x.1 < x.2.1)
def whoseP (L : List StX) (at_ : Int) : Int × Int := match L.find? (inSt at_) with
  | some x => (x.2.2.1, x.2.2.2)
  | none => (0, 0)
theorem whose_hit {L : List StX} {at_ : Int} {k : Nat} {x : StX} (h : L[k]? = some x) (hb : ∀ j y, j < k → L[j]? = some y → inSt at_ y = false) (hx : inSt at_ x = true) : whoseP L at_ = (x.2.2.1, x.2.2.2) := by
  unfold whoseP
  have : L.find? (inSt at_) = some x := by
    have hk := (List.getElem?_eq_some_iff.1 h).1
    rw [← List.take_append_drop k L, List.find?_append]
    have h1 : (L.take k).find? (inSt at_) = none := List.find?_eq_none.2 fun y hy => by
      obtain ⟨j, hj, e⟩ := List.getElem_of_mem hy
      rw [List.length_take] at hj
      have := hb j y (by omega) (by rw [← e, List.getElem_take]; exact List.getElem?_eq_getElem (by omega))
      rw [this]; simp
    rw [h1, List.drop_eq_getElem_cons hk]
    have e : L[k] = x := (List.getElem?_eq_some_iff.1 h).2
    rw [e]
    simp [hx]
  rw [this]
theorem whose_none {L : List StX} {at_ : Int} (hb : ∀ j y, j < L.length → L[j]? = some y → inSt at_ y = false) : whoseP L at_ = (0, 0) := by
  unfold whoseP
  have : L.find? (inSt at_) = none := List.find?_eq_none.2 fun y hy => by
    obtain ⟨j, hj, e⟩ := List.getElem_of_mem hy
    have := hb j y hj (by rw [← e]; exact List.getElem?_eq_getElem hj)
    rw [this]; simp
  rw [this]
theorem allSt_bound {c : CfD} (h : GoodC c) : ∀ x, x ∈ allSt c → 0 ≤ x.1 ∧ x.1 ≤ 10000 := by
  have hn := plan_nums h
  have hT := h.t
  intro x hx
  unfold allSt at hx
  rcases List.mem_append.1 hx with hx | hx
  · unfold objSt at hx
    obtain ⟨i, hi, rfl⟩ := List.mem_map.1 hx
    have hi2 := List.mem_range.1 hi
    have := pre_bound h.right i (by omega)
    have := h.o
    show 0 ≤ preP c.ob i ∧ preP c.ob i ≤ 10000
    omega
  · rcases List.mem_append.1 hx with hx | hx
    · unfold lvSt at hx
      obtain ⟨i, hi, hx⟩ := List.mem_flatMap.1 hx
      have hi2 := List.mem_range.1 hi
      have h1 := ln_bound (base := baseP c) (fun i hi => (h.room i hi).2) i (by omega)
      have := h.room i (by omega)
      have := h.l
      simp only [List.mem_cons, List.not_mem_nil, or_false] at hx
      rcases hx with rfl | rfl
      · show 0 ≤ lnP (baseP c) c.lr i ∧ lnP (baseP c) c.lr i ≤ 10000
        omega
      · show 0 ≤ lnP (baseP c) c.lr i + (2 + c.lr i) ∧ lnP (baseP c) c.lr i + (2 + c.lr i) ≤ 10000
        omega
    · rcases List.mem_cons.1 hx with rfl | hx
      · show 0 ≤ tickP c ∧ tickP c ≤ 10000
        omega
      · unfold askSt at hx
        obtain ⟨i, hi, rfl⟩ := List.mem_map.1 hx
        have hi2 := List.mem_range.1 hi
        show 0 ≤ tickP c + 1 + (i : Int) ∧ tickP c + 1 + (i : Int) ≤ 10000
        omega
end Go.Proofs.YthnmlklgbggmbaaGreat
