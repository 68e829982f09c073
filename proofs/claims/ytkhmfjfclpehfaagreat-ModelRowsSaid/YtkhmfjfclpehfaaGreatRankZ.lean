import Derived.Test.YtkhmfjfclpehfaaGreatRows
import Derived.Test.YtkhmfjfclpehfaaGreatBaseZ
import Derived.WalkKit
import Derived.ProofKit
import Derived.OpenShut
import Derived.WalkLawsBesides
import Derived.WalkSpells
import Derived.Lib.Hide
import Derived.Outline
import Derived.Laws.BitsAllLaws
import Derived.Laws.ShiftsVarLaws
import Derived.Deep.QuietTactic
import Derived.BigQuiet
import Derived.BigRegion
import Derived.Test.YtkhmfjfclpehfaaGreatShelf
import Derived.Laws.AppendOwn
import Derived.Deep.RegionLaw
import Derived.Deep.RegionWith
import Derived.Handy
import Derived.Laws.CopyOwn
import Derived.Deep.OwnRows
import Derived.Deep.WholeRow
import Derived.Great.BuildSlice
namespace Go.Proofs.YtkhmfjfclpehfaaGreat
open Go.ChangeShapes Go.WideShapes Go.ChangeAt Go.RowKit
set_option linter.unusedVariables false

theorem bit_any (i : Int) (w : World) :
    Calls Tryz.prog 91 #[.int .i64 i] w fun e w' => e = .returned (.int .u32 (bitW i)) ∧ w = w' := by
  by_cases h0 : i < 0
  · go_enter Tryz.func91, Tryz.ntmps91
    go_wp2
    go_ret
    exact ⟨ret_u32 (by rw [bitW, if_neg (by omega)]; rfl), rfl⟩
  · by_cases h1 : 32 ≤ i
    · go_enter Tryz.func91, Tryz.ntmps91
      go_wp2
      go_ret
      exact ⟨ret_u32 (by rw [bitW, if_neg (by omega)]; rfl), rfl⟩
    · have h2 : 0 ≤ i := by omega
      have h3 : i < 32 := by omega
      go_enter Tryz.func91, Tryz.ntmps91
      go_wp2
      go_ret
      refine ⟨ret_u32 ?_, rfl⟩
      have hp : 2 ^ i.toNat < 2 ^ 32 := Nat.pow_lt_pow_right (by omega) (by omega)
      have e : ((2 : Int) ^ i.toNat) = ((2 ^ i.toNat : Nat) : Int) := by simp
      rw [bitW, if_pos ⟨h2, h3⟩, e]
      have e2 : (2 : Nat) ^ 32 = 4294967296 := rfl
      generalize 2 ^ i.toNat = z at *
      omega
theorem with_any (x : Nat) (i : Int) (w : World) (hx : x < 4294967296) :
    Calls Tryz.prog 65 #[.int .u32 x, .int .i64 i] w fun e w' => e = .returned (.int .u32 (setB x i)) ∧ w = w' := by
  have e : bits .or .u32 (x : Int) (bitW i : Int) = ((x ||| bitW i : Nat) : Int) := u32_or_nat _ _ hx (bitW_lt i)
  go_enter Tryz.func65, Tryz.ntmps65
  go_wp2_with fail
  refine (bit_any _ _).mono ?_
  rintro e w' ⟨rfl, rfl⟩
  go_wp2
  go_ret
  exact ⟨rfl, rfl⟩
theorem without_any (x : Nat) (i : Int) (w : World) (hx : x < 4294967296) :
    Calls Tryz.prog 113 #[.int .u32 x, .int .i64 i] w fun e w' => e = .returned (.int .u32 (clrB x i)) ∧ w = w' := by
  have e : bits .andNot .u32 (x : Int) (bitW i : Int) = ((x &&& (4294967295 - bitW i) : Nat) : Int) := u32_andNot_nat _ _ hx (bitW_lt i)
  go_enter Tryz.func113, Tryz.ntmps113
  go_wp2_with fail
  refine (bit_any _ _).mono ?_
  rintro e w' ⟨rfl, rfl⟩
  go_wp2
  go_ret
  exact ⟨rfl, rfl⟩
end Go.Proofs.YtkhmfjfclpehfaaGreat
namespace Go.Proofs.YtkhmfjfclpehfaaGreat
open Go.ChangeShapes Go.WideShapes Go.ChangeAt Go.RowKit
set_option linter.unusedVariables false
set_option linter.unusedSimpArgs false
structure RkM (w : World) (b : Nat) (X : Nat → Nat → Int) (m pr : Nat → Nat) (bs : Nat) : Prop where
  one : ∃ cs : Array Value, w.heap[b]? = some (.cells cs 115 (0, 0)) ∧ cs.size = 561 ∧ (∀ p i, p < 32 → i < 16 → cs[p * 16 + i]? = some (.int .i8 (X p i))) ∧ (∀ p, p < 32 → cs[512 + p]? = some (.int .i64 (m p : Int))) ∧ (∀ t, t < 16 → cs[544 + t]? = some (.int .i64 (pr t : Int))) ∧ cs[560]? = some (.int .u32 (bs : Int))
section
variable {w wr : World} {b : Nat} {X : Nat → Nat → Int} {m pr : Nat → Nat} {bs : Nat}
theorem RkM.keeps {S : Nat → Prop} (h : RkM w b X m pr bs) (k : Keeps S w wr) (hs : ¬ S b) : RkM wr b X m pr bs := by
  obtain ⟨cs, h1, h2⟩ := h.one
  exact ⟨cs, k.at h1 hs, h2⟩
theorem RkM.lt (h : RkM w b X m pr bs) : b < w.heap.size := by obtain ⟨cs, h1, _⟩ := h.one; exact lt_of h1
theorem RkM.row (h : RkM w b X m pr bs) (p i : Nat) (hp : p < 32) (hi : i < 16) : w.cell? ⟨b, p * 16 + i, none⟩ = some (.int .i8 (X p i)) := by
  obtain ⟨cs, h1, _, h3, _⟩ := h.one
  exact (cell_of h1 _).trans (h3 p i hp hi)
theorem RkM.many (h : RkM w b X m pr bs) (p : Nat) (hp : p < 32) : w.cell? ⟨b, 512 + p, none⟩ = some (.int .i64 (m p : Int)) := by
  obtain ⟨cs, h1, _, _, h4, _⟩ := h.one
  exact (cell_of h1 _).trans (h4 p hp)
theorem RkM.prio (h : RkM w b X m pr bs) (t : Nat) (ht : t < 16) : w.cell? ⟨b, 544 + t, none⟩ = some (.int .i64 (pr t : Int)) := by
  obtain ⟨cs, h1, _, _, _, h5, _⟩ := h.one
  exact (cell_of h1 _).trans (h5 t ht)
theorem RkM.bits (h : RkM w b X m pr bs) : w.cell? ⟨b, 560, none⟩ = some (.int .u32 (bs : Int)) := by
  obtain ⟨cs, h1, _, _, _, _, h6⟩ := h.one
  exact (cell_of h1 _).trans h6
theorem RkM.free (h : RkM w b X m pr bs) (i : Nat) : w.frozen? ⟨b, i, none⟩ = false := by
  obtain ⟨cs, h1, _⟩ := h.one
  exact free_of h1 i
theorem RkM.setRow (h : RkM w b X m pr bs) (p i : Nat) (hp : p < 32) (hi : i < 16) (u : Int) : RkM (w.setCell ⟨b, p * 16 + i, none⟩ (.int .i8 u)) b (fun q j => if q = p ∧ j = i then u else X q j) m pr bs := by
  obtain ⟨cs, h1, h2, h3, h4, h5, h6⟩ := h.one
  refine ⟨_, heap_set h1 (p * 16 + i) _, by simp [h2], fun q j hq hj => ?_, fun q hq => ?_, fun t ht => ?_, ?_⟩
  · rw [Array.getElem?_setIfInBounds]
    by_cases e : q = p ∧ j = i
    · obtain ⟨rfl, rfl⟩ := e
      rw [if_pos rfl, if_pos (by omega)]; simp
    · rw [if_neg (by omega), if_neg e]; exact h3 q j hq hj
  · rw [Array.getElem?_setIfInBounds, if_neg (by omega)]; exact h4 q hq
  · rw [Array.getElem?_setIfInBounds, if_neg (by omega)]; exact h5 t ht
  · rw [Array.getElem?_setIfInBounds, if_neg (by omega)]; exact h6
theorem RkM.setMany (h : RkM w b X m pr bs) (p : Nat) (hp : p < 32) (u : Nat) (z : Int) (hz : z = (u : Int)) : RkM (w.setCell ⟨b, 512 + p, none⟩ (.int .i64 z)) b X (fun q => if q = p then u else m q) pr bs := by
  subst hz
  obtain ⟨cs, h1, h2, h3, h4, h5, h6⟩ := h.one
  refine ⟨_, heap_set h1 (512 + p) _, by simp [h2], fun q j hq hj => ?_, fun q hq => ?_, fun t ht => ?_, ?_⟩
  · rw [Array.getElem?_setIfInBounds, if_neg (by omega)]; exact h3 q j hq hj
  · rw [Array.getElem?_setIfInBounds]
    by_cases e : q = p
    · subst e
      rw [if_pos rfl, if_pos (by omega)]; simp
    · rw [if_neg (by omega), if_neg e]; exact h4 q hq
  · rw [Array.getElem?_setIfInBounds, if_neg (by omega)]; exact h5 t ht
  · rw [Array.getElem?_setIfInBounds, if_neg (by omega)]; exact h6
theorem RkM.setPrio (h : RkM w b X m pr bs) (t : Nat) (ht : t < 16) (u : Nat) (z : Int) (hz : z = (u : Int)) : RkM (w.setCell ⟨b, 544 + t, none⟩ (.int .i64 z)) b X m (fun q => if q = t then u else pr q) bs := by
  subst hz
  obtain ⟨cs, h1, h2, h3, h4, h5, h6⟩ := h.one
  refine ⟨_, heap_set h1 (544 + t) _, by simp [h2], fun q j hq hj => ?_, fun q hq => ?_, fun q hq => ?_, ?_⟩
  · rw [Array.getElem?_setIfInBounds, if_neg (by omega)]; exact h3 q j hq hj
  · rw [Array.getElem?_setIfInBounds, if_neg (by omega)]; exact h4 q hq
  · rw [Array.getElem?_setIfInBounds]
    by_cases e : q = t
    · subst e
      rw [if_pos rfl, if_pos (by omega)]; simp
    · rw [if_neg (by omega), if_neg e]; exact h5 q hq
  · rw [Array.getElem?_setIfInBounds, if_neg (by omega)]; exact h6
theorem RkM.setBits (h : RkM w b X m pr bs) (u : Nat) (z : Int) (hz : z = (u : Int)) : RkM (w.setCell ⟨b, 560, none⟩ (.int .u32 z)) b X m pr u := by
  subst hz
  obtain ⟨cs, h1, h2, h3, h4, h5, h6⟩ := h.one
  refine ⟨_, heap_set h1 560 _, by simp [h2], fun q j hq hj => ?_, fun q hq => ?_, fun q hq => ?_, ?_⟩
  · rw [Array.getElem?_setIfInBounds, if_neg (by omega)]; exact h3 q j hq hj
  · rw [Array.getElem?_setIfInBounds, if_neg (by omega)]; exact h4 q hq
  · rw [Array.getElem?_setIfInBounds, if_neg (by omega)]; exact h5 q hq
  · rw [Array.getElem?_setIfInBounds, if_pos rfl, if_pos (by omega)]
end
theorem rkhas_any (t : Int) (w : World) :
    Calls Tryz.prog 64 #[.int .i64 t] w fun e w' => e = .returned (.bool (decide (0 ≤ t) && decide (t < 16))) ∧ w = w' := by
  rcases h : decide (0 ≤ t)
  all_goals
    go_enter Tryz.func64, Tryz.ntmps64
    go_wp2
    go_ret
    exact ⟨by simp, rfl⟩
theorem rkbits_any (w : World) (b : Nat) (X : Nat → Nat → Int) (m pr : Nat → Nat) (bs : Nat) (h : RkM w b X m pr bs) :
    Calls Tryz.prog 93 #[.pointer (some ⟨b, 0, none⟩)] w fun e w' => e = .returned (.int .u32 (bs : Int)) ∧ w = w' := by
  have c0 := h.bits
  have lx := h.lt
  go_enter Tryz.func93, Tryz.ntmps93
  go_wp2
  go_ret
  exact ⟨rfl, rfl⟩
theorem rkprio_out (w : World) (b : Nat) (t : Int) (ht : ¬ (0 ≤ t ∧ t < 16)) :
    Calls Tryz.prog 100 #[.pointer (some ⟨b, 0, none⟩), .int .i64 t] w fun e w' => e = .returned (.tuple #[.int .i64 0, .bool false]) ∧ w = w' := by
  have hb : (decide (0 ≤ t) && decide (t < 16)) = false := by
    rw [Bool.and_eq_false_iff, decide_eq_false_iff_not, decide_eq_false_iff_not]; omega
  have HB := Lib.hid hb
  clear hb ht
  go_enter Tryz.func100, Tryz.ntmps100
  go_wp2_with fail
  refine (rkhas_any _ _).mono ?_
  rintro e w' ⟨rfl, rfl⟩
  rw [HB.out]
  go_wp2
  exact bodyPost_ret (v := .tuple #[.int .i64 0, .bool false]) (by simp [results, Tryz.results100, go_sem, *]) rfl ⟨rfl, rfl⟩
theorem rkprio_any (w : World) (b : Nat) (X : Nat → Nat → Int) (m pr : Nat → Nat) (bs : Nat) (h : RkM w b X m pr bs) (t : Nat) (ht : t < 16) (hpr : pr t ≤ 32) :
    Calls Tryz.prog 100 #[.pointer (some ⟨b, 0, none⟩), .int .i64 (t : Int)] w fun e w' => e = .returned (.tuple #[.int .i64 ((pr t - 1 : Nat) : Int), .bool (!(pr t == 0))]) ∧ w = w' := by
  have c0 := h.prio t ht
  have lx := h.lt
  have hb : (decide ((0 : Int) ≤ (t : Int)) && decide ((t : Int) < 16)) = true := by
    rw [Bool.and_eq_true, decide_eq_true_eq, decide_eq_true_eq]; omega
  have HB := Lib.hid hb
  clear hb h
  rcases Nat.eq_zero_or_pos (pr t) with hz | hz
  · rw [hz] at c0 ⊢
    clear hz hpr
    go_enter Tryz.func100, Tryz.ntmps100
    go_wp2_with fail
    refine (rkhas_any _ _).mono ?_
    rintro e w' ⟨rfl, rfl⟩
    rw [HB.out]
    go_wp2
    exact bodyPost_ret (v := .tuple #[.int .i64 0, .bool false]) (by simp [results, Tryz.results100, go_sem, *]) rfl ⟨by simp, rfl⟩
  · obtain ⟨q, hq⟩ : ∃ q, pr t = q + 1 := ⟨pr t - 1, by omega⟩
    rw [hq] at c0 ⊢
    have z0 : (((q + 1 : Nat) : Int) == 0) = false := beq_eq_false_iff_ne.mpr (by omega)
    have W1 : wrap64 (((q + 1 : Nat) : Int) - 1) = (q : Int) := by rw [IntWalk.wrap64_in _ ⟨by omega, by omega⟩]; omega
    have W2 : wrap64 ((q : Int) + 1 - 1) = (q : Int) := by rw [IntWalk.wrap64_in _ ⟨by omega, by omega⟩]; omega
    have W3 : wrap64 (q : Int) = (q : Int) := IntWalk.wrap64_in _ ⟨by omega, by omega⟩
    have z1 : ((q : Int) + 1 == 0) = false := beq_eq_false_iff_ne.mpr (by omega)
    clear hz hpr hq
    go_enter Tryz.func100, Tryz.ntmps100
    go_wp2_with fail
    refine (rkhas_any _ _).mono ?_
    rintro e w' ⟨rfl, rfl⟩
    rw [HB.out]
    go_wp2
    exact bodyPost_ret (v := .tuple #[.int .i64 (q : Int), .bool true]) (by simp [results, Tryz.results100, go_sem, *]) rfl ⟨by simp, rfl⟩
set_option maxHeartbeats 1000000 in
theorem rkadd_yes (w : World) (b : Nat) (X : Nat → Nat → Int) (m pr : Nat → Nat) (bs : Nat) (h : RkM w b X m pr bs) (t p : Nat) (ht : t < 16) (hp : p < 32) (h0 : pr t = 0) (hm : m p < 16) (hbs : bs < 4294967296) :
    Calls Tryz.prog 39 #[.pointer (some ⟨b, 0, none⟩), .int .i64 (t : Int), .int .i64 (p : Int)] w fun e w' => e = .returned (.bool true) ∧ RkM w' b (fun q j => if q = p ∧ j = m p then (t : Int) else X q j) (fun q => if q = p then m p + 1 else m q) (fun q => if q = t then p + 1 else pr q) (setB bs (p : Int)) ∧ Keeps (fun k => k = b) w w' := by
  have H := Lib.hid h
  have c0 := h.prio t ht
  rw [h0] at c0
  have lx := h.lt
  have hb : (decide ((0 : Int) ≤ (t : Int)) && decide ((t : Int) < 16)) = true := by
    rw [Bool.and_eq_true, decide_eq_true_eq, decide_eq_true_eq]; omega
  have HB := Lib.hid hb
  have d1 : decide ((p : Int) < 0) = false := decide_eq_false (by omega)
  have d2 : decide ((32 : Int) ≤ (p : Int)) = false := decide_eq_false (by omega)
  have W8 : IntKind.i8.wrap (t : Int) = (t : Int) := by simp [IntKind.wrap, IntKind.signed, IntKind.bits]; omega
  have HP := Lib.hid (And.intro ht (And.intro hp (And.intro hm hbs)))
  clear hb h h0
  go_enter Tryz.func39, Tryz.ntmps39
  go_wp2_with fail
  refine (rkhas_any _ _).mono ?_
  rintro e w' ⟨rfl, rfl⟩
  rw [HB.out]
  have c1 := H.out.many p hp
  have c2 := H.out.row p (m p) hp hm
  have f2 := H.out.free (p * 16 + m p)
  have f1 := H.out.free (512 + p)
  go_wp2_with fail
  go_region
  have H1 := Lib.hid (((H.out.setRow p (m p) hp hm (t : Int)).keeps (Keeps.refl (fun _ => False) _).drew (fun h => h)))
  have K1 := Lib.hid ((((Keeps.refl (fun k => k = b) w).setCell (p := ⟨b, p * 16 + m p, none⟩) (.inl rfl) (.int .i8 (t : Int))).drew))
  clear c0 c1 c2 f1 f2 lx
  generalize hW : World.drew (World.setCell w _ _) = W1 at H1 K1 ⊢
  clear hW H
  have c1 := H1.out.many p hp
  have f1 := H1.out.free (512 + p)
  have lx := H1.out.lt
  have W4 : wrap64 ((m p : Int) + 1) = ((m p + 1 : Nat) : Int) := by rw [IntWalk.wrap64_in _ ⟨by omega, by omega⟩]; omega
  go_wp2_with fail
  go_region
  have H2 := Lib.hid (((H1.out.setMany p hp (m p + 1) ((m p : Int) + 1) (by omega)).keeps (Keeps.refl (fun _ => False) _).drew (fun h => h)))
  have K2 := Lib.hid ((K1.out.setCell (p := ⟨b, 512 + p, none⟩) (.inl rfl) (.int .i64 ((m p : Int) + 1))).drew)
  clear c1 f1 lx W4
  generalize hW : World.drew (World.setCell W1 _ _) = W2 at H2 K2 ⊢
  clear hW H1 K1
  have c1 := H2.out.prio t ht
  have f1 := H2.out.free (544 + t)
  have lx := H2.out.lt
  have W4 : wrap64 ((p : Int) + 1) = (p : Int) + 1 := by rw [IntWalk.wrap64_in _ ⟨by omega, by omega⟩]
  have H3 := Lib.hid (H2.out.setPrio t ht (p + 1) ((p : Int) + 1) (by omega))
  have K3 := Lib.hid (K2.out.setCell (p := ⟨b, 544 + t, none⟩) (.inl rfl) (.int .i64 ((p : Int) + 1)))
  have c3 := H3.out.bits
  have f3 := H3.out.free 560
  have lx3 := H3.out.lt
  go_wp2_with fail
  refine (with_any bs (p : Int) _ hbs).mono ?_
  rintro e w' ⟨rfl, rfl⟩
  have H4 := Lib.hid (H3.out.setBits (setB bs (p : Int)) _ rfl)
  have K4 := Lib.hid (K3.out.setCell (p := ⟨b, 560, none⟩) (.inl rfl) (.int .u32 (setB bs (p : Int) : Int)))
  go_wp2
  go_ret
  exact ⟨rfl, H4.out, K4.out⟩
end Go.Proofs.YtkhmfjfclpehfaaGreat
namespace Go.Proofs.YtkhmfjfclpehfaaGreat
open Go.ChangeShapes Go.WideShapes Go.ChangeAt Go.RowKit
set_option linter.unusedVariables false
theorem high_any (x : Nat) (w : World) (hx : x < 4294967296) :
    Calls Tryz.prog 92 #[.int .u32 x] w fun e w' => e = .returned (.int .i64 ((Lib.bitLen x : Int) - 1)) ∧ w = w' := by
  have hle : Lib.bitLen x ≤ 32 := Lib.bitLen_le x 32 (by omega) hx
  have H := Lib.hid (Tryz.bits_Len32 (x : Int) w (by omega) (by omega))
  go_enter Tryz.func92, Tryz.ntmps92
  go_wp2_with fail
  refine H.out.mono ?_
  rintro e w' ⟨rfl, rfl⟩
  go_wp2
  go_ret
  exact ⟨rfl, rfl⟩
end Go.Proofs.YtkhmfjfclpehfaaGreat
namespace Go.Proofs.YtkhmfjfclpehfaaGreat
open Go.ChangeShapes Go.WideShapes Go.ChangeAt Go.RowKit
set_option linter.unusedVariables false
set_option linter.unusedSimpArgs false
theorem rkadd_t_out (w : World) (b : Nat) (t p : Int) (hh : ¬ (0 ≤ t ∧ t < 16)) :
    Calls Tryz.prog 39 #[.pointer (some ⟨b, 0, none⟩), .int .i64 t, .int .i64 p] w fun e w' => e = .returned (.bool false) ∧ w = w' := by
  have hb : (decide (0 ≤ t) && decide (t < 16)) = false := by
    rw [Bool.and_eq_false_iff, decide_eq_false_iff_not, decide_eq_false_iff_not]; omega
  have HB := Lib.hid hb
  clear hb hh
  go_enter Tryz.func39, Tryz.ntmps39
  go_wp2_with fail
  refine (rkhas_any _ _).mono ?_
  rintro e w' ⟨rfl, rfl⟩
  rw [HB.out]
  go_wp2
  go_ret
  exact ⟨rfl, rfl⟩
theorem rkadd_p_low (w : World) (b : Nat) (t p : Int) (hh : (0 ≤ t ∧ t < 16) ∧ p < 0) :
    Calls Tryz.prog 39 #[.pointer (some ⟨b, 0, none⟩), .int .i64 t, .int .i64 p] w fun e w' => e = .returned (.bool false) ∧ w = w' := by
  have hb : (decide (0 ≤ t) && decide (t < 16)) = true := by
    rw [Bool.and_eq_true, decide_eq_true_eq, decide_eq_true_eq]; omega
  have d1 : decide (p < 0) = true := decide_eq_true hh.2
  have HB := Lib.hid hb
  clear hb hh
  go_enter Tryz.func39, Tryz.ntmps39
  go_wp2_with fail
  refine (rkhas_any _ _).mono ?_
  rintro e w' ⟨rfl, rfl⟩
  rw [HB.out]
  go_wp2
  go_ret
  exact ⟨rfl, rfl⟩
theorem rkadd_p_high (w : World) (b : Nat) (t p : Int) (hh : (0 ≤ t ∧ t < 16) ∧ 32 ≤ p) :
    Calls Tryz.prog 39 #[.pointer (some ⟨b, 0, none⟩), .int .i64 t, .int .i64 p] w fun e w' => e = .returned (.bool false) ∧ w = w' := by
  have hb : (decide (0 ≤ t) && decide (t < 16)) = true := by
    rw [Bool.and_eq_true, decide_eq_true_eq, decide_eq_true_eq]; omega
  have d1 : decide (p < 0) = false := decide_eq_false (by omega)
  have d2 : decide (32 ≤ p) = true := decide_eq_true hh.2
  have HB := Lib.hid hb
  clear hb hh
  go_enter Tryz.func39, Tryz.ntmps39
  go_wp2_with fail
  refine (rkhas_any _ _).mono ?_
  rintro e w' ⟨rfl, rfl⟩
  rw [HB.out]
  go_wp2
  go_ret
  exact ⟨rfl, rfl⟩
theorem rkadd_there (w : World) (b : Nat) (X : Nat → Nat → Int) (m pr : Nat → Nat) (bs : Nat) (h : RkM w b X m pr bs) (t : Nat) (p : Int) (ht : t < 16) (hp : 0 ≤ p ∧ p < 32) (h0 : 0 < pr t) :
    Calls Tryz.prog 39 #[.pointer (some ⟨b, 0, none⟩), .int .i64 (t : Int), .int .i64 p] w fun e w' => e = .returned (.bool false) ∧ w = w' := by
  have hb : (decide ((0 : Int) ≤ (t : Int)) && decide ((t : Int) < 16)) = true := by
    rw [Bool.and_eq_true, decide_eq_true_eq, decide_eq_true_eq]; omega
  have d1 : decide (p < 0) = false := decide_eq_false (by omega)
  have d2 : decide (32 ≤ p) = false := decide_eq_false (by omega)
  have d3 : decide ((0 : Int) < (pr t : Int)) = true := decide_eq_true (by omega)
  have d4 : decide (0 < pr t) = true := decide_eq_true h0
  have d5 : (0 < pr t) = True := eq_true h0
  have HB := Lib.hid hb
  have c0 := h.prio t ht
  have lx := h.lt
  clear hb hp h0 h
  go_enter Tryz.func39, Tryz.ntmps39
  go_wp2_with fail
  refine (rkhas_any _ _).mono ?_
  rintro e w' ⟨rfl, rfl⟩
  rw [HB.out]
  go_wp2
  go_ret
  exact ⟨rfl, rfl⟩
theorem rkfirst_any (w : World) (b : Nat) (X : Nat → Nat → Int) (m pr : Nat → Nat) (bs : Nat) (h : RkM w b X m pr bs) (hbs : bs < 4294967296) (hX : bs ≠ 0 → -128 ≤ X (Lib.bitLen bs - 1) 0 ∧ X (Lib.bitLen bs - 1) 0 ≤ 127) :
    Calls Tryz.prog 67 #[.pointer (some ⟨b, 0, none⟩)] w fun e w' => e = .returned (.tuple #[.int .i64 (if bs = 0 then 0 else X (Lib.bitLen bs - 1) 0), .bool (decide (bs ≠ 0))]) ∧ w = w' := by
  have HBi := Lib.hid (rkbits_any w b X m pr bs h)
  have HHi := Lib.hid (high_any bs w hbs)
  have hle : Lib.bitLen bs ≤ 32 := Lib.bitLen_le bs 32 (by omega) hbs
  by_cases hz : bs = 0
  · subst hz
    have z0 : (Lib.bitLen 0 : Int) - 1 = -1 := by rfl
    clear h hX
    go_enter Tryz.func67, Tryz.ntmps67
    go_wp2_with fail
    refine HBi.out.mono ?_
    rintro e w' ⟨rfl, rfl⟩
    go_wp2_with fail
    refine HHi.out.mono ?_
    rintro e w' ⟨rfl, rfl⟩
    rw [z0]
    go_wp2
    exact bodyPost_ret (v := .tuple #[.int .i64 0, .bool false]) (by simp [results, Tryz.results67, go_sem, *]) rfl ⟨by simp, rfl⟩
  · have hpos : 0 < Lib.bitLen bs := by
      rcases Nat.eq_zero_or_pos (Lib.bitLen bs) with h1 | h1
      · exact absurd (by
          by_cases e : bs = 0
          · exact e
          · simp [Lib.bitLen, Lib.bitLenAux, e] at h1) hz
      · exact h1
    obtain ⟨p, hp⟩ : ∃ p, Lib.bitLen bs = p + 1 := ⟨Lib.bitLen bs - 1, by omega⟩
    have hx := hX hz
    rw [hp] at HHi hx ⊢
    have c0 := h.row p 0 (by omega) (by omega)
    rw [Nat.add_zero] at c0
    have z0 : (((p + 1 : Nat) : Int) - 1) = (p : Int) := by omega
    have lx := h.lt
    have d0 : decide ((p : Int) < 0) = false := decide_eq_false (by omega)
    have d1 : p < 32 := by omega
    have W8 : IntKind.i64.wrap (X p 0) = X p 0 := IntWalk.i64_in _ ⟨by have := hx.1; simp at this; omega, by have := hx.2; simp at this; omega⟩
    clear h hX hle hpos hp
    go_enter Tryz.func67, Tryz.ntmps67
    go_wp2_with fail
    refine HBi.out.mono ?_
    rintro e w' ⟨rfl, rfl⟩
    go_wp2_with fail
    refine HHi.out.mono ?_
    rintro e w' ⟨rfl, rfl⟩
    rw [z0]
    go_wp2
    exact bodyPost_ret (v := .tuple #[.int .i64 (X p 0), .bool true]) (by simp [results, Tryz.results67, go_sem, *]) rfl ⟨by simp [hz], rfl⟩
end Go.Proofs.YtkhmfjfclpehfaaGreat
namespace Go.Proofs.YtkhmfjfclpehfaaGreat
set_option linter.unusedVariables false
set_option linter.unusedSimpArgs false
theorem nodup_le : ∀ (n : Nat) (l : List Nat), l.Nodup → (∀ x, x ∈ l → x < n) → l.length ≤ n
  | 0, [], _, _ => Nat.le_refl _
  | 0, x :: l, _, h => absurd (h x (by simp)) (by omega)
  | n + 1, l, hn, h => by
    have h1 := nodup_le n (l.filter (fun x => x != n)) (hn.filter _) (fun x hx => by
      have := List.mem_filter.1 hx
      have h2 := h x this.1
      have h3 : x ≠ n := by simpa using this.2
      omega)
    have h2 : l.length ≤ (l.filter (fun x => x != n)).length + 1 := by
      clear h h1
      induction l with
      | nil => simp
      | cons a l ih =>
        have hn' := List.nodup_cons.1 hn
        by_cases e : a = n
        · subst e
          have : l.filter (fun x => x != a) = l := List.filter_eq_self.2 (fun x hx => by
            have : x ≠ a := fun e => hn'.1 (e ▸ hx)
            simpa using this)
          simp [this]
        · have h3 : (a :: l).filter (fun x => x != n) = a :: l.filter (fun x => x != n) := by simp [e]
          rw [h3]
          have := ih hn'.2
          simp only [List.length_cons]
          omega
    omega
theorem filter_eraseIdx : ∀ (l : List Nat) (k t : Nat), l.Nodup → l[k]? = some t → l.filter (fun x => x != t) = l.eraseIdx k
  | [], k, t, _, h => by simp at h
  | a :: l, 0, t, hn, h => by
    have e : a = t := by simpa using h
    subst e
    have hn' := List.nodup_cons.1 hn
    have : l.filter (fun x => x != a) = l := List.filter_eq_self.2 (fun x hx => by
      have : x ≠ a := fun e => hn'.1 (e ▸ hx)
      simpa using this)
    simp [this]
  | a :: l, k + 1, t, hn, h => by
    have hn' := List.nodup_cons.1 hn
    have h1 : l[k]? = some t := by simpa using h
    have e : a ≠ t := fun e => hn'.1 (e ▸ List.mem_of_getElem? h1)
    have h3 : (a :: l).filter (fun x => x != t) = a :: l.filter (fun x => x != t) := by simp [e]
    rw [h3, filter_eraseIdx l k t hn'.2 h1]
    rfl
theorem filter_notMem (l : List Nat) (t : Nat) (h : t ∉ l) : l.filter (fun x => x != t) = l :=
  List.filter_eq_self.2 (fun x hx => by
    have : x ≠ t := fun e => h (e ▸ hx)
    simpa using this)
structure RkOk (X : Nat → Nat → Int) (m pr : Nat → Nat) (bs : Nat) (L : Nat → List Nat) : Prop where
  len : ∀ p, p < 32 → m p = (L p).length
  row : ∀ p i t : Nat, p < 32 → (L p)[i]? = some t → X p i = (t : Int)
  nd : ∀ p, p < 32 → (L p).Nodup
  mem : ∀ p t, p < 32 → (t ∈ L p ↔ t < 16 ∧ pr t = p + 1)
  small : ∀ t, t < 16 → pr t ≤ 32
  lt : bs < 4294967296
  bit : ∀ p, p < 32 → bs.testBit p = !(L p).isEmpty
section
variable {X : Nat → Nat → Int} {m pr : Nat → Nat} {bs : Nat} {L : Nat → List Nat}
theorem RkOk.le (h : RkOk X m pr bs L) (p : Nat) (hp : p < 32) : (L p).length ≤ 16 :=
  nodup_le 16 _ (h.nd p hp) fun x hx => ((h.mem p x hp).1 hx).1
theorem RkOk.less (h : RkOk X m pr bs L) (p t : Nat) (hp : p < 32) (ht : t < 16) (h0 : pr t = 0) : (L p).length < 16 := by
  have hm : t ∉ L p := fun hm => by have := ((h.mem p t hp).1 hm).2; omega
  have := nodup_le 16 (t :: L p) (List.nodup_cons.2 ⟨hm, h.nd p hp⟩) fun x hx => by
    rcases List.mem_cons.1 hx with rfl | hx
    · exact ht
    · exact ((h.mem p x hp).1 hx).1
  simp at this; omega
theorem RkOk.add (h : RkOk X m pr bs L) (p t : Nat) (hp : p < 32) (ht : t < 16) (h0 : pr t = 0) :
    RkOk (fun q j => if q = p ∧ j = m p then (t : Int) else X q j) (fun q => if q = p then m p + 1 else m q) (fun q => if q = t then p + 1 else pr q) (setB bs (p : Int)) (fun q => if q = p then L p ++ [t] else L q) := by
  have hm : ∀ q, q < 32 → t ∉ L q := fun q hq hm => by have := ((h.mem q t hq).1 hm).2; omega
  have hl := h.len p hp
  refine ⟨fun q hq => ?_, fun q i u hq hi => ?_, fun q hq => ?_, fun q u hq => ?_, fun u hu => ?_, setB_lt h.lt _, fun q hq => ?_⟩
  · by_cases e : q = p
    · subst e
      simp [hl]
    · simp only [if_neg e]; exact h.len q hq
  · by_cases e : q = p
    · subst e
      simp only [if_pos] at hi
      by_cases e2 : i = m q
      · simp only [e2, and_self, if_pos]
        rw [e2, hl, List.getElem?_append_right (Nat.le_refl _)] at hi
        simp at hi
        rw [hi]
      · simp only [e2, and_false, if_false]
        rcases Nat.lt_or_ge i (L q).length with h1 | h1
        · rw [List.getElem?_append_left h1] at hi
          exact h.row q i u hq hi
        · rw [List.getElem?_eq_none (by simp; omega)] at hi; cases hi
    · simp only [if_neg e] at hi
      simp only [e, false_and, if_false]
      exact h.row q i u hq hi
  · by_cases e : q = p
    · subst e
      simp only [if_pos]
      exact List.nodup_append.2 ⟨h.nd q hq, by simp, fun a ha b hb => by
        have : b = t := by simpa using hb
        rintro rfl
        exact hm q hq (this ▸ ha)⟩
    · simp only [if_neg e]; exact h.nd q hq
  · by_cases e : q = p
    · subst e
      simp only [if_pos, List.mem_append, List.mem_singleton]
      by_cases e2 : u = t
      · subst e2; simp [ht]
      · simp only [e2, or_false, if_neg e2]; exact h.mem q u hq
    · simp only [if_neg e]
      by_cases e2 : u = t
      · subst e2
        simp only [if_pos]
        exact ⟨fun hh => absurd hh (hm q hq), fun hh => by omega⟩
      · simp only [if_neg e2]; exact h.mem q u hq
  · by_cases e2 : u = t
    · simp only [if_pos e2]; omega
    · simp only [if_neg e2]; exact h.small u hu
  · rw [setB_testBit]
    by_cases e : q = p
    · subst e
      simp [hq]
    · have : ¬ ((q : Int) = (p : Int) ∧ q < 32) := by omega
      simp only [if_neg e, decide_eq_false this, Bool.or_false]
      exact h.bit q hq
theorem RkOk.remove (h : RkOk X m pr bs L) (p t k : Nat) (hp : p < 32) (hk : (L p)[k]? = some t) :
    RkOk (fun q j => if q = p ∧ k ≤ j ∧ j + 1 < m p then X p (j + 1) else X q j) (fun q => if q = p then m p - 1 else m q) (fun q => if q = t then 0 else pr q) (if m p - 1 = 0 then clrB bs (p : Int) else bs) (fun q => (L q).filter (fun x => x != t)) := by
  have hm := (h.mem p t hp).1 (List.mem_of_getElem? hk)
  have ho : ∀ q, q < 32 → q ≠ p → t ∉ L q := fun q hq hne hm2 => by have := ((h.mem q t hq).1 hm2).2; omega
  have he := filter_eraseIdx (L p) k t (h.nd p hp) hk
  have hkl : k < (L p).length := by
    rcases Nat.lt_or_ge k (L p).length with h1 | h1
    · exact h1
    · rw [List.getElem?_eq_none h1] at hk; cases hk
  have hlen : ((L p).filter (fun x => x != t)).length = (L p).length - 1 := by rw [he, List.length_eraseIdx, if_pos hkl]
  have hl := h.len p hp
  refine ⟨fun q hq => ?_, fun q i u hq hi => ?_, fun q hq => (h.nd q hq).filter _, fun q u hq => ?_, fun u hu => ?_, ?_, fun q hq => ?_⟩
  · by_cases e : q = p
    · subst e
      simp only [if_pos]
      rw [hlen, hl]
    · simp only [if_neg e, filter_notMem _ _ (ho q hq e)]; exact h.len q hq
  · by_cases e : q = p
    · subst e
      simp only [true_and]
      simp only [he, List.getElem?_eraseIdx] at hi
      by_cases h1 : i < k
      · rw [if_pos h1] at hi
        rw [if_neg (by omega)]
        exact h.row q i u hq hi
      · rw [if_neg h1] at hi
        have h2 : i + 1 < (L q).length := by
          rcases Nat.lt_or_ge (i + 1) (L q).length with h1 | h1
          · exact h1
          · rw [List.getElem?_eq_none h1] at hi; cases hi
        rw [if_pos ⟨by omega, by omega⟩]
        exact h.row q (i + 1) u hq hi
    · simp only [filter_notMem _ _ (ho q hq e)] at hi
      simp only [e, false_and, if_false]
      exact h.row q i u hq hi
  · simp only [List.mem_filter, h.mem q u hq]
    by_cases e2 : u = t
    · subst e2; simp
    · simp [e2]
  · by_cases e2 : u = t
    · simp only [if_pos e2]; omega
    · simp only [if_neg e2]; exact h.small u hu
  · split
    · exact clrB_lt h.lt _
    · exact h.lt
  · by_cases e : q = p
    · subst e
      by_cases h1 : m q - 1 = 0
      · have h2 : (L q).filter (fun x => x != t) = [] := List.eq_nil_of_length_eq_zero (by omega)
        rw [if_pos h1, h2, clrB_testBit h.lt]
        simp
      · rw [if_neg h1, h.bit q hq]
        have h2 : ((L q).filter (fun x => x != t)).isEmpty = false := by
          rw [List.isEmpty_eq_false_iff]
          intro h3
          rw [h3] at hlen
          simp at hlen
          omega
        have h3 : (L q).isEmpty = false := by
          rw [List.isEmpty_eq_false_iff]
          intro h3
          rw [h3] at hkl
          simp at hkl
        rw [h2, h3]
    · simp only [filter_notMem _ _ (ho q hq e)]
      rw [← h.bit q hq]
      split
      · rw [clrB_testBit h.lt]
        have : ¬ ((q : Int) = (p : Int)) := by omega
        simp [this]
      · rfl
def flat (L : Nat → List Nat) (p : Nat) : List Nat := ((List.range (32 - p)).map fun i => L (31 - i)).flatten
theorem flat_top (L : Nat → List Nat) : flat L 32 = [] := by simp [flat]
theorem flat_down (L : Nat → List Nat) (p : Nat) (hp : p < 32) : flat L p = flat L (p + 1) ++ L p := by
  unfold flat
  rw [show 32 - p = (32 - (p + 1)) + 1 by omega, List.range_succ, List.map_append, List.flatten_append]
  rw [show List.map (fun i => L (31 - i)) [32 - (p + 1)] = [L p] by simp only [List.map_cons, List.map_nil]; rw [show 31 - (32 - (p + 1)) = p by omega]]
  simp
theorem flat_same (L : Nat → List Nat) (p : Nat) : ∀ n, p + n ≤ 32 → (∀ q, p ≤ q → q < p + n → L q = []) → flat L p = flat L (p + n)
  | 0, _, _ => rfl
  | n + 1, h, he => by
    rw [flat_down L p (by omega), he p (Nat.le_refl _) (by omega), List.append_nil]
    have := flat_same L (p + 1) n (by omega) fun q h1 h2 => he q (by omega) (by omega)
    rw [this]
    congr 1
    omega
theorem mem_flat (L : Nat → List Nat) (p t : Nat) : t ∈ flat L p ↔ ∃ q, p ≤ q ∧ q < 32 ∧ t ∈ L q := by
  unfold flat
  simp only [List.mem_flatten, List.mem_map, List.mem_range]
  constructor
  · rintro ⟨l, ⟨i, hi, rfl⟩, ht⟩
    exact ⟨31 - i, by omega, by omega, ht⟩
  · rintro ⟨q, h1, h2, ht⟩
    exact ⟨L q, ⟨31 - q, by omega, by rw [show 31 - (31 - q) = q by omega]⟩, ht⟩
end
theorem flat_pre (L : Nat → List Nat) : ∀ n q, q + n ≤ 32 → ∃ s, flat L q = flat L (q + n) ++ s
  | 0, q, _ => ⟨[], by simp⟩
  | n + 1, q, h => by
    obtain ⟨s, hs⟩ := flat_pre L n (q + 1) (by omega)
    refine ⟨s ++ L q, ?_⟩
    rw [flat_down L q (by omega), hs, List.append_assoc]
    congr 2
    omega
theorem RkOk.empty {X : Nat → Nat → Int} {m pr : Nat → Nat} {L : Nat → List Nat} (h : RkOk X m pr 0 L) : flat L 0 = [] := by
  have := flat_same L 0 32 (by omega) fun q _ hq => by
    have := h.bit q (by omega)
    simpa using this
  rw [this, flat_top]
theorem RkOk.next {X : Nat → Nat → Int} {m pr : Nat → Nat} {bs : Nat} {L : Nat → List Nat} (h : RkOk X m pr bs L) (rest q : Nat) (hq : q ≤ 32) (hr : rest < 4294967296) (h0 : rest ≠ 0) (hs : ∀ j, rest.testBit j = (bs.testBit j && decide (j < q))) :
    ∃ p, Lib.bitLen rest = p + 1 ∧ p < q ∧ L p ≠ [] ∧ flat L q = flat L (p + 1) ∧ (∀ j, (clrB rest (p : Int)).testBit j = (bs.testBit j && decide (j < p))) ∧ clrB rest (p : Int) < rest := by
  obtain ⟨h1, h2, h3, h4⟩ := high_spec hr h0
  obtain ⟨p, hp⟩ : ∃ p, Lib.bitLen rest = p + 1 := ⟨Lib.bitLen rest - 1, by omega⟩
  rw [hp] at h3 h4 h2
  have h5 : rest.testBit p = true := h3
  have h6 := hs p
  rw [h5] at h6
  have h7 : bs.testBit p = true ∧ p < q := by simpa using h6.symm
  refine ⟨p, hp, h7.2, ?_, ?_, fun j => ?_, ?_⟩
  · have := h.bit p (by omega)
    rw [h7.1] at this
    intro e
    rw [e] at this
    simp at this
  · have := flat_same L (p + 1) (q - (p + 1)) (by omega) fun j h8 h9 => by
      have h10 := h4 j (by omega)
      rw [hs j, decide_eq_true (by omega : j < q), Bool.and_true] at h10
      have := h.bit j (by omega)
      rw [h10] at this
      simpa using this.symm
    rw [this]
    congr 1
    omega
  · rw [clrB_testBit hr, hs j]
    by_cases h8 : j < p
    · have : ¬ ((j : Int) = (p : Int)) := by omega
      simp [h8, this]
      omega
    · by_cases h9 : j = p
      · subst h9; simp
      · have := h4 j (by omega)
        rw [hs j] at this
        rw [this]
        simp [h8]
  · have h8 : clrB rest (p : Int) ≤ rest := Nat.and_le_left
    have h9 : clrB rest (p : Int) ≠ rest := fun e => by
      have h10 := clrB_testBit hr (p : Int) p
      rw [e, h5] at h10
      simp at h10
    omega
theorem RkOk.first {X : Nat → Nat → Int} {m pr : Nat → Nat} {bs : Nat} {L : Nat → List Nat} (h : RkOk X m pr bs L) (h0 : bs ≠ 0) :
    ∃ p t, Lib.bitLen bs = p + 1 ∧ p < 32 ∧ X p 0 = ((t : Nat) : Int) ∧ t < 16 ∧ (flat L 0).head? = some t := by
  obtain ⟨p, hp, hlt, hne, hf, _, _⟩ := h.next bs 32 (Nat.le_refl _) h.lt h0 fun j => by
    by_cases hj : j < 32
    · simp [hj]
    · rw [testBit_ge h.lt (by omega)]; simp
  obtain ⟨s, hs⟩ := flat_pre L p 0 (by omega)
  rw [flat_top] at hf
  rw [Nat.zero_add, flat_down L p hlt, ← hf, List.nil_append] at hs
  cases hL : L p with
  | nil => exact absurd hL hne
  | cons t l =>
    refine ⟨p, t, hp, hlt, h.row p 0 t hlt (by rw [hL]; rfl), ((h.mem p t hlt).1 (by rw [hL]; simp)).1, ?_⟩
    rw [hs, hL]
    rfl
end Go.Proofs.YtkhmfjfclpehfaaGreat
namespace Go.Proofs.YtkhmfjfclpehfaaGreat
open Go.ChangeShapes Go.WideShapes Go.ChangeAt Go.RowKit
set_option linter.unusedVariables false
set_option linter.unusedSimpArgs false
def ints (l : List Nat) : List Value := l.map fun n : Nat => Value.int .i64 (n : Int)
theorem rk_slice (b p n : Nat) (hn : n ≤ 16) (w : World) :
    (Instr.sliceAt 111 (.pointer (some ⟨b, p * 16, none⟩)) none (some (.int .i64 (n : Int))) none).run Tryz.prog w = .ok (.slice (some ⟨b, p * 16, none⟩) n 16) w := by
  have ha : Tryz.prog.arrayLen 111 = 16 := by kernel_rfl
  have hs : (sizeOf (Tryz.prog.elem 111)).run Tryz.prog w = .ok 1 w := by kernel_rfl
  rw [run_sliceAt_array_h w 111 ⟨b, p * 16, none⟩ (by kernel_rfl) .i64 n (by omega) (by rw [ha]; omega), hs]
  simp [Result.andThen, slicedAt, Addr.add, ha]
end Go.Proofs.YtkhmfjfclpehfaaGreat
namespace Go.Proofs.YtkhmfjfclpehfaaGreat
open Go.ChangeShapes Go.WideShapes Go.ChangeAt Go.RowKit
set_option linter.unusedVariables false
set_option linter.unusedSimpArgs false
theorem splice_get {α : Type} (cur : List α) (off : Nat) (cs : List α) (h : off + cs.length ≤ cur.length) (i : Nat) : (splice cur off cs)[i]? = if off ≤ i ∧ i < off + cs.length then cs[i - off]? else cur[i]? := by
  unfold splice
  rcases Nat.lt_or_ge i off with h1 | h1
  · rw [List.getElem?_append_left (by simp; omega), List.getElem?_take, if_pos h1, if_neg (by omega)]
  · rw [List.getElem?_append_right (by simp; omega), List.length_take, Nat.min_eq_left (by omega)]
    rcases Nat.lt_or_ge i (off + cs.length) with h2 | h2
    · rw [List.getElem?_append_left (by omega), if_pos ⟨h1, h2⟩]
    · rw [List.getElem?_append_right (by omega), List.getElem?_drop, if_neg (by omega)]
      congr 1
      omega
theorem step_copy_put {P : Program} {ops : Array Oper} {o : Oper} {a : Act} {w : World} {K : Act → World → Prop} {Q : Exit → Act → World → Prop} {E : Prop} (hgd : o.guard = none) (d s : Operand) (dT sT : TypeId)
    (ho : o.op = .call { callee := .builtin .copy, args := #[d, s], argTypes := #[dT, sT] }) (elem : TypeId) (hu : P.underlying dT = some (.slice elem)) (hsz : (P.info? elem).map (·.size) = some 1)
    (dp sp : Option Addr) (dLen dCap sLen sCap : Nat) (hd : a.eval d = .slice dp dLen dCap) (hs : a.eval s = .slice sp sLen sCap)
    (g off : Nat) (cur : List Value) (t : TypeId) (hg : w.heap[g]? = some (.cells cur.toArray t (0, 0))) (cs : List Value) (hn : cs.length = Nat.min sLen dLen)
    (hpos : 0 < cs.length → dp = some ⟨g, off, none⟩ ∧ ∃ ad, sp = some ad ∧ ∀ j v, cs[j]? = some v → w.cell? (ad.add j) = some v)
    (hfit : off + cs.length ≤ cur.length) (h1 : ∀ v ∈ cs, v.oneCell' = true)
    (h : ∀ w', Hid (w'.heap[g]? = some (.cells (splice cur off cs).toArray t (0, 0))) → Hid (Keeps (fun k => k = g) w w') → K (a.put o.dst (goInt cs.length)) w') :
    if Region.wanted o (yielded ops a.tmps) = true then Oper.wp P o a w K Q else E := by
  have hw : Region.wanted o (yielded ops a.tmps) = true := by simp [Region.wanted, hgd]
  rw [if_pos hw]
  by_cases h0 : cs.length = 0
  · obtain rfl : cs = [] := List.eq_nil_of_length_eq_zero h0
    have hrun := run_copy_none (P := P) w dT sT o.type elem dp sp dLen dCap sLen sCap hu hsz (by simpa using hn.symm)
    unfold Oper.wp
    simp [execOp, ho, resolve, invoke, builtin, hd, hs, hrun, Result.andThen]
    exact h w (Lib.hid (by simpa [splice] using hg)) (Lib.hid (Keeps.refl _ _))
  · obtain ⟨rfl, ad, rfl, hsrc⟩ := hpos (by omega)
    have hrun := run_copy_row (P := P) w dT sT o.type elem g off dLen dCap ad sLen sCap cur.toArray t cs hu hsz hg hn hsrc (by simpa using hfit) h1
    unfold Oper.wp
    simp [execOp, ho, resolve, invoke, builtin, hd, hs, hrun, Result.andThen]
    exact h _ (Lib.hid (by simpa [splice] using setRow_heap w g _ _ t _ hg)) (Lib.hid ⟨rfl, rfl, rfl, by simp [World.setRow], fun k _ hk => setRow_other w g k _ hk⟩)
def movedUp (X : Nat → Nat → Int) (p k n : Nat) : List Value := (List.range n).map fun j => Value.int .i8 (X p (k + 1 + j))
theorem movedUp_len (X : Nat → Nat → Int) (p k n : Nat) : (movedUp X p k n).length = n := by simp [movedUp]
theorem movedUp_get (X : Nat → Nat → Int) (p k n j : Nat) (h : j < n) : (movedUp X p k n)[j]? = some (.int .i8 (X p (k + 1 + j))) := by simp [movedUp, h]
theorem RkM.moved {w w2 : World} {b : Nat} {cs : Array Value} {X : Nat → Nat → Int} {m pr : Nat → Nat} {bs : Nat} (h1 : w.heap[b]? = some (.cells cs 115 (0, 0))) (h : RkM w b X m pr bs) (p k n : Nat) (hp : p < 32) (hn : k + 1 + n ≤ 16) (h2 : w2.heap[b]? = some (.cells (splice cs.toList (p * 16 + k) (movedUp X p k n)).toArray 115 (0, 0))) :
    RkM w2 b (fun q j => if q = p ∧ k ≤ j ∧ j < k + n then X p (j + 1) else X q j) m pr bs := by
  obtain ⟨cs', h1', hs, h3, h4, h5, h6⟩ := h.one
  rw [h1] at h1'
  obtain rfl : cs = cs' := by injection h1' with h; injection h
  have hl : p * 16 + k + (movedUp X p k n).length ≤ cs.toList.length := by rw [movedUp_len]; simp; omega
  have hg : ∀ i, ((splice cs.toList (p * 16 + k) (movedUp X p k n)).toArray)[i]? = if p * 16 + k ≤ i ∧ i < p * 16 + k + n then (movedUp X p k n)[i - (p * 16 + k)]? else cs[i]? := fun i => by
    rw [List.getElem?_toArray, splice_get _ _ _ hl, movedUp_len]; simp
  refine ⟨_, h2, ?_, fun q j hq hj => ?_, fun q hq => ?_, fun t ht => ?_, ?_⟩
  · rw [List.size_toArray, length_splice _ _ _ hl]; simpa using hs
  · rw [hg]
    by_cases e : q = p ∧ k ≤ j ∧ j < k + n
    · obtain ⟨rfl, e1, e2⟩ := e
      rw [if_pos ⟨by omega, by omega⟩, if_pos ⟨rfl, e1, e2⟩, show q * 16 + j - (q * 16 + k) = j - k by omega, movedUp_get _ _ _ _ _ (by omega), show k + 1 + (j - k) = j + 1 by omega]
    · rw [if_neg (by omega), if_neg e]; exact h3 q j hq hj
  · rw [hg, if_neg (by omega)]; exact h4 q hq
  · rw [hg, if_neg (by omega)]; exact h5 t ht
  · rw [hg, if_neg (by omega)]; exact h6
end Go.Proofs.YtkhmfjfclpehfaaGreat
namespace Go.Proofs.YtkhmfjfclpehfaaGreat
open Go.ChangeShapes Go.WideShapes Go.ChangeAt Go.RowKit
set_option linter.unusedVariables false
set_option linter.unusedSimpArgs false
theorem rkremove_out (w : World) (b : Nat) (t : Int) (ht : ¬ (0 ≤ t ∧ t < 16)) :
    Calls Tryz.prog 98 #[.pointer (some ⟨b, 0, none⟩), .int .i64 t] w fun e w' => e = .returned (.bool false) ∧ w = w' := by
  have HB := Lib.hid (rkprio_out w b t ht)
  clear ht
  go_enter Tryz.func98, Tryz.ntmps98
  go_wp2_with fail
  refine HB.out.mono ?_
  rintro e w' ⟨rfl, rfl⟩
  go_wp2
  go_ret
  exact ⟨rfl, rfl⟩
theorem rkremove_none (w : World) (b : Nat) (X : Nat → Nat → Int) (m pr : Nat → Nat) (bs : Nat) (h : RkM w b X m pr bs) (t : Nat) (ht : t < 16) (h0 : pr t = 0) :
    Calls Tryz.prog 98 #[.pointer (some ⟨b, 0, none⟩), .int .i64 (t : Int)] w fun e w' => e = .returned (.bool false) ∧ w = w' := by
  have hc := rkprio_any w b X m pr bs h t ht (by omega)
  rw [h0] at hc
  have HB := Lib.hid hc
  clear ht h0 h hc
  go_enter Tryz.func98, Tryz.ntmps98
  go_wp2_with fail
  refine HB.out.mono ?_
  rintro e w' ⟨rfl, rfl⟩
  go_wp2
  go_ret
  exact ⟨rfl, rfl⟩
theorem rk_cells {w : World} {b : Nat} {cs : Array Value} (h : w.heap[b]? = some (.cells cs 115 (0, 0))) : w.drew.heap[b]? = some (.cells cs.toList.toArray 115 (0, 0)) := by
  rw [Array.toArray_toList]
  exact h
theorem rk_min (X : Nat → Nat → Int) (p k n : Nat) (hk : k + 1 ≤ n) : (movedUp X p k (n - (k + 1))).length = Nat.min (n - (k + 1)) (n - k) := by
  rw [movedUp_len]
  exact (Nat.min_eq_left (by omega)).symm
theorem RkM.movesFrom {w : World} {b : Nat} {X : Nat → Nat → Int} {m pr : Nat → Nat} {bs : Nat} (h : RkM w b X m pr bs) (p k n : Nat) (hp : p < 32) (hn16 : n ≤ 16) :
    0 < (movedUp X p k (n - (k + 1))).length → some (⟨b, p * 16 + k, none⟩ : Addr) = some ⟨b, p * 16 + k, none⟩ ∧ ∃ ad, (if 16 = k + 1 then some (⟨b, p * 16, none⟩ : Addr) else some ⟨b, p * 16 + (k + 1), none⟩) = some ad ∧ ∀ j v, (movedUp X p k (n - (k + 1)))[j]? = some v → w.drew.cell? (ad.add j) = some v := by
  intro hpos
  rw [movedUp_len] at hpos
  refine ⟨rfl, ⟨b, p * 16 + (k + 1), none⟩, by rw [if_neg (by omega)], fun j v hv => ?_⟩
  rcases Nat.lt_or_ge j (n - (k + 1)) with h1 | h1
  · rw [movedUp_get _ _ _ _ _ h1] at hv
    rw [← hv]
    have h2 := h.row p (k + 1 + j) hp (by omega)
    have e : (⟨b, p * 16 + (k + 1), none⟩ : Addr).add j = ⟨b, p * 16 + (k + 1 + j), none⟩ := by
      unfold Addr.add
      by_cases hj : j = 0
      · subst hj; rfl
      · rw [if_neg hj, ← Nat.add_assoc]
        simp
        omega
    rw [e]
    exact h2
  · rw [List.getElem?_eq_none (by rw [movedUp_len]; exact h1)] at hv
    cases hv
theorem rk_fit (X : Nat → Nat → Int) (p k n : Nat) (hp : p < 32) (hn16 : n ≤ 16) (hk : k + 1 ≤ n) (cs : Array Value) (h : cs.size = 561) : p * 16 + k + (movedUp X p k (n - (k + 1))).length ≤ cs.toList.length := by
  rw [movedUp_len, Array.length_toList, h]
  omega
theorem rk_ones (X : Nat → Nat → Int) (p k n : Nat) : ∀ v ∈ movedUp X p k n, v.oneCell' = true := by
  intro v hv
  obtain ⟨j, _, rfl⟩ := List.mem_map.1 hv
  rfl
set_option maxRecDepth 20000 in
set_option maxHeartbeats 1000000 in
theorem rkremove_yes (w : World) (b : Nat) (X : Nat → Nat → Int) (m pr : Nat → Nat) (bs : Nat) (h : RkM w b X m pr bs) (p t k n : Nat) (hp : p < 32) (ht : t < 16) (hpr : pr t = p + 1) (hn : m p = n) (hn16 : n ≤ 16) (hk : k < n) (hX : ∀ j, j < n → ∃ u : Nat, u < 16 ∧ X p j = (u : Int) ∧ (u = t ↔ j = k)) (hbs : bs < 4294967296) :
    Calls Tryz.prog 98 #[.pointer (some ⟨b, 0, none⟩), .int .i64 (t : Int)] w fun e w' => e = .returned (.bool true) ∧ RkM w' b (fun q j => if q = p ∧ k ≤ j ∧ j < k + (n - (k + 1)) then X p (j + 1) else X q j) (fun q => if q = p then n - 1 else m q) (fun q => if q = t then 0 else pr q) (if n - 1 = 0 then clrB bs (p : Int) else bs) ∧ Keeps (fun k => k = b) w w' := by
  have H := Lib.hid h
  have hc := rkprio_any w b X m pr bs h t ht (by omega)
  rw [hpr, Nat.add_sub_cancel, show (!(p + 1 == 0)) = true by simp] at hc
  have HB := Lib.hid hc
  have c1 := h.many p hp
  rw [hn] at c1
  have lb := h.lt
  have hsl := fun w => rk_slice b p n hn16 w
  have HX := Lib.hid hX
  have hmn := Lib.hid hn
  clear h hc hX hpr hn
  go_enter Tryz.func98, Tryz.ntmps98
  go_wp2_with fail
  refine HB.out.mono ?_
  rintro e w' ⟨rfl, rfl⟩
  go_wp2_with fail
  go_quiet (fail)
  go_wp2_with fail
  go_loopw [32] (fun i wr => ∃ j : Nat, j ≤ k ∧ i = .int .i64 (j : Int) ∧ Keeps (fun _ => False) w wr) (fun i _ => n - (intOf i).toNat)
  case atStart => exact ⟨0, by omega, rfl, (Keeps.refl _ _).drewN _⟩
  case round =>
    obtain ⟨j, hj, rfl, hK⟩ := hrel
    have hlt : j < n := by omega
    obtain ⟨u, hu, hx, hiff⟩ := HX.out j hlt
    have hMr := H.out.keeps hK (fun h => h)
    have c2 := hMr.row p j hp (by omega)
    rw [hx] at c2
    have lbr := hMr.lt
    have W8 : IntKind.i64.wrap (u : Int) = (u : Int) := IntWalk.i64_in _ ⟨by omega, by omega⟩
    by_cases hjk : j < k
    · have e1 : ((u : Int) == (t : Int)) = false := by
        rw [beq_eq_false_iff_ne]
        intro e
        have := hiff.1 (by omega)
        omega
      clear hx hiff hMr
      have HK := Lib.hid hK
      clear hK
      go_wp2_with fail
      go_roundw
      case rel => exact ⟨j + 1, by omega, by go_num, HK.out⟩
      case measure => simp [intOf]; omega
    · obtain rfl : k = j := by omega
      obtain rfl : t = u := (hiff.2 rfl).symm
      have hmv : k + 1 + (n - (k + 1)) ≤ 16 := by omega
      have hkn : k ≤ n := by omega
      have hkn1 : k + 1 ≤ n := by omega
      have h16 : (16 = k) = False := eq_false (by omega)
      have W9 : IntKind.i64.wrap ((k : Int) + 1) = (k : Int) + 1 := IntWalk.i64_in _ ⟨by omega, by omega⟩
      have W10 : ((k : Int) + 1).toNat = k + 1 := by omega
      have W11 : 0 ≤ (k : Int) + 1 := by omega
      have W12 : (k : Int) + 1 ≤ (n : Int) := by omega
      obtain ⟨cs, hcs, hcsz, hcr, _⟩ := hMr.one
      have HCS := Lib.hid hcs
      have HG := Lib.hid (rk_cells hcs)
      have HMIN := Lib.hid (rk_min X p k n hkn1)
      have HPOS := Lib.hid (hMr.movesFrom p k n hp hn16)
      have HFIT := Lib.hid (rk_fit X p k n hp hn16 hkn1 cs hcsz)
      have HONE := Lib.hid (rk_ones X p k (n - (k + 1)))
      have HR := Lib.hid hMr
      have HK := Lib.hid hK
      clear hx hiff hMr hK hcs hcr hcsz
      go_wp2_with fail
      go_region_law (refine step_copy_put rfl (.tmp 43) (.tmp 47) 188 188 rfl (Tryz.prog.elem 188) (by kernel_rfl) (by kernel_rfl) (some ⟨b, p * 16 + k, none⟩) (if 16 = k + 1 then some ⟨b, p * 16, none⟩ else some ⟨b, p * 16 + (k + 1), none⟩) (n - k) (16 - k) (n - (k + 1)) (16 - (k + 1)) (by simp [Act.eval, Act.put]) (by simp [Act.eval, Act.put]) b (p * 16 + k) cs.toList 115 HG.out (movedUp X p k (n - (k + 1))) (HMIN.out) (fun h => ⟨rfl, (HPOS.out h).2⟩) HFIT.out HONE.out ?_; intro w4 hg4 hk4)
      generalize hA : (if k = 15 then some (⟨b, p * 16, none⟩ : Addr) else some ⟨b, p * 16 + (k + 1), none⟩) = A2
      clear hA
      have HM4 := Lib.hid (RkM.moved HCS.out HR.out p k (n - (k + 1)) hp hmv hg4.out)
      have K4 := Lib.hid ((HK.out.drew.mono fun z _ hz => hz.elim).trans hk4.out)
      clear HG HMIN HPOS HFIT HONE hg4 hk4 c2 lbr c1 HX
      have c1 := HM4.out.many p hp
      rw [hmn.out] at c1
      have f1 := HM4.out.free (512 + p)
      have lx := HM4.out.lt
      have W4 : wrap64 ((n : Int) - 1) = ((n - 1 : Nat) : Int) := by rw [IntWalk.wrap64_in _ ⟨by omega, by omega⟩]; omega
      clear W8 W9 W10 W11 W12 hsl
      go_wp2_with fail
      go_region
      have H1 := Lib.hid (((HM4.out.setMany p hp (n - 1) ((n : Int) - 1) (by omega)).keeps (Keeps.refl (fun _ => False) _).drew (fun h => h)))
      have K1 := Lib.hid ((K4.out.setCell (p := ⟨b, 512 + p, none⟩) (.inl rfl) (.int .i64 ((n : Int) - 1))).drew)
      clear c1 f1 lx W4
      generalize hW : World.drew (World.setCell w4 _ _) = W1 at H1 K1 ⊢
      clear hW HM4 K4
      have c1 := H1.out.prio t ht
      have f1 := H1.out.free (544 + t)
      have lx := H1.out.lt
      have H2 := Lib.hid (H1.out.setPrio t ht 0 0 rfl)
      have K2 := Lib.hid (K1.out.setCell (p := ⟨b, 544 + t, none⟩) (.inl rfl) (.int .i64 0))
      have c3 := H2.out.many p hp
      rw [if_pos rfl] at c3
      have lx3 := H2.out.lt
      rcases Nat.eq_zero_or_pos (n - 1) with hz | hz
      · have c4 := H2.out.bits
        have f4 := H2.out.free 560
        rw [hz] at c3
        have HZ := Lib.hid hz
        clear hz
        go_wp2_with fail
        refine (without_any bs (p : Int) _ hbs).mono ?_
        rintro e w' ⟨rfl, rfl⟩
        have H3 := Lib.hid (H2.out.setBits (clrB bs (p : Int)) _ rfl)
        have K3 := Lib.hid (K2.out.setCell (p := ⟨b, 560, none⟩) (.inl rfl) (.int .u32 (clrB bs (p : Int) : Int)))
        go_wp2
        go_ret
        refine ⟨rfl, ?_, K3.out⟩
        have h := H3.out
        rw [HZ.out] at h
        exact h
      · have e1 : (((n - 1 : Nat) : Int) == 0) = false := beq_eq_false_iff_ne.mpr (by omega)
        have HZ := Lib.hid hz
        clear hz
        go_wp2_with fail
        all_goals first | (exfalso; have h := HZ.out; omega) | (go_ret; exact ⟨rfl, H2.out, K2.out⟩)
end Go.Proofs.YtkhmfjfclpehfaaGreat
namespace Go.Proofs.YtkhmfjfclpehfaaGreat
open Go.ChangeShapes Go.WideShapes Go.ChangeAt Go.RowKit
set_option linter.unusedVariables false
set_option linter.unusedSimpArgs false
abbrev RkT : Type := (Nat → List Nat) × (Nat → Nat)
structure RkS (w : World) (b : Nat) (s : RkT) : Prop where
  one : ∃ X m bs, RkM w b X m s.2 bs ∧ RkOk X m s.2 bs s.1
section
variable {w wr : World} {b : Nat} {s : RkT}
theorem RkS.keeps {S : Nat → Prop} (h : RkS w b s) (k : Keeps S w wr) (hs : ¬ S b) : RkS wr b s := by
  obtain ⟨X, m, bs, h1, h2⟩ := h.one
  exact ⟨X, m, bs, h1.keeps k hs, h2⟩
theorem RkS.lt (h : RkS w b s) : b < w.heap.size := by
  obtain ⟨X, m, bs, h1, h2⟩ := h.one
  exact h1.lt
theorem RkS.small (h : RkS w b s) : ∀ t, t < 16 → s.2 t ≤ 32 := by
  obtain ⟨X, m, bs, h1, h2⟩ := h.one
  exact h2.small
theorem RkS.mem (h : RkS w b s) : ∀ p t, p < 32 → (t ∈ s.1 p ↔ t < 16 ∧ s.2 t = p + 1) := by
  obtain ⟨X, m, bs, h1, h2⟩ := h.one
  exact h2.mem
theorem RkS.nd (h : RkS w b s) : ∀ p, p < 32 → (s.1 p).Nodup := by
  obtain ⟨X, m, bs, h1, h2⟩ := h.one
  exact h2.nd
theorem RkS.le (h : RkS w b s) : ∀ p, p < 32 → (s.1 p).length ≤ 16 := by
  obtain ⟨X, m, bs, h1, h2⟩ := h.one
  exact h2.le
end
def canAdd (pr : Nat → Nat) (t p : Int) : Bool := decide ((0 ≤ t ∧ t < 16) ∧ (0 ≤ p ∧ p < 32) ∧ pr t.toNat = 0)
def canRem (pr : Nat → Nat) (t : Int) : Bool := decide ((0 ≤ t ∧ t < 16) ∧ pr t.toNat ≠ 0)
def addL (L : Nat → List Nat) (p t : Nat) : Nat → List Nat := fun q => if q = p then L p ++ [t] else L q
def remL (L : Nat → List Nat) (t : Nat) : Nat → List Nat := fun q => (L q).filter (fun x => x != t)
def setP (pr : Nat → Nat) (t u : Nat) : Nat → Nat := fun q => if q = t then u else pr q
def addT (s : RkT) (t p : Int) : RkT := if canAdd s.2 t p then (addL s.1 p.toNat t.toNat, setP s.2 t.toNat (p.toNat + 1)) else s
def remT (s : RkT) (t : Int) : RkT := if canRem s.2 t then (remL s.1 t.toNat, setP s.2 t.toNat 0) else s
def prioT (s : RkT) (t : Int) : Nat := if canRem s.2 t then s.2 t.toNat - 1 else 0
def turnT (s : RkT) (t : Int) : RkT := if canRem s.2 t then addT (remT s t) t (prioT s t : Int) else s
def listT (s : RkT) : List Nat := flat s.1 0
theorem rks_add (w : World) (b : Nat) (s : RkT) (h : RkS w b s) (t p : Int) :
    Calls Tryz.prog 39 #[.pointer (some ⟨b, 0, none⟩), .int .i64 t, .int .i64 p] w fun e w' => e = .returned (.bool (canAdd s.2 t p)) ∧ RkS w' b (addT s t p) ∧ Keeps (fun k => k = b) w w' := by
  by_cases hc : (0 ≤ t ∧ t < 16) ∧ (0 ≤ p ∧ p < 32) ∧ s.2 t.toNat = 0
  · have e : canAdd s.2 t p = true := decide_eq_true hc
    unfold addT
    rw [if_pos e, e]
    obtain ⟨⟨h1, h2⟩, ⟨h3, h4⟩, h5⟩ := hc
    obtain ⟨T, rfl⟩ := Int.eq_ofNat_of_zero_le h1
    obtain ⟨P, rfl⟩ := Int.eq_ofNat_of_zero_le h3
    simp only [Int.toNat_natCast] at h5 ⊢
    obtain ⟨X, m, bs, hm, ho⟩ := h.one
    have hT : T < 16 := by omega
    have hP : P < 32 := by omega
    have hl : m P < 16 := by rw [ho.len P hP]; exact ho.less P T hP hT h5
    refine (rkadd_yes w b X m s.2 bs hm T P hT hP h5 hl ho.lt).mono ?_
    rintro e w' ⟨rfl, hm', hk⟩
    exact ⟨rfl, ⟨_, _, _, hm', ho.add P T hP hT h5⟩, hk⟩
  · have e : canAdd s.2 t p = false := decide_eq_false hc
    unfold addT
    rw [e]
    have hout : ∀ {e : Ending} {w' : World}, (e = .returned (.bool false) ∧ w = w') → (e = .returned (.bool false) ∧ RkS w' b (if false = true then (addL s.1 p.toNat t.toNat, setP s.2 t.toNat (p.toNat + 1)) else s) ∧ Keeps (fun k => k = b) w w') := by
      rintro e w' ⟨rfl, rfl⟩
      exact ⟨rfl, h, Keeps.refl _ _⟩
    by_cases h1 : 0 ≤ t ∧ t < 16
    · by_cases h2 : p < 0
      · exact (rkadd_p_low w b t p ⟨h1, h2⟩).mono fun e w' hh => hout hh
      · by_cases h3 : 32 ≤ p
        · exact (rkadd_p_high w b t p ⟨h1, h3⟩).mono fun e w' hh => hout hh
        · obtain ⟨T, rfl⟩ := Int.eq_ofNat_of_zero_le h1.1
          have h5 : 0 < s.2 T := by
            rcases Nat.eq_zero_or_pos (s.2 T) with h5 | h5
            · exact absurd ⟨h1, ⟨by omega, by omega⟩, by simpa using h5⟩ hc
            · exact h5
          obtain ⟨X, m, bs, hm, ho⟩ := h.one
          exact (rkadd_there w b X m s.2 bs hm T p (by omega) ⟨by omega, by omega⟩ h5).mono fun e w' hh => hout hh
    · exact (rkadd_t_out w b t p h1).mono fun e w' hh => hout hh
theorem rks_prio (w : World) (b : Nat) (s : RkT) (h : RkS w b s) (t : Int) :
    Calls Tryz.prog 100 #[.pointer (some ⟨b, 0, none⟩), .int .i64 t] w fun e w' => e = .returned (.tuple #[.int .i64 (prioT s t : Int), .bool (canRem s.2 t)]) ∧ w = w' := by
  unfold prioT
  by_cases h1 : 0 ≤ t ∧ t < 16
  · obtain ⟨T, rfl⟩ := Int.eq_ofNat_of_zero_le h1.1
    obtain ⟨X, m, bs, hm, ho⟩ := h.one
    have hT : T < 16 := by omega
    refine (rkprio_any w b X m s.2 bs hm T hT (ho.small T hT)).mono ?_
    rintro e w' ⟨rfl, rfl⟩
    refine ⟨?_, rfl⟩
    by_cases h5 : s.2 T = 0
    · have e : canRem s.2 (T : Int) = false := decide_eq_false (fun hh => hh.2 (by simpa using h5))
      rw [e, h5]
      simp
    · have e : canRem s.2 (T : Int) = true := decide_eq_true ⟨h1, by simpa using h5⟩
      rw [e]
      simp [h5]
  · have e : canRem s.2 t = false := decide_eq_false (fun hh => h1 hh.1)
    rw [e]
    exact (rkprio_out w b t h1).mono fun e w' hh => by simpa using hh
theorem RkOk.at {X : Nat → Nat → Int} {m pr : Nat → Nat} {bs : Nat} {L : Nat → List Nat} (h : RkOk X m pr bs L) (p t k : Nat) (hp : p < 32) (hk : (L p)[k]? = some t) :
    ∀ j, j < (L p).length → ∃ u : Nat, u < 16 ∧ X p j = (u : Int) ∧ (u = t ↔ j = k) := by
  intro j hj
  have hg : (L p)[j]? = some (L p)[j] := List.getElem?_eq_getElem hj
  refine ⟨(L p)[j], ((h.mem p _ hp).1 (List.getElem_mem hj)).1, h.row p j _ hp hg, fun e => ?_, fun e => ?_⟩
  · rw [e, ← hk] at hg
    exact (List.getElem?_inj hj (h.nd p hp)).1 hg
  · subst e
    rw [hg] at hk
    injection hk
theorem rks_rem (w : World) (b : Nat) (s : RkT) (h : RkS w b s) (t : Int) :
    Calls Tryz.prog 98 #[.pointer (some ⟨b, 0, none⟩), .int .i64 t] w fun e w' => e = .returned (.bool (canRem s.2 t)) ∧ RkS w' b (remT s t) ∧ Keeps (fun k => k = b) w w' := by
  obtain ⟨X, m, bs, hm, ho⟩ := h.one
  by_cases hc : (0 ≤ t ∧ t < 16) ∧ s.2 t.toNat ≠ 0
  · have e : canRem s.2 t = true := decide_eq_true hc
    unfold remT
    rw [if_pos e, e]
    obtain ⟨h1, h5⟩ := hc
    obtain ⟨T, rfl⟩ := Int.eq_ofNat_of_zero_le h1.1
    simp only [Int.toNat_natCast] at h5 ⊢
    have hT : T < 16 := by omega
    have hs := ho.small T hT
    obtain ⟨P, hP⟩ : ∃ P, s.2 T = P + 1 := ⟨s.2 T - 1, by omega⟩
    have hP32 : P < 32 := by omega
    have hmem : T ∈ s.1 P := (ho.mem P T hP32).2 ⟨hT, hP⟩
    obtain ⟨k, hk⟩ := List.getElem?_of_mem hmem
    have hkl : k < (s.1 P).length := by
      rcases Nat.lt_or_ge k (s.1 P).length with h1 | h1
      · exact h1
      · rw [List.getElem?_eq_none h1] at hk; cases hk
    refine (rkremove_yes w b X m s.2 bs hm P T k (s.1 P).length hP32 hT hP (ho.len P hP32) (ho.le P hP32) hkl (ho.at P T k hP32 hk) ho.lt).mono ?_
    rintro e w' ⟨rfl, hm', hK⟩
    refine ⟨rfl, ?_, hK⟩
    have hr := ho.remove P T k hP32 hk
    rw [ho.len P hP32] at hr
    have e1 : (fun q j => if q = P ∧ k ≤ j ∧ j < k + ((s.1 P).length - (k + 1)) then X P (j + 1) else X q j) = (fun q j => if q = P ∧ k ≤ j ∧ j + 1 < (s.1 P).length then X P (j + 1) else X q j) := by
      funext q j
      by_cases e : q = P ∧ k ≤ j ∧ j + 1 < (s.1 P).length
      · rw [if_pos e, if_pos ⟨e.1, e.2.1, by omega⟩]
      · rw [if_neg e, if_neg (fun hh => e ⟨hh.1, hh.2.1, by omega⟩)]
    rw [e1] at hm'
    exact ⟨_, _, _, hm', hr⟩
  · have e : canRem s.2 t = false := decide_eq_false hc
    unfold remT
    rw [e]
    have hout : ∀ {e : Ending} {w' : World}, (e = .returned (.bool false) ∧ w = w') → (e = .returned (.bool false) ∧ RkS w' b (if false = true then (remL s.1 t.toNat, setP s.2 t.toNat 0) else s) ∧ Keeps (fun k => k = b) w w') := by
      rintro e w' ⟨rfl, rfl⟩
      exact ⟨rfl, h, Keeps.refl _ _⟩
    by_cases h1 : 0 ≤ t ∧ t < 16
    · obtain ⟨T, rfl⟩ := Int.eq_ofNat_of_zero_le h1.1
      have h5 : s.2 T = 0 := by
        rcases Nat.eq_zero_or_pos (s.2 T) with h5 | h5
        · exact h5
        · exact absurd ⟨h1, by simp; omega⟩ hc
      exact (rkremove_none w b X m s.2 bs hm T (by omega) h5).mono fun e w' hh => hout hh
    · exact (rkremove_out w b t h1).mono fun e w' hh => hout hh
theorem rks_first (w : World) (b : Nat) (s : RkT) (h : RkS w b s) :
    Calls Tryz.prog 67 #[.pointer (some ⟨b, 0, none⟩)] w fun e w' => e = .returned (.tuple #[.int .i64 ((listT s).headD 0 : Int), .bool (!(listT s).isEmpty)]) ∧ w = w' := by
  obtain ⟨X, m, bs, hm, ho⟩ := h.one
  by_cases h0 : bs = 0
  · subst h0
    refine (rkfirst_any w b X m s.2 0 hm ho.lt (fun h => absurd rfl h)).mono ?_
    rintro e w' ⟨rfl, rfl⟩
    have : listT s = [] := ho.empty
    rw [this]
    exact ⟨rfl, rfl⟩
  · obtain ⟨p, t, hp, hp32, hX, ht, hh⟩ := ho.first h0
    refine (rkfirst_any w b X m s.2 bs hm ho.lt (fun _ => ?_)).mono ?_
    · rw [hp, Nat.add_sub_cancel, hX]
      omega
    · rintro e w' ⟨rfl, rfl⟩
      have hh' : (listT s).head? = some t := hh
      rw [hp, Nat.add_sub_cancel, hX, if_neg h0]
      cases hl : listT s with
      | nil => rw [hl] at hh'; cases hh'
      | cons a l =>
        rw [hl] at hh'
        injection hh' with e
        subst e
        simp [h0]
end Go.Proofs.YtkhmfjfclpehfaaGreat
namespace Go.Proofs.YtkhmfjfclpehfaaGreat
open Go.ChangeShapes Go.WideShapes Go.ChangeAt Go.RowKit
set_option linter.unusedVariables false
set_option linter.unusedSimpArgs false
theorem canAdd_back (s : RkT) (t : Int) (h : canRem s.2 t = true) (hs : ∀ t, t < 16 → s.2 t ≤ 32) : canAdd (remT s t).2 t (prioT s t : Int) = true := by
  have h1 := of_decide_eq_true h
  have h2 := hs t.toNat (by omega)
  unfold canAdd remT prioT
  rw [if_pos h, if_pos h]
  refine decide_eq_true ⟨h1.1, ⟨by omega, by omega⟩, ?_⟩
  simp [setP]
theorem rks_turn (w : World) (b : Nat) (s : RkT) (h : RkS w b s) (t : Int) :
    Calls Tryz.prog 73 #[.pointer (some ⟨b, 0, none⟩), .int .i64 t] w fun e w' => e = .returned (.bool (canRem s.2 t)) ∧ RkS w' b (turnT s t) ∧ Keeps (fun k => k = b) w w' := by
  have HP := Lib.hid (rks_prio w b s h t)
  rcases hc : canRem s.2 t with _ | _
  · have HF := Lib.hid (show RkS w b (turnT s t) by unfold turnT; rw [hc]; exact h)
    rw [hc] at HP
    clear hc h
    go_enter Tryz.func73, Tryz.ntmps73
    go_wp2_with fail
    refine HP.out.mono ?_
    rintro e w' ⟨rfl, rfl⟩
    go_wp2
    go_ret
    exact ⟨rfl, HF.out, Keeps.refl _ _⟩
  · have HB := Lib.hid (canAdd_back s t hc h.small)
    have HR := Lib.hid (rks_rem w b s h t)
    have HT := Lib.hid (show turnT s t = addT (remT s t) t (prioT s t : Int) by unfold turnT; rw [if_pos hc])
    rw [hc] at HP HR
    clear hc h
    go_enter Tryz.func73, Tryz.ntmps73
    go_wp2_with fail
    refine HP.out.mono ?_
    rintro e w' ⟨rfl, rfl⟩
    go_wp2_with fail
    refine HR.out.mono ?_
    rintro e w1 ⟨rfl, hS, hK⟩
    have HA := Lib.hid (rks_add w1 b (remT s t) hS t (prioT s t : Int))
    rw [HB.out] at HA
    have HK := Lib.hid hK
    clear hS hK
    go_wp2_with fail
    refine HA.out.mono ?_
    rintro e w2 ⟨rfl, hS2, hK2⟩
    have HS := Lib.hid (And.intro hS2 (HK.out.trans hK2))
    clear hS2 hK2
    go_wp2
    go_ret
    exact ⟨rfl, by rw [HT.out]; exact HS.out.1, HS.out.2⟩
theorem RkM.ones {w : World} {b : Nat} {X : Nat → Nat → Int} {m pr : Nat → Nat} {bs : Nat} {cs : Array Value} (hs : cs.size = 561) (h3 : ∀ p i, p < 32 → i < 16 → cs[p * 16 + i]? = some (.int .i8 (X p i))) (h4 : ∀ p, p < 32 → cs[512 + p]? = some (.int .i64 (m p : Int))) (h5 : ∀ t, t < 16 → cs[544 + t]? = some (.int .i64 (pr t : Int))) (h6 : cs[560]? = some (.int .u32 (bs : Int))) : cs.all (·.oneCell') = true := by
  rw [Array.all_eq_true]
  intro i hi
  have hx : cs[i]? = some cs[i] := Array.getElem?_eq_getElem hi
  by_cases h1 : i < 512
  · have := h3 (i / 16) (i % 16) (by omega) (by omega)
    rw [show i / 16 * 16 + i % 16 = i by omega, hx] at this
    rw [Option.some.inj this]; rfl
  · by_cases h2 : i < 544
    · have := h4 (i - 512) (by omega)
      rw [show 512 + (i - 512) = i by omega, hx] at this
      rw [Option.some.inj this]; rfl
    · by_cases h2 : i < 560
      · have := h5 (i - 544) (by omega)
        rw [show 544 + (i - 544) = i by omega, hx] at this
        rw [Option.some.inj this]; rfl
      · obtain rfl : i = 560 := by omega
        rw [h6] at hx; rw [← Option.some.inj hx]; rfl
def zAt (k : IntKind) (v : Option Value) : Bool := match v with | some (.int k' 0) => k' == k | _ => false
theorem zAt_eq {k : IntKind} {v : Option Value} (h : zAt k v = true) : v = some (.int k 0) := by
  unfold zAt at h
  split at h
  · rw [beq_iff_eq.1 h]
  · cases h
theorem rk_zeros : ∃ zs : Array Value, Tryz.prog.built 115 [] = some zs ∧ (∀ w, (zeroValue 115).run Tryz.prog w = .ok (.agg zs) w) ∧ zs.size = 561 ∧ (∀ p i, p < 32 → i < 16 → zs[p * 16 + i]? = some (.int .i8 0)) ∧ (∀ p, p < 32 → zs[512 + p]? = some (.int .i64 0)) ∧ (∀ t, t < 16 → zs[544 + t]? = some (.int .i64 0)) ∧ zs[560]? = some (.int .u32 0) := by
  refine ⟨(Tryz.prog.built 115 []).getD #[], by kernel_rfl, fun w => by kernel_rfl, by kernel_rfl, fun p i hp hi => ?_, fun p hp => ?_, fun t ht => ?_, ?_⟩
  · have h : (List.range 512).all (fun i => zAt .i8 ((Tryz.prog.built 115 []).getD #[])[i]?) = true := by kernel_rfl
    exact zAt_eq (List.all_eq_true.1 h (p * 16 + i) (List.mem_range.2 (by omega)))
  · have h : (List.range 32).all (fun i => zAt .i64 ((Tryz.prog.built 115 []).getD #[])[512 + i]?) = true := by kernel_rfl
    exact zAt_eq (List.all_eq_true.1 h p (List.mem_range.2 hp))
  · have h : (List.range 16).all (fun i => zAt .i64 ((Tryz.prog.built 115 []).getD #[])[544 + i]?) = true := by kernel_rfl
    exact zAt_eq (List.all_eq_true.1 h t (List.mem_range.2 ht))
  · have h : zAt .u32 ((Tryz.prog.built 115 []).getD #[])[560]? = true := by kernel_rfl
    exact zAt_eq h
end Go.Proofs.YtkhmfjfclpehfaaGreat
namespace Go.Proofs.YtkhmfjfclpehfaaGreat
open Go.ChangeShapes Go.WideShapes Go.ChangeAt Go.RowKit
set_option linter.unusedVariables false
set_option linter.unusedSimpArgs false
def rk0 : RkT := (fun _ => [], fun _ => 0)
theorem rk_fresh : ∃ zs : Array Value, (∀ w, (zeroValue 115).run Tryz.prog w = .ok (.agg zs) w) ∧ ∀ (w : World) (b : Nat), w.heap[b]? = some (.cells zs 115 (0, 0)) → RkS w b rk0 := by
  obtain ⟨zs, _, hb, hs, h3, h4, h5, h6⟩ := rk_zeros
  refine ⟨zs, hb, fun w b h => ⟨fun _ _ => 0, fun _ => 0, 0, ⟨zs, h, hs, h3, h4, h5, h6⟩, ?_⟩⟩
  refine ⟨fun p hp => rfl, fun p i t hp hi => ?_, fun p hp => List.nodup_nil, fun p t hp => ?_, fun t ht => Nat.zero_le _, by omega, fun p hp => ?_⟩
  · simp [rk0] at hi
  · simp [rk0]
  · simp [rk0]
end Go.Proofs.YtkhmfjfclpehfaaGreat
