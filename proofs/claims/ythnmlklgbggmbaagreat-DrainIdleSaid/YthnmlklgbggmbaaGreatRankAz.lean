import Derived.Test.YthnmlklgbggmbaaGreatRows
import Derived.Test.YthnmlklgbggmbaaGreatBaseZ
import Derived.WalkKit
import Derived.ProofKit
import Derived.OpenShut
import Derived.WalkLawsBesides
import Derived.WalkSpells
import Derived.Lib.Hide
import Derived.Outline
import Derived.Laws.BitsAllLaws
import Derived.Laws.ShiftsVarLaws
import Derived.Deep.QuietTactic
import Derived.BigQuiet
import Derived.BigRegion
import Derived.Test.YthnmlklgbggmbaaGreatShelf
import Derived.Laws.AppendOwn
import Derived.Deep.RegionLaw
import Derived.Deep.RegionWith
import Derived.Handy
namespace Go.Proofs.YthnmlklgbggmbaaGreat
open Go.ChangeShapes Go.WideShapes Go.ChangeAt Go.RowKit
set_option linter.unusedVariables false

theorem bit_any (i : Int) (w : World) :
    Calls Tryz.prog 149 #[.int .i64 i] w fun e w' => e = .returned (.int .u32 (bitW i)) ∧ w = w' := by
  by_cases h0 : i < 0
  · go_enter Tryz.func149, Tryz.ntmps149
    go_wp2
    go_ret
    exact ⟨ret_u32 (by rw [bitW, if_neg (by omega)]; rfl), rfl⟩
  · by_cases h1 : 32 ≤ i
    · go_enter Tryz.func149, Tryz.ntmps149
      go_wp2
      go_ret
      exact ⟨ret_u32 (by rw [bitW, if_neg (by omega)]; rfl), rfl⟩
    · have h2 : 0 ≤ i := by omega
      have h3 : i < 32 := by omega
      go_enter Tryz.func149, Tryz.ntmps149
      go_wp2
      go_ret
      refine ⟨ret_u32 ?_, rfl⟩
      have hp : 2 ^ i.toNat < 2 ^ 32 := Nat.pow_lt_pow_right (by omega) (by omega)
      have e : ((2 : Int) ^ i.toNat) = ((2 ^ i.toNat : Nat) : Int) := by simp
      rw [bitW, if_pos ⟨h2, h3⟩, e]
      have e2 : (2 : Nat) ^ 32 = 4294967296 := rfl
      generalize 2 ^ i.toNat = z at *
      omega
theorem with_any (x : Nat) (i : Int) (w : World) (hx : x < 4294967296) :
    Calls Tryz.prog 126 #[.int .u32 x, .int .i64 i] w fun e w' => e = .returned (.int .u32 (setB x i)) ∧ w = w' := by
  have e : bits .or .u32 (x : Int) (bitW i : Int) = ((x ||| bitW i : Nat) : Int) := u32_or_nat _ _ hx (bitW_lt i)
  go_enter Tryz.func126, Tryz.ntmps126
  go_wp2_with fail
  refine (bit_any _ _).mono ?_
  rintro e w' ⟨rfl, rfl⟩
  go_wp2
  go_ret
  exact ⟨rfl, rfl⟩
theorem without_any (x : Nat) (i : Int) (w : World) (hx : x < 4294967296) :
    Calls Tryz.prog 95 #[.int .u32 x, .int .i64 i] w fun e w' => e = .returned (.int .u32 (clrB x i)) ∧ w = w' := by
  have e : bits .andNot .u32 (x : Int) (bitW i : Int) = ((x &&& (4294967295 - bitW i) : Nat) : Int) := u32_andNot_nat _ _ hx (bitW_lt i)
  go_enter Tryz.func95, Tryz.ntmps95
  go_wp2_with fail
  refine (bit_any _ _).mono ?_
  rintro e w' ⟨rfl, rfl⟩
  go_wp2
  go_ret
  exact ⟨rfl, rfl⟩
end Go.Proofs.YthnmlklgbggmbaaGreat
namespace Go.Proofs.YthnmlklgbggmbaaGreat
open Go.ChangeShapes Go.WideShapes Go.ChangeAt Go.RowKit
set_option linter.unusedVariables false
set_option linter.unusedSimpArgs false
/-- A rank in memory: its rows' cells, how many each row has, each task's priority plus one, the bits. -/
structure RkM (w : World) (b : Nat) (X : Nat → Nat → Int) (m pr : Nat → Nat) (bs : Nat) : Prop where
  one : ∃ cs : Array Value, w.heap[b]? = some (.cells cs 154 (0, 0)) ∧ cs.size = 561 ∧ (∀ p i, p < 32 → i < 16 → cs[p * 16 + i]? = some (.int .i8 (X p i))) ∧ (∀ p, p < 32 → cs[512 + p]? = some (.int .i64 (m p : Int))) ∧ (∀ t, t < 16 → cs[544 + t]? = some (.int .i64 (pr t : Int))) ∧ cs[560]? = some (.int .u32 (bs : Int))
section
variable {w wr : World} {b : Nat} {X : Nat → Nat → Int} {m pr : Nat → Nat} {bs : Nat}
theorem RkM.keeps {S : Nat → Prop} (h : RkM w b X m pr bs) (k : Keeps S w wr) (hs : ¬ S b) : RkM wr b X m pr bs := by
  obtain ⟨cs, h1, h2⟩ := h.one
  exact ⟨cs, k.at h1 hs, h2⟩
theorem RkM.lt (h : RkM w b X m pr bs) : b < w.heap.size := by obtain ⟨cs, h1, _⟩ := h.one; exact lt_of h1
theorem RkM.row (h : RkM w b X m pr bs) (p i : Nat) (hp : p < 32) (hi : i < 16) : w.cell? ⟨b, p * 16 + i, none⟩ = some (.int .i8 (X p i)) := by
  obtain ⟨cs, h1, _, h3, _⟩ := h.one
  exact (cell_of h1 _).trans (h3 p i hp hi)
theorem RkM.many (h : RkM w b X m pr bs) (p : Nat) (hp : p < 32) : w.cell? ⟨b, 512 + p, none⟩ = some (.int .i64 (m p : Int)) := by
  obtain ⟨cs, h1, _, _, h4, _⟩ := h.one
  exact (cell_of h1 _).trans (h4 p hp)
theorem RkM.prio (h : RkM w b X m pr bs) (t : Nat) (ht : t < 16) : w.cell? ⟨b, 544 + t, none⟩ = some (.int .i64 (pr t : Int)) := by
  obtain ⟨cs, h1, _, _, _, h5, _⟩ := h.one
  exact (cell_of h1 _).trans (h5 t ht)
theorem RkM.bits (h : RkM w b X m pr bs) : w.cell? ⟨b, 560, none⟩ = some (.int .u32 (bs : Int)) := by
  obtain ⟨cs, h1, _, _, _, _, h6⟩ := h.one
  exact (cell_of h1 _).trans h6
theorem RkM.free (h : RkM w b X m pr bs) (i : Nat) : w.frozen? ⟨b, i, none⟩ = false := by
  obtain ⟨cs, h1, _⟩ := h.one
  exact free_of h1 i
theorem RkM.setRow (h : RkM w b X m pr bs) (p i : Nat) (hp : p < 32) (hi : i < 16) (u : Int) : RkM (w.setCell ⟨b, p * 16 + i, none⟩ (.int .i8 u)) b (fun q j => if q = p ∧ j = i then u else X q j) m pr bs := by
  obtain ⟨cs, h1, h2, h3, h4, h5, h6⟩ := h.one
  refine ⟨_, heap_set h1 (p * 16 + i) _, by simp [h2], fun q j hq hj => ?_, fun q hq => ?_, fun t ht => ?_, ?_⟩
  · rw [Array.getElem?_setIfInBounds]
    by_cases e : q = p ∧ j = i
    · obtain ⟨rfl, rfl⟩ := e
      rw [if_pos rfl, if_pos (by omega)]; simp
    · rw [if_neg (by omega), if_neg e]; exact h3 q j hq hj
  · rw [Array.getElem?_setIfInBounds, if_neg (by omega)]; exact h4 q hq
  · rw [Array.getElem?_setIfInBounds, if_neg (by omega)]; exact h5 t ht
  · rw [Array.getElem?_setIfInBounds, if_neg (by omega)]; exact h6
theorem RkM.setMany (h : RkM w b X m pr bs) (p : Nat) (hp : p < 32) (u : Nat) (z : Int) (hz : z = (u : Int)) : RkM (w.setCell ⟨b, 512 + p, none⟩ (.int .i64 z)) b X (fun q => if q = p then u else m q) pr bs := by
  subst hz
  obtain ⟨cs, h1, h2, h3, h4, h5, h6⟩ := h.one
  refine ⟨_, heap_set h1 (512 + p) _, by simp [h2], fun q j hq hj => ?_, fun q hq => ?_, fun t ht => ?_, ?_⟩
  · rw [Array.getElem?_setIfInBounds, if_neg (by omega)]; exact h3 q j hq hj
  · rw [Array.getElem?_setIfInBounds]
    by_cases e : q = p
    · subst e
      rw [if_pos rfl, if_pos (by omega)]; simp
    · rw [if_neg (by omega), if_neg e]; exact h4 q hq
  · rw [Array.getElem?_setIfInBounds, if_neg (by omega)]; exact h5 t ht
  · rw [Array.getElem?_setIfInBounds, if_neg (by omega)]; exact h6
theorem RkM.setPrio (h : RkM w b X m pr bs) (t : Nat) (ht : t < 16) (u : Nat) (z : Int) (hz : z = (u : Int)) : RkM (w.setCell ⟨b, 544 + t, none⟩ (.int .i64 z)) b X m (fun q => if q = t then u else pr q) bs := by
  subst hz
  obtain ⟨cs, h1, h2, h3, h4, h5, h6⟩ := h.one
  refine ⟨_, heap_set h1 (544 + t) _, by simp [h2], fun q j hq hj => ?_, fun q hq => ?_, fun q hq => ?_, ?_⟩
  · rw [Array.getElem?_setIfInBounds, if_neg (by omega)]; exact h3 q j hq hj
  · rw [Array.getElem?_setIfInBounds, if_neg (by omega)]; exact h4 q hq
  · rw [Array.getElem?_setIfInBounds]
    by_cases e : q = t
    · subst e
      rw [if_pos rfl, if_pos (by omega)]; simp
    · rw [if_neg (by omega), if_neg e]; exact h5 q hq
  · rw [Array.getElem?_setIfInBounds, if_neg (by omega)]; exact h6
theorem RkM.setBits (h : RkM w b X m pr bs) (u : Nat) (z : Int) (hz : z = (u : Int)) : RkM (w.setCell ⟨b, 560, none⟩ (.int .u32 z)) b X m pr u := by
  subst hz
  obtain ⟨cs, h1, h2, h3, h4, h5, h6⟩ := h.one
  refine ⟨_, heap_set h1 560 _, by simp [h2], fun q j hq hj => ?_, fun q hq => ?_, fun q hq => ?_, ?_⟩
  · rw [Array.getElem?_setIfInBounds, if_neg (by omega)]; exact h3 q j hq hj
  · rw [Array.getElem?_setIfInBounds, if_neg (by omega)]; exact h4 q hq
  · rw [Array.getElem?_setIfInBounds, if_neg (by omega)]; exact h5 q hq
  · rw [Array.getElem?_setIfInBounds, if_pos rfl, if_pos (by omega)]
end
theorem rkhas_any (t : Int) (w : World) :
    Calls Tryz.prog 125 #[.int .i64 t] w fun e w' => e = .returned (.bool (decide (0 ≤ t) && decide (t < 16))) ∧ w = w' := by
  rcases h : decide (0 ≤ t)
  all_goals
    go_enter Tryz.func125, Tryz.ntmps125
    go_wp2
    go_ret
    exact ⟨by simp, rfl⟩
theorem rkbits_any (w : World) (b : Nat) (X : Nat → Nat → Int) (m pr : Nat → Nat) (bs : Nat) (h : RkM w b X m pr bs) :
    Calls Tryz.prog 93 #[.pointer (some ⟨b, 0, none⟩)] w fun e w' => e = .returned (.int .u32 (bs : Int)) ∧ w = w' := by
  have c0 := h.bits
  have lx := h.lt
  go_enter Tryz.func93, Tryz.ntmps93
  go_wp2
  go_ret
  exact ⟨rfl, rfl⟩
theorem rkprio_out (w : World) (b : Nat) (t : Int) (ht : ¬ (0 ≤ t ∧ t < 16)) :
    Calls Tryz.prog 171 #[.pointer (some ⟨b, 0, none⟩), .int .i64 t] w fun e w' => e = .returned (.tuple #[.int .i64 0, .bool false]) ∧ w = w' := by
  have hb : (decide (0 ≤ t) && decide (t < 16)) = false := by
    rw [Bool.and_eq_false_iff, decide_eq_false_iff_not, decide_eq_false_iff_not]; omega
  have HB := Lib.hid hb
  clear hb ht
  go_enter Tryz.func171, Tryz.ntmps171
  go_wp2_with fail
  refine (rkhas_any _ _).mono ?_
  rintro e w' ⟨rfl, rfl⟩
  rw [HB.out]
  go_wp2
  exact bodyPost_ret (v := .tuple #[.int .i64 0, .bool false]) (by simp [results, Tryz.results171, go_sem, *]) rfl ⟨rfl, rfl⟩
theorem rkprio_any (w : World) (b : Nat) (X : Nat → Nat → Int) (m pr : Nat → Nat) (bs : Nat) (h : RkM w b X m pr bs) (t : Nat) (ht : t < 16) (hpr : pr t ≤ 32) :
    Calls Tryz.prog 171 #[.pointer (some ⟨b, 0, none⟩), .int .i64 (t : Int)] w fun e w' => e = .returned (.tuple #[.int .i64 ((pr t - 1 : Nat) : Int), .bool (!(pr t == 0))]) ∧ w = w' := by
  have c0 := h.prio t ht
  have lx := h.lt
  have hb : (decide ((0 : Int) ≤ (t : Int)) && decide ((t : Int) < 16)) = true := by
    rw [Bool.and_eq_true, decide_eq_true_eq, decide_eq_true_eq]; omega
  have HB := Lib.hid hb
  clear hb h
  rcases Nat.eq_zero_or_pos (pr t) with hz | hz
  · rw [hz] at c0 ⊢
    clear hz hpr
    go_enter Tryz.func171, Tryz.ntmps171
    go_wp2_with fail
    refine (rkhas_any _ _).mono ?_
    rintro e w' ⟨rfl, rfl⟩
    rw [HB.out]
    go_wp2
    exact bodyPost_ret (v := .tuple #[.int .i64 0, .bool false]) (by simp [results, Tryz.results171, go_sem, *]) rfl ⟨by simp, rfl⟩
  · obtain ⟨q, hq⟩ : ∃ q, pr t = q + 1 := ⟨pr t - 1, by omega⟩
    rw [hq] at c0 ⊢
    have z0 : (((q + 1 : Nat) : Int) == 0) = false := beq_eq_false_iff_ne.mpr (by omega)
    have W1 : wrap64 (((q + 1 : Nat) : Int) - 1) = (q : Int) := by rw [IntWalk.wrap64_in _ ⟨by omega, by omega⟩]; omega
    have W2 : wrap64 ((q : Int) + 1 - 1) = (q : Int) := by rw [IntWalk.wrap64_in _ ⟨by omega, by omega⟩]; omega
    have W3 : wrap64 (q : Int) = (q : Int) := IntWalk.wrap64_in _ ⟨by omega, by omega⟩
    have z1 : ((q : Int) + 1 == 0) = false := beq_eq_false_iff_ne.mpr (by omega)
    clear hz hpr hq
    go_enter Tryz.func171, Tryz.ntmps171
    go_wp2_with fail
    refine (rkhas_any _ _).mono ?_
    rintro e w' ⟨rfl, rfl⟩
    rw [HB.out]
    go_wp2
    exact bodyPost_ret (v := .tuple #[.int .i64 (q : Int), .bool true]) (by simp [results, Tryz.results171, go_sem, *]) rfl ⟨by simp, rfl⟩
set_option maxHeartbeats 1000000 in
theorem rkadd_yes (w : World) (b : Nat) (X : Nat → Nat → Int) (m pr : Nat → Nat) (bs : Nat) (h : RkM w b X m pr bs) (t p : Nat) (ht : t < 16) (hp : p < 32) (h0 : pr t = 0) (hm : m p < 16) (hbs : bs < 4294967296) :
    Calls Tryz.prog 74 #[.pointer (some ⟨b, 0, none⟩), .int .i64 (t : Int), .int .i64 (p : Int)] w fun e w' => e = .returned (.bool true) ∧ RkM w' b (fun q j => if q = p ∧ j = m p then (t : Int) else X q j) (fun q => if q = p then m p + 1 else m q) (fun q => if q = t then p + 1 else pr q) (setB bs (p : Int)) ∧ Keeps (fun k => k = b) w w' := by
  have H := Lib.hid h
  have c0 := h.prio t ht
  rw [h0] at c0
  have lx := h.lt
  have hb : (decide ((0 : Int) ≤ (t : Int)) && decide ((t : Int) < 16)) = true := by
    rw [Bool.and_eq_true, decide_eq_true_eq, decide_eq_true_eq]; omega
  have HB := Lib.hid hb
  have d1 : decide ((p : Int) < 0) = false := decide_eq_false (by omega)
  have d2 : decide ((32 : Int) ≤ (p : Int)) = false := decide_eq_false (by omega)
  have W8 : IntKind.i8.wrap (t : Int) = (t : Int) := by simp [IntKind.wrap, IntKind.signed, IntKind.bits]; omega
  have HP := Lib.hid (And.intro ht (And.intro hp (And.intro hm hbs)))
  clear hb h h0
  go_enter Tryz.func74, Tryz.ntmps74
  go_wp2_with fail
  refine (rkhas_any _ _).mono ?_
  rintro e w' ⟨rfl, rfl⟩
  rw [HB.out]
  have c1 := H.out.many p hp
  have c2 := H.out.row p (m p) hp hm
  have f2 := H.out.free (p * 16 + m p)
  have f1 := H.out.free (512 + p)
  go_wp2_with fail
  go_region
  have H1 := Lib.hid (((H.out.setRow p (m p) hp hm (t : Int)).keeps (Keeps.refl (fun _ => False) _).drew (fun h => h)))
  have K1 := Lib.hid ((((Keeps.refl (fun k => k = b) w).setCell (p := ⟨b, p * 16 + m p, none⟩) (.inl rfl) (.int .i8 (t : Int))).drew))
  clear c0 c1 c2 f1 f2 lx
  generalize hW : World.drew (World.setCell w _ _) = W1 at H1 K1 ⊢
  clear hW H
  have c1 := H1.out.many p hp
  have f1 := H1.out.free (512 + p)
  have lx := H1.out.lt
  have W4 : wrap64 ((m p : Int) + 1) = ((m p + 1 : Nat) : Int) := by rw [IntWalk.wrap64_in _ ⟨by omega, by omega⟩]; omega
  go_wp2_with fail
  go_region
  have H2 := Lib.hid (((H1.out.setMany p hp (m p + 1) ((m p : Int) + 1) (by omega)).keeps (Keeps.refl (fun _ => False) _).drew (fun h => h)))
  have K2 := Lib.hid ((K1.out.setCell (p := ⟨b, 512 + p, none⟩) (.inl rfl) (.int .i64 ((m p : Int) + 1))).drew)
  clear c1 f1 lx W4
  generalize hW : World.drew (World.setCell W1 _ _) = W2 at H2 K2 ⊢
  clear hW H1 K1
  have c1 := H2.out.prio t ht
  have f1 := H2.out.free (544 + t)
  have lx := H2.out.lt
  have W4 : wrap64 ((p : Int) + 1) = (p : Int) + 1 := by rw [IntWalk.wrap64_in _ ⟨by omega, by omega⟩]
  have H3 := Lib.hid (H2.out.setPrio t ht (p + 1) ((p : Int) + 1) (by omega))
  have K3 := Lib.hid (K2.out.setCell (p := ⟨b, 544 + t, none⟩) (.inl rfl) (.int .i64 ((p : Int) + 1)))
  have c3 := H3.out.bits
  have f3 := H3.out.free 560
  have lx3 := H3.out.lt
  go_wp2_with fail
  refine (with_any bs (p : Int) _ hbs).mono ?_
  rintro e w' ⟨rfl, rfl⟩
  have H4 := Lib.hid (H3.out.setBits (setB bs (p : Int)) _ rfl)
  have K4 := Lib.hid (K3.out.setCell (p := ⟨b, 560, none⟩) (.inl rfl) (.int .u32 (setB bs (p : Int) : Int)))
  go_wp2
  go_ret
  exact ⟨rfl, H4.out, K4.out⟩
end Go.Proofs.YthnmlklgbggmbaaGreat
namespace Go.Proofs.YthnmlklgbggmbaaGreat
open Go.ChangeShapes Go.WideShapes Go.ChangeAt Go.RowKit
set_option linter.unusedVariables false
theorem high_any (x : Nat) (w : World) (hx : x < 4294967296) :
    Calls Tryz.prog 94 #[.int .u32 x] w fun e w' => e = .returned (.int .i64 ((Lib.bitLen x : Int) - 1)) ∧ w = w' := by
  have hle : Lib.bitLen x ≤ 32 := Lib.bitLen_le x 32 (by omega) hx
  have H := Lib.hid (Tryz.bits_Len32 (x : Int) w (by omega) (by omega))
  go_enter Tryz.func94, Tryz.ntmps94
  go_wp2_with fail
  refine H.out.mono ?_
  rintro e w' ⟨rfl, rfl⟩
  go_wp2
  go_ret
  exact ⟨rfl, rfl⟩
end Go.Proofs.YthnmlklgbggmbaaGreat
namespace Go.Proofs.YthnmlklgbggmbaaGreat
open Go.ChangeShapes Go.WideShapes Go.ChangeAt Go.RowKit
set_option linter.unusedVariables false
set_option linter.unusedSimpArgs false
theorem rkadd_t_out (w : World) (b : Nat) (t p : Int) (hh : ¬ (0 ≤ t ∧ t < 16)) :
    Calls Tryz.prog 74 #[.pointer (some ⟨b, 0, none⟩), .int .i64 t, .int .i64 p] w fun e w' => e = .returned (.bool false) ∧ w = w' := by
  have hb : (decide (0 ≤ t) && decide (t < 16)) = false := by
    rw [Bool.and_eq_false_iff, decide_eq_false_iff_not, decide_eq_false_iff_not]; omega
  have HB := Lib.hid hb
  clear hb hh
  go_enter Tryz.func74, Tryz.ntmps74
  go_wp2_with fail
  refine (rkhas_any _ _).mono ?_
  rintro e w' ⟨rfl, rfl⟩
  rw [HB.out]
  go_wp2
  go_ret
  exact ⟨rfl, rfl⟩
theorem rkadd_p_low (w : World) (b : Nat) (t p : Int) (hh : (0 ≤ t ∧ t < 16) ∧ p < 0) :
    Calls Tryz.prog 74 #[.pointer (some ⟨b, 0, none⟩), .int .i64 t, .int .i64 p] w fun e w' => e = .returned (.bool false) ∧ w = w' := by
  have hb : (decide (0 ≤ t) && decide (t < 16)) = true := by
    rw [Bool.and_eq_true, decide_eq_true_eq, decide_eq_true_eq]; omega
  have d1 : decide (p < 0) = true := decide_eq_true hh.2
  have HB := Lib.hid hb
  clear hb hh
  go_enter Tryz.func74, Tryz.ntmps74
  go_wp2_with fail
  refine (rkhas_any _ _).mono ?_
  rintro e w' ⟨rfl, rfl⟩
  rw [HB.out]
  go_wp2
  go_ret
  exact ⟨rfl, rfl⟩
theorem rkadd_p_high (w : World) (b : Nat) (t p : Int) (hh : (0 ≤ t ∧ t < 16) ∧ 32 ≤ p) :
    Calls Tryz.prog 74 #[.pointer (some ⟨b, 0, none⟩), .int .i64 t, .int .i64 p] w fun e w' => e = .returned (.bool false) ∧ w = w' := by
  have hb : (decide (0 ≤ t) && decide (t < 16)) = true := by
    rw [Bool.and_eq_true, decide_eq_true_eq, decide_eq_true_eq]; omega
  have d1 : decide (p < 0) = false := decide_eq_false (by omega)
  have d2 : decide (32 ≤ p) = true := decide_eq_true hh.2
  have HB := Lib.hid hb
  clear hb hh
  go_enter Tryz.func74, Tryz.ntmps74
  go_wp2_with fail
  refine (rkhas_any _ _).mono ?_
  rintro e w' ⟨rfl, rfl⟩
  rw [HB.out]
  go_wp2
  go_ret
  exact ⟨rfl, rfl⟩
theorem rkadd_there (w : World) (b : Nat) (X : Nat → Nat → Int) (m pr : Nat → Nat) (bs : Nat) (h : RkM w b X m pr bs) (t : Nat) (p : Int) (ht : t < 16) (hp : 0 ≤ p ∧ p < 32) (h0 : 0 < pr t) :
    Calls Tryz.prog 74 #[.pointer (some ⟨b, 0, none⟩), .int .i64 (t : Int), .int .i64 p] w fun e w' => e = .returned (.bool false) ∧ w = w' := by
  have hb : (decide ((0 : Int) ≤ (t : Int)) && decide ((t : Int) < 16)) = true := by
    rw [Bool.and_eq_true, decide_eq_true_eq, decide_eq_true_eq]; omega
  have d1 : decide (p < 0) = false := decide_eq_false (by omega)
  have d2 : decide (32 ≤ p) = false := decide_eq_false (by omega)
  have d3 : decide ((0 : Int) < (pr t : Int)) = true := decide_eq_true (by omega)
  have d4 : decide (0 < pr t) = true := decide_eq_true h0
  have d5 : (0 < pr t) = True := eq_true h0
  have HB := Lib.hid hb
  have c0 := h.prio t ht
  have lx := h.lt
  clear hb hp h0 h
  go_enter Tryz.func74, Tryz.ntmps74
  go_wp2_with fail
  refine (rkhas_any _ _).mono ?_
  rintro e w' ⟨rfl, rfl⟩
  rw [HB.out]
  go_wp2
  go_ret
  exact ⟨rfl, rfl⟩
theorem rkfirst_any (w : World) (b : Nat) (X : Nat → Nat → Int) (m pr : Nat → Nat) (bs : Nat) (h : RkM w b X m pr bs) (hbs : bs < 4294967296) (hX : bs ≠ 0 → -128 ≤ X (Lib.bitLen bs - 1) 0 ∧ X (Lib.bitLen bs - 1) 0 ≤ 127) :
    Calls Tryz.prog 127 #[.pointer (some ⟨b, 0, none⟩)] w fun e w' => e = .returned (.tuple #[.int .i64 (if bs = 0 then 0 else X (Lib.bitLen bs - 1) 0), .bool (decide (bs ≠ 0))]) ∧ w = w' := by
  have HBi := Lib.hid (rkbits_any w b X m pr bs h)
  have HHi := Lib.hid (high_any bs w hbs)
  have hle : Lib.bitLen bs ≤ 32 := Lib.bitLen_le bs 32 (by omega) hbs
  by_cases hz : bs = 0
  · subst hz
    have z0 : (Lib.bitLen 0 : Int) - 1 = -1 := by rfl
    clear h hX
    go_enter Tryz.func127, Tryz.ntmps127
    go_wp2_with fail
    refine HBi.out.mono ?_
    rintro e w' ⟨rfl, rfl⟩
    go_wp2_with fail
    refine HHi.out.mono ?_
    rintro e w' ⟨rfl, rfl⟩
    rw [z0]
    go_wp2
    exact bodyPost_ret (v := .tuple #[.int .i64 0, .bool false]) (by simp [results, Tryz.results127, go_sem, *]) rfl ⟨by simp, rfl⟩
  · have hpos : 0 < Lib.bitLen bs := by
      rcases Nat.eq_zero_or_pos (Lib.bitLen bs) with h1 | h1
      · exact absurd (by
          by_cases e : bs = 0
          · exact e
          · simp [Lib.bitLen, Lib.bitLenAux, e] at h1) hz
      · exact h1
    obtain ⟨p, hp⟩ : ∃ p, Lib.bitLen bs = p + 1 := ⟨Lib.bitLen bs - 1, by omega⟩
    have hx := hX hz
    rw [hp] at HHi hx ⊢
    have c0 := h.row p 0 (by omega) (by omega)
    rw [Nat.add_zero] at c0
    have z0 : (((p + 1 : Nat) : Int) - 1) = (p : Int) := by omega
    have lx := h.lt
    have d0 : decide ((p : Int) < 0) = false := decide_eq_false (by omega)
    have d1 : p < 32 := by omega
    have W8 : IntKind.i64.wrap (X p 0) = X p 0 := IntWalk.i64_in _ ⟨by have := hx.1; simp at this; omega, by have := hx.2; simp at this; omega⟩
    clear h hX hle hpos hp
    go_enter Tryz.func127, Tryz.ntmps127
    go_wp2_with fail
    refine HBi.out.mono ?_
    rintro e w' ⟨rfl, rfl⟩
    go_wp2_with fail
    refine HHi.out.mono ?_
    rintro e w' ⟨rfl, rfl⟩
    rw [z0]
    go_wp2
    exact bodyPost_ret (v := .tuple #[.int .i64 (X p 0), .bool true]) (by simp [results, Tryz.results127, go_sem, *]) rfl ⟨by simp [hz], rfl⟩
end Go.Proofs.YthnmlklgbggmbaaGreat
namespace Go.Proofs.YthnmlklgbggmbaaGreat
set_option linter.unusedVariables false
set_option linter.unusedSimpArgs false
/-- No more different numbers below n than n. -/
theorem nodup_le : ∀ (n : Nat) (l : List Nat), l.Nodup → (∀ x, x ∈ l → x < n) → l.length ≤ n
  | 0, [], _, _ => Nat.le_refl _
  | 0, x :: l, _, h => absurd (h x (by simp)) (by omega)
  | n + 1, l, hn, h => by
    have h1 := nodup_le n (l.filter (fun x => x != n)) (hn.filter _) (fun x hx => by
      have := List.mem_filter.1 hx
      have h2 := h x this.1
      have h3 : x ≠ n := by simpa using this.2
      omega)
    have h2 : l.length ≤ (l.filter (fun x => x != n)).length + 1 := by
      clear h h1
      induction l with
      | nil => simp
      | cons a l ih =>
        have hn' := List.nodup_cons.1 hn
        by_cases e : a = n
        · subst e
          have : l.filter (fun x => x != a) = l := List.filter_eq_self.2 (fun x hx => by
            have : x ≠ a := fun e => hn'.1 (e ▸ hx)
            simpa using this)
          simp [this]
        · have h3 : (a :: l).filter (fun x => x != n) = a :: l.filter (fun x => x != n) := by simp [e]
          rw [h3]
          have := ih hn'.2
          simp only [List.length_cons]
          omega
    omega
theorem filter_eraseIdx : ∀ (l : List Nat) (k t : Nat), l.Nodup → l[k]? = some t → l.filter (fun x => x != t) = l.eraseIdx k
  | [], k, t, _, h => by simp at h
  | a :: l, 0, t, hn, h => by
    have e : a = t := by simpa using h
    subst e
    have hn' := List.nodup_cons.1 hn
    have : l.filter (fun x => x != a) = l := List.filter_eq_self.2 (fun x hx => by
      have : x ≠ a := fun e => hn'.1 (e ▸ hx)
      simpa using this)
    simp [this]
  | a :: l, k + 1, t, hn, h => by
    have hn' := List.nodup_cons.1 hn
    have h1 : l[k]? = some t := by simpa using h
    have e : a ≠ t := fun e => hn'.1 (e ▸ List.mem_of_getElem? h1)
    have h3 : (a :: l).filter (fun x => x != t) = a :: l.filter (fun x => x != t) := by simp [e]
    rw [h3, filter_eraseIdx l k t hn'.2 h1]
    rfl
theorem filter_notMem (l : List Nat) (t : Nat) (h : t ∉ l) : l.filter (fun x => x != t) = l :=
  List.filter_eq_self.2 (fun x hx => by
    have : x ≠ t := fun e => h (e ▸ hx)
    simpa using this)
/-- What the cells of a rank say of its rows: the tasks of each priority, in order. -/
structure RkOk (X : Nat → Nat → Int) (m pr : Nat → Nat) (bs : Nat) (L : Nat → List Nat) : Prop where
  len : ∀ p, p < 32 → m p = (L p).length
  row : ∀ p i t : Nat, p < 32 → (L p)[i]? = some t → X p i = (t : Int)
  nd : ∀ p, p < 32 → (L p).Nodup
  mem : ∀ p t, p < 32 → (t ∈ L p ↔ t < 16 ∧ pr t = p + 1)
  small : ∀ t, t < 16 → pr t ≤ 32
  lt : bs < 4294967296
  bit : ∀ p, p < 32 → bs.testBit p = !(L p).isEmpty
section
variable {X : Nat → Nat → Int} {m pr : Nat → Nat} {bs : Nat} {L : Nat → List Nat}
theorem RkOk.le (h : RkOk X m pr bs L) (p : Nat) (hp : p < 32) : (L p).length ≤ 16 :=
  nodup_le 16 _ (h.nd p hp) fun x hx => ((h.mem p x hp).1 hx).1
theorem RkOk.less (h : RkOk X m pr bs L) (p t : Nat) (hp : p < 32) (ht : t < 16) (h0 : pr t = 0) : (L p).length < 16 := by
  have hm : t ∉ L p := fun hm => by have := ((h.mem p t hp).1 hm).2; omega
  have := nodup_le 16 (t :: L p) (List.nodup_cons.2 ⟨hm, h.nd p hp⟩) fun x hx => by
    rcases List.mem_cons.1 hx with rfl | hx
    · exact ht
    · exact ((h.mem p x hp).1 hx).1
  simp at this; omega
theorem RkOk.add (h : RkOk X m pr bs L) (p t : Nat) (hp : p < 32) (ht : t < 16) (h0 : pr t = 0) :
    RkOk (fun q j => if q = p ∧ j = m p then (t : Int) else X q j) (fun q => if q = p then m p + 1 else m q) (fun q => if q = t then p + 1 else pr q) (setB bs (p : Int)) (fun q => if q = p then L p ++ [t] else L q) := by
  have hm : ∀ q, q < 32 → t ∉ L q := fun q hq hm => by have := ((h.mem q t hq).1 hm).2; omega
  have hl := h.len p hp
  refine ⟨fun q hq => ?_, fun q i u hq hi => ?_, fun q hq => ?_, fun q u hq => ?_, fun u hu => ?_, setB_lt h.lt _, fun q hq => ?_⟩
  · by_cases e : q = p
    · subst e
      simp [hl]
    · simp only [if_neg e]; exact h.len q hq
  · by_cases e : q = p
    · subst e
      simp only [if_pos] at hi
      by_cases e2 : i = m q
      · simp only [e2, and_self, if_pos]
        rw [e2, hl, List.getElem?_append_right (Nat.le_refl _)] at hi
        simp at hi
        rw [hi]
      · simp only [e2, and_false, if_false]
        rcases Nat.lt_or_ge i (L q).length with h1 | h1
        · rw [List.getElem?_append_left h1] at hi
          exact h.row q i u hq hi
        · rw [List.getElem?_eq_none (by simp; omega)] at hi; cases hi
    · simp only [if_neg e] at hi
      simp only [e, false_and, if_false]
      exact h.row q i u hq hi
  · by_cases e : q = p
    · subst e
      simp only [if_pos]
      exact List.nodup_append.2 ⟨h.nd q hq, by simp, fun a ha b hb => by
        have : b = t := by simpa using hb
        rintro rfl
        exact hm q hq (this ▸ ha)⟩
    · simp only [if_neg e]; exact h.nd q hq
  · by_cases e : q = p
    · subst e
      simp only [if_pos, List.mem_append, List.mem_singleton]
      by_cases e2 : u = t
      · subst e2; simp [ht]
      · simp only [e2, or_false, if_neg e2]; exact h.mem q u hq
    · simp only [if_neg e]
      by_cases e2 : u = t
      · subst e2
        simp only [if_pos]
        exact ⟨fun hh => absurd hh (hm q hq), fun hh => by omega⟩
      · simp only [if_neg e2]; exact h.mem q u hq
  · by_cases e2 : u = t
    · simp only [if_pos e2]; omega
    · simp only [if_neg e2]; exact h.small u hu
  · rw [setB_testBit]
    by_cases e : q = p
    · subst e
      simp [hq]
    · have : ¬ ((q : Int) = (p : Int) ∧ q < 32) := by omega
      simp only [if_neg e, decide_eq_false this, Bool.or_false]
      exact h.bit q hq
/-- A task taken out: what the row's cells then hold. -/
theorem RkOk.remove (h : RkOk X m pr bs L) (p t k : Nat) (hp : p < 32) (hk : (L p)[k]? = some t) :
    RkOk (fun q j => if q = p ∧ k ≤ j ∧ j + 1 < m p then X p (j + 1) else X q j) (fun q => if q = p then m p - 1 else m q) (fun q => if q = t then 0 else pr q) (if m p - 1 = 0 then clrB bs (p : Int) else bs) (fun q => (L q).filter (fun x => x != t)) := by
  have hm := (h.mem p t hp).1 (List.mem_of_getElem? hk)
  have ho : ∀ q, q < 32 → q ≠ p → t ∉ L q := fun q hq hne hm2 => by have := ((h.mem q t hq).1 hm2).2; omega
  have he := filter_eraseIdx (L p) k t (h.nd p hp) hk
  have hkl : k < (L p).length := by
    rcases Nat.lt_or_ge k (L p).length with h1 | h1
    · exact h1
    · rw [List.getElem?_eq_none h1] at hk; cases hk
  have hlen : ((L p).filter (fun x => x != t)).length = (L p).length - 1 := by rw [he, List.length_eraseIdx, if_pos hkl]
  have hl := h.len p hp
  refine ⟨fun q hq => ?_, fun q i u hq hi => ?_, fun q hq => (h.nd q hq).filter _, fun q u hq => ?_, fun u hu => ?_, ?_, fun q hq => ?_⟩
  · by_cases e : q = p
    · subst e
      simp only [if_pos]
      rw [hlen, hl]
    · simp only [if_neg e, filter_notMem _ _ (ho q hq e)]; exact h.len q hq
  · by_cases e : q = p
    · subst e
      simp only [true_and]
      simp only [he, List.getElem?_eraseIdx] at hi
      by_cases h1 : i < k
      · rw [if_pos h1] at hi
        rw [if_neg (by omega)]
        exact h.row q i u hq hi
      · rw [if_neg h1] at hi
        have h2 : i + 1 < (L q).length := by
          rcases Nat.lt_or_ge (i + 1) (L q).length with h1 | h1
          · exact h1
          · rw [List.getElem?_eq_none h1] at hi; cases hi
        rw [if_pos ⟨by omega, by omega⟩]
        exact h.row q (i + 1) u hq hi
    · simp only [filter_notMem _ _ (ho q hq e)] at hi
      simp only [e, false_and, if_false]
      exact h.row q i u hq hi
  · simp only [List.mem_filter, h.mem q u hq]
    by_cases e2 : u = t
    · subst e2; simp
    · simp [e2]
  · by_cases e2 : u = t
    · simp only [if_pos e2]; omega
    · simp only [if_neg e2]; exact h.small u hu
  · split
    · exact clrB_lt h.lt _
    · exact h.lt
  · by_cases e : q = p
    · subst e
      by_cases h1 : m q - 1 = 0
      · have h2 : (L q).filter (fun x => x != t) = [] := List.eq_nil_of_length_eq_zero (by omega)
        rw [if_pos h1, h2, clrB_testBit h.lt]
        simp
      · rw [if_neg h1, h.bit q hq]
        have h2 : ((L q).filter (fun x => x != t)).isEmpty = false := by
          rw [List.isEmpty_eq_false_iff]
          intro h3
          rw [h3] at hlen
          simp at hlen
          omega
        have h3 : (L q).isEmpty = false := by
          rw [List.isEmpty_eq_false_iff]
          intro h3
          rw [h3] at hkl
          simp at hkl
        rw [h2, h3]
    · simp only [filter_notMem _ _ (ho q hq e)]
      rw [← h.bit q hq]
      split
      · rw [clrB_testBit h.lt]
        have : ¬ ((q : Int) = (p : Int)) := by omega
        simp [this]
      · rfl
/-- The rows of the priorities from 31 down to p, one behind the other. -/
def flat (L : Nat → List Nat) (p : Nat) : List Nat := ((List.range (32 - p)).map fun i => L (31 - i)).flatten
theorem flat_top (L : Nat → List Nat) : flat L 32 = [] := by simp [flat]
theorem flat_down (L : Nat → List Nat) (p : Nat) (hp : p < 32) : flat L p = flat L (p + 1) ++ L p := by
  unfold flat
  rw [show 32 - p = (32 - (p + 1)) + 1 by omega, List.range_succ, List.map_append, List.flatten_append]
  rw [show List.map (fun i => L (31 - i)) [32 - (p + 1)] = [L p] by simp only [List.map_cons, List.map_nil]; rw [show 31 - (32 - (p + 1)) = p by omega]]
  simp
theorem flat_same (L : Nat → List Nat) (p : Nat) : ∀ n, p + n ≤ 32 → (∀ q, p ≤ q → q < p + n → L q = []) → flat L p = flat L (p + n)
  | 0, _, _ => rfl
  | n + 1, h, he => by
    rw [flat_down L p (by omega), he p (Nat.le_refl _) (by omega), List.append_nil]
    have := flat_same L (p + 1) n (by omega) fun q h1 h2 => he q (by omega) (by omega)
    rw [this]
    congr 1
    omega
theorem mem_flat (L : Nat → List Nat) (p t : Nat) : t ∈ flat L p ↔ ∃ q, p ≤ q ∧ q < 32 ∧ t ∈ L q := by
  unfold flat
  simp only [List.mem_flatten, List.mem_map, List.mem_range]
  constructor
  · rintro ⟨l, ⟨i, hi, rfl⟩, ht⟩
    exact ⟨31 - i, by omega, by omega, ht⟩
  · rintro ⟨q, h1, h2, ht⟩
    exact ⟨L q, ⟨31 - q, by omega, by rw [show 31 - (31 - q) = q by omega]⟩, ht⟩
theorem flat_len (L : Nat → List Nat) (h : ∀ p, p < 32 → (L p).length ≤ 16) : ∀ n p, p + n = 32 → (flat L p).length ≤ n * 16
  | 0, p, hp => by
    obtain rfl : p = 32 := by omega
    simp [flat_top]
  | n + 1, p, hp => by
    rw [flat_down L p (by omega), List.length_append]
    have := flat_len L h n (p + 1) (by omega)
    have := h p (by omega)
    omega
end
theorem flat_pre (L : Nat → List Nat) : ∀ n q, q + n ≤ 32 → ∃ s, flat L q = flat L (q + n) ++ s
  | 0, q, _ => ⟨[], by simp⟩
  | n + 1, q, h => by
    obtain ⟨s, hs⟩ := flat_pre L n (q + 1) (by omega)
    refine ⟨s ++ L q, ?_⟩
    rw [flat_down L q (by omega), hs, List.append_assoc]
    congr 2
    omega
theorem RkOk.empty {X : Nat → Nat → Int} {m pr : Nat → Nat} {L : Nat → List Nat} (h : RkOk X m pr 0 L) : flat L 0 = [] := by
  have := flat_same L 0 32 (by omega) fun q _ hq => by
    have := h.bit q (by omega)
    simpa using this
  rw [this, flat_top]
/-- The rows that are looked at next: the highest one that has tasks, and none between. -/
theorem RkOk.next {X : Nat → Nat → Int} {m pr : Nat → Nat} {bs : Nat} {L : Nat → List Nat} (h : RkOk X m pr bs L) (rest q : Nat) (hq : q ≤ 32) (hr : rest < 4294967296) (h0 : rest ≠ 0) (hs : ∀ j, rest.testBit j = (bs.testBit j && decide (j < q))) :
    ∃ p, Lib.bitLen rest = p + 1 ∧ p < q ∧ L p ≠ [] ∧ flat L q = flat L (p + 1) ∧ (∀ j, (clrB rest (p : Int)).testBit j = (bs.testBit j && decide (j < p))) ∧ clrB rest (p : Int) < rest := by
  obtain ⟨h1, h2, h3, h4⟩ := high_spec hr h0
  obtain ⟨p, hp⟩ : ∃ p, Lib.bitLen rest = p + 1 := ⟨Lib.bitLen rest - 1, by omega⟩
  rw [hp] at h3 h4 h2
  have h5 : rest.testBit p = true := h3
  have h6 := hs p
  rw [h5] at h6
  have h7 : bs.testBit p = true ∧ p < q := by simpa using h6.symm
  refine ⟨p, hp, h7.2, ?_, ?_, fun j => ?_, ?_⟩
  · have := h.bit p (by omega)
    rw [h7.1] at this
    intro e
    rw [e] at this
    simp at this
  · have := flat_same L (p + 1) (q - (p + 1)) (by omega) fun j h8 h9 => by
      have h10 := h4 j (by omega)
      rw [hs j, decide_eq_true (by omega : j < q), Bool.and_true] at h10
      have := h.bit j (by omega)
      rw [h10] at this
      simpa using this.symm
    rw [this]
    congr 1
    omega
  · rw [clrB_testBit hr, hs j]
    by_cases h8 : j < p
    · have : ¬ ((j : Int) = (p : Int)) := by omega
      simp [h8, this]
      omega
    · by_cases h9 : j = p
      · subst h9; simp
      · have := h4 j (by omega)
        rw [hs j] at this
        rw [this]
        simp [h8]
  · have h8 : clrB rest (p : Int) ≤ rest := Nat.and_le_left
    have h9 : clrB rest (p : Int) ≠ rest := fun e => by
      have h10 := clrB_testBit hr (p : Int) p
      rw [e, h5] at h10
      simp at h10
    omega
/-- Who is first: by the word, and by the list. -/
theorem RkOk.first {X : Nat → Nat → Int} {m pr : Nat → Nat} {bs : Nat} {L : Nat → List Nat} (h : RkOk X m pr bs L) (h0 : bs ≠ 0) :
    ∃ p t, Lib.bitLen bs = p + 1 ∧ p < 32 ∧ X p 0 = ((t : Nat) : Int) ∧ t < 16 ∧ (flat L 0).head? = some t := by
  obtain ⟨p, hp, hlt, hne, hf, _, _⟩ := h.next bs 32 (Nat.le_refl _) h.lt h0 fun j => by
    by_cases hj : j < 32
    · simp [hj]
    · rw [testBit_ge h.lt (by omega)]; simp
  obtain ⟨s, hs⟩ := flat_pre L p 0 (by omega)
  rw [flat_top] at hf
  rw [Nat.zero_add, flat_down L p hlt, ← hf, List.nil_append] at hs
  cases hL : L p with
  | nil => exact absurd hL hne
  | cons t l =>
    refine ⟨p, t, hp, hlt, h.row p 0 t hlt (by rw [hL]; rfl), ((h.mem p t hlt).1 (by rw [hL]; simp)).1, ?_⟩
    rw [hs, hL]
    rfl
end Go.Proofs.YthnmlklgbggmbaaGreat
namespace Go.Proofs.YthnmlklgbggmbaaGreat
open Go.ChangeShapes Go.WideShapes Go.ChangeAt Go.RowKit
set_option linter.unusedVariables false
set_option linter.unusedSimpArgs false
/-- Numbers as cells. -/
def ints (l : List Nat) : List Value := l.map fun n : Nat => Value.int .i64 (n : Int)
theorem ints_len (l : List Nat) : (ints l).length = l.length := by simp [ints]
theorem ints_nums (l : List Nat) : ints l = nums (fun i => ((l.getD i 0 : Nat) : Int)) l.length := by
  apply List.ext_getElem?
  intro i
  rcases Nat.lt_or_ge i l.length with h | h
  · rw [nums_get _ _ _ h]
    simp [ints, h]
  · rw [List.getElem?_eq_none (by rw [ints_len]; exact h), List.getElem?_eq_none (by rw [nums_len]; exact h)]
theorem Tryz.infoR : (Tryz.prog.info? 3).map (fun i => (i.zero, i.size, i.bytes)) = some (some (.int .i64 0), 1, 8) := by kernel_rfl
theorem rk_slice (b p n : Nat) (hn : n ≤ 16) (w : World) :
    (Instr.sliceAt 150 (.pointer (some ⟨b, p * 16, none⟩)) none (some (.int .i64 (n : Int))) none).run Tryz.prog w = .ok (.slice (some ⟨b, p * 16, none⟩) n 16) w := by
  have ha : Tryz.prog.arrayLen 150 = 16 := by kernel_rfl
  have hs : (sizeOf (Tryz.prog.elem 150)).run Tryz.prog w = .ok 1 w := by kernel_rfl
  rw [run_sliceAt_array_h w 150 ⟨b, p * 16, none⟩ (by kernel_rfl) .i64 n (by omega) (by rw [ha]; omega), hs]
  simp [Result.andThen, slicedAt, Addr.add, ha]
set_option maxRecDepth 20000 in
set_option maxHeartbeats 1000000 in
theorem rklist_any (w : World) (b : Nat) (X : Nat → Nat → Int) (m pr : Nat → Nat) (bs : Nat) (L : Nat → List Nat) (h : RkM w b X m pr bs) (ho : RkOk X m pr bs L) :
    Calls Tryz.prog 53 #[.pointer (some ⟨b, 0, none⟩)] w fun e w' => ∃ v, e = .returned v ∧ w'.ownsRow w.heap.size 3 1 v (flat L 0).length (ints (flat L 0)) ∧ Keeps (fun _ => False) w w' := by
  have H := Lib.hid h
  have HO := Lib.hid ho
  have HBi := Lib.hid (rkbits_any w b X m pr bs h)
  clear h ho
  go_enter Tryz.func53, Tryz.ntmps53
  go_wp2_with fail
  refine wp_scope_again 0 (fun a' w' => ∃ (q rest : Nat) (v u5 u6 u7 u8 u9 u10 u11 u12 u13 u14 u15 u16 u17 u18 u19 u20 u21 u22 u23 u24 u25 u26 u27 u28 u29 u30 u31 u32 u33 u34 u35 u36 u37 u38 u39 u40 : Value), a' = { tmps := #[.pointer (some ⟨b, 0, none⟩), undef, .slice none 0 0, v, .int .u32 (rest : Int), u5, u6, u7, u8, u9, u10, u11, u12, u13, u14, u15, u16, u17, u18, u19, u20, u21, u22, u23, u24, u25, u26, u27, u28, u29, u30, u31, u32, u33, u34, u35, u36, u37, u38, u39, u40], defers := [] } ∧ q ≤ 32 ∧ rest < 4294967296 ∧ (∀ j, rest.testBit j = (bs.testBit j && decide (j < q))) ∧ w'.ownsRow w.heap.size 3 1 v (flat L q).length (ints (flat L q)) ∧ Keeps (fun _ => False) w w')
    (fun a _ => (intOf (a.tmps.getD 4 undef)).toNat) rfl ?_ ?_
  · rintro a' w' ⟨q, rest, v, u5, u6, u7, u8, u9, u10, u11, u12, u13, u14, u15, u16, u17, u18, u19, u20, u21, u22, u23, u24, u25, u26, u27, u28, u29, u30, u31, u32, u33, u34, u35, u36, u37, u38, u39, u40, rfl, hq, hr, hs, hown, hK⟩
    by_cases h0 : rest = 0
    · subst h0
      have e : flat L q = flat L 0 := by
        have := flat_same L 0 q (by omega) fun j _ hj => by
          have h1 := hs j
          rw [decide_eq_true (by omega : j < q), Bool.and_true] at h1
          have := HO.out.bit j (by omega)
          rw [← h1] at this
          simpa using this
        rw [Nat.zero_add] at this
        exact this.symm
      rw [e] at hown
      have HF := Lib.hid (And.intro hown hK)
      clear hs e hown hK
      go_wp2
      try simp only [Exit.jump]
      go_ret
      exact ⟨v, rfl, HF.out⟩
    · have hz : ((rest : Int) == 0) = false := by simp; omega
      obtain ⟨p, hp, hpq, hne, hfl, hbits, hlt⟩ := HO.out.next rest q hq hr h0 hs
      have hp32 : p < 32 := by omega
      have hM := H.out.keeps hK (fun h => h)
      have lb := hM.lt
      have c1 := hM.many p hp32
      have hml : m p ≤ 16 := by rw [HO.out.len p hp32]; exact HO.out.le p hp32
      have HHi := Lib.hid (high_any rest w' hr)
      rw [hp] at HHi
      have z1 : (((p + 1 : Nat) : Int) - 1) = (p : Int) := by omega
      have z2 : ((p : Int) + 1 - 1) = (p : Int) := by omega
      have hsl := fun w => rk_slice b p (m p) hml w
      rw [hfl] at hown
      have HM := Lib.hid hM
      have HW := Lib.hid (And.intro hown hK)
      have HP := Lib.hid (And.intro (And.intro hpq hbits) hlt)
      clear hM hown hK hs hbits hlt hfl hne hp
      go_wp2_with fail
      refine HHi.out.mono ?_
      rintro e w1 ⟨rfl, rfl⟩
      try rw [z1]
      go_wp2_with fail
      go_quiet (fail)
      go_wp2_with fail
      go_loopw [3, 28] (fun v3 i wr => ∃ k : Nat, k ≤ m p ∧ i = .int .i64 (k : Int) ∧ wr.ownsRow w.heap.size 3 1 v3 (flat L (p + 1) ++ (L p).take k).length (ints (flat L (p + 1) ++ (L p).take k)) ∧ Keeps (fun _ => False) w wr) (fun _ i _ => m p - (intOf i).toNat)
      case atStart => exact ⟨0, by omega, rfl, by rw [List.take_zero, List.append_nil]; exact HW.out.1, HW.out.2.drewN _⟩
      case round =>
        obtain ⟨k, hk, rfl, hown, hK⟩ := hrel
        by_cases hlt : k < m p
        · have hkl : k < (L p).length := by rw [← HO.out.len p hp32]; exact hlt
          obtain ⟨t, ht⟩ : ∃ t, (L p)[k]? = some t := ⟨_, List.getElem?_eq_getElem hkl⟩
          have hx := HO.out.row p k t hp32 ht
          have ht16 := ((HO.out.mem p t hp32).1 (List.mem_of_getElem? ht)).1
          have hMr := H.out.keeps hK (fun h => h)
          have c2 := hMr.row p k hp32 (by omega)
          rw [hx] at c2
          have lbr := hMr.lt
          have W8 : IntKind.i64.wrap (t : Int) = (t : Int) := IntWalk.i64_in _ ⟨by omega, by omega⟩
          have hlen : (flat L (p + 1) ++ (L p).take k).length ≤ 1000 := by
            have h1 := flat_len L HO.out.le (32 - (p + 1)) (p + 1) (by omega)
            rw [List.length_append, List.length_take]
            omega
          have HR := Lib.hid (And.intro hown hK)
          have hsz := hK.size
          obtain ⟨i0, hi0, hz0, hz1, hz2⟩ := info_parts Tryz.infoR
          have HT := Lib.hid ht
          clear hown hK hMr hx ht
          go_wp2_with (at_builtin; refine wpList_append_own _ rfl (.tmp 32) (.tmp 35) 53 rfl w.heap.size 3 i0 (.int .i64 0) 1 8 Tryz.underlying53 hi0 hz0 hz1 hz2 rfl (by decide) _ _ _ rfl (HR.out.1.alloc _) ⟨wr.heap.size, 0, none⟩ 1 1 [.int .i64 (t : Int)] rfl rfl (new_one _ _ _) (by simp [Value.oneCell']) (by unfold maxLen; omega) (by omega) (by simp; omega) ?_; intro v2 w2 hown2 hgrow _; have hb2 := (HR.out.2.none.alloc hsz (.cells #[Value.int .i64 (t : Int)] 3)).grown hgrow (by simp; omega) (fun k hk => (HR.out.1.lt k hk).1); have H2 := Lib.hid (And.intro hown2 (Keeps.ofBelow hb2)); clear hown2 hgrow hb2)
          go_roundw
          case rel =>
            refine ⟨k + 1, by omega, by go_num, ?_, H2.out.2⟩
            have e : flat L (p + 1) ++ (L p).take (k + 1) = (flat L (p + 1) ++ (L p).take k) ++ [t] := by
              rw [List.append_assoc, List.take_add_one, HT.out]; rfl
            rw [e]
            have := H2.out.1
            simpa [ints, Nat.add_assoc] using this
          case measure => simp [intOf]; omega
        · obtain rfl : k = m p := by omega
          have e : flat L (p + 1) ++ (L p).take (m p) = flat L p := by
            rw [flat_down L p hp32, HO.out.len p hp32, List.take_length]
          rw [e] at hown
          have HR := Lib.hid (And.intro hown hK)
          clear hown hK e
          go_wp2_with fail
          refine (without_any rest (p : Int) _ hr).mono ?_
          rintro e w3 ⟨rfl, rfl⟩
          go_wp2_with fail
          go_step3
          refine ⟨rfl, ⟨p, clrB rest (p : Int), _, _, _, _, _, _, _, _, _, _, _, _, _, _, _, _, _, _, _, _, _, _, _, _, _, _, _, _, _, _, _, _, _, _, _, _, _, rfl, by omega, clrB_lt hr _, HP.out.1.2, HR.out.1, HR.out.2⟩, ?_⟩
          have := HP.out.2
          simp [intOf]
          omega
  · intro hpass
    go_wp2_with fail
    refine HBi.out.mono ?_
    rintro e w2 ⟨rfl, rfl⟩
    go_wp2_with fail
    go_step3
    rename_i K hK
    exact hK _ _ <| hpass _ _ ⟨32, bs, _, _, _, _, _, _, _, _, _, _, _, _, _, _, _, _, _, _, _, _, _, _, _, _, _, _, _, _, _, _, _, _, _, _, _, _, _, rfl, Nat.le_refl _, HO.out.lt, fun j => by
      by_cases hj : j < 32
      · simp [hj]
      · rw [testBit_ge HO.out.lt (by omega)]; simp, by rw [flat_top]; exact World.ownsRow_nil _ _ _ _, Keeps.refl _ _⟩
end Go.Proofs.YthnmlklgbggmbaaGreat
