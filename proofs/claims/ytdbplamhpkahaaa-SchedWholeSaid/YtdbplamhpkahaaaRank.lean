import Derived.Test.YtdbplamhpkahaaaRows
import Derived.Test.YtdbplamhpkahaaaKeep
import Derived.Test.YtdbplamhpkahaaaWordW
import Derived.Test.YtdbplamhpkahaaaHas
import Derived.BigRegion
namespace Go.Proofs.Ytdbplamhpkahaaa
open Go.ChangeShapes Go.WideShapes Go.ChangeAt Go.RowKit
set_option linter.unusedVariables false
set_option linter.unusedSimpArgs false
/-- A rank in memory: its rows' cells, how many each row has, each task's priority plus one, the bits. -/
structure RkM (w : World) (b : Nat) (X : Nat → Nat → Int) (m pr : Nat → Nat) (bs : Nat) : Prop where
  one : ∃ cs : Array Value, w.heap[b]? = some (.cells cs 32 (0, 0)) ∧ cs.size = 561 ∧ (∀ p i, p < 32 → i < 16 → cs[p * 16 + i]? = some (.int .i8 (X p i))) ∧ (∀ p, p < 32 → cs[512 + p]? = some (.int .i64 (m p : Int))) ∧ (∀ t, t < 16 → cs[544 + t]? = some (.int .i64 (pr t : Int))) ∧ cs[560]? = some (.int .u32 (bs : Int))
section
variable {w wr : World} {b : Nat} {X : Nat → Nat → Int} {m pr : Nat → Nat} {bs : Nat}
theorem RkM.keeps {S : Nat → Prop} (h : RkM w b X m pr bs) (k : Keeps S w wr) (hs : ¬ S b) : RkM wr b X m pr bs := by
  obtain ⟨cs, h1, h2⟩ := h.one
  exact ⟨cs, k.at h1 hs, h2⟩
theorem RkM.lt (h : RkM w b X m pr bs) : b < w.heap.size := by obtain ⟨cs, h1, _⟩ := h.one; exact lt_of h1
theorem RkM.row (h : RkM w b X m pr bs) (p i : Nat) (hp : p < 32) (hi : i < 16) : w.cell? ⟨b, p * 16 + i, none⟩ = some (.int .i8 (X p i)) := by
  obtain ⟨cs, h1, _, h3, _⟩ := h.one
  exact (cell_of h1 _).trans (h3 p i hp hi)
theorem RkM.many (h : RkM w b X m pr bs) (p : Nat) (hp : p < 32) : w.cell? ⟨b, 512 + p, none⟩ = some (.int .i64 (m p : Int)) := by
  obtain ⟨cs, h1, _, _, h4, _⟩ := h.one
  exact (cell_of h1 _).trans (h4 p hp)
theorem RkM.prio (h : RkM w b X m pr bs) (t : Nat) (ht : t < 16) : w.cell? ⟨b, 544 + t, none⟩ = some (.int .i64 (pr t : Int)) := by
  obtain ⟨cs, h1, _, _, _, h5, _⟩ := h.one
  exact (cell_of h1 _).trans (h5 t ht)
theorem RkM.bits (h : RkM w b X m pr bs) : w.cell? ⟨b, 560, none⟩ = some (.int .u32 (bs : Int)) := by
  obtain ⟨cs, h1, _, _, _, _, h6⟩ := h.one
  exact (cell_of h1 _).trans h6
theorem RkM.free (h : RkM w b X m pr bs) (i : Nat) : w.frozen? ⟨b, i, none⟩ = false := by
  obtain ⟨cs, h1, _⟩ := h.one
  exact free_of h1 i
theorem RkM.setRow (h : RkM w b X m pr bs) (p i : Nat) (hp : p < 32) (hi : i < 16) (u : Int) : RkM (w.setCell ⟨b, p * 16 + i, none⟩ (.int .i8 u)) b (fun q j => if q = p ∧ j = i then u else X q j) m pr bs := by
  obtain ⟨cs, h1, h2, h3, h4, h5, h6⟩ := h.one
  refine ⟨_, heap_set h1 (p * 16 + i) _, by simp [h2], fun q j hq hj => ?_, fun q hq => ?_, fun t ht => ?_, ?_⟩
  · rw [Array.getElem?_setIfInBounds]
    by_cases e : q = p ∧ j = i
    · obtain ⟨rfl, rfl⟩ := e
      rw [if_pos rfl, if_pos (by omega)]; simp
    · rw [if_neg (by omega), if_neg e]; exact h3 q j hq hj
  · rw [Array.getElem?_setIfInBounds, if_neg (by omega)]; exact h4 q hq
  · rw [Array.getElem?_setIfInBounds, if_neg (by omega)]; exact h5 t ht
  · rw [Array.getElem?_setIfInBounds, if_neg (by omega)]; exact h6
theorem RkM.setMany (h : RkM w b X m pr bs) (p : Nat) (hp : p < 32) (u : Nat) (z : Int) (hz : z = (u : Int)) : RkM (w.setCell ⟨b, 512 + p, none⟩ (.int .i64 z)) b X (fun q => if q = p then u else m q) pr bs := by
  subst hz
  obtain ⟨cs, h1, h2, h3, h4, h5, h6⟩ := h.one
  refine ⟨_, heap_set h1 (512 + p) _, by simp [h2], fun q j hq hj => ?_, fun q hq => ?_, fun t ht => ?_, ?_⟩
  · rw [Array.getElem?_setIfInBounds, if_neg (by omega)]; exact h3 q j hq hj
  · rw [Array.getElem?_setIfInBounds]
    by_cases e : q = p
    · subst e
      rw [if_pos rfl, if_pos (by omega)]; simp
    · rw [if_neg (by omega), if_neg e]; exact h4 q hq
  · rw [Array.getElem?_setIfInBounds, if_neg (by omega)]; exact h5 t ht
  · rw [Array.getElem?_setIfInBounds, if_neg (by omega)]; exact h6
theorem RkM.setPrio (h : RkM w b X m pr bs) (t : Nat) (ht : t < 16) (u : Nat) (z : Int) (hz : z = (u : Int)) : RkM (w.setCell ⟨b, 544 + t, none⟩ (.int .i64 z)) b X m (fun q => if q = t then u else pr q) bs := by
  subst hz
  obtain ⟨cs, h1, h2, h3, h4, h5, h6⟩ := h.one
  refine ⟨_, heap_set h1 (544 + t) _, by simp [h2], fun q j hq hj => ?_, fun q hq => ?_, fun q hq => ?_, ?_⟩
  · rw [Array.getElem?_setIfInBounds, if_neg (by omega)]; exact h3 q j hq hj
  · rw [Array.getElem?_setIfInBounds, if_neg (by omega)]; exact h4 q hq
  · rw [Array.getElem?_setIfInBounds]
    by_cases e : q = t
    · subst e
      rw [if_pos rfl, if_pos (by omega)]; simp
    · rw [if_neg (by omega), if_neg e]; exact h5 q hq
  · rw [Array.getElem?_setIfInBounds, if_neg (by omega)]; exact h6
theorem RkM.setBits (h : RkM w b X m pr bs) (u : Nat) (z : Int) (hz : z = (u : Int)) : RkM (w.setCell ⟨b, 560, none⟩ (.int .u32 z)) b X m pr u := by
  subst hz
  obtain ⟨cs, h1, h2, h3, h4, h5, h6⟩ := h.one
  refine ⟨_, heap_set h1 560 _, by simp [h2], fun q j hq hj => ?_, fun q hq => ?_, fun q hq => ?_, ?_⟩
  · rw [Array.getElem?_setIfInBounds, if_neg (by omega)]; exact h3 q j hq hj
  · rw [Array.getElem?_setIfInBounds, if_neg (by omega)]; exact h4 q hq
  · rw [Array.getElem?_setIfInBounds, if_neg (by omega)]; exact h5 q hq
  · rw [Array.getElem?_setIfInBounds, if_pos rfl, if_pos (by omega)]
end
theorem rkhas_any (t : Int) (w : World) :
    Calls Try.prog 67 #[.int .i64 t] w fun e w' => e = .returned (.bool (decide (0 ≤ t) && decide (t < 16))) ∧ w = w' := by
  rcases h : decide (0 ≤ t)
  all_goals
    go_enter Try.func67, Try.ntmps67
    go_wp2
    go_ret
    exact ⟨by simp, rfl⟩
theorem rkbits_any (w : World) (b : Nat) (X : Nat → Nat → Int) (m pr : Nat → Nat) (bs : Nat) (h : RkM w b X m pr bs) :
    Calls Try.prog 21 #[.pointer (some ⟨b, 0, none⟩)] w fun e w' => e = .returned (.int .u32 (bs : Int)) ∧ w = w' := by
  have c0 := h.bits
  have lx := h.lt
  go_enter Try.func21, Try.ntmps21
  go_wp2
  go_ret
  exact ⟨rfl, rfl⟩
theorem rkprio_out (w : World) (b : Nat) (t : Int) (ht : ¬ (0 ≤ t ∧ t < 16)) :
    Calls Try.prog 19 #[.pointer (some ⟨b, 0, none⟩), .int .i64 t] w fun e w' => e = .returned (.tuple #[.int .i64 0, .bool false]) ∧ w = w' := by
  have hb : (decide (0 ≤ t) && decide (t < 16)) = false := by
    rw [Bool.and_eq_false_iff, decide_eq_false_iff_not, decide_eq_false_iff_not]; omega
  have HB := Lib.hid hb
  clear hb ht
  go_enter Try.func19, Try.ntmps19
  go_wp2_with fail
  refine (rkhas_any _ _).mono ?_
  rintro e w' ⟨rfl, rfl⟩
  rw [HB.out]
  go_wp2
  exact bodyPost_ret (v := .tuple #[.int .i64 0, .bool false]) (by simp [results, Try.results19, go_sem, *]) rfl ⟨rfl, rfl⟩
theorem rkprio_any (w : World) (b : Nat) (X : Nat → Nat → Int) (m pr : Nat → Nat) (bs : Nat) (h : RkM w b X m pr bs) (t : Nat) (ht : t < 16) (hpr : pr t ≤ 32) :
    Calls Try.prog 19 #[.pointer (some ⟨b, 0, none⟩), .int .i64 (t : Int)] w fun e w' => e = .returned (.tuple #[.int .i64 ((pr t - 1 : Nat) : Int), .bool (!(pr t == 0))]) ∧ w = w' := by
  have c0 := h.prio t ht
  have lx := h.lt
  have hb : (decide ((0 : Int) ≤ (t : Int)) && decide ((t : Int) < 16)) = true := by
    rw [Bool.and_eq_true, decide_eq_true_eq, decide_eq_true_eq]; omega
  have HB := Lib.hid hb
  clear hb h
  rcases Nat.eq_zero_or_pos (pr t) with hz | hz
  · rw [hz] at c0 ⊢
    clear hz hpr
    go_enter Try.func19, Try.ntmps19
    go_wp2_with fail
    refine (rkhas_any _ _).mono ?_
    rintro e w' ⟨rfl, rfl⟩
    rw [HB.out]
    go_wp2
    exact bodyPost_ret (v := .tuple #[.int .i64 0, .bool false]) (by simp [results, Try.results19, go_sem, *]) rfl ⟨by simp, rfl⟩
  · obtain ⟨q, hq⟩ : ∃ q, pr t = q + 1 := ⟨pr t - 1, by omega⟩
    rw [hq] at c0 ⊢
    have z0 : (((q + 1 : Nat) : Int) == 0) = false := beq_eq_false_iff_ne.mpr (by omega)
    have W1 : wrap64 (((q + 1 : Nat) : Int) - 1) = (q : Int) := by rw [IntWalk.wrap64_in _ ⟨by omega, by omega⟩]; omega
    have W2 : wrap64 ((q : Int) + 1 - 1) = (q : Int) := by rw [IntWalk.wrap64_in _ ⟨by omega, by omega⟩]; omega
    have W3 : wrap64 (q : Int) = (q : Int) := IntWalk.wrap64_in _ ⟨by omega, by omega⟩
    have z1 : ((q : Int) + 1 == 0) = false := beq_eq_false_iff_ne.mpr (by omega)
    clear hz hpr hq
    go_enter Try.func19, Try.ntmps19
    go_wp2_with fail
    refine (rkhas_any _ _).mono ?_
    rintro e w' ⟨rfl, rfl⟩
    rw [HB.out]
    go_wp2
    exact bodyPost_ret (v := .tuple #[.int .i64 (q : Int), .bool true]) (by simp [results, Try.results19, go_sem, *]) rfl ⟨by simp, rfl⟩
set_option maxHeartbeats 1000000 in
theorem rkadd_yes (w : World) (b : Nat) (X : Nat → Nat → Int) (m pr : Nat → Nat) (bs : Nat) (h : RkM w b X m pr bs) (t p : Nat) (ht : t < 16) (hp : p < 32) (h0 : pr t = 0) (hm : m p < 16) (hbs : bs < 4294967296) :
    Calls Try.prog 12 #[.pointer (some ⟨b, 0, none⟩), .int .i64 (t : Int), .int .i64 (p : Int)] w fun e w' => e = .returned (.bool true) ∧ RkM w' b (fun q j => if q = p ∧ j = m p then (t : Int) else X q j) (fun q => if q = p then m p + 1 else m q) (fun q => if q = t then p + 1 else pr q) (setB bs (p : Int)) ∧ Keeps (fun k => k = b) w w' := by
  have H := Lib.hid h
  have c0 := h.prio t ht
  rw [h0] at c0
  have lx := h.lt
  have hb : (decide ((0 : Int) ≤ (t : Int)) && decide ((t : Int) < 16)) = true := by
    rw [Bool.and_eq_true, decide_eq_true_eq, decide_eq_true_eq]; omega
  have HB := Lib.hid hb
  have d1 : decide ((p : Int) < 0) = false := decide_eq_false (by omega)
  have d2 : decide ((32 : Int) ≤ (p : Int)) = false := decide_eq_false (by omega)
  have W8 : IntKind.i8.wrap (t : Int) = (t : Int) := by simp [IntKind.wrap, IntKind.signed, IntKind.bits]; omega
  have HP := Lib.hid (And.intro ht (And.intro hp (And.intro hm hbs)))
  clear hb h h0
  go_enter Try.func12, Try.ntmps12
  go_wp2_with fail
  refine (rkhas_any _ _).mono ?_
  rintro e w' ⟨rfl, rfl⟩
  rw [HB.out]
  have c1 := H.out.many p hp
  have c2 := H.out.row p (m p) hp hm
  have f2 := H.out.free (p * 16 + m p)
  have f1 := H.out.free (512 + p)
  go_wp2_with fail
  go_region
  have H1 := Lib.hid (((H.out.setRow p (m p) hp hm (t : Int)).keeps (Keeps.refl (fun _ => False) _).drew (fun h => h)))
  have K1 := Lib.hid ((((Keeps.refl (fun k => k = b) w).setCell (p := ⟨b, p * 16 + m p, none⟩) (.inl rfl) (.int .i8 (t : Int))).drew))
  clear c0 c1 c2 f1 f2 lx
  generalize hW : World.drew (World.setCell w _ _) = W1 at H1 K1 ⊢
  clear hW H
  have c1 := H1.out.many p hp
  have f1 := H1.out.free (512 + p)
  have lx := H1.out.lt
  have W4 : wrap64 ((m p : Int) + 1) = ((m p + 1 : Nat) : Int) := by rw [IntWalk.wrap64_in _ ⟨by omega, by omega⟩]; omega
  go_wp2_with fail
  go_region
  have H2 := Lib.hid (((H1.out.setMany p hp (m p + 1) ((m p : Int) + 1) (by omega)).keeps (Keeps.refl (fun _ => False) _).drew (fun h => h)))
  have K2 := Lib.hid ((K1.out.setCell (p := ⟨b, 512 + p, none⟩) (.inl rfl) (.int .i64 ((m p : Int) + 1))).drew)
  clear c1 f1 lx W4
  generalize hW : World.drew (World.setCell W1 _ _) = W2 at H2 K2 ⊢
  clear hW H1 K1
  have c1 := H2.out.prio t ht
  have f1 := H2.out.free (544 + t)
  have lx := H2.out.lt
  have W4 : wrap64 ((p : Int) + 1) = (p : Int) + 1 := by rw [IntWalk.wrap64_in _ ⟨by omega, by omega⟩]
  have H3 := Lib.hid (H2.out.setPrio t ht (p + 1) ((p : Int) + 1) (by omega))
  have K3 := Lib.hid (K2.out.setCell (p := ⟨b, 544 + t, none⟩) (.inl rfl) (.int .i64 ((p : Int) + 1)))
  have c3 := H3.out.bits
  have f3 := H3.out.free 560
  have lx3 := H3.out.lt
  go_wp2_with fail
  refine (with_any bs (p : Int) _ hbs).mono ?_
  rintro e w' ⟨rfl, rfl⟩
  have H4 := Lib.hid (H3.out.setBits (setB bs (p : Int)) _ rfl)
  have K4 := Lib.hid (K3.out.setCell (p := ⟨b, 560, none⟩) (.inl rfl) (.int .u32 (setB bs (p : Int) : Int)))
  go_wp2
  go_ret
  exact ⟨rfl, H4.out, K4.out⟩
end Go.Proofs.Ytdbplamhpkahaaa
