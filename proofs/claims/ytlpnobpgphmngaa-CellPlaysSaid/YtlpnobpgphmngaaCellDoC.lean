import Derived.Test.YtlpnobpgphmngaaCellDo
import Derived.Test.YtlpnobpgphmngaaCellRef
import Derived.Deep.Cut
import Derived.Deep.RegionHeld3
namespace Go.Proofs.Ytlpnobpgphmngaa
open Go.ChangeShapes Go.WideShapes Go.ChangeAt Go.RowKit
set_option linter.unusedVariables false
set_option linter.unusedSimpArgs false
/-- What a step answers, what the word is then, and the counts. -/
def dV (kind : Int) (x : Nat) : Nat := if kind = 2 then 0 else x
def dW (kind : Int) (x u : Nat) : Nat := if kind = 1 then x else if kind = 4 then x ||| u else if kind = 5 then x &&& u else u
def dL (kind : Int) (l : Nat) : Nat := if kind = 2 then l else l + 1
def dS (kind : Int) (s : Nat) : Nat := if kind = 1 then s else s + 1
def dN (kind : Int) (N : Nat → Nat) (j u : Nat) : Nat → Nat := fun k => if k = j then dW kind (N j) u else N k
theorem dW_lt {kind : Int} {x u : Nat} (hx : x < 4294967296) (hu : u < 4294967296) : dW kind x u < 4294967296 := by
  unfold dW
  split
  · exact hx
  · split
    · exact Nat.or_lt_two_pow (n := 32) hx hu
    · split
      · exact Nat.lt_of_le_of_lt Nat.and_le_left hx
      · exact hu
theorem dN_one (N : Nat → Nat) (j u : Nat) : dN 1 N j u = N := by
  funext k
  unfold dN
  by_cases e : k = j
  · subst e; rw [if_pos rfl]; rfl
  · rw [if_neg e]
set_option maxRecDepth 20000 in
theorem do_yesC (b q n l s j u : Nat) (N : Nat → Nat) (kind : Int) (w : World) (h : IsMemC w b q n N l s) (hl : l < 1000000) (hs : s < 1000000) (hj : j < n) (hN : N j < 4294967296) (hu : u < 4294967296) (hk : 1 ≤ kind ∧ kind ≤ 5) :
    Calls Try.prog 52 #[.pointer (some ⟨b, 0, none⟩), .agg #[.int .i64 kind, .int .i64 j, .int .u32 u]] w fun e w' => e = .returned (.tuple #[.int .u32 (dV kind (N j) : Nat), .bool true]) ∧ IsMemC w' b q n (dN kind N j u) (dL kind l) (dS kind s) ∧ Keeps (fun k => k = b ∨ k = q) w w' := by
  rcases (by omega : kind = 1 ∨ kind = 2 ∨ kind = 3 ∨ kind = 4 ∨ kind = 5) with rfl | rfl | rfl | rfl | rfl
  · have ka : Keeps (fun _ => False) w (w.alloc (.cells #[.int .i64 1, .int .i64 j, .int .u32 u] 86)) := (Keeps.refl _ _).alloc _
    have HM := Lib.hid (h.none ka)
    have HK := Lib.hid ka
    have HH := Lib.hid h
    clear h ka
    go_enter Try.func52, Try.ntmps52
    go_wp2_with fail
    refine (load_yesC _ _ _ _ _ _ j _ HM.out hl hs hj).mono ?_
    rintro e w1 ⟨rfl, hm, k1⟩
    have HE := Lib.hid (And.intro hm k1)
    clear hm k1
    go_wp2
    exact bodyPost_ret (v := .tuple #[.int .u32 (N j : Nat), .bool true]) (by simp [results, Try.results52, go_sem]) rfl ⟨rfl, by rw [dN_one]; exact HE.out.1, (HK.out.mono fun _ _ h => h.elim).trans (HE.out.2.mono fun _ _ h => .inl h)⟩
  · have ka : Keeps (fun _ => False) w (w.alloc (.cells #[.int .i64 2, .int .i64 j, .int .u32 u] 86)) := (Keeps.refl _ _).alloc _
    have HM := Lib.hid (h.none ka)
    have HK := Lib.hid ka
    have HH := Lib.hid h
    clear h ka
    go_enter Try.func52, Try.ntmps52
    go_wp2_with fail
    refine (store_yesC _ _ _ _ _ _ j u _ HM.out hl hs hj).mono ?_
    rintro e w1 ⟨rfl, hm, k1⟩
    have HE := Lib.hid (And.intro hm k1)
    clear hm k1
    go_wp2
    exact bodyPost_ret (v := .tuple #[.int .u32 0, .bool true]) (by simp [results, Try.results52, go_sem]) rfl ⟨rfl, HE.out.1, (HK.out.mono fun _ _ h => h.elim).trans HE.out.2⟩
  · have ka : Keeps (fun _ => False) w (w.alloc (.cells #[.int .i64 3, .int .i64 j, .int .u32 u] 86)) := (Keeps.refl _ _).alloc _
    have HM := Lib.hid (h.none ka)
    have HK := Lib.hid ka
    have HH := Lib.hid h
    clear h ka
    go_enter Try.func52, Try.ntmps52
    go_wp2_with fail
    refine (swap_yesC _ _ _ _ _ _ j u _ HM.out hl hs hj hN hu).mono ?_
    rintro e w1 ⟨rfl, hm, k1⟩
    have HE := Lib.hid (And.intro hm k1)
    clear hm k1
    go_wp2
    exact bodyPost_ret (v := .tuple #[.int .u32 (N j : Nat), .bool true]) (by simp [results, Try.results52, go_sem]) rfl ⟨rfl, HE.out.1, (HK.out.mono fun _ _ h => h.elim).trans HE.out.2⟩
  · have ka : Keeps (fun _ => False) w (w.alloc (.cells #[.int .i64 4, .int .i64 j, .int .u32 u] 86)) := (Keeps.refl _ _).alloc _
    have HM := Lib.hid (h.none ka)
    have HK := Lib.hid ka
    have HH := Lib.hid h
    clear h ka
    go_enter Try.func52, Try.ntmps52
    go_wp2_with fail
    refine (or_yesC _ _ _ _ _ _ j u _ HM.out hl hs hj hN hu).mono ?_
    rintro e w1 ⟨rfl, hm, k1⟩
    have HE := Lib.hid (And.intro hm k1)
    clear hm k1
    go_wp2
    exact bodyPost_ret (v := .tuple #[.int .u32 (N j : Nat), .bool true]) (by simp [results, Try.results52, go_sem]) rfl ⟨rfl, HE.out.1, (HK.out.mono fun _ _ h => h.elim).trans HE.out.2⟩
  · have ka : Keeps (fun _ => False) w (w.alloc (.cells #[.int .i64 5, .int .i64 j, .int .u32 u] 86)) := (Keeps.refl _ _).alloc _
    have HM := Lib.hid (h.none ka)
    have HK := Lib.hid ka
    have HH := Lib.hid h
    clear h ka
    go_enter Try.func52, Try.ntmps52
    go_wp2_with fail
    refine (and_yesC _ _ _ _ _ _ j u _ HM.out hl hs hj hN hu).mono ?_
    rintro e w1 ⟨rfl, hm, k1⟩
    have HE := Lib.hid (And.intro hm k1)
    clear hm k1
    go_wp2
    exact bodyPost_ret (v := .tuple #[.int .u32 (N j : Nat), .bool true]) (by simp [results, Try.results52, go_sem]) rfl ⟨rfl, HE.out.1, (HK.out.mono fun _ _ h => h.elim).trans HE.out.2⟩
set_option maxRecDepth 20000 in
theorem do_noC (b q n l s u : Nat) (N : Nat → Nat) (kind i : Int) (w : World) (h : IsMemC w b q n N l s) (hn : ¬ ((0 ≤ i ∧ i < n) ∧ 1 ≤ kind ∧ kind ≤ 5)) :
    Calls Try.prog 52 #[.pointer (some ⟨b, 0, none⟩), .agg #[.int .i64 kind, .int .i64 i, .int .u32 u]] w fun e w' => e = .returned (.tuple #[.int .u32 0, .bool false]) ∧ Keeps (fun _ => False) w w' := by
  by_cases hk : 1 ≤ kind ∧ kind ≤ 5
  · have hi : ¬ (0 ≤ i ∧ i < n) := fun h => hn ⟨h, hk⟩
    have HI := Lib.hid hi
    clear hn hi
    rcases (by omega : kind = 1 ∨ kind = 2 ∨ kind = 3 ∨ kind = 4 ∨ kind = 5) with rfl | rfl | rfl | rfl | rfl
    · have ka : Keeps (fun _ => False) w (w.alloc (.cells #[.int .i64 1, .int .i64 i, .int .u32 u] 86)) := (Keeps.refl _ _).alloc _
      have HM := Lib.hid (h.none ka)
      have HK := Lib.hid ka
      have HH := Lib.hid h
      clear h ka
      go_enter Try.func52, Try.ntmps52
      go_wp2_with fail
      refine (load_no _ _ _ _ _ _ HM.out.mem HI.out).mono ?_
      rintro e w1 ⟨rfl, rfl⟩
      go_wp2
      exact bodyPost_ret (v := .tuple #[.int .u32 0, .bool false]) (by simp [results, Try.results52, go_sem]) rfl ⟨rfl, HK.out⟩
    · have ka : Keeps (fun _ => False) w (w.alloc (.cells #[.int .i64 2, .int .i64 i, .int .u32 u] 86)) := (Keeps.refl _ _).alloc _
      have HM := Lib.hid (h.none ka)
      have HK := Lib.hid ka
      have HH := Lib.hid h
      clear h ka
      go_enter Try.func52, Try.ntmps52
      go_wp2_with fail
      refine (store_no _ _ _ _ _ _ _ HM.out.mem HI.out).mono ?_
      rintro e w1 ⟨rfl, rfl⟩
      go_wp2
      exact bodyPost_ret (v := .tuple #[.int .u32 0, .bool false]) (by simp [results, Try.results52, go_sem]) rfl ⟨rfl, HK.out⟩
    · have ka : Keeps (fun _ => False) w (w.alloc (.cells #[.int .i64 3, .int .i64 i, .int .u32 u] 86)) := (Keeps.refl _ _).alloc _
      have HM := Lib.hid (h.none ka)
      have HK := Lib.hid ka
      have HH := Lib.hid h
      clear h ka
      go_enter Try.func52, Try.ntmps52
      go_wp2_with fail
      refine (swap_no _ _ _ _ _ _ _ HM.out.mem HI.out).mono ?_
      rintro e w1 ⟨rfl, k1⟩
      go_wp2
      exact bodyPost_ret (v := .tuple #[.int .u32 0, .bool false]) (by simp [results, Try.results52, go_sem]) rfl ⟨rfl, HK.out.trans k1⟩
    · have ka : Keeps (fun _ => False) w (w.alloc (.cells #[.int .i64 4, .int .i64 i, .int .u32 u] 86)) := (Keeps.refl _ _).alloc _
      have HM := Lib.hid (h.none ka)
      have HK := Lib.hid ka
      have HH := Lib.hid h
      clear h ka
      go_enter Try.func52, Try.ntmps52
      go_wp2_with fail
      refine (or_no _ _ _ _ _ _ _ HM.out.mem HI.out).mono ?_
      rintro e w1 ⟨rfl, k1⟩
      go_wp2
      exact bodyPost_ret (v := .tuple #[.int .u32 0, .bool false]) (by simp [results, Try.results52, go_sem]) rfl ⟨rfl, HK.out.trans k1⟩
    · have ka : Keeps (fun _ => False) w (w.alloc (.cells #[.int .i64 5, .int .i64 i, .int .u32 u] 86)) := (Keeps.refl _ _).alloc _
      have HM := Lib.hid (h.none ka)
      have HK := Lib.hid ka
      have HH := Lib.hid h
      clear h ka
      go_enter Try.func52, Try.ntmps52
      go_wp2_with fail
      refine (and_no _ _ _ _ _ _ _ HM.out.mem HI.out).mono ?_
      rintro e w1 ⟨rfl, k1⟩
      go_wp2
      exact bodyPost_ret (v := .tuple #[.int .u32 0, .bool false]) (by simp [results, Try.results52, go_sem]) rfl ⟨rfl, HK.out.trans k1⟩
  · have ka : Keeps (fun _ => False) w (w.alloc (.cells #[.int .i64 kind, .int .i64 i, .int .u32 u] 86)) := (Keeps.refl _ _).alloc _
    have HM := Lib.hid (h.none ka)
    have HK := Lib.hid ka
    have HH := Lib.hid h
    clear h ka
    have e1 : decide (kind = 1) = false := decide_eq_false (by omega)
    have e2 : decide (kind = 2) = false := decide_eq_false (by omega)
    have e3 : decide (kind = 3) = false := decide_eq_false (by omega)
    have e4 : decide (kind = 4) = false := decide_eq_false (by omega)
    have e5 : decide (kind = 5) = false := decide_eq_false (by omega)
    have k1 : ¬ kind = 1 := by omega
    have k2 : ¬ kind = 2 := by omega
    have k3 : ¬ kind = 3 := by omega
    have k4 : ¬ kind = 4 := by omega
    have k5 : ¬ kind = 5 := by omega
    clear hn hk
    go_enter Try.func52, Try.ntmps52
    go_wp2
    exact bodyPost_ret (v := .tuple #[.int .u32 0, .bool false]) (by simp [results, Try.results52, go_sem]) rfl ⟨rfl, HK.out⟩
/-- The three boxes of Do: the memory, the step, and the answer. -/
structure Tri (w wr : World) (a : Option Addr) (n c l s : Nat) (kind i : Int) (u : Nat) : Prop where
  keeps : Keeps (fun _ => False) w wr
  m : wr.heap[w.heap.size]? = some (.cells #[.slice a n c, .int .i64 (l : Int), .int .i64 (s : Int)] 81 (0, 0))
  st : wr.heap[w.heap.size + 1]? = some (.cells #[.int .i64 kind, .int .i64 i, .int .u32 (u : Int)] 86 (0, 0))
  res : wr.heap[w.heap.size + 2]? = some (.cells #[.slice none 0 0, .int .i64 0, .int .i64 0] 81 (0, 0))
section
variable {w wr w' : World} {a : Option Addr} {n c l s u : Nat} {kind i : Int}
theorem Tri.new (w : World) (a : Option Addr) (n c l s : Nat) (kind i : Int) (u : Nat) : Tri w (((w.alloc (.cells #[.slice a n c, .int .i64 (l : Int), .int .i64 (s : Int)] 81)).alloc (.cells #[.int .i64 kind, .int .i64 i, .int .u32 (u : Int)] 86)).alloc (.cells #[.slice none 0 0, .int .i64 0, .int .i64 0] 81)) a n c l s kind i u := by
  have e1 := heap_new (w.alloc (.cells #[.slice a n c, .int .i64 (l : Int), .int .i64 (s : Int)] 81)) (.cells #[.int .i64 kind, .int .i64 i, .int .u32 (u : Int)] 86)
  rw [show (w.alloc (.cells #[.slice a n c, .int .i64 (l : Int), .int .i64 (s : Int)] 81)).heap.size = w.heap.size + 1 by simp] at e1
  have e2 := heap_new ((w.alloc (.cells #[.slice a n c, .int .i64 (l : Int), .int .i64 (s : Int)] 81)).alloc (.cells #[.int .i64 kind, .int .i64 i, .int .u32 (u : Int)] 86)) (.cells #[.slice none 0 0, .int .i64 0, .int .i64 0] 81)
  rw [show ((w.alloc (.cells #[.slice a n c, .int .i64 (l : Int), .int .i64 (s : Int)] 81)).alloc (.cells #[.int .i64 kind, .int .i64 i, .int .u32 (u : Int)] 86)).heap.size = w.heap.size + 2 by simp] at e2
  exact ⟨(((Keeps.refl _ w).alloc _).alloc _).alloc _, heap_old (heap_old (heap_new _ _) _) _, heap_old e1 _, e2⟩
theorem Tri.kept {S : Nat → Prop} (h : Tri w wr a n c l s kind i u) (k : Keeps S wr w') (hs : ∀ k, S k → w.heap.size + 2 < k) : Tri w w' a n c l s kind i u :=
  ⟨⟨k.os.trans h.keeps.os, k.tape.trans h.keeps.tape, k.output.trans h.keeps.output, Nat.le_trans h.keeps.size k.size, fun z hz _ => (k.block z (Nat.lt_of_lt_of_le hz h.keeps.size) (fun e => by have := hs z e; omega)).trans (h.keeps.block z hz fun h => h)⟩,
    k.at h.m (fun e => by have := hs _ e; omega), k.at h.st (fun e => by have := hs _ e; omega), k.at h.res (fun e => by have := hs _ e; omega)⟩
theorem Tri.none (h : Tri w wr a n c l s kind i u) (k : Keeps (fun _ => False) wr w') : Tri w w' a n c l s kind i u := h.kept k fun _ h => h.elim
theorem Tri.size (h : Tri w wr a n c l s kind i u) : w.heap.size + 2 < wr.heap.size := lt_of h.res
theorem tri_fin {B : Nat} {N : Nat → Nat} {a' : Option Addr} {o : Obj} (hk : Keeps (fun _ => False) w w') (hr : RowB w' B a' n N) (hB : w.heap.size + 2 < B) (x y z : Value) :
    RowB ((((w'.setCell ⟨w.heap.size + 1 + 1, 0, Option.none⟩ x).setCell ⟨w.heap.size + 1 + 1, 1, Option.none⟩ y).setCell ⟨w.heap.size + 1 + 1, 2, Option.none⟩ z).alloc o) w.heap.size a' n N ∧ Keeps (fun _ => False) w ((((w'.setCell ⟨w.heap.size + 1 + 1, 0, Option.none⟩ x).setCell ⟨w.heap.size + 1 + 1, 1, Option.none⟩ y).setCell ⟨w.heap.size + 1 + 1, 2, Option.none⟩ z).alloc o) := by
  have k2 : Keeps (fun k => k = w.heap.size + 1 + 1) w' ((((w'.setCell ⟨w.heap.size + 1 + 1, 0, Option.none⟩ x).setCell ⟨w.heap.size + 1 + 1, 1, Option.none⟩ y).setCell ⟨w.heap.size + 1 + 1, 2, Option.none⟩ z).alloc o) :=
    ((((Keeps.refl (fun k => k = w.heap.size + 1 + 1) w').setCell (p := ⟨w.heap.size + 1 + 1, 0, Option.none⟩) (.inl rfl) x).setCell (p := ⟨w.heap.size + 1 + 1, 1, Option.none⟩) (.inl rfl) y).setCell (p := ⟨w.heap.size + 1 + 1, 2, Option.none⟩) (.inl rfl) z).alloc o
  exact ⟨(hr.keeps k2 fun k hk e => by omega).more (by omega), (((hk.setCell (p := ⟨w.heap.size + 1 + 1, 0, Option.none⟩) (.inr (by show w.heap.size ≤ w.heap.size + 1 + 1; omega)) x).setCell (p := ⟨w.heap.size + 1 + 1, 1, Option.none⟩) (.inr (by show w.heap.size ≤ w.heap.size + 1 + 1; omega)) y).setCell (p := ⟨w.heap.size + 1 + 1, 2, Option.none⟩) (.inr (by show w.heap.size ≤ w.heap.size + 1 + 1; omega)) z).alloc o⟩
end
set_option maxRecDepth 20000 in
theorem rdo_noC (n c l s u : Nat) (a : Option Addr) (kind i : Int) (w : World) (hmx : n ≤ 65536) (hn : ¬ ((0 ≤ i ∧ i < n) ∧ 1 ≤ kind ∧ kind ≤ 5)) :
    Calls Try.prog 53 #[.agg #[.slice a n c, .int .i64 (l : Int), .int .i64 (s : Int)], .agg #[.int .i64 kind, .int .i64 i, .int .u32 u]] w fun e w' => e = .returned (.tuple #[.agg #[.slice a n c, .int .i64 (l : Int), .int .i64 (s : Int)], .int .u32 0, .bool false]) ∧ Keeps (fun _ => False) w w' := by
  rcases (by omega : i < 0 ∨ (¬ i < 0 ∧ (n : Int) ≤ i) ∨ (¬ i < 0 ∧ ¬ (n : Int) ≤ i ∧ kind < 1) ∨ (¬ i < 0 ∧ ¬ (n : Int) ≤ i ∧ ¬ kind < 1 ∧ 5 < kind)) with h1 | ⟨_, h1⟩ | ⟨_, _, h1⟩ | ⟨_, _, _, h1⟩
  · have d1 : decide (i < 0) = true := by simp; exact h1
    clear hn
    have H0 := Lib.hid (Tri.new w a n c l s kind i u)
    go_enter Try.func53, Try.ntmps53
    go_upto_region 1 with (fail)
    generalize hw3 : World.alloc (World.alloc (World.alloc w _) _) _ = w3
    have H3 : Hid (Tri w w3 a n c l s kind i u) := Lib.hid (hw3 ▸ H0.out)
    clear hw3 H0
    have sz := H3.out.size
    have z0 : w.heap.size < w3.heap.size := by omega
    have z1 : w.heap.size + 1 < w3.heap.size := by omega
    have m0 := cell_of H3.out.m 0
    have m1 := cell_of H3.out.m 1
    have m2 := cell_of H3.out.m 2
    have s0 := cell_of H3.out.st 0
    have s1 := cell_of H3.out.st 1
    have s2 := cell_of H3.out.st 2
    have r0 := cell_of H3.out.res 0
    have r1 := cell_of H3.out.res 1
    have r2 := cell_of H3.out.res 2
    have f0 := free_of H3.out.res 0
    have f1 := free_of H3.out.res 1
    have f2 := free_of H3.out.res 2
    simp only [List.getElem?_toArray, List.getElem?_cons_zero, List.getElem?_cons_succ] at m0 m1 m2 s0 s1 s2 r0 r1 r2
    have FIN := H3.out.keeps
    have HF := Lib.hid FIN
    clear FIN
    go_wp2
    exact bodyPost_ret (v := .tuple #[.agg #[.slice a n c, .int .i64 (l : Int), .int .i64 (s : Int)], .int .u32 0, .bool false]) (by simp [results, Try.results53, go_sem, *]) rfl ⟨rfl, ((HF.out.setCell (p := ⟨w.heap.size + 2, 0, none⟩) (.inr (by show w.heap.size ≤ w.heap.size + 2; omega)) _).setCell (p := ⟨w.heap.size + 2, 1, none⟩) (.inr (by show w.heap.size ≤ w.heap.size + 2; omega)) _).setCell (p := ⟨w.heap.size + 2, 2, none⟩) (.inr (by show w.heap.size ≤ w.heap.size + 2; omega)) _⟩
  · have d1 : decide (i < 0) = false := decide_eq_false (by omega)
    have d2 : decide ((n : Int) ≤ i) = true := decide_eq_true h1
    clear hn
    have H0 := Lib.hid (Tri.new w a n c l s kind i u)
    go_enter Try.func53, Try.ntmps53
    go_upto_region 1 with (fail)
    generalize hw3 : World.alloc (World.alloc (World.alloc w _) _) _ = w3
    have H3 : Hid (Tri w w3 a n c l s kind i u) := Lib.hid (hw3 ▸ H0.out)
    clear hw3 H0
    have sz := H3.out.size
    have z0 : w.heap.size < w3.heap.size := by omega
    have z1 : w.heap.size + 1 < w3.heap.size := by omega
    have m0 := cell_of H3.out.m 0
    have m1 := cell_of H3.out.m 1
    have m2 := cell_of H3.out.m 2
    have s0 := cell_of H3.out.st 0
    have s1 := cell_of H3.out.st 1
    have s2 := cell_of H3.out.st 2
    have r0 := cell_of H3.out.res 0
    have r1 := cell_of H3.out.res 1
    have r2 := cell_of H3.out.res 2
    have f0 := free_of H3.out.res 0
    have f1 := free_of H3.out.res 1
    have f2 := free_of H3.out.res 2
    simp only [List.getElem?_toArray, List.getElem?_cons_zero, List.getElem?_cons_succ] at m0 m1 m2 s0 s1 s2 r0 r1 r2
    have FIN := H3.out.keeps
    have HF := Lib.hid FIN
    clear FIN
    go_wp2
    exact bodyPost_ret (v := .tuple #[.agg #[.slice a n c, .int .i64 (l : Int), .int .i64 (s : Int)], .int .u32 0, .bool false]) (by simp [results, Try.results53, go_sem, *]) rfl ⟨rfl, ((HF.out.setCell (p := ⟨w.heap.size + 2, 0, none⟩) (.inr (by show w.heap.size ≤ w.heap.size + 2; omega)) _).setCell (p := ⟨w.heap.size + 2, 1, none⟩) (.inr (by show w.heap.size ≤ w.heap.size + 2; omega)) _).setCell (p := ⟨w.heap.size + 2, 2, none⟩) (.inr (by show w.heap.size ≤ w.heap.size + 2; omega)) _⟩
  · have d1 : decide (i < 0) = false := decide_eq_false (by omega)
    have d2 : decide ((n : Int) ≤ i) = false := decide_eq_false (by omega)
    have d3 : decide (kind < 1) = true := decide_eq_true h1
    clear hn
    have H0 := Lib.hid (Tri.new w a n c l s kind i u)
    go_enter Try.func53, Try.ntmps53
    go_upto_region 1 with (fail)
    generalize hw3 : World.alloc (World.alloc (World.alloc w _) _) _ = w3
    have H3 : Hid (Tri w w3 a n c l s kind i u) := Lib.hid (hw3 ▸ H0.out)
    clear hw3 H0
    have sz := H3.out.size
    have z0 : w.heap.size < w3.heap.size := by omega
    have z1 : w.heap.size + 1 < w3.heap.size := by omega
    have m0 := cell_of H3.out.m 0
    have m1 := cell_of H3.out.m 1
    have m2 := cell_of H3.out.m 2
    have s0 := cell_of H3.out.st 0
    have s1 := cell_of H3.out.st 1
    have s2 := cell_of H3.out.st 2
    have r0 := cell_of H3.out.res 0
    have r1 := cell_of H3.out.res 1
    have r2 := cell_of H3.out.res 2
    have f0 := free_of H3.out.res 0
    have f1 := free_of H3.out.res 1
    have f2 := free_of H3.out.res 2
    simp only [List.getElem?_toArray, List.getElem?_cons_zero, List.getElem?_cons_succ] at m0 m1 m2 s0 s1 s2 r0 r1 r2
    have FIN := H3.out.keeps
    have HF := Lib.hid FIN
    clear FIN
    go_wp2
    exact bodyPost_ret (v := .tuple #[.agg #[.slice a n c, .int .i64 (l : Int), .int .i64 (s : Int)], .int .u32 0, .bool false]) (by simp [results, Try.results53, go_sem, *]) rfl ⟨rfl, ((HF.out.setCell (p := ⟨w.heap.size + 2, 0, none⟩) (.inr (by show w.heap.size ≤ w.heap.size + 2; omega)) _).setCell (p := ⟨w.heap.size + 2, 1, none⟩) (.inr (by show w.heap.size ≤ w.heap.size + 2; omega)) _).setCell (p := ⟨w.heap.size + 2, 2, none⟩) (.inr (by show w.heap.size ≤ w.heap.size + 2; omega)) _⟩
  · have d1 : decide (i < 0) = false := decide_eq_false (by omega)
    have d2 : decide ((n : Int) ≤ i) = false := decide_eq_false (by omega)
    have d3 : decide (kind < 1) = false := decide_eq_false (by omega)
    have d4 : decide (5 < kind) = true := decide_eq_true h1
    clear hn
    have H0 := Lib.hid (Tri.new w a n c l s kind i u)
    go_enter Try.func53, Try.ntmps53
    go_upto_region 1 with (fail)
    generalize hw3 : World.alloc (World.alloc (World.alloc w _) _) _ = w3
    have H3 : Hid (Tri w w3 a n c l s kind i u) := Lib.hid (hw3 ▸ H0.out)
    clear hw3 H0
    have sz := H3.out.size
    have z0 : w.heap.size < w3.heap.size := by omega
    have z1 : w.heap.size + 1 < w3.heap.size := by omega
    have m0 := cell_of H3.out.m 0
    have m1 := cell_of H3.out.m 1
    have m2 := cell_of H3.out.m 2
    have s0 := cell_of H3.out.st 0
    have s1 := cell_of H3.out.st 1
    have s2 := cell_of H3.out.st 2
    have r0 := cell_of H3.out.res 0
    have r1 := cell_of H3.out.res 1
    have r2 := cell_of H3.out.res 2
    have f0 := free_of H3.out.res 0
    have f1 := free_of H3.out.res 1
    have f2 := free_of H3.out.res 2
    simp only [List.getElem?_toArray, List.getElem?_cons_zero, List.getElem?_cons_succ] at m0 m1 m2 s0 s1 s2 r0 r1 r2
    have FIN := H3.out.keeps
    have HF := Lib.hid FIN
    clear FIN
    go_wp2
    exact bodyPost_ret (v := .tuple #[.agg #[.slice a n c, .int .i64 (l : Int), .int .i64 (s : Int)], .int .u32 0, .bool false]) (by simp [results, Try.results53, go_sem, *]) rfl ⟨rfl, ((HF.out.setCell (p := ⟨w.heap.size + 2, 0, none⟩) (.inr (by show w.heap.size ≤ w.heap.size + 2; omega)) _).setCell (p := ⟨w.heap.size + 2, 1, none⟩) (.inr (by show w.heap.size ≤ w.heap.size + 2; omega)) _).setCell (p := ⟨w.heap.size + 2, 2, none⟩) (.inr (by show w.heap.size ≤ w.heap.size + 2; omega)) _⟩
end Go.Proofs.Ytlpnobpgphmngaa
