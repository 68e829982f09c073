import Derived.Test.YtffhmlngnnfaeacNestRises
import Derived.Test.YtffhmlngnnfaeacNestRef
import Derived.Test.YtffhmlngnnfaeacSame
import Derived.Deep.CutRange
import Derived.Deep.DeepCutAuto
namespace Go.Proofs.Ytffhmlngnnfaeac
open Go.ChangeShapes Go.WideShapes Go.ChangeAt Go.RowKit
set_option linter.unusedVariables false
/-- The program's nest at b and the reference's at x say the same: d levels, of which L tells. -/
structure Both (w wr : World) (b x : Nat) (L : Nat → Int) (d m : Nat) (a : Option Addr) (cap : Nat) : Prop where
  below : Below w.heap.size w wr
  nb : w.heap.size ≤ b
  nx : w.heap.size ≤ x
  bx : b ≠ x
  nest : IsNest wr b L d m
  rises : Rises L d
  ref : wr.heap[x]? = some (.cells #[.slice a d cap, .int .i64 (m : Int)] 48 (0, 0))
  row : Row wr a d L
  good : (a = none → cap = 0) ∧ d ≤ cap
  apart : ∀ b' off, a = some ⟨b', off, none⟩ → b' ≠ b ∧ b' ≠ x
  alt : ∀ b' off, a = some ⟨b', off, none⟩ → b' < wr.heap.size
theorem Both.none {w w1 w2 : World} {b x : Nat} {L : Nat → Int} {d m : Nat} {a : Option Addr} {cap : Nat} (h : Both w w1 b x L d m a cap) (hk : Keeps (fun _ => False) w1 w2) : Both w w2 b x L d m a cap :=
  ⟨h.below.trans (hk.below h.below.size fun _ _ h => h.elim), h.nb, h.nx, h.bx, h.nest.none hk, h.rises, hk.at h.ref fun h => h, h.row.none hk, h.good, h.apart, fun b' off e => Nat.lt_of_lt_of_le (h.alt b' off e) hk.size⟩
theorem Both.x0 {w w1 : World} {b x : Nat} {L : Nat → Int} {d m : Nat} {a : Option Addr} {cap : Nat} (h : Both w w1 b x L d m a cap) : w1.cell? ⟨x, 0, Option.none⟩ = some (.slice a d cap) := cell_of h.ref 0
theorem Both.x1 {w w1 : World} {b x : Nat} {L : Nat → Int} {d m : Nat} {a : Option Addr} {cap : Nat} (h : Both w w1 b x L d m a cap) : w1.cell? ⟨x, 1, Option.none⟩ = some (.int .i64 (m : Int)) := cell_of h.ref 1

theorem both_new (w : World) : Both w ((w.alloc (.cells #[.int .i64 0, .int .i64 0, .int .i64 0, .int .i64 0, .int .i64 0, .int .i64 0, .int .i64 0, .int .i64 0, .int .i64 0, .int .i64 0, .int .i64 0, .int .i64 0, .int .i64 0, .int .i64 0, .int .i64 0, .int .i64 0, .int .i64 0, .int .i64 0, .int .i64 0, .int .i64 0, .int .i64 0, .int .i64 0, .int .i64 0, .int .i64 0, .int .i64 0, .int .i64 0, .int .i64 0, .int .i64 0, .int .i64 0, .int .i64 0, .int .i64 0, .int .i64 0, .int .i64 0, .int .i64 0] 46)).alloc (.cells #[.slice none 0 0, .int .i64 0] 48)) w.heap.size (w.heap.size + 1) (fun _ => 0) 0 0 none 0 := by
  have k1 : Keeps (fun _ => False) (w.alloc (.cells #[.int .i64 0, .int .i64 0, .int .i64 0, .int .i64 0, .int .i64 0, .int .i64 0, .int .i64 0, .int .i64 0, .int .i64 0, .int .i64 0, .int .i64 0, .int .i64 0, .int .i64 0, .int .i64 0, .int .i64 0, .int .i64 0, .int .i64 0, .int .i64 0, .int .i64 0, .int .i64 0, .int .i64 0, .int .i64 0, .int .i64 0, .int .i64 0, .int .i64 0, .int .i64 0, .int .i64 0, .int .i64 0, .int .i64 0, .int .i64 0, .int .i64 0, .int .i64 0, .int .i64 0, .int .i64 0] 46)) ((w.alloc (.cells #[.int .i64 0, .int .i64 0, .int .i64 0, .int .i64 0, .int .i64 0, .int .i64 0, .int .i64 0, .int .i64 0, .int .i64 0, .int .i64 0, .int .i64 0, .int .i64 0, .int .i64 0, .int .i64 0, .int .i64 0, .int .i64 0, .int .i64 0, .int .i64 0, .int .i64 0, .int .i64 0, .int .i64 0, .int .i64 0, .int .i64 0, .int .i64 0, .int .i64 0, .int .i64 0, .int .i64 0, .int .i64 0, .int .i64 0, .int .i64 0, .int .i64 0, .int .i64 0, .int .i64 0, .int .i64 0] 46)).alloc (.cells #[.slice none 0 0, .int .i64 0] 48)) := (Keeps.refl _ _).alloc _
  refine ⟨((Keeps.refl (fun _ => False) w).alloc _ |>.trans k1).none, Nat.le_refl _, by omega, by omega, (nest_new w).none k1, rises_zero _, ?_, fun h => by omega, ⟨fun _ => rfl, Nat.le_refl _⟩, (fun _ _ h => by cases h), (fun _ _ h => by cases h)⟩
  have := heap_new (w.alloc (.cells #[.int .i64 0, .int .i64 0, .int .i64 0, .int .i64 0, .int .i64 0, .int .i64 0, .int .i64 0, .int .i64 0, .int .i64 0, .int .i64 0, .int .i64 0, .int .i64 0, .int .i64 0, .int .i64 0, .int .i64 0, .int .i64 0, .int .i64 0, .int .i64 0, .int .i64 0, .int .i64 0, .int .i64 0, .int .i64 0, .int .i64 0, .int .i64 0, .int .i64 0, .int .i64 0, .int .i64 0, .int .i64 0, .int .i64 0, .int .i64 0, .int .i64 0, .int .i64 0, .int .i64 0, .int .i64 0] 46)) (.cells #[.slice none 0 0, .int .i64 0] 48)
  rw [show (w.alloc (.cells #[.int .i64 0, .int .i64 0, .int .i64 0, .int .i64 0, .int .i64 0, .int .i64 0, .int .i64 0, .int .i64 0, .int .i64 0, .int .i64 0, .int .i64 0, .int .i64 0, .int .i64 0, .int .i64 0, .int .i64 0, .int .i64 0, .int .i64 0, .int .i64 0, .int .i64 0, .int .i64 0, .int .i64 0, .int .i64 0, .int .i64 0, .int .i64 0, .int .i64 0, .int .i64 0, .int .i64 0, .int .i64 0, .int .i64 0, .int .i64 0, .int .i64 0, .int .i64 0, .int .i64 0, .int .i64 0] 46)).heap.size = w.heap.size + 1 by simp] at this
  exact this
/-- The program's nest has been turned, the reference's not yet. -/
structure Half (w wr : World) (b x : Nat) (L : Nat → Int) (d m : Nat) (L' : Nat → Int) (d' m' : Nat) (a : Option Addr) (cap : Nat) : Prop where
  below : Below w.heap.size w wr
  nb : w.heap.size ≤ b
  nx : w.heap.size ≤ x
  bx : b ≠ x
  nest : IsNest wr b L' d' m'
  rises : Rises L' d'
  ref : wr.heap[x]? = some (.cells #[.slice a d cap, .int .i64 (m : Int)] 48 (0, 0))
  row : Row wr a d L
  good : (a = none → cap = 0) ∧ d ≤ cap
  apart : ∀ b' off, a = some ⟨b', off, none⟩ → b' ≠ b ∧ b' ≠ x
  alt : ∀ b' off, a = some ⟨b', off, none⟩ → b' < wr.heap.size
theorem Both.half {w w1 w2 : World} {b x : Nat} {L L' : Nat → Int} {d m d' m' : Nat} {a : Option Addr} {cap : Nat} (h : Both w w1 b x L d m a cap) (hn : IsNest w2 b L' d' m') (hr : Rises L' d') (hk : Keeps (fun k => k = b) w1 w2) : Half w w2 b x L d m L' d' m' a cap :=
  ⟨h.below.trans (hk.below h.below.size fun k _ e => by have := h.nb; omega), h.nb, h.nx, h.bx, hn, hr, hk.at h.ref (fun e => h.bx e.symm), h.row.keeps hk (fun b' off e => (h.apart b' off e).1), h.good, h.apart, fun b' off e => Nat.lt_of_lt_of_le (h.alt b' off e) hk.size⟩
theorem Half.x0 {w w1 : World} {b x : Nat} {L L' : Nat → Int} {d m d' m' : Nat} {a : Option Addr} {cap : Nat} (h : Half w w1 b x L d m L' d' m' a cap) : w1.cell? ⟨x, 0, Option.none⟩ = some (.slice a d cap) := cell_of h.ref 0
theorem Half.x1 {w w1 : World} {b x : Nat} {L L' : Nat → Int} {d m d' m' : Nat} {a : Option Addr} {cap : Nat} (h : Half w w1 b x L d m L' d' m' a cap) : w1.cell? ⟨x, 1, Option.none⟩ = some (.int .i64 (m : Int)) := cell_of h.ref 1
theorem two_set {w : World} {x : Nat} {c0 c1 : Value} {E : TypeId} (h : w.heap[x]? = some (.cells #[c0, c1] E (0, 0))) (v0 v1 : Value) : ((w.setCell ⟨x, 0, Option.none⟩ v0).setCell ⟨x, 1, Option.none⟩ v1).heap[x]? = some (.cells #[v0, v1] E (0, 0)) := heap_set (heap_set h 0 v0) 1 v1
theorem Half.close {S : Nat → Prop} {w w2 W : World} {b x : Nat} {L L' L'' : Nat → Int} {d m d' m' : Nat} {a a' : Option Addr} {cap cap' : Nat} {m'' : Int} (h : Half w w2 b x L d m L' d' m' a cap)
    (hm : m'' = (m' : Int)) (hrow : Row w2 a' d' L'') (hL : ∀ i, i < d' → L'' i = L' i) (good : (a' = Option.none → cap' = 0) ∧ d' ≤ cap') (alt : ∀ b' off, a' = some ⟨b', off, Option.none⟩ → b' < w2.heap.size) (kW : Keeps S w2 W) (hb : ¬ S b) (hS : ∀ k, S k → w.heap.size ≤ k)
    (fresh : ∀ b' off, a' = some ⟨b', off, Option.none⟩ → ¬ S b' ∧ b' ≠ b ∧ b' ≠ x) (hx : W.heap[x]? = some (.cells #[.slice a' d' cap', .int .i64 m''] 48 (0, 0))) : Both w W b x L' d' m' a' cap' := by
  subst hm
  refine ⟨h.below.trans (kW.below h.below.size fun k _ => hS k), h.nb, h.nx, h.bx, ?_, h.rises, hx, ?_, good, fun b' off e => (fresh b' off e).2, fun b' off e => Nat.lt_of_lt_of_le (alt b' off e) kW.size⟩
  · obtain ⟨cs, hc, hr⟩ := h.nest
    exact ⟨cs, kW.at hc hb, hr⟩
  · intro hd
    obtain ⟨b', off, ha, hlt, hc⟩ := (hrow.keeps kW fun b' off e => (fresh b' off e).1) hd
    exact ⟨b', off, ha, hlt, fun i hi => by rw [hc i hi, hL i hi]⟩
/-- The two ways in which a new variable comes into the statement: behind the call, and ahead of it. -/
theorem Half.after {w w2 : World} {b x : Nat} {L L' L'' : Nat → Int} {d m d' m' : Nat} {a a' : Option Addr} {cap cap' : Nat} {m'' : Int} (h : Half w w2 b x L d m L' d' m' a cap)
    (hm : m'' = (m' : Int)) (hrow : Row w2 a' d' L'') (hL : ∀ i, i < d' → L'' i = L' i) (good : (a' = Option.none → cap' = 0) ∧ d' ≤ cap') (alt : ∀ b' off, a' = some ⟨b', off, Option.none⟩ → b' < w2.heap.size)
    (fresh : ∀ b' off, a' = some ⟨b', off, Option.none⟩ → b' ≠ b ∧ b' ≠ x) (o : Obj) :
    Both w (((w2.setCell ⟨x, 0, Option.none⟩ (.slice a' d' cap')).setCell ⟨x, 1, Option.none⟩ (.int .i64 m'')).alloc o) b x L' d' m' a' cap' :=
  h.close (S := fun k => k = x) hm hrow hL good alt ((Keeps.setCell (S := fun k => k = x) (Keeps.setCell (S := fun k => k = x) (Keeps.refl _ w2) (p := ⟨x, 0, Option.none⟩) (.inl rfl) _) (p := ⟨x, 1, Option.none⟩) (.inl rfl) _).alloc o) (fun e => h.bx e) (fun k e => by rw [e]; exact h.nx)
    (fun b' off e => ⟨(fresh b' off e).2, fresh b' off e⟩) (heap_old (two_set h.ref _ _) _)
theorem Half.ahead {w w2 : World} {b x y : Nat} {L L' L'' : Nat → Int} {d m d' m' : Nat} {a a' : Option Addr} {cap cap' : Nat} {m'' : Int} (h : Half w w2 b x L d m L' d' m' a cap)
    (hm : m'' = (m' : Int)) (hrow : Row w2 a' d' L'') (hL : ∀ i, i < d' → L'' i = L' i) (good : (a' = Option.none → cap' = 0) ∧ d' ≤ cap') (alt : ∀ b' off, a' = some ⟨b', off, Option.none⟩ → b' < w2.heap.size)
    (fresh : ∀ b' off, a' = some ⟨b', off, Option.none⟩ → b' ≠ y ∧ b' ≠ b ∧ b' ≠ x) (hy : w.heap.size ≤ y) (hyb : y ≠ b) (hyx : y ≠ x) (u0 u1 : Value) :
    Both w ((((w2.setCell ⟨y, 0, Option.none⟩ u0).setCell ⟨y, 1, Option.none⟩ u1).setCell ⟨x, 0, Option.none⟩ (.slice a' d' cap')).setCell ⟨x, 1, Option.none⟩ (.int .i64 m'')) b x L' d' m' a' cap' :=
  h.close (S := fun k => k = x ∨ k = y) hm hrow hL good alt (Keeps.setCell (S := fun k => k = x ∨ k = y) (Keeps.setCell (S := fun k => k = x ∨ k = y) (Keeps.setCell (S := fun k => k = x ∨ k = y) (Keeps.setCell (S := fun k => k = x ∨ k = y) (Keeps.refl _ w2) (p := ⟨y, 0, Option.none⟩) (.inl (.inr rfl)) _) (p := ⟨y, 1, Option.none⟩) (.inl (.inr rfl)) _) (p := ⟨x, 0, Option.none⟩) (.inl (.inl rfl)) _) (p := ⟨x, 1, Option.none⟩) (.inl (.inl rfl)) _)
    (fun e => e.elim (fun e => h.bx e) fun e => hyb e.symm) (fun k e => by rcases e with e | e <;> rw [e]; exact h.nx; exact hy)
    (fun b' off e => ⟨fun e2 => e2.elim (fresh b' off e).2.2 (fresh b' off e).1, (fresh b' off e).2⟩)
    (two_set (heap_other (heap_other h.ref (fun e => hyx e.symm) _) (fun e => hyx e.symm) _) _ _)
theorem Row.alt {w : World} {a : Option Addr} {n : Nat} {F : Nat → Int} (h : Row w a (n + 1) F) (b' off' : Nat) (e : a = some ⟨b', off', Option.none⟩) : b' < w.heap.size := by
  obtain ⟨b, off, ha, hb, _⟩ := h (by omega)
  rw [ha] at e
  injection e with e
  injection e with e
  omega
theorem Row.less {w : World} {a : Option Addr} {n n' : Nat} {F : Nat → Int} (h : Row w a n F) (hn : n' ≤ n) : Row w a n' F := by
  intro h0
  obtain ⟨b, off, ha, hb, hc⟩ := h (by omega)
  exact ⟨b, off, ha, hb, fun i hi => hc i (by omega)⟩
theorem rises_leave {L : Nat → Int} {d : Nat} (h : Rises L (d + 1)) : Rises L d := ⟨fun i hi => h.lo i (by omega), fun i hi => h.hi i (by omega), fun i hi => h.up i (by omega)⟩
theorem cell_set2 {w : World} {a p q : Addr} {v u u' : Value} (h : w.cell? a = some v) (hp : a.block ≠ p.block) (hq : a.block ≠ q.block) : ((w.setCell p u).setCell q u').cell? a = some v := by
  rw [World.cell?_of_block (w := w.setCell p u) (Below.heap_setCell _ _ _ _ hq), World.cell?_of_block (w := w) (Below.heap_setCell _ _ _ _ hp)]
  exact h
/-- A block that was there ahead of a call. -/
theorem new_at {wc w2 : World} (k : Keeps (fun _ => False) wc w2) (y : Nat) : (y < wc.heap.size → y < w2.heap.size) ∧ (y < wc.heap.size → w2.cell? ⟨y, 0, Option.none⟩ = wc.cell? ⟨y, 0, Option.none⟩ ∧ w2.cell? ⟨y, 1, Option.none⟩ = wc.cell? ⟨y, 1, Option.none⟩) ∧
    (y < wc.heap.size → w2.frozen? ⟨y, 0, Option.none⟩ = wc.frozen? ⟨y, 0, Option.none⟩ ∧ w2.frozen? ⟨y, 1, Option.none⟩ = wc.frozen? ⟨y, 1, Option.none⟩) :=
  ⟨fun h => Nat.lt_of_lt_of_le h k.size, fun h => ⟨World.cell?_of_block (w := wc) (k.block y h fun h => h), World.cell?_of_block (w := wc) (k.block y h fun h => h)⟩, fun h => ⟨World.frozen?_of_block (w := wc) (k.block y h fun h => h), World.frozen?_of_block (w := wc) (k.block y h fun h => h)⟩⟩
theorem Half.none {w w1 w2 : World} {b x : Nat} {L L' : Nat → Int} {d m d' m' : Nat} {a : Option Addr} {cap : Nat} (h : Half w w1 b x L d m L' d' m' a cap) (hk : Keeps (fun _ => False) w1 w2) : Half w w2 b x L d m L' d' m' a cap :=
  ⟨h.below.trans (hk.below h.below.size fun _ _ h => h.elim), h.nb, h.nx, h.bx, h.nest.none hk, h.rises, hk.at h.ref fun h => h, h.row.none hk, h.good, h.apart, fun b' off e => Nat.lt_of_lt_of_le (h.alt b' off e) hk.size⟩

theorem most_any (b : Nat) (L : Nat → Int) (d m : Nat) (w : World) (h : IsNest w b L d m) :
    Calls Try.prog 26 #[.pointer (some ⟨b, 0, none⟩)] w fun e w' => e = .returned (.int .i64 m) ∧ w = w' := by
  obtain ⟨cs, hb, hs, hl, hd, hm⟩ := h
  have c0 : w.cell? ⟨b, 33, none⟩ = some (.int .i64 m) := (cell_of hb 33).trans hm
  clear hb hl hd hm hs
  go_enter Try.func26, Try.ntmps26
  go_wp2
  go_ret
  exact ⟨rfl, rfl⟩
theorem same_list (g d cap : Nat) (a : Option Addr) (L : Nat → Int) (w : World) (hd : d ≤ 32) (hg : w.heap[g]? = some (.cells ((List.range d).map fun i => Value.int .i64 (L i)).toArray 3 (0, 0))) (h : Row w a d L) :
    Calls Try.prog 27 #[.slice (some ⟨g, 0, none⟩) d d, .slice a d cap] w fun e w' => e = .returned (.bool true) ∧ Keeps (fun _ => False) w w' := by
  rcases Nat.eq_zero_or_pos d with rfl | hp
  · exact rsame_zero _ _ _ _ w
  · obtain ⟨b, off, rfl, hb, hc⟩ := h hp
    exact rsame_some g 0 b off d d cap L w (by unfold maxLen; omega) (fun i hi => by rw [cell_of hg]; simp [hi]) hc
set_option maxRecDepth 20000 in
set_option maxHeartbeats 4000000 in
theorem nestPlays_plain (a0 : Option Addr) (n cap0 : Nat) (F : Nat → Int) (w : World) (hn : n ≤ 100) (hr : Row w a0 n F) :
    Calls Try.prog 5 #[.slice a0 n cap0] w fun e w' => e = .returned (.bool true) ∧ Below w.heap.size w w' := by
  have d1 : decide (100 < (n : Int)) = false := by simp; omega
  have HR := Lib.hid hr
  clear hr
  have H0 := Lib.hid (both_new w)
  go_enter Try.func5, Try.ntmps5
  go_wp2_with fail
  generalize hw0 : World.alloc _ _ = w0
  have H1 : Hid (Both w w0 w.heap.size (w.heap.size + 1) (fun _ => 0) 0 0 none 0) := hw0 ▸ H0
  clear H0 hw0
  obtain ⟨B0, hB0⟩ : ∃ B0, B0 = w.heap.size := ⟨_, rfl⟩
  rw [← hB0] at H1 ⊢
  have HB0 := Lib.hid hB0
  clear hB0
  go_loopw [5] (fun i wr => ∃ (k d m cap : Nat) (L : Nat → Int) (a : Option Addr), k ≤ n ∧ i = .int .i64 k ∧ Both w wr B0 (B0 + 1) L d m a cap) (fun i _ => n - (intOf i).toNat)
  case atStart => exact ⟨0, 0, 0, 0, _, _, by omega, rfl, H1.out⟩
  case round =>
    obtain ⟨k, d, m, cap, L, a, hk, rfl, hB⟩ := hrel
    have HB := Lib.hid hB
    clear hB
    by_cases hlt : k < n
    · obtain ⟨b, off, rfl, hb, hc⟩ := HR.out (by omega)
      have HS : ∀ wr, Below w.heap.size w wr → wr.cell? ⟨b, off + k, none⟩ = some (.int .i64 (F k)) := fun wr h => (h.cell (p := ⟨b, off + k, none⟩) hb).trans (hc k hlt)
      have HST := Lib.hid HS
      have hcell := HS _ HB.out.below
      clear hc HS
      go_upto_if 31 with (fail)
      go_cut [6, 7, 8, 9, 10, 11, 12, 13] from 21 to 98 (fun s6 s7 s8 s9 s10 s11 s12 s13 wx => ∃ (d m cap : Nat) (L : Nat → Int) (a : Option Addr), Both w wx B0 (B0 + 1) L d m a cap)
      case first =>
        by_cases h0 : 0 ≤ F k
        · have hd0 : decide (0 ≤ F k) = true := by simp; exact h0
          by_cases hy : topV L d < F k ∧ 0 ≤ F k ∧ F k ≤ 31
          · obtain ⟨hd, hr2⟩ := rises_enter HB.out.rises _ hy
            have HY := Lib.hid hy
            clear hy
            go_wp2_with fail
            refine (enter_yes _ L d m (F k) _ hd HB.out.nest HY.out).mono ?_
            rintro e w1 ⟨rfl, n1, k1⟩
            have HH := Lib.hid (HB.out.half n1 hr2 k1)
            have x0 := HH.out.x0
            have x1 := HH.out.x1
            have sc := HST.out _ HH.out.below
            have lx := lt_of HH.out.ref
            have lb : b < w1.heap.size := Nat.lt_of_lt_of_le hb HH.out.below.size
            have hdc : d ≤ cap := HH.out.good.2
            clear HB hcell n1 k1
            go_wp2_with fail
            go_region_held3 (fun w' => w'.cell? ⟨B0 + 1, 0, none⟩ = some (.slice a d cap) ∧ w'.cell? ⟨B0 + 1, 1, none⟩ = some (.int .i64 (m : Int)) ∧ w'.cell? ⟨b, off + k, none⟩ = some (.int .i64 (F k)))
              (first
                | go_keep
                | exact ⟨y0, y1, y2⟩
                | exact ⟨cell_set2 y0 (by simp; omega) (by simp; omega), cell_set2 y1 (by simp; omega) (by simp; omega), cell_set2 y2 (by simp; omega) (by simp; omega)⟩)
              ((go_at_call 20; refine (nenter_yes a d cap m (F k) L _ hd (HH.out.row.none (by first | exact (Keeps.refl _ _).drew | exact ((Keeps.refl _ _).alloc _).drew)) HH.out.good.1 HY.out.1 HY.out.2.1 HY.out.2.2).mono ?_; rintro e w2 ⟨a', cap', rfl, row2, good2, k2⟩; have HH2 := Lib.hid (HH.out.none (w2 := w2) (by first | exact (Keeps.refl _ _).drew.trans k2 | exact ((Keeps.refl _ _).alloc _).drew.trans k2)); have y0 := HH2.out.x0; have y1 := HH2.out.x1; have y2 := HST.out _ HH2.out.below; have fx0 := free_of HH2.out.ref 0; have fx1 := free_of HH2.out.ref 1; have lx2 := lt_of HH2.out.ref; have G2 := Lib.hid (And.intro row2 (And.intro good2 k2)); have s2 := k2.size; obtain ⟨zs, zc, zf⟩ := new_at k2 w1.heap.size; (try simp at zs); (try simp at zc); (try simp at zf); clear row2 good2))
            · go_wp2_with fail
              go_meet
              obtain ⟨row2, good2, k2⟩ := G2.out
              exact ⟨d + 1, max m (d + 1), cap', fun i => if i = d then F k else L i, a', HH2.out.after (by omega) row2 (fun _ _ => rfl) ⟨good2.1, good2.2.1⟩ row2.alt (fun b' off' e => by have q : w1.heap.size ≤ b' := good2.2.2 b' off' e; have := HH.out.nest.lt; omega) _⟩
            · go_wp2_with fail
              go_meet
              obtain ⟨row2, good2, k2⟩ := G2.out
              exact ⟨d + 1, max m (d + 1), cap', fun i => if i = d then F k else L i, a', HH2.out.ahead (by omega) row2 (fun _ _ => rfl) ⟨good2.1, good2.2.1⟩ row2.alt (fun b' off' e => by have q : w1.heap.size + 1 ≤ b' := (by simpa using good2.2.2 b' off' e); have := HH.out.nest.lt; omega) (by have := HH.out.below.size; omega) (by have := HH.out.nest.lt; omega) (by omega) _ _⟩
          · have HY := Lib.hid hy
            have hd := HB.out.rises.le
            clear hy
            go_wp2_with fail
            refine (enter_no _ L d m (F k) _ hd HB.out.nest HY.out).mono ?_
            rintro e w1 ⟨rfl, k1⟩
            have HH := Lib.hid (HB.out.half (HB.out.nest.none k1) HB.out.rises (k1.mono fun _ _ h => h.elim))
            have x0 := HH.out.x0
            have x1 := HH.out.x1
            have sc := HST.out _ HH.out.below
            have lx := lt_of HH.out.ref
            have lb : b < w1.heap.size := Nat.lt_of_lt_of_le hb HH.out.below.size
            have hdc : d ≤ cap := HH.out.good.2
            clear HB hcell k1
            go_wp2_with fail
            go_region_held3 (fun w' => w'.cell? ⟨B0 + 1, 0, none⟩ = some (.slice a d cap) ∧ w'.cell? ⟨B0 + 1, 1, none⟩ = some (.int .i64 (m : Int)) ∧ w'.cell? ⟨b, off + k, none⟩ = some (.int .i64 (F k)))
              (first
                | go_keep
                | exact ⟨y0, y1, y2⟩
                | exact ⟨cell_set2 y0 (by simp; omega) (by simp; omega), cell_set2 y1 (by simp; omega) (by simp; omega), cell_set2 y2 (by simp; omega) (by simp; omega)⟩)
              ((go_at_call 20; refine (nenter_no a d cap m (F k) L _ hd (HH.out.row.none (by first | exact (Keeps.refl _ _).drew | exact ((Keeps.refl _ _).alloc _).drew)) HY.out).mono ?_; rintro e w2 ⟨rfl, k2⟩; have HH2 := Lib.hid (HH.out.none (w2 := w2) (by first | exact (Keeps.refl _ _).drew.trans k2 | exact ((Keeps.refl _ _).alloc _).drew.trans k2)); have y0 := HH2.out.x0; have y1 := HH2.out.x1; have y2 := HST.out _ HH2.out.below; have fx0 := free_of HH2.out.ref 0; have fx1 := free_of HH2.out.ref 1; have lx2 := lt_of HH2.out.ref;  have s2 := k2.size; obtain ⟨zs, zc, zf⟩ := new_at k2 w1.heap.size; (try simp at zs); (try simp at zc); (try simp at zf)))
            · go_wp2_with fail
              go_meet
              exact ⟨d, m, cap, L, a, HH2.out.after rfl HH2.out.row (fun _ _ => rfl) HH2.out.good HH2.out.alt HH2.out.apart _⟩
            · go_wp2_with fail
              go_meet
              exact ⟨d, m, cap, L, a, HH2.out.ahead rfl HH2.out.row (fun _ _ => rfl) HH2.out.good HH2.out.alt (fun b' off' e => ⟨by
                have q : b' < w1.heap.size := HH.out.alt b' off' e
                omega, HH2.out.apart b' off' e⟩) (by have := HH.out.below.size; omega) (by have := HH.out.nest.lt; omega) (by omega) _ _⟩
        · have hd0 : decide (0 ≤ F k) = false := by simp; omega
          rcases d with _ | d
          · go_wp2_with fail
            refine (leave_none _ L m _ HB.out.nest).mono ?_
            rintro e w1 ⟨rfl, rfl⟩
            have HH := Lib.hid (HB.out.half HB.out.nest HB.out.rises (Keeps.refl _ _))
            have x0 := HH.out.x0
            have x1 := HH.out.x1
            go_wp2_with fail
            refine (nleave_none a cap m _).mono ?_
            rintro e w2 ⟨rfl, k2⟩
            have HH2 := Lib.hid (HH.out.none k2)
            have y0 := HH2.out.x0
            have y1 := HH2.out.x1
            have fx0 := free_of HH2.out.ref 0
            have fx1 := free_of HH2.out.ref 1
            have lx2 := lt_of HH2.out.ref
            go_wp2_with fail
            go_meet
            exact ⟨0, m, cap, L, a, HH2.out.after rfl HH2.out.row (fun _ _ => rfl) HH2.out.good HH2.out.alt HH2.out.apart _⟩
          · have hd := HB.out.rises.le
            have hdc : d + 1 ≤ cap := HB.out.good.2
            have hrd := rises_leave HB.out.rises
            go_wp2_with fail
            refine (leave_some _ L d m _ hd HB.out.nest).mono ?_
            rintro e w1 ⟨rfl, n1, k1⟩
            have HH := Lib.hid (HB.out.half n1 hrd k1)
            have x0 := HH.out.x0
            have x1 := HH.out.x1
            clear HB hcell n1 k1
            go_wp2_with fail
            refine (nleave_some a d cap m L _ hd hdc HH.out.row).mono ?_
            rintro e w2 ⟨rfl, k2⟩
            have HH2 := Lib.hid (HH.out.none k2)
            have y0 := HH2.out.x0
            have y1 := HH2.out.x1
            have fx0 := free_of HH2.out.ref 0
            have fx1 := free_of HH2.out.ref 1
            have lx2 := lt_of HH2.out.ref
            go_wp2_with fail
            go_meet
            exact ⟨d, m, cap, L, a, HH2.out.after rfl (HH2.out.row.less (by omega)) (fun _ _ => rfl) ⟨HH2.out.good.1, by have := HH2.out.good.2; omega⟩ HH2.out.alt HH2.out.apart _⟩
      case rest =>
        obtain ⟨d, m, cap, L, a, hB⟩ := hcut
        have HB := Lib.hid (hB.none ((Keeps.refl _ _).drew))
        have x0 := hB.x0
        have x1 := hB.x1
        have hd := hB.rises.le
        clear hB
        go_wp2_with fail
        go_region_held3 (fun w' => w'.cell? ⟨B0 + 1, 0, none⟩ = some (.slice a d cap) ∧ w'.cell? ⟨B0 + 1, 1, none⟩ = some (.int .i64 (m : Int)))
          (first
            | go_keep
            | exact ⟨HB.out.x0, HB.out.x1⟩)
          (first
            | (go_at_call 23; refine (top_any _ L d m _ hd HB.out.nest).mono ?_; rintro e w2 ⟨rfl, k2⟩; replace HB := Lib.hid (HB.out.none k2); clear k2)
            | (go_at_call 24; refine (ntop_any a d cap m L _ hd HB.out.row).mono ?_; rintro e w2 ⟨rfl, k2⟩; replace HB := Lib.hid (HB.out.none k2); clear k2)
            | (go_at_call 25; refine (deep_any _ L d m _ HB.out.nest).mono ?_; rintro e w2 ⟨rfl, rfl⟩)
            | (go_at_call 26; refine (most_any _ L d m _ HB.out.nest).mono ?_; rintro e w2 ⟨rfl, rfl⟩)
            | (go_at_call 28; refine (list_any _ L d m _ hd HB.out.nest).mono ?_; rintro e w2 ⟨g, rfl, hg1, hg2, k2⟩; replace HB := Lib.hid (HB.out.none k2); have HG := Lib.hid hg2; clear k2 hg2)
            | (go_at_call 27; refine (same_list g d cap a L _ hd HG.out HB.out.row).mono ?_; rintro e w2 ⟨rfl, k2⟩; replace HB := Lib.hid (HB.out.none k2); clear k2))
        go_wp2_with fail
        go_roundw
        case rel => exact ⟨k + 1, d, m, cap, L, a, by omega, by go_num, HB.out⟩
        case measure => simp [intOf]; omega
    · obtain rfl : k = n := by omega
      go_wp2_with fail
      refine (alive08_any _).mono ?_
      rintro e w6 ⟨rfl, hb⟩
      go_wp2
      go_ret
      exact ⟨rfl, HB.out.below.trans (hb.mono HB.out.below.size)⟩
theorem nestPlays_large (a0 : Option Addr) (n cap0 : Nat) (w : World) (hm : n ≤ maxLen) (hn : 100 < n) :
    Calls Try.prog 5 #[.slice a0 n cap0] w fun e w' => e = .returned (.bool true) ∧ Below w.heap.size w w' := by
  unfold maxLen at hm
  have hd : decide (100 < (n : Int)) = true := by simp; omega
  go_enter Try.func5, Try.ntmps5
  go_wp2_with fail
  refine (alive08_any _).mono ?_
  rintro e w13 ⟨rfl, hb⟩
  go_wp2
  go_ret
  exact ⟨rfl, hb⟩
set_option maxRecDepth 100000 in
theorem nestPlays_walk {H : Type} {enc : TypeId × Value → H} (W : World) (base : Nat) {v0 : Value} {d0 : DataW H} {p0 : List MemPlace}
    (k0 : Value.okWide Try.prog W .any base 35 v0) (h0 : DataW.Trod enc Try.prog W 0 (fun _ => true) true 35 v0 d0 p0) :
    Calls Try.prog 5 #[v0] W fun e w' => e = .returned (.bool true) ∧ Below W.heap.size W w' := by
  obtain ⟨a, n, cap, F, rfl, hm, hr, _⟩ := row_of k0 h0
  by_cases hn : n ≤ 100
  · exact nestPlays_plain a n cap F W hn hr
  · exact nestPlays_large a n cap W hm (by omega)
end Go.Proofs.Ytffhmlngnnfaeac
