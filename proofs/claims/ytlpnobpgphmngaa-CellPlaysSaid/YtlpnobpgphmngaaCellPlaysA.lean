import Derived.Test.YtlpnobpgphmngaaCellDoD
import Derived.Deep.RegionHeld3
import Derived.Deep.CutRange
namespace Go.Proofs.Ytlpnobpgphmngaa
open Go.ChangeShapes Go.WideShapes Go.ChangeAt Go.RowKit
set_option linter.unusedVariables false
set_option linter.unusedSimpArgs false
/-- A slice of n words, of which N tells, in a block of which P holds. -/
def RowQ (w : World) (P : Nat → Prop) (a : Option Addr) (n : Nat) (N : Nat → Nat) : Prop := 0 < n → ∃ g, a = some ⟨g, 0, none⟩ ∧ P g ∧ g < w.heap.size ∧ ∀ i, i < n → w.cell? ⟨g, i, none⟩ = some (.int .u32 (N i))
theorem RowQ.keeps {S P : Nat → Prop} {w w' : World} {n : Nat} {a : Option Addr} {N : Nat → Nat} (h : RowQ w P a n N) (hk : Keeps S w w') (hs : ∀ k, P k → ¬ S k) : RowQ w' P a n N := by
  intro hn
  obtain ⟨g, ha, hB, hl, hc⟩ := h hn
  exact ⟨g, ha, hB, Nat.lt_of_lt_of_le hl hk.size, fun i hi => (World.cell?_of_block (w := w) (hk.block g hl (hs g hB))).trans (hc i hi)⟩
theorem RowQ.none {P : Nat → Prop} {w w' : World} {n : Nat} {a : Option Addr} {N : Nat → Nat} (h : RowQ w P a n N) (hk : Keeps (fun _ => False) w w') : RowQ w' P a n N := h.keeps hk fun _ _ h => h
theorem RowQ.mono {P Q : Nat → Prop} {w : World} {n : Nat} {a : Option Addr} {N : Nat → Nat} (h : RowQ w P a n N) (hq : ∀ g, P g → g < w.heap.size → Q g) : RowQ w Q a n N := fun hn => by
  obtain ⟨g, ha, hb, hl, h2⟩ := h hn
  exact ⟨g, ha, hq g hb hl, hl, h2⟩
theorem RowB.q {w : World} {B n : Nat} {a : Option Addr} {N : Nat → Nat} (h : RowB w B a n N) : RowQ w (fun g => B ≤ g) a n N := h
theorem RowQ.b {P : Nat → Prop} {w : World} {n : Nat} {a : Option Addr} {N : Nat → Nat} (h : RowQ w P a n N) : RowB w 0 a n N := fun hn => by
  obtain ⟨g, ha, _, h2⟩ := h hn
  exact ⟨g, ha, Nat.zero_le _, h2⟩
/-- One step, of both: whatever it is, both answer the same, and both are turned alike. -/
theorem step_both (kind i : Int) (u n l s : Nat) (N : Nat → Nat) (hmx : n ≤ 60) (hl : l < 1000) (hs : s < 1000) (hN : ∀ k, k < n → N k < 4294967296) (hu : u < 4294967296) :
    ∃ (V : Nat) (ok : Bool) (N' : Nat → Nat) (l' s' : Nat), (∀ k, k < n → N' k < 4294967296) ∧ l' ≤ l + 1 ∧ s' ≤ s + 1 ∧
      (∀ b q w, IsMemC w b q n N l s → Calls Try.prog 52 #[.pointer (some ⟨b, 0, none⟩), .agg #[.int .i64 kind, .int .i64 i, .int .u32 u]] w fun e w' => e = .returned (.tuple #[.int .u32 (V : Int), .bool ok]) ∧ IsMemC w' b q n N' l' s' ∧ Keeps (fun k => k = b ∨ k = q) w w') ∧
      (∀ P a c w, RowQ w P a n N → Calls Try.prog 53 #[.agg #[.slice a n c, .int .i64 (l : Int), .int .i64 (s : Int)], .agg #[.int .i64 kind, .int .i64 i, .int .u32 u]] w fun e w' => ∃ a' c', e = .returned (.tuple #[.agg #[.slice a' n c', .int .i64 (l' : Int), .int .i64 (s' : Int)], .int .u32 (V : Int), .bool ok]) ∧ RowQ w' (fun g => P g ∨ w.heap.size ≤ g) a' n N' ∧ Keeps (fun _ => False) w w') := by
  by_cases h : (0 ≤ i ∧ i < n) ∧ 1 ≤ kind ∧ kind ≤ 5
  · obtain ⟨⟨h0, h1⟩, h2, h3⟩ := h
    obtain ⟨j, rfl⟩ := Int.eq_ofNat_of_zero_le h0
    have hj : j < n := by omega
    refine ⟨dV kind (N j), true, dN kind N j u, dL kind l, dS kind s, ?_, ?_, ?_, ?_, ?_⟩
    · intro k hk
      unfold dN
      split
      · exact dW_lt (hN j hj) hu
      · exact hN k hk
    · unfold dL; split <;> omega
    · unfold dS; split <;> omega
    · intro b q w hm
      exact do_yesC b q n l s j u N kind w hm (by omega) (by omega) hj (hN j hj) hu ⟨h2, h3⟩
    · intro P a c w hr
      rcases (by omega : kind = 1 ∨ kind = 2 ∨ kind = 3 ∨ kind = 4 ∨ kind = 5) with rfl | rfl | rfl | rfl | rfl
      · exact (rdo_yes1 0 n c l s j u a N w (by omega) (by omega) (by omega) hj (hN j hj) hu hr.b).mono fun e w' ⟨a', c', he, h1, h2⟩ => ⟨a', c', he, h1.q.mono fun g hg _ => .inr hg, h2⟩
      · exact (rdo_yes2 0 n c l s j u a N w (by omega) (by omega) (by omega) hj (hN j hj) hu hr.b).mono fun e w' ⟨a', c', he, h1, h2⟩ => ⟨a', c', he, h1.q.mono fun g hg _ => .inr hg, h2⟩
      · exact (rdo_yes3 0 n c l s j u a N w (by omega) (by omega) (by omega) hj (hN j hj) hu hr.b).mono fun e w' ⟨a', c', he, h1, h2⟩ => ⟨a', c', he, h1.q.mono fun g hg _ => .inr hg, h2⟩
      · exact (rdo_yes4 0 n c l s j u a N w (by omega) (by omega) (by omega) hj (hN j hj) hu hr.b).mono fun e w' ⟨a', c', he, h1, h2⟩ => ⟨a', c', he, h1.q.mono fun g hg _ => .inr hg, h2⟩
      · exact (rdo_yes5 0 n c l s j u a N w (by omega) (by omega) (by omega) hj (hN j hj) hu hr.b).mono fun e w' ⟨a', c', he, h1, h2⟩ => ⟨a', c', he, h1.q.mono fun g hg _ => .inr hg, h2⟩
  · refine ⟨0, false, N, l, s, hN, by omega, by omega, ?_, ?_⟩
    · intro b q w hm
      exact (do_noC b q n l s u N kind i w hm h).mono fun e w' ⟨h1, h2⟩ => ⟨h1, hm.none h2, h2.mono fun _ _ h => h.elim⟩
    · intro P a c w hr
      exact (rdo_noC n c l s u a kind i w (by omega) h).mono fun e w' ⟨h1, h2⟩ => ⟨a, c, h1, (hr.none h2).mono fun g hg _ => .inl hg, h2⟩
/-- The program's memory at b and the reference's at x say the same. -/
structure CB (w wr : World) (b q x n : Nat) (N : Nat → Nat) (l s : Nat) (a : Option Addr) (c : Nat) : Prop where
  below : Below w.heap.size w wr
  nb : w.heap.size ≤ b
  nq : w.heap.size ≤ q
  nx : w.heap.size ≤ x
  bx : b ≠ x
  qx : q ≠ x
  mem : IsMemC wr b q n N l s
  ref : wr.heap[x]? = some (.cells #[.slice a n c, .int .i64 (l : Int), .int .i64 (s : Int)] 81 (0, 0))
  row : RowQ wr (fun g => g ≠ b ∧ g ≠ q ∧ g ≠ x) a n N
/-- The program's has turned, the reference's not yet. -/
structure CH (w wr : World) (b q x n : Nat) (N : Nat → Nat) (l s : Nat) (a : Option Addr) (c : Nat) (N' : Nat → Nat) (l' s' : Nat) : Prop where
  below : Below w.heap.size w wr
  nb : w.heap.size ≤ b
  nq : w.heap.size ≤ q
  nx : w.heap.size ≤ x
  bx : b ≠ x
  qx : q ≠ x
  mem : IsMemC wr b q n N' l' s'
  ref : wr.heap[x]? = some (.cells #[.slice a n c, .int .i64 (l : Int), .int .i64 (s : Int)] 81 (0, 0))
  row : RowQ wr (fun g => g ≠ b ∧ g ≠ q ∧ g ≠ x) a n N
section
variable {w w1 w2 W : World} {b q x n l s c l' s' c' y : Nat} {N N' : Nat → Nat} {a a' : Option Addr}
theorem CB.none (h : CB w w1 b q x n N l s a c) (hk : Keeps (fun _ => False) w1 w2) : CB w w2 b q x n N l s a c :=
  ⟨h.below.trans (hk.none.mono h.below.size), h.nb, h.nq, h.nx, h.bx, h.qx, h.mem.none hk, hk.at h.ref fun h => h, h.row.none hk⟩
theorem CH.none (h : CH w w1 b q x n N l s a c N' l' s') (hk : Keeps (fun _ => False) w1 w2) : CH w w2 b q x n N l s a c N' l' s' :=
  ⟨h.below.trans (hk.none.mono h.below.size), h.nb, h.nq, h.nx, h.bx, h.qx, h.mem.none hk, hk.at h.ref fun h => h, h.row.none hk⟩
theorem CB.half (h : CB w w1 b q x n N l s a c) (hm : IsMemC w2 b q n N' l' s') (hk : Keeps (fun k => k = b ∨ k = q) w1 w2) : CH w w2 b q x n N l s a c N' l' s' :=
  ⟨h.below.trans (hk.below h.below.size fun k _ e => by have := h.nb; have := h.nq; omega), h.nb, h.nq, h.nx, h.bx, h.qx, hm, hk.at h.ref (fun e => by have := h.bx; have := h.qx; omega), h.row.keeps hk fun k hp e => by omega⟩
theorem CB.x0 (h : CB w w1 b q x n N l s a c) : w1.cell? ⟨x, 0, Option.none⟩ = some (.slice a n c) := cell_of h.ref 0
theorem CB.x1 (h : CB w w1 b q x n N l s a c) : w1.cell? ⟨x, 1, Option.none⟩ = some (.int .i64 (l : Int)) := cell_of h.ref 1
theorem CB.x2 (h : CB w w1 b q x n N l s a c) : w1.cell? ⟨x, 2, Option.none⟩ = some (.int .i64 (s : Int)) := cell_of h.ref 2
theorem CH.x0 (h : CH w w1 b q x n N l s a c N' l' s') : w1.cell? ⟨x, 0, Option.none⟩ = some (.slice a n c) := cell_of h.ref 0
theorem CH.x1 (h : CH w w1 b q x n N l s a c N' l' s') : w1.cell? ⟨x, 1, Option.none⟩ = some (.int .i64 (l : Int)) := cell_of h.ref 1
theorem CH.x2 (h : CH w w1 b q x n N l s a c N' l' s') : w1.cell? ⟨x, 2, Option.none⟩ = some (.int .i64 (s : Int)) := cell_of h.ref 2
theorem three_set {w : World} {x : Nat} {c0 c1 c2 : Value} {E : TypeId} (h : w.heap[x]? = some (.cells #[c0, c1, c2] E (0, 0))) (v0 v1 v2 : Value) : (((w.setCell ⟨x, 0, Option.none⟩ v0).setCell ⟨x, 1, Option.none⟩ v1).setCell ⟨x, 2, Option.none⟩ v2).heap[x]? = some (.cells #[v0, v1, v2] E (0, 0)) := heap_set (heap_set (heap_set h 0 v0) 1 v1) 2 v2
theorem Keeps.set3 {S : Nat → Prop} {a w : World} (h : Keeps S a w) (x : Nat) (hx : S x) (v0 v1 v2 : Value) : Keeps S a (((w.setCell ⟨x, 0, Option.none⟩ v0).setCell ⟨x, 1, Option.none⟩ v1).setCell ⟨x, 2, Option.none⟩ v2) :=
  ((h.setCell (p := ⟨x, 0, Option.none⟩) (.inl hx) v0).setCell (p := ⟨x, 1, Option.none⟩) (.inl hx) v1).setCell (p := ⟨x, 2, Option.none⟩) (.inl hx) v2
theorem CH.close {S P : Nat → Prop} (h : CH w w2 b q x n N l s a c N' l' s') (hr : RowQ w2 P a' n N') (kW : Keeps S w2 W) (hb : ¬ S b) (hq : ¬ S q) (hS : ∀ k, S k → w.heap.size ≤ k)
    (hP : ∀ g, P g → g < w2.heap.size → ¬ S g ∧ g ≠ b ∧ g ≠ q ∧ g ≠ x) (hx : W.heap[x]? = some (.cells #[.slice a' n c', .int .i64 (l' : Int), .int .i64 (s' : Int)] 81 (0, 0))) : CB w W b q x n N' l' s' a' c' :=
  ⟨h.below.trans (kW.below h.below.size fun k _ => hS k), h.nb, h.nq, h.nx, h.bx, h.qx, h.mem.keeps kW hb hq, hx, ((hr.mono (Q := fun g => ¬ S g ∧ g ≠ b ∧ g ≠ q ∧ g ≠ x) hP).keeps kW fun k hk => hk.1).mono fun g hg _ => hg.2⟩
theorem CH.after {P : Nat → Prop} (h : CH w w2 b q x n N l s a c N' l' s') (hr : RowQ w2 P a' n N') (hP : ∀ g, P g → g < w2.heap.size → g ≠ b ∧ g ≠ q ∧ g ≠ x) (o : Obj) :
    CB w ((((w2.setCell ⟨x, 0, Option.none⟩ (.slice a' n c')).setCell ⟨x, 1, Option.none⟩ (.int .i64 (l' : Int))).setCell ⟨x, 2, Option.none⟩ (.int .i64 (s' : Int))).alloc o) b q x n N' l' s' a' c' :=
  h.close (S := fun k => k = x) hr (((Keeps.refl (fun k => k = x) w2).set3 x rfl _ _ _).alloc o) (fun e => h.bx e) (fun e => h.qx e) (fun k e => by rw [e]; exact h.nx) (fun g hg hl => ⟨(hP g hg hl).2.2, hP g hg hl⟩) (heap_old (three_set h.ref _ _ _) _)
theorem CH.ahead {P : Nat → Prop} (h : CH w w2 b q x n N l s a c N' l' s') (hr : RowQ w2 P a' n N') (hy : w.heap.size ≤ y) (hyb : y ≠ b) (hyq : y ≠ q) (hyx : y ≠ x) (hP : ∀ g, P g → g < w2.heap.size → g ≠ y ∧ g ≠ b ∧ g ≠ q ∧ g ≠ x) (u0 u1 u2 : Value) :
    CB w ((((((w2.setCell ⟨y, 0, Option.none⟩ u0).setCell ⟨y, 1, Option.none⟩ u1).setCell ⟨y, 2, Option.none⟩ u2).setCell ⟨x, 0, Option.none⟩ (.slice a' n c')).setCell ⟨x, 1, Option.none⟩ (.int .i64 (l' : Int))).setCell ⟨x, 2, Option.none⟩ (.int .i64 (s' : Int))) b q x n N' l' s' a' c' :=
  h.close (S := fun k => k = x ∨ k = y) hr (((Keeps.refl (fun k => k = x ∨ k = y) w2).set3 y (.inr rfl) _ _ _).set3 x (.inl rfl) _ _ _) (fun e => by have := h.bx; omega) (fun e => by have := h.qx; omega) (fun k e => by rcases e with e | e <;> rw [e]; exact h.nx; exact hy)
    (fun g hg hl => ⟨by have := hP g hg hl; omega, (hP g hg hl).2⟩) (three_set (heap_other (heap_other (heap_other h.ref (fun e => hyx e.symm) _) (fun e => hyx e.symm) _) (fun e => hyx e.symm) _) _ _ _)
/-- A block that was there ahead of a call. -/
theorem new_at3 {wc w2 : World} (k : Keeps (fun _ => False) wc w2) (y : Nat) : (y < wc.heap.size → y < w2.heap.size) ∧ (y < wc.heap.size → w2.cell? ⟨y, 0, Option.none⟩ = wc.cell? ⟨y, 0, Option.none⟩ ∧ w2.cell? ⟨y, 1, Option.none⟩ = wc.cell? ⟨y, 1, Option.none⟩ ∧ w2.cell? ⟨y, 2, Option.none⟩ = wc.cell? ⟨y, 2, Option.none⟩) ∧
    (y < wc.heap.size → w2.frozen? ⟨y, 0, Option.none⟩ = wc.frozen? ⟨y, 0, Option.none⟩ ∧ w2.frozen? ⟨y, 1, Option.none⟩ = wc.frozen? ⟨y, 1, Option.none⟩ ∧ w2.frozen? ⟨y, 2, Option.none⟩ = wc.frozen? ⟨y, 2, Option.none⟩) :=
  ⟨fun h => Nat.lt_of_lt_of_le h k.size, fun h => ⟨World.cell?_of_block (w := wc) (k.block y h fun h => h), World.cell?_of_block (w := wc) (k.block y h fun h => h), World.cell?_of_block (w := wc) (k.block y h fun h => h)⟩, fun h => ⟨World.frozen?_of_block (w := wc) (k.block y h fun h => h), World.frozen?_of_block (w := wc) (k.block y h fun h => h), World.frozen?_of_block (w := wc) (k.block y h fun h => h)⟩⟩
theorem cell_far3 {w : World} {a : Addr} {x : Nat} {v u0 u1 u2 : Value} (h : w.cell? a = some v) (hp : a.block ≠ x) : (((w.setCell ⟨x, 0, Option.none⟩ u0).setCell ⟨x, 1, Option.none⟩ u1).setCell ⟨x, 2, Option.none⟩ u2).cell? a = some v :=
  cell_far (cell_far (cell_far h hp _) hp _) hp _
end
/-- A slice that came in. -/
def Src (w : World) (a : Option Addr) (n cap : Nat) (N : Nat → Nat) : Prop :=
  (a = none ∧ n = 0 ∧ cap = 0) ∨ ∃ ad, a = some ad ∧ (0 < n → ∃ b off, ad = ⟨b, off, none⟩ ∧ b < w.heap.size ∧ ∀ i, i < n → w.cell? ⟨b, off + i, none⟩ = some (.int .u32 (N i)))
theorem Src.none {w w' : World} {a : Option Addr} {n cap : Nat} {N : Nat → Nat} (h : Src w a n cap N) (hk : Keeps (fun _ => False) w w') : Src w' a n cap N := by
  rcases h with h | ⟨ad, ha, h⟩
  · exact .inl h
  · refine .inr ⟨ad, ha, fun hn => ?_⟩
    obtain ⟨b, off, h1, h2, h3⟩ := h hn
    exact ⟨b, off, h1, Nat.lt_of_lt_of_le h2 hk.size, fun i hi => (World.cell?_of_block (w := w) (hk.block b h2 fun h => h)).trans (h3 i hi)⟩
theorem of_src (a : Option Addr) (n cap : Nat) (N : Nat → Nat) (w : World) (hn : n ≤ 60) (h : Src w a n cap N) :
    Calls Try.prog 50 #[.slice a n cap] w fun e w' => e = .returned (.pointer (some ⟨w.heap.size + 1, 0, none⟩)) ∧ IsMemC w' (w.heap.size + 1) w.heap.size n N 0 0 ∧ Keeps (fun _ => False) w w' := by
  rcases Nat.eq_zero_or_pos n with rfl | hp
  · exact of_zeroC a cap N w
  · rcases h with ⟨_, h, _⟩ | ⟨ad, rfl, h⟩
    · omega
    · obtain ⟨b, off, rfl, h2, h3⟩ := h hp
      exact of_someC b off n cap N w (by omega) hp h2 h3
theorem rof_src (a : Option Addr) (n cap : Nat) (N : Nat → Nat) (w : World) (hn : n ≤ 60) (h : Src w a n cap N) :
    Calls Try.prog 51 #[.slice a n cap] w fun e w' => ∃ a' cap', e = .returned (.agg #[.slice a' n cap', .int .i64 0, .int .i64 0]) ∧ RowB w' w.heap.size a' n N ∧ Keeps (fun _ => False) w w' := by
  rcases h with ⟨rfl, rfl, rfl⟩ | ⟨ad, rfl, h⟩
  · exact rof_nil N w
  · refine rof_some ad n cap N w (by omega) ?_
    rcases Nat.eq_zero_or_pos n with rfl | hp
    · intro j u hj; simp [words] at hj
    · obtain ⟨b, off, rfl, h2, h3⟩ := h hp
      refine words_cells fun i hi => ?_
      have k0 : Keeps (fun _ => False) w ((w.alloc (.cells #[.slice Option.none 0 0, .int .i64 0, .int .i64 0] 81)).alloc (.cells #[] 26)) := ((Keeps.refl _ w).alloc _).alloc _
      exact (World.cell?_of_block (w := w) (k0.block b h2 fun h => h)).trans (h3 i hi)
theorem of_row6 (P : Nat → Prop) (a : Option Addr) (n cap : Nat) (N : Nat → Nat) (w : World) (hn : n ≤ 60) (h : RowQ w P a n N) :
    Calls Try.prog 50 #[.slice a n cap] w fun e w' => e = .returned (.pointer (some ⟨w.heap.size + 1, 0, none⟩)) ∧ IsMemC w' (w.heap.size + 1) w.heap.size n N 0 0 ∧ Keeps (fun _ => False) w w' := by
  rcases Nat.eq_zero_or_pos n with rfl | hp
  · exact of_zeroC a cap N w
  · obtain ⟨g, rfl, _, h2, h3⟩ := h hp
    exact of_someC g 0 n cap N w (by omega) hp h2 (fun i hi => by rw [Nat.zero_add]; exact h3 i hi)
theorem rwords_any (g n c0 c1 : Nat) (a : Option Addr) (N : Nat → Nat) (w : World) (hn : n ≤ 60) (h0 : w.heap[g]? = some (.cells (words N n).toArray 26 (0, 0))) (h1 : 0 < n → ∃ g1, a = some ⟨g1, 0, none⟩ ∧ ∀ i, i < n → w.cell? ⟨g1, i, none⟩ = some (.int .u32 (N i))) :
    Calls Try.prog 29 #[.slice (some ⟨g, 0, none⟩) n c0, .slice a n c1] w fun e w' => e = .returned (.bool true) ∧ Keeps (fun _ => False) w w' := by
  have H0 := Lib.hid h0
  have H1 := Lib.hid h1
  clear h0 h1
  go_enter Try.func29, Try.ntmps29
  go_wp2_with fail
  obtain ⟨wo, rfl⟩ : ∃ wo : World, wo = w := ⟨_, rfl⟩
  go_loopw [5] (fun i wr => ∃ k m : Nat, k ≤ n ∧ i = .int .i64 k ∧ wr = wo.drewN m) (fun i _ => n - (intOf i).toNat)
  case atStart => exact ⟨0, 0, by omega, rfl, rfl⟩
  case round =>
    obtain ⟨k, m, hk, rfl, rfl⟩ := hrel
    by_cases hlt : k < n
    · obtain ⟨g1, rfl, hc1⟩ := H1.out (by omega)
      have c0 : wo.cell? ⟨g, k, none⟩ = some (.int .u32 (N k)) := (cell_of H0.out k).trans (words_get N n k hlt)
      have c1 := hc1 k hlt
      clear hc1
      go_wp2_with fail
      go_quiet (fail)
      go_wp2
      go_roundw
      case rel => exact ⟨k + 1, m + nq, by omega, by go_num, rfl⟩
      case measure => simp [intOf]; omega
    · obtain rfl : k = n := by omega
      go_wp2
      go_ret
      exact ⟨rfl, (Keeps.refl _ _).drewN m⟩
end Go.Proofs.Ytlpnobpgphmngaa
