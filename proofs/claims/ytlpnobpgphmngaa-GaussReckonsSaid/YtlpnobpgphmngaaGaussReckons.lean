import Derived.Test.YtlpnobpgphmngaaGaussAlive
import Derived.Test.YtlpnobpgphmngaaGaussDivZ
import Derived.BigRegion
namespace Go.Proofs.Ytlpnobpgphmngaa
open Go.ChangeShapes Go.WideShapes Go.ChangeAt Go.RowKit
set_option linter.unusedVariables false
theorem reckons_large (a b c d k : Int) (l : Option Addr) (n cap : Nat) (w : World) (hn : n ≤ 9223372036854775807) (h : 40 < n) :
    Calls Try.prog 6 #[.agg #[.int .i64 a, .int .i64 b], .agg #[.int .i64 c, .int .i64 d], .int .i64 k, .slice l n cap] w fun e w' => e = .returned (.bool true) ∧ Keeps (fun _ => False) w w' := by
  go_enter Try.func6, Try.ntmps6
  go_wp2_with fail
  refine (alive04_any _).mono ?_
  rintro e w1 ⟨rfl, k1⟩
  go_wp2
  go_ret
  exact ⟨rfl, (((Keeps.refl (fun _ => False) w).alloc _).alloc _).trans k1⟩
/-- The four variables that both answers of the statement are reckoned from. -/
structure RkB (w wr : World) (a b c d : Int) (gx gy : Nat) : Prop where
  keeps : Keeps (fun _ => False) w wr
  a1 : wr.heap[w.heap.size]? = some (.cells #[.int .i64 a, .int .i64 b] 53 (0, 0))
  b1 : wr.heap[w.heap.size + 1]? = some (.cells #[.int .i64 c, .int .i64 d] 53 (0, 0))
  x1 : wr.heap[gx]? = some (.cells #[.int .i64 a, .int .i64 b] 55 (0, 0))
  y1 : wr.heap[gy]? = some (.cells #[.int .i64 c, .int .i64 d] 55 (0, 0))
  hx : gx < w.heap.size + 4
  hy : gy < w.heap.size + 4
theorem RkB.none {w w1 w2 : World} {a b c d : Int} {gx gy : Nat} (h : RkB w w1 a b c d gx gy) (k : Keeps (fun _ => False) w1 w2) : RkB w w2 a b c d gx gy :=
  ⟨h.keeps.trans k, k.at h.a1 fun h => h, k.at h.b1 fun h => h, k.at h.x1 fun h => h, k.at h.y1 fun h => h, h.hx, h.hy⟩
theorem grown_at {w1 w2 : World} {row : Option Nat} {B : Nat} (hg : w1.grownBy w2 row) (hrow : ∀ k, row = some k → B ≤ k) {g : Nat} {o : Obj} (h : w1.heap[g]? = some o) (hb : g < B) : w2.heap[g]? = some o := by
  refine (hg.block g (lt_of h) ?_).trans h
  intro e
  have := hrow g e.symm
  omega
theorem RkB.grown {w w1 w2 : World} {a b c d : Int} {gx gy : Nat} {row : Option Nat} (h : RkB w w1 a b c d gx gy) (hg : w1.grownBy w2 row) (hrow : ∀ k, row = some k → w.heap.size + 4 ≤ k) : RkB w w2 a b c d gx gy :=
  ⟨⟨hg.os.trans h.keeps.os, hg.tape.trans h.keeps.tape, hg.output.trans h.keeps.output, Nat.le_trans h.keeps.size hg.size, fun k hk hs => (hg.block k (Nat.lt_of_lt_of_le hk h.keeps.size) (by intro e; have := hrow k e.symm; omega)).trans (h.keeps.block k hk hs)⟩,
    grown_at hg hrow h.a1 (by omega), grown_at hg hrow h.b1 (by omega), grown_at hg hrow h.x1 h.hx, grown_at hg hrow h.y1 h.hy, h.hx, h.hy⟩
/-- The cells of the first n pairs. -/
def flat (F G : Nat → Int) : Nat → List Value
  | 0 => []
  | n + 1 => flat F G n ++ [.int .i64 (F n), .int .i64 (G n)]
theorem flat_len (F G : Nat → Int) (n : Nat) : (flat F G n).length = n * 2 := by
  induction n with
  | zero => rfl
  | succ n ih => rw [flat, List.length_append, ih]; simp; omega
theorem flat_at (F G : Nat → Int) (n i : Nat) (h : i < n) : (flat F G n)[i * 2]? = some (.int .i64 (F i)) ∧ (flat F G n)[i * 2 + 1]? = some (.int .i64 (G i)) := by
  induction n with
  | zero => omega
  | succ n ih =>
    have hl := flat_len F G n
    rw [flat]
    by_cases hi : i < n
    · rw [List.getElem?_append_left (by omega), List.getElem?_append_left (by omega)]
      exact ih hi
    · obtain rfl : i = n := by omega
      rw [List.getElem?_append_right (by omega), List.getElem?_append_right (by omega), hl]
      simp
theorem rowP_of_owns {w : World} {base : Nat} {v : Value} {n : Nat} {F G : Nat → Int} (h : w.ownsRow base 55 2 v n (flat F G n)) :
    ∃ l cap, v = .slice l n cap ∧ RowP w l n F G := by
  rcases h.2 with ⟨rfl, rfl⟩ | ⟨g, cap, cur, rfl, hb, hg, hn, hc, hs, ht⟩
  · exact ⟨none, 0, rfl, fun h => by omega⟩
  · refine ⟨_, cap, rfl, fun _ => ⟨g, 0, rfl, lt_of hg, fun i hi => ?_⟩⟩
    have hf := flat_at F G n i hi
    rw [← ht] at hf
    have e : ∀ j, j < n * 2 → (cur.toList.take (n * 2))[j]? = cur[j]? := fun j hj => by
      rw [List.getElem?_take_of_lt hj, Array.getElem?_toList]
    rw [e _ (by omega), e _ (by omega)] at hf
    rw [cell_of hg, cell_of hg, Nat.zero_add]
    exact hf
theorem RkB.new1 (w : World) (a b c d : Int) : RkB w ((((w.alloc (.cells #[.int .i64 a, .int .i64 b] 53)).alloc (.cells #[.int .i64 c, .int .i64 d] 53)).alloc (.cells #[.int .i64 c, .int .i64 d] 55)).alloc (.cells #[.int .i64 a, .int .i64 b] 55)).drew a b c d (w.heap.size + 1 + 1 + 1) (w.heap.size + 1 + 1) := by
  obtain ⟨h1, h2, h3⟩ := kept2 (Keeps.refl (fun _ => False) ((w.alloc (.cells #[.int .i64 a, .int .i64 b] 53)).alloc (.cells #[.int .i64 c, .int .i64 d] 53)))
  obtain ⟨k1, k2, k3⟩ := kept2 (Keeps.refl (fun _ => False) ((((w.alloc (.cells #[.int .i64 a, .int .i64 b] 53)).alloc (.cells #[.int .i64 c, .int .i64 d] 53)).alloc (.cells #[.int .i64 c, .int .i64 d] 55)).alloc (.cells #[.int .i64 a, .int .i64 b] 55)))
  have hs : ((w.alloc (.cells #[.int .i64 a, .int .i64 b] 53)).alloc (.cells #[.int .i64 c, .int .i64 d] 53)).heap.size = w.heap.size + 1 + 1 := by simp
  rw [hs] at k1 k2
  exact ⟨(h3.trans k3).drew, heap_old (heap_old h1 _) _, heap_old (heap_old h2 _) _, k2, k1, by omega, by omega⟩
theorem RkB.new2 (w : World) (a b c d : Int) : RkB w ((((w.alloc (.cells #[.int .i64 a, .int .i64 b] 53)).alloc (.cells #[.int .i64 c, .int .i64 d] 53)).alloc (.cells #[.int .i64 a, .int .i64 b] 55)).alloc (.cells #[.int .i64 c, .int .i64 d] 55)).drew a b c d (w.heap.size + 1 + 1) (w.heap.size + 1 + 1 + 1) := by
  obtain ⟨h1, h2, h3⟩ := kept2 (Keeps.refl (fun _ => False) ((w.alloc (.cells #[.int .i64 a, .int .i64 b] 53)).alloc (.cells #[.int .i64 c, .int .i64 d] 53)))
  obtain ⟨k1, k2, k3⟩ := kept2 (Keeps.refl (fun _ => False) ((((w.alloc (.cells #[.int .i64 a, .int .i64 b] 53)).alloc (.cells #[.int .i64 c, .int .i64 d] 53)).alloc (.cells #[.int .i64 a, .int .i64 b] 55)).alloc (.cells #[.int .i64 c, .int .i64 d] 55)))
  have hs : ((w.alloc (.cells #[.int .i64 a, .int .i64 b] 53)).alloc (.cells #[.int .i64 c, .int .i64 d] 53)).heap.size = w.heap.size + 1 + 1 := by simp
  rw [hs] at k1 k2
  exact ⟨(h3.trans k3).drew, heap_old (heap_old h1 _) _, heap_old (heap_old h2 _) _, k1, k2, by omega, by omega⟩
theorem ownsRow_none (w : World) (base : Nat) (e : TypeId) (size : Nat) : w.ownsRow base e size (.slice none 0 0) 0 [] := World.ownsRow_nil w base e size
theorem new_two (w : World) (x y : Value) (E : TypeId) : ∀ (j : Nat) (u : Value), [x, y][j]? = some u → (w.alloc (.cells #[x, y] E)).cell? ((⟨w.heap.size, 0, Option.none⟩ : Addr).add j) = some u := by
  intro j u h
  have e : (⟨w.heap.size, 0, Option.none⟩ : Addr).add j = ⟨w.heap.size, j, Option.none⟩ := by simp [Addr.add]; exact fun h => h.symm
  rw [e, cell_of (heap_new _ _)]
  simpa using h
theorem num_info : (Try.prog.info? 55).map (fun i => (i.zero, i.size, i.bytes)) = some (some (.agg #[.int .i64 0, .int .i64 0]), 2, 16) := by kernel_rfl
end Go.Proofs.Ytlpnobpgphmngaa
