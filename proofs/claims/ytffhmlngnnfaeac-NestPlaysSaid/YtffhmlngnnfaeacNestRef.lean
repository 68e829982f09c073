import Derived.Test.YtffhmlngnnfaeacNest
import Derived.Test.YtffhmlngnnfaeacRow
import Derived.Deep.RegionHeld3
import Derived.Laws.AppendOwnNone
import Derived.Handy
import Derived.IntWalk
namespace Go.Proofs.Ytffhmlngnnfaeac
open Go.ChangeShapes Go.WideShapes Go.ChangeAt Go.RowKit
set_option linter.unusedVariables false
theorem ntop_any (a : Option Addr) (d cap : Nat) (m : Int) (L : Nat → Int) (w : World) (hd : d ≤ 32) (h : Row w a d L) :
    Calls Try.prog 24 #[.agg #[.slice a d cap, .int .i64 m]] w fun e w' => e = .returned (.int .i64 (topV L d)) ∧ Keeps (fun _ => False) w w' := by
  match d, hd, h with
  | 0, _, h =>
    go_enter Try.func24, Try.ntmps24
    go_wp2
    go_ret
    exact ⟨rfl, (Keeps.refl _ _).alloc _⟩
  | d + 1, hd, h =>
    obtain ⟨b, off, rfl, hb, hc⟩ := h (by omega)
    have c0 : w.cell? ⟨b, off + d, none⟩ = some (.int .i64 (L d)) := hc d (by omega)
    have hz : (((d + 1 : Nat) : Int) == 0) = false := beq_eq_false_iff_ne.2 (by omega)
    have hpos : (0 : Int) < ((d + 1 : Nat) : Int) := by omega
    have e1 : (((d + 1 : Nat) : Int) - 1) = (d : Int) := by omega
    clear h hc
    go_enter Try.func24, Try.ntmps24
    go_wp2
    go_ret
    exact ⟨rfl, (Keeps.refl _ _).alloc _⟩
theorem nenter_no (a : Option Addr) (d cap : Nat) (m k : Int) (L : Nat → Int) (w : World) (hd : d ≤ 32) (h : Row w a d L) (hn : ¬ (topV L d < k ∧ 0 ≤ k ∧ k ≤ 31)) :
    Calls Try.prog 20 #[.agg #[.slice a d cap, .int .i64 m], .int .i64 k] w fun e w' => e = .returned (.tuple #[.agg #[.slice a d cap, .int .i64 m], .bool false]) ∧ Keeps (fun _ => False) w w' := by
  rcases (by omega : k < 0 ∨ 31 < k ∨ (0 ≤ k ∧ k ≤ 31 ∧ k ≤ topV L d)) with hk | hk | ⟨hk1, hk2, hk⟩
  · clear hn
    go_enter Try.func20, Try.ntmps20
    go_wp2_with fail
    exact bodyPost_ret (v := .tuple #[.agg #[.slice a d cap, .int .i64 m], .bool false]) (by simp [results, Try.results20, go_sem]) rfl ⟨rfl, ((Keeps.refl _ _).alloc _).alloc _⟩
  · clear hn
    have hk0 : ¬ k < 0 := by omega
    go_enter Try.func20, Try.ntmps20
    go_wp2_with fail
    exact bodyPost_ret (v := .tuple #[.agg #[.slice a d cap, .int .i64 m], .bool false]) (by simp [results, Try.results20, go_sem]) rfl ⟨rfl, ((Keeps.refl _ _).alloc _).alloc _⟩
  · have H := Lib.hid h
    have HK := Lib.hid hk
    clear hn h hk
    go_enter Try.func20, Try.ntmps20
    go_wp2_with fail
    refine (ntop_any a d cap m L _ hd (H.out.none (((Keeps.refl _ _).alloc _).alloc _))).mono ?_
    rintro e w1 ⟨rfl, k1⟩
    have hle := HK.out
    generalize topV L d = tp at *
    have hbx : w1.heap[w.heap.size]? = some (.cells #[.slice a d cap, .int .i64 m] 48 (0, 0)) := k1.at (heap_old (heap_new _ _) _) fun h => h
    have hbr : w1.heap[w.heap.size + 1]? = some (.cells #[.slice none 0 0, .int .i64 0] 48 (0, 0)) := k1.at (by
      have := heap_new (w.alloc (.cells #[.slice a d cap, .int .i64 m] 48)) (.cells #[.slice none 0 0, .int .i64 0] 48)
      simpa using this) fun h => h
    have x0 : w1.cell? ⟨w.heap.size, 0, none⟩ = some (.slice a d cap) := cell_of hbx 0
    have x1 : w1.cell? ⟨w.heap.size, 1, none⟩ = some (.int .i64 m) := cell_of hbx 1
    have r0 : w1.cell? ⟨w.heap.size + 1, 0, none⟩ = some (.slice none 0 0) := cell_of hbr 0
    have r1 : w1.cell? ⟨w.heap.size + 1, 1, none⟩ = some (.int .i64 0) := cell_of hbr 1
    have fr0 : w1.frozen? ⟨w.heap.size + 1, 0, none⟩ = false := free_of hbr 0
    have fr1 : w1.frozen? ⟨w.heap.size + 1, 1, none⟩ = false := free_of hbr 1
    have l1 := lt_of hbx
    have l2 := lt_of hbr
    have K1 := Lib.hid ((((Keeps.refl (fun _ => False) w).alloc (.cells #[.slice a d cap, .int .i64 m] 48)).alloc (.cells #[.slice none 0 0, .int .i64 0] 48)).trans k1)
    clear k1 hbx hbr
    go_wp2
    refine bodyPost_ret (v := .tuple #[.agg #[.slice a d cap, .int .i64 m], .bool false]) (by simp [results, Try.results20, go_sem, *]) rfl ⟨rfl, ?_⟩
    exact (K1.out.setCell (.inr (by simp)) _).setCell (.inr (by simp)) _
theorem Try.infoI : (Try.prog.info? 3).map (fun i => (i.zero, i.size, i.bytes)) = some (some (.int .i64 0), 1, 8) := by kernel_rfl
theorem owns_slice {w : World} {B : Nat} {E : TypeId} {v : Value} {n : Nat} {xs : List Value} (h : w.ownsRow B E 1 v n xs) : ∃ a cap, v = .slice a n cap := by
  obtain ⟨_, h | ⟨g, cap, cur, rfl, _⟩⟩ := h
  · exact ⟨none, 0, by rw [h.1, h.2]⟩
  · exact ⟨_, cap, rfl⟩
theorem own_cap {w : World} {B : Nat} {E : TypeId} {a : Option Addr} {n cap : Nat} {xs : List Value} (h : w.ownsRow B E 1 (.slice a n cap) n xs) : a = none → cap = 0 := by
  obtain ⟨_, h | ⟨g, c, cur, hv, _⟩⟩ := h
  · injection h.1 with _ _ h3; exact fun _ => h3
  · injection hv with h1; intro e; rw [e] at h1; cases h1
/-- What a row that a call made is good for: its address, its room, and that it is new. -/
def Good (B : Nat) (a : Option Addr) (cap n : Nat) : Prop := (a = none → cap = 0) ∧ n ≤ cap ∧ ∀ b off, a = some ⟨b, off, none⟩ → B ≤ b
theorem own_good {w : World} {B B' : Nat} {E : TypeId} {a : Option Addr} {n cap : Nat} {xs : List Value} (h : w.ownsRow B E 1 (.slice a n cap) n xs) (hB : B' ≤ B) : Good B' a cap n := by
  refine ⟨own_cap h, ?_, ?_⟩
  · obtain ⟨_, h | ⟨g, c, cur, hv, _, _, hc, _⟩⟩ := h
    · omega
    · injection hv with _ _ h3; omega
  · obtain ⟨_, h | ⟨g, c, cur, hv, hg, _⟩⟩ := h
    · intro b off e
      injection h.1 with h1; rw [h1] at e; cases e
    · intro b off e
      injection hv with h1
      rw [h1] at e
      injection e with e
      injection e with e1
      omega
theorem enter_facts {b r B : Nat} {w1 w2 : World} {x0 x1 : Value} {E1 E2 : TypeId} (hb : Below B w1 w2) (h1 : b < B) (h2 : r < B) (hbx : w1.heap[b]? = some (.cells #[x0, x1] E1 (0, 0))) (hbr : w1.heap[r]? = some (.cells #[.slice none 0 0, .int .i64 0] E2 (0, 0))) :
    w2.cell? ⟨b, 1, none⟩ = some x1 ∧ w2.cell? ⟨r, 0, none⟩ = some (.slice none 0 0) ∧ w2.cell? ⟨r, 1, none⟩ = some (.int .i64 0) ∧ w2.frozen? ⟨r, 0, none⟩ = false ∧ w2.frozen? ⟨r, 1, none⟩ = false ∧ w2.heap[r]? = some (.cells #[.slice none 0 0, .int .i64 0] E2 (0, 0)) := by
  have g1 := Below.at hb hbx h1
  have g2 := Below.at hb hbr h2
  exact ⟨cell_of g1 1, cell_of g2 0, cell_of g2 1, free_of g2 0, free_of g2 1, g2⟩
theorem enter_close {w w1 w2 : World} {a' : Option Addr} {d cap' : Nat} {E : TypeId} (F : Nat → Int) (K1 : Keeps (fun _ => False) w w1) (hs : w.heap.size + 2 ≤ w1.heap.size) (o2 : w2.ownsRow (w.heap.size + 2) E 1 (.slice a' (d + 1) cap') (d + 1) (nums F (d + 1))) (b2 : Below (w.heap.size + 2) w1 w2) (u v : Value) :
    Row ((w2.setCell ⟨w.heap.size + 1, 0, none⟩ u).setCell ⟨w.heap.size + 1, 1, none⟩ v) a' (d + 1) F ∧ Good w.heap.size a' cap' (d + 1) ∧ Keeps (fun _ => False) w ((w2.setCell ⟨w.heap.size + 1, 0, none⟩ u).setCell ⟨w.heap.size + 1, 1, none⟩ v) := by
  have kk : Keeps (fun _ => False) w w2 := Keeps.ofBelow (K1.none.trans (b2.mono (by omega)))
  refine ⟨?_, own_good o2 (by omega), (kk.setCell (.inr (by simp)) _).setCell (.inr (by simp)) _⟩
  obtain ⟨a3, c3, e3, h3⟩ := Row.ofOwn (ownsRow_setCell_below (ownsRow_setCell_below o2 (a := ⟨w.heap.size + 1, 0, none⟩) (by simp) u) (a := ⟨w.heap.size + 1, 1, none⟩) (by simp) v)
  injection e3 with e3 _ _
  rw [e3]; exact h3
theorem nums_snoc (L : Nat → Int) (d : Nat) (k : Int) : nums L d ++ [Value.int .i64 k] = nums (fun i => if i = d then k else L i) (d + 1) := by
  unfold nums
  rw [List.range_succ, List.map_append]
  congr 1
  · apply List.map_congr_left
    intro i hi
    have : i ≠ d := by simp at hi; omega
    simp [this]
  · simp
/-- What stands in Enter behind its question for the top. -/
structure EnterAt (w w1 : World) (a : Option Addr) (d cap : Nat) (m : Int) : Prop where
  keeps : Keeps (fun _ => False) w w1
  bx : w1.heap[w.heap.size]? = some (.cells #[.slice a d cap, .int .i64 m] 48 (0, 0))
  br : w1.heap[w.heap.size + 1]? = some (.cells #[.slice none 0 0, .int .i64 0] 48 (0, 0))
theorem EnterAt.mk' {w w1 : World} {a : Option Addr} {d cap : Nat} {m : Int} (k1 : Keeps (fun _ => False) ((w.alloc (.cells #[.slice a d cap, .int .i64 m] 48)).alloc (.cells #[.slice none 0 0, .int .i64 0] 48)) w1) : EnterAt w w1 a d cap m :=
  ⟨((((Keeps.refl (fun _ => False) w).alloc (.cells #[.slice a d cap, .int .i64 m] 48)).alloc (.cells #[.slice none 0 0, .int .i64 0] 48)).trans k1),
    k1.at (heap_old (heap_new _ _) _) fun h => h,
    k1.at (by
      have := heap_new (w.alloc (.cells #[.slice a d cap, .int .i64 m] 48)) (.cells #[.slice none 0 0, .int .i64 0] 48)
      simpa using this) fun h => h⟩

set_option maxHeartbeats 1000000 in
theorem nenter_new (m k : Int) (L : Nat → Int) (w : World) (hk0 : 0 ≤ k) (hk31 : k ≤ 31) :
    Calls Try.prog 20 #[.agg #[.slice none 0 0, .int .i64 m], .int .i64 k] w fun e w' => ∃ a' cap', e = .returned (.tuple #[.agg #[.slice a' 1 cap', .int .i64 (max m 1)], .bool true]) ∧ Row w' a' 1 (fun i => if i = 0 then k else L i) ∧ Good w.heap.size a' cap' 1 ∧ Keeps (fun _ => False) w w' := by
  go_enter Try.func20, Try.ntmps20
  go_wp2_with fail
  refine (ntop_any none 0 0 m L _ (by omega) (fun h => by omega)).mono ?_
  rintro e w1 ⟨rfl, k1⟩
  have A1 := Lib.hid (EnterAt.mk' k1)
  have x0 : w1.cell? ⟨w.heap.size, 0, none⟩ = some (.slice none 0 0) := cell_of A1.out.bx 0
  have l1 := lt_of A1.out.bx
  have l2 := lt_of A1.out.br
  have hz : topV L 0 = -1 := rfl
  rw [hz]
  clear k1 hz
  obtain ⟨i0, hi, hz0, hz1, hz2⟩ := info_parts Try.infoI
  have hmk := made_none w1 (w.heap.size + 2) 3 (by omega)
  have hc1 : ∀ (j : Nat) (u : Value), [Value.int .i64 k][j]? = some u → ((w1.alloc (.cells #[] 3)).alloc (.cells #[.int .i64 k] 3)).cell? ((⟨w1.heap.size + 1, 0, none⟩ : Addr).add j) = some u := by
    have := new_one (w1.alloc (.cells #[] 3)) (.int .i64 k) 3
    simpa using this
  have HC1 := Lib.hid hc1
  clear hc1
  go_wp2_with (first
    | (at_builtin; refine wpList_append_own_none rfl (.tmp 20) (.tmp 22) 35 rfl (w.heap.size + 2) 3 i0 1 Try.underlying35 hi _ 0 [] rfl hmk rfl ?_)
    | (at_builtin; refine wpList_append_own _ rfl (.tmp 23) (.tmp 25) 35 rfl (w.heap.size + 2) 3 i0 (.int .i64 0) 1 8 Try.underlying35 hi hz0 hz1 hz2 rfl (by decide) _ 0 [] rfl (hmk.alloc _) ⟨w1.heap.size + 1, 0, none⟩ 1 1 [.int .i64 k] rfl rfl HC1.out (by simp [Value.oneCell']) (by unfold maxLen; omega) (by omega) (by simp; omega) ?_; intro v' w2 hown2 hgrow _; have hb2 := (((Below.refl (w.heap.size + 2) w1).alloc (by omega) (.cells #[] 3)).alloc (by simp; omega) (.cells #[.int .i64 k] 3)).grown hgrow (by simp; omega) (fun j hj => (hmk.lt j hj).1); obtain ⟨y1, r0, r1, f0, f1, g2⟩ := enter_facts hb2 (by omega) (by omega) A1.out.bx A1.out.br; have s2 := hb2.size; have hown3 : w2.ownsRow (w.heap.size + 2) 3 1 v' (0 + 1) (nums (fun i => if i = 0 then k else L i) (0 + 1)) := (by rw [← nums_snoc L 0 k]; exact hown2); have G2 := Lib.hid (And.intro hown3 hb2); obtain ⟨a', cap', rfl⟩ := owns_slice hown2; clear hown2 hown3 hgrow hb2 g2))
  all_goals
    refine bodyPost_ret (v := .tuple #[.agg #[.slice a' 1 cap', .int .i64 (max m 1)], .bool true]) (by simp [results, Try.results20, go_sem, *] <;> omega) rfl ⟨a', cap', rfl, enter_close (fun i => if i = 0 then k else L i) A1.out.keeps (by omega) G2.out.1 G2.out.2 _ _⟩
theorem Row.cells_of {w : World} {ad : Addr} {n : Nat} {F : Nat → Int} (h : Row w (some ad) n F) : ∀ (j : Nat) (u : Value), (nums F n)[j]? = some u → w.cell? (ad.add j) = some u := by
  intro j u hj
  have hn : 0 < n := by
    rcases Nat.eq_zero_or_pos n with rfl | h
    · simp [nums] at hj
    · exact h
  obtain ⟨b, off, e, hb, hc⟩ := h hn
  obtain rfl := Option.some.inj e
  exact Row.cells hc j u hj
set_option maxHeartbeats 1000000 in
theorem nenter_more (ad : Addr) (d cap : Nat) (m k : Int) (L : Nat → Int) (w : World) (hd : d < 32) (h : Row w (some ad) d L) (hk : topV L d < k) (hk0 : 0 ≤ k) (hk31 : k ≤ 31) :
    Calls Try.prog 20 #[.agg #[.slice (some ad) d cap, .int .i64 m], .int .i64 k] w fun e w' => ∃ a' cap', e = .returned (.tuple #[.agg #[.slice a' (d + 1 : Nat) cap', .int .i64 (max m ((d + 1 : Nat) : Int))], .bool true]) ∧ Row w' a' (d + 1) (fun i => if i = d then k else L i) ∧ Good w.heap.size a' cap' (d + 1) ∧ Keeps (fun _ => False) w w' := by
  have HR := Lib.hid h
  have HK := Lib.hid hk
  clear h hk
  go_enter Try.func20, Try.ntmps20
  go_wp2_with fail
  refine (ntop_any (some ad) d cap m L _ (by omega) (HR.out.none (((Keeps.refl _ _).alloc _).alloc _))).mono ?_
  rintro e w1 ⟨rfl, k1⟩
  have A1 := Lib.hid (EnterAt.mk' k1)
  have x0 : w1.cell? ⟨w.heap.size, 0, none⟩ = some (.slice (some ad) d cap) := cell_of A1.out.bx 0
  have l1 := lt_of A1.out.bx
  have l2 := lt_of A1.out.br
  have hlt := HK.out
  generalize htp : topV L d = tp at *
  clear k1 htp
  obtain ⟨i0, hi, hz0, hz1, hz2⟩ := info_parts Try.infoI
  have hmk := made_none w1 (w.heap.size + 2) 3 (by omega)
  have HC0 := Lib.hid ((HR.out.none (A1.out.keeps.alloc (.cells #[] 3))).cells_of)
  go_wp2_with (first
    | (at_builtin; refine wpList_append_own _ rfl (.tmp 20) (.tmp 22) 35 rfl (w.heap.size + 2) 3 i0 (.int .i64 0) 1 8 Try.underlying35 hi hz0 hz1 hz2 rfl (by decide) _ 0 [] rfl hmk ad d cap (nums L d) rfl (by rw [nums_len]; omega) HC0.out (by simp [nums, Value.oneCell']) (by unfold maxLen; omega) (by omega) (by simp; omega) ?_; intro v3 w3 hown3 hgrow3 _; have O3 := Lib.hid hown3; have B3 := Lib.hid (((Below.refl (w.heap.size + 2) w1).alloc (by omega) (.cells #[] 3)).grown hgrow3 (by simp; omega) (fun j hj => (hmk.lt j hj).1)); have s3 := B3.out.size; clear hown3 hgrow3)
    | (at_builtin; refine wpList_append_own _ rfl (.tmp 23) (.tmp 25) 35 rfl (w.heap.size + 2) 3 i0 (.int .i64 0) 1 8 Try.underlying35 hi hz0 hz1 hz2 rfl (by decide) v3 (0 + d) ([] ++ nums L d) rfl (O3.out.alloc _) ⟨w3.heap.size, 0, none⟩ 1 1 [.int .i64 k] rfl rfl (new_one w3 _ _) (by simp [Value.oneCell']) (by unfold maxLen; omega) (by omega) (by simp; omega) ?_; intro v' w2 hown2 hgrow _; have hb2 := (B3.out.alloc (by omega) (.cells #[.int .i64 k] 3)).grown hgrow (by simp; omega) (fun j hj => (O3.out.lt j hj).1); obtain ⟨y1, r0, r1, f0, f1, g2⟩ := enter_facts hb2 (by omega) (by omega) A1.out.bx A1.out.br; have s2 := hb2.size; have hown4 : w2.ownsRow (w.heap.size + 2) 3 1 v' (d + 1) (nums (fun i => if i = d then k else L i) (d + 1)) := (by rw [← nums_snoc L d k]; simpa using hown2); have G2 := Lib.hid (And.intro hown4 hb2); obtain ⟨a', cap', rfl⟩ := owns_slice hown4; clear hown2 hown4 hgrow hb2 g2))
  all_goals
    refine bodyPost_ret (v := .tuple #[.agg #[.slice a' (d + 1) cap', .int .i64 (max m ((d : Int) + 1))], .bool true]) (by simp [results, Try.results20, go_sem, *] <;> omega) rfl ⟨a', cap', rfl, enter_close (fun i => if i = d then k else L i) A1.out.keeps (by omega) G2.out.1 G2.out.2 _ _⟩
theorem nenter_yes (a : Option Addr) (d cap : Nat) (m k : Int) (L : Nat → Int) (w : World) (hd : d < 32) (h : Row w a d L) (hcap : a = none → cap = 0) (hk : topV L d < k) (hk0 : 0 ≤ k) (hk31 : k ≤ 31) :
    Calls Try.prog 20 #[.agg #[.slice a d cap, .int .i64 m], .int .i64 k] w fun e w' => ∃ a' cap', e = .returned (.tuple #[.agg #[.slice a' (d + 1 : Nat) cap', .int .i64 (max m ((d + 1 : Nat) : Int))], .bool true]) ∧ Row w' a' (d + 1) (fun i => if i = d then k else L i) ∧ Good w.heap.size a' cap' (d + 1) ∧ Keeps (fun _ => False) w w' := by
  cases a with
  | none =>
    obtain rfl := hcap rfl
    obtain rfl : d = 0 := by
      rcases Nat.eq_zero_or_pos d with h0 | h0
      · exact h0
      · obtain ⟨b, off, e, _⟩ := h h0; cases e
    exact nenter_new m k L w hk0 hk31
  | some ad => exact nenter_more ad d cap m k L w hd h hk hk0 hk31
theorem nleave_none (a : Option Addr) (cap : Nat) (m : Int) (w : World) :
    Calls Try.prog 22 #[.agg #[.slice a 0 cap, .int .i64 m]] w fun e w' => e = .returned (.tuple #[.agg #[.slice a 0 cap, .int .i64 m], .int .i64 0, .bool false]) ∧ Keeps (fun _ => False) w w' := by
  go_enter Try.func22, Try.ntmps22
  go_wp2
  exact bodyPost_ret (v := .tuple #[.agg #[.slice a 0 cap, .int .i64 m], .int .i64 0, .bool false]) (by simp [results, Try.results22, go_sem]) rfl ⟨rfl, ((Keeps.refl _ _).alloc _).alloc _⟩
theorem leave_S {w w0 w9 : World} {a : Option Addr} {d cap : Nat} {m : Int} (h0 : w0.heap = ((w.alloc (.cells #[.slice a d cap, .int .i64 m] 48)).alloc (.cells #[.slice none 0 0, .int .i64 0] 48)).heap) (k : Keeps (fun _ => False) w0 w9) :
    w9.cell? ⟨w.heap.size, 0, none⟩ = some (.slice a d cap) ∧ w9.cell? ⟨w.heap.size, 1, none⟩ = some (.int .i64 m) ∧ w9.cell? ⟨w.heap.size + 1, 0, none⟩ = some (.slice none 0 0) ∧ w9.cell? ⟨w.heap.size + 1, 1, none⟩ = some (.int .i64 0) ∧ w9.frozen? ⟨w.heap.size + 1, 0, none⟩ = false ∧ w9.frozen? ⟨w.heap.size + 1, 1, none⟩ = false := by
  have k' : Keeps (fun _ => False) ((w.alloc (.cells #[.slice a d cap, .int .i64 m] 48)).alloc (.cells #[.slice none 0 0, .int .i64 0] 48)) { w9 with os := w.os, tape := w.tape, output := w.output } :=
    ⟨rfl, rfl, rfl, by rw [← h0]; exact k.size, fun j hj hs => by rw [← h0] at hj ⊢; exact k.block j hj hs⟩
  have h := EnterAt.mk' k'
  have h1 : w9.heap[w.heap.size]? = some (.cells #[.slice a d cap, .int .i64 m] 48 (0, 0)) := h.bx
  have h2 : w9.heap[w.heap.size + 1]? = some (.cells #[.slice none 0 0, .int .i64 0] 48 (0, 0)) := h.br
  exact ⟨cell_of h1 0, cell_of h1 1, cell_of h2 0, cell_of h2 1, free_of h2 0, free_of h2 1⟩
set_option maxHeartbeats 1000000 in
theorem nleave_some (a : Option Addr) (d cap : Nat) (m : Int) (L : Nat → Int) (w : World) (hd : d + 1 ≤ 32) (hcap : d + 1 ≤ cap) (h : Row w a (d + 1) L) :
    Calls Try.prog 22 #[.agg #[.slice a (d + 1 : Nat) cap, .int .i64 m]] w fun e w' => e = .returned (.tuple #[.agg #[.slice a d cap, .int .i64 m], .int .i64 (L d), .bool true]) ∧ Keeps (fun _ => False) w w' := by
  obtain ⟨b, off, rfl, hb, hc⟩ := h (by omega)
  have HR := Lib.hid h
  have hz : (((d + 1 : Nat) : Int) == 0) = false := beq_eq_false_iff_ne.2 (by omega)
  have g0 : (0 : Int) ≤ (d : Int) := by omega
  have g1 : (d : Int) ≤ (cap : Int) := by omega
  have g2 : (0 : Int) < (cap : Int) := by omega
  have g3 : ¬ cap = 0 := by omega
  have e3 : IntKind.i64.wrap (d : Int) = (d : Int) := by rw [IntWalk.i64_in _ (by omega)]
  have e2 : IntKind.i64.wrap ((d : Int) + 1 - 1) = (d : Int) := by rw [IntWalk.i64_in _ (by omega)]; omega
  clear h hc
  go_enter Try.func22, Try.ntmps22
  go_wp2_with fail
  go_region_held3 (fun w' => w'.cell? ⟨w.heap.size, 0, none⟩ = some (.slice (some ⟨b, off, none⟩) (d + 1) cap) ∧ w'.cell? ⟨w.heap.size, 1, none⟩ = some (.int .i64 m))
    (first
      | go_keep
      | exact ⟨y0, y1⟩)
    ((go_at_call 24; refine (ntop_any _ (d + 1) cap m L _ hd (HR.out.none (((Keeps.refl _ _).alloc _).alloc _).drew)).mono ?_; rintro e w9 ⟨rfl, k9⟩; obtain ⟨y0, y1, r0, r1, fr0, fr1⟩ := leave_S (by rfl) k9))
  go_wp2
  refine bodyPost_ret (v := .tuple #[.agg #[.slice (some ⟨b, off, none⟩) d cap, .int .i64 m], .int .i64 (L d), .bool true]) (by simp [results, Try.results22, go_sem, topV, *]) rfl ⟨rfl, ?_⟩
  exact (((((Keeps.refl _ _).alloc _).alloc _).drew.trans k9).setCell (.inr (by simp)) _).setCell (.inr (by simp)) _
end Go.Proofs.Ytffhmlngnnfaeac
