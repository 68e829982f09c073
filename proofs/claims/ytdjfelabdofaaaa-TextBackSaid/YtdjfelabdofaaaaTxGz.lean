import Derived.Test.YtdjfelabdofaaaaTextK
import Derived.Test.YtdjfelabdofaaaaTxCz
import Derived.Test.YtdjfelabdofaaaaTxLz
import Derived.LoopTactic
namespace Go.Proofs.Ytdjfelabdofaaaa
open Go.ChangeShapes Go.WideShapes Go.ChangeAt Go.RowKit
set_option linter.unusedVariables false
set_option linter.unusedSimpArgs false
/-- A frame that has grown: what changed since was in the frame, or new. -/
theorem Keeps.own {S T : Nat → Prop} {a b c : World} (h : Keeps S a b) (k : Keeps T b c) (hT : ∀ X, T X → S X ∨ a.heap.size ≤ X) : Keeps S a c :=
  ⟨k.os.trans h.os, k.tape.trans h.tape, k.output.trans h.output, Nat.le_trans h.size k.size, fun i hi hs => (k.block i (Nat.lt_of_lt_of_le hi h.size) fun hh => by rcases hT i hh with h1 | h1; exact hs h1; omega).trans (h.block i hi hs)⟩
theorem WordsAt.keepsC {w W : World} {Aw p B k : Nat} {ch : Value} {xs : List Value} {cs : Array Value} {ws : List ByteArray} (h : WordsAt w Aw ws) (hp : w.heap[p]? = some (.cells cs 69 (0, 0))) (hown : w.ownsRow B 3 1 ch k xs) (hk : Keeps (fun X => X = p ∨ ch.ownBlock = some X) w W) : WordsAt W Aw ws := by
  obtain ⟨cur, hb, ht⟩ := h
  refine ⟨cur, hk.at hb ?_, ht⟩
  rintro (rfl | h)
  · rw [hp] at hb
    injection hb with hb
    injection hb with _ h2
    exact absurd h2 (by decide)
  · exact own_apart hown hb (by decide) h
def intsV (Z : List Int) : List Value := Z.map (Value.int .i64)
def addX (Z : List Int) (X : Nat → Int) (j : Nat) : List Int := Z ++ (List.range j).map fun i => X (i + 1)
theorem addX_succ (Z : List Int) (X : Nat → Int) (j : Nat) : intsV (addX Z X (j + 1)) = intsV (addX Z X j) ++ [.int .i64 (X (j + 1))] := by
  simp [addX, intsV, List.range_succ]
theorem addX_zero (Z : List Int) (X : Nat → Int) : addX Z X 0 = Z := by simp [addX]
/-- What stands behind j - 1 choices of a row. -/
structure ChW (w : World) (p B n c k : Nat) (N : Int) (Aw : Nat) (t l o ow ch : Value) (tk : Int) (b : Bool) (Z : List Int) (X : Nat → Int) (v : Value) (m : Nat) (wr : World) : Prop where
  par : wr.heap[p]? = some (.cells (parC t l o tk v b ow) 69 (0, 0))
  own : wr.ownsRow B 3 1 v (k + m) (intsV (addX Z X m))
  blk : ∀ g, v.ownBlock = some g → ch.ownBlock = some g ∨ w.heap.size ≤ g
  box : wr.heap[w.heap.size]? = some (.cells #[.int .i64 N, .slice (some ⟨Aw, 0, none⟩) n c] 78 (0, 0))
  keep : Keeps (fun X => X = p ∨ ch.ownBlock = some X) w wr
theorem ChW.none {w : World} {p B n c k : Nat} {N : Int} {Aw : Nat} {t l o ow ch : Value} {tk : Int} {b : Bool} {Z : List Int} {X : Nat → Int} {v : Value} {m : Nat} {wr w2 : World} (h : ChW w p B n c k N Aw t l o ow ch tk b Z X v m wr) (k2 : Keeps (fun _ => False) wr w2) : ChW w p B n c k N Aw t l o ow ch tk b Z X v m w2 :=
  ⟨k2.at h.par fun h => h, own_keepsT h.own k2, h.blk, k2.at h.box fun h => h, h.keep.own k2 fun _ h => h.elim⟩
theorem ChW.push {w : World} {p B n c k : Nat} {N : Int} {Aw : Nat} {t l o ow ch : Value} {tk : Int} {b : Bool} {Z : List Int} {X : Nat → Int} {v : Value} {m g cap : Nat} {w2 w4 : World} {ob : Obj} (h : ChW w p B n c k N Aw t l o ow ch tk b Z X v m w2)
    (hown : w4.ownsRow B 3 1 (.slice (some ⟨g, 0, Option.none⟩) (k + m + 1) cap) (k + m + 1) (intsV (addX Z X m) ++ [.int .i64 (X (m + 1))])) (hg : (w2.alloc ob).grownBy w4 v.ownBlock) (hat : v.ownBlock = some g ∨ g = (w2.alloc ob).heap.size) :
    ChW w p B n c k N Aw t l o ow ch tk b Z X (.slice (some ⟨g, 0, Option.none⟩) (k + m + 1) cap) (m + 1) (w4.setCell ⟨p, 4, Option.none⟩ (.slice (some ⟨g, 0, Option.none⟩) (k + m + 1) cap)) := by
  have h1 := app_afterT h.own h.par (by decide) hg
  have h2 := app_afterT h.own h.box (by decide) hg
  have hpb : w.heap.size ≠ p := by
    intro e
    have hb := h.box
    rw [e, h.par] at hb
    injection hb with hb
    injection hb with _ h2
    exact absurd h2 (by decide)
  refine ⟨heap_set h1.1 4 _, ?_, ?_, heap_other h2.1 hpb _, ?_⟩
  · rw [addX_succ]
    exact own_setX hown h1.1 (by decide) 4 _
  · intro g2 e2
    obtain rfl : g = g2 := by simpa [Value.ownBlock] using e2
    rcases hat with hat | hat
    · exact h.blk g hat
    · right
      rw [hat, World.size_alloc]
      have := h.keep.size
      omega
  · exact (h.keep.own h1.2 fun Y hY => (h.blk Y hY).imp_left .inr).setCell (p := ⟨p, 4, Option.none⟩) (.inl (.inl rfl)) _
set_option maxRecDepth 100000 in
set_option maxHeartbeats 4000000 in
/-- A row of choices. -/
theorem choose_ok (w : World) (p B : Nat) (N : Int) (Aw n c : Nat) (ws : List ByteArray) (X : Nat → Int) (t l o ch ow : Value) (tk : Int) (b : Bool) (k : Nat) (Z : List Int)
    (hp : w.heap[p]? = some (.cells (parC t l o tk ch b ow) 69 (0, 0))) (hk : k ≤ 1000) (hown : w.ownsRow B 3 1 ch k (intsV Z)) (hB : B ≤ w.heap.size)
    (hn : n ≤ 1000) (hn2 : 2 ≤ n) (hnw : ws.length = n) (hr : WordsAt w Aw ws) (hF : ∀ i, i < n → (fOf ws i).length ≤ 1000) (h : ∀ i, 1 ≤ i → i < n → takP (fOf ws) n i (-2147483648) 2147483647 = (X i, 0)) :
    Calls Try.prog 39 #[.pointer (some ⟨p, 0, none⟩), rowV N (some ⟨Aw, 0, none⟩) n c] w fun e w' => e = .returned (.tuple #[]) ∧ ∃ v, w'.heap[p]? = some (.cells (parC t l o tk v b ow) 69 (0, 0)) ∧
      w'.ownsRow B 3 1 v (k + (n - 1)) (intsV (addX Z X (n - 1))) ∧ (∀ g, v.ownBlock = some g → ch.ownBlock = some g ∨ w.heap.size ≤ g) ∧ Keeps (fun X => X = p ∨ ch.ownBlock = some X) w w' := by
  obtain ⟨i0, hi, hz0, hz1, hz2⟩ := info_parts info_int
  have HI := Lib.hid (And.intro hi (And.intro hz0 (And.intro hz1 hz2)))
  have k0 := (Keeps.refl (fun X => X = p ∨ ch.ownBlock = some X) w).alloc (.cells #[.int .i64 N, .slice (some ⟨Aw, 0, none⟩) n c] 78)
  have HK := Lib.hid k0
  have hb0 := heap_new w (.cells #[.int .i64 N, .slice (some ⟨Aw, 0, none⟩) n c] 78)
  have HB := Lib.hid hb0
  have HN := Lib.hid (fun (W : World) (hk : Keeps (fun X => X = p ∨ ch.ownBlock = some X) w W) (i : Nat) (z : Int) (hz : z = (i : Int)) (h1 : 1 ≤ i) (h2 : i < n) => show Calls Try.prog 49 #[rowV N (some ⟨Aw, 0, none⟩) n c, .int .i64 z, .int .i64 (-2147483648), .int .i64 2147483647] W fun e w' => e = .returned (.int .i64 (X i)) ∧ Keeps (fun _ => False) W w' from hz ▸ number_ok W N (some ⟨Aw, 0, none⟩) n c i (fOf ws) (-2147483648) 2147483647 (X i) (by omega) (hnw ▸ words_row (hr.keepsC hp hown hk)) hF (h i h1 h2) h2 ⟨by omega, by omega⟩ ⟨by omega, by omega⟩)
  have hlp := lt_of hp
  have HP0 := Lib.hid (heap_old hp (.cells #[.int .i64 N, .slice (some ⟨Aw, 0, none⟩) n c] 78))
  have HW0 := Lib.hid (own_keepsT hown ((Keeps.refl (fun _ => False) w).alloc (.cells #[.int .i64 N, .slice (some ⟨Aw, 0, none⟩) n c] 78)))
  obtain ⟨r0, r1⟩ := two_cellsV hb0
  clear hr hF h hp hown hi hz0 hz1 hz2 k0 hb0
  have d0 : ((n : Int) == 1) = false := by rw [beq_eq_false_iff_ne]; omega
  go_enter Try.func39, Try.ntmps39
  go_wp2_with fail
  clear r0 r1
  go_loopw [4] (fun i wr => ∃ (m : Nat) (v : Value), m + 1 ≤ n ∧ i = .int .i64 ((m : Int) + 1) ∧ ChW w p B n c k N Aw t l o ow ch tk b Z X v m wr) (fun i _ => n - (intOf i).toNat)
  case atStart => exact ⟨0, ch, by omega, rfl, HP0.out, by rw [addX_zero]; exact HW0.out, fun g h => .inl h, HB.out, HK.out⟩
  case round =>
    obtain ⟨m, v, hm, rfl, hc⟩ := hrel
    have HC := Lib.hid hc
    obtain ⟨r0, r1⟩ := two_cellsV hc.box
    clear hc
    rcases Nat.lt_or_ge (m + 1) n with hlt | hge
    · have d1 : ((m : Int) + 1 < (n : Int)) = True := by simp; omega
      have q4 : wr.cell? ⟨p, 4, none⟩ = some v := cell_of HC.out.par 4
      have lp := lt_of HC.out.par
      go_wp2_with fail
      replace HC := Lib.hid (HC.out.none (Keeps.refl (fun _ => False) wr).drew)
      replace q4 : wr.drew.cell? ⟨p, 4, none⟩ = some v := q4
      replace lp : p < wr.drew.heap.size := lp
      replace r0 : wr.drew.cell? ⟨w.heap.size, 0, none⟩ = _ := r0
      replace r1 : wr.drew.cell? ⟨w.heap.size, 1, none⟩ = _ := r1
      obtain ⟨hi, hz0, hz1, hz2⟩ := HI.out
      go_region_law
        (first
          | (go_simp; refine (HN.out _ HC.out.keep (m + 1) _ (by omega) (by omega) (by omega)).mono ?_; rintro e2 w2 ⟨rfl, k2⟩; have HC2 := Lib.hid (HC.out.none k2); have z2 : w2.cell? ⟨p, 4, none⟩ = some v := cell_of HC2.out.par 4; have lp2 := lt_of HC2.out.par; have hs2 := HC2.out.keep.size; clear k2)
          | (refine step_append_lies _ rfl (.tmp 21) (.tmp 25) 27 rfl B 3 i0 (.int .i64 0) 1 8 Try.underlying27 hi hz0 hz1 hz2 rfl (by decide) v (k + m) (intsV (addX Z X m)) rfl (HC2.out.own.alloc _) ⟨w2.heap.size, 0, none⟩ 1 1 [.int .i64 (X (m + 1))] rfl rfl (World.news_of_block (heap_new w2 (.cells #[.int .i64 (X (m + 1))] 3))) (by simp [Value.oneCell']) (by decide) (by unfold maxLen; omega) (by omega) (by rw [World.size_alloc]; omega) _ rfl ?_; intro g cap w4 hown hgrow hat hlt4; have hp4 := (app_afterT HC2.out.own HC2.out.par (by decide) hgrow).1; have s4 : w4.cell? ⟨p, 4, none⟩ = some v := cell_of hp4 4; have t4 := free_of hp4 4; have l4 := lt_of hp4; have HC4 := Lib.hid (HC2.out.push hown hgrow hat); clear hown hgrow hat hlt4 hp4)
          | fail)
      all_goals
        have i1 : wrap64 ((m : Int) + 1 + 1) = (m : Int) + 1 + 1 := IntWalk.wrap64_in _ ⟨by omega, by omega⟩
        generalize (w4.setCell ⟨p, 4, none⟩ (.slice (some ⟨g, 0, none⟩) (k + m + 1) cap)) = w5 at HC4 ⊢
        clear s4 t4 l4 z2 lp2 hs2 q4 lp r0 r1
        go_wp2
        go_roundw
        case rel => exact ⟨m + 1, _, by omega, by push_cast; rfl, HC4.out⟩
        case measure => simp [intOf]; omega
    · obtain rfl : n = m + 1 := by omega
      have d1 : ((m : Int) + 1 < ((m + 1 : Nat) : Int)) = False := by simp
      go_wp2
      go_end0
      refine ⟨rfl, v, HC.out.par, ?_, HC.out.blk, HC.out.keep⟩
      exact HC.out.own
end Go.Proofs.Ytdjfelabdofaaaa
namespace Go.Proofs.Ytdjfelabdofaaaa
open Go.ChangeShapes Go.WideShapes Go.ChangeAt Go.RowKit
set_option linter.unusedVariables false
set_option linter.unusedSimpArgs false
/-- An object's cells, of which the first are set. -/
def objV (x : Nat → Int) (k i : Nat) : Value := if i < 6 then .int .i64 (if i < k then x i else 0) else .int .u32 (if i < k then x i else 0)
def objA (x : Nat → Int) (k : Nat) : Array Value := #[objV x k 0, objV x k 1, objV x k 2, objV x k 3, objV x k 4, objV x k 5, objV x k 6, objV x k 7, objV x k 8, objV x k 9]
theorem objA_zero (x : Nat → Int) : objA x 0 = #[.int .i64 0, .int .i64 0, .int .i64 0, .int .i64 0, .int .i64 0, .int .i64 0, .int .u32 0, .int .u32 0, .int .u32 0, .int .u32 0] := rfl
theorem objA_six (x : Nat → Int) (k : Nat) (hk : k < 6) : (objA x k).setIfInBounds k (.int .i64 (x k)) = objA x (k + 1) := by
  rcases (by omega : k = 0 ∨ k = 1 ∨ k = 2 ∨ k = 3 ∨ k = 4 ∨ k = 5) with rfl | rfl | rfl | rfl | rfl | rfl <;> rfl
theorem objA_four (x : Nat → Int) (k : Nat) (hk : k < 4) : (objA x (6 + k)).setIfInBounds (6 + k) (.int .u32 (x (6 + k))) = objA x (6 + k + 1) := by
  rcases (by omega : k = 0 ∨ k = 1 ∨ k = 2 ∨ k = 3) with rfl | rfl | rfl | rfl <;> rfl
theorem objA_at6 (x : Nat → Int) (k : Nat) (hk : k < 6) : (objA x k)[k]? = some (.int .i64 0) := by
  rcases (by omega : k = 0 ∨ k = 1 ∨ k = 2 ∨ k = 3 ∨ k = 4 ∨ k = 5) with rfl | rfl | rfl | rfl | rfl | rfl <;> rfl
theorem objA_at4 (x : Nat → Int) (k : Nat) (hk : k < 4) : (objA x (6 + k))[6 + k]? = some (.int .u32 0) := by
  rcases (by omega : k = 0 ∨ k = 1 ∨ k = 2 ∨ k = 3) with rfl | rfl | rfl | rfl <;> rfl
def obcL (x : Nat → Int) : List Value := [.int .i64 (x 0), .int .i64 (x 1), .int .i64 (x 2), .int .i64 (x 3), .int .i64 (x 4), .int .i64 (x 5), .int .u32 (x 6), .int .u32 (x 7), .int .u32 (x 8), .int .u32 (x 9)]
theorem one_obj (x : Nat → Int) : ∀ u ∈ obcL x, u.oneCell' = true := by
  intro u hu
  simp [obcL] at hu
  rcases hu with rfl | rfl | rfl | rfl | rfl | rfl | rfl | rfl | rfl | rfl <;> rfl
theorem objA_ten (x : Nat → Int) : objA x 10 = #[.int .i64 (x 0), .int .i64 (x 1), .int .i64 (x 2), .int .i64 (x 3), .int .i64 (x 4), .int .i64 (x 5), .int .u32 (x 6), .int .u32 (x 7), .int .u32 (x 8), .int .u32 (x 9)] := rfl
theorem info_objT : (Try.prog.info? 59).map (fun i => (i.zero, i.size, i.bytes)) = some (some (.agg #[.int .i64 0, .int .i64 0, .int .i64 0, .int .i64 0, .int .i64 0, .int .i64 0, .int .u32 0, .int .u32 0, .int .u32 0, .int .u32 0]), 10, 64) := by kernel_rfl
theorem ptr_at (b k : Nat) (hk : k < 6) (w : World) : (Instr.index 98 (.agg #[.pointer (some ⟨b, 0, none⟩), .pointer (some ⟨b, 1, none⟩), .pointer (some ⟨b, 2, none⟩), .pointer (some ⟨b, 3, none⟩), .pointer (some ⟨b, 4, none⟩), .pointer (some ⟨b, 5, none⟩)]) (.int .i64 (k : Int))).run Try.prog w = .ok (.pointer (some ⟨b, k, none⟩)) w := by
  rcases (by omega : k = 0 ∨ k = 1 ∨ k = 2 ∨ k = 3 ∨ k = 4 ∨ k = 5) with rfl | rfl | rfl | rfl | rfl | rfl <;> kernel_rfl
set_option maxRecDepth 100000 in
set_option maxHeartbeats 4000000 in
/-- An object's row. -/
theorem object_ok (w : World) (p B : Nat) (N : Int) (A : Option Addr) (c : Nat) (F : Nat → List UInt8) (x : Nat → Int) (t l o ch ow : Value) (tk : Int) (b : Bool) (k : Nat) (xs : List Value)
    (hp : w.heap[p]? = some (.cells (parC t l o tk ch b ow) 69 (0, 0))) (hk : k ≤ 1000) (hown : w.ownsRow B 59 10 o k xs) (hB : B ≤ w.heap.size)
    (hr : StrRow w A 11 F) (hF : ∀ i, i < 11 → (F i).length ≤ 1000) (h : ∀ i : Nat, i < 6 → takP F 11 ((1 + i : Nat) : Int) (-2147483648) 2147483647 = (x i, 0)) (h' : ∀ i : Nat, i < 4 → takP F 11 ((7 + i : Nat) : Int) 0 4294967295 = (x (6 + i), 0)) (hx : ∀ i, i < 4 → 0 ≤ x (6 + i) ∧ x (6 + i) ≤ 4294967295) :
    Calls Try.prog 35 #[.pointer (some ⟨p, 0, none⟩), rowV N A 11 c] w fun e w' => e = .returned (.tuple #[]) ∧ ∃ g cap, w'.heap[p]? = some (.cells (parC t l (.slice (some ⟨g, 0, none⟩) (k + 1) cap) tk ch b ow) 69 (0, 0)) ∧
      w'.ownsRow B 59 10 (.slice (some ⟨g, 0, none⟩) (k + 1) cap) (k + 1) (xs ++ obcL x) ∧ (o.ownBlock = some g ∨ w.heap.size ≤ g) ∧ Keeps (fun X => X = p ∨ o.ownBlock = some X) w w' := by
  obtain ⟨i0, hi, hz0, hz1, hz2⟩ := info_parts info_objT
  have HI := Lib.hid (And.intro hi (And.intro hz0 (And.intro hz1 hz2)))
  have hlp := lt_of hp
  have HN1 := Lib.hid (fun (W : World) (hk : Below w.heap.size w W) (i : Nat) (hi : i < 6) (z : Int) (hz : z = ((1 + i : Nat) : Int)) => show Calls Try.prog 49 #[rowV N A 11 c, .int .i64 z, .int .i64 (-2147483648), .int .i64 2147483647] W fun e w' => e = .returned (.int .i64 (x i)) ∧ Keeps (fun _ => False) W w' from hz ▸ number_ok W N A 11 c (1 + i) F (-2147483648) 2147483647 (x i) (by omega) (hr.below hk) hF (h i hi) (by omega) ⟨by omega, by omega⟩ ⟨by omega, by omega⟩)
  have HN2 := Lib.hid (fun (W : World) (hk : Below w.heap.size w W) (i : Nat) (hi : i < 4) (z : Int) (hz : z = ((7 + i : Nat) : Int)) => show Calls Try.prog 49 #[rowV N A 11 c, .int .i64 z, .int .i64 0, .int .i64 4294967295] W fun e w' => e = .returned (.int .i64 (x (6 + i))) ∧ Keeps (fun _ => False) W w' from hz ▸ number_ok W N A 11 c (7 + i) F 0 4294967295 (x (6 + i)) (by omega) (hr.below hk) hF (h' i hi) (by omega) ⟨by omega, by omega⟩ ⟨by omega, by omega⟩)
  have HP := Lib.hid hp
  have HW := Lib.hid hown
  have HX := Lib.hid hx
  clear hr hF h h' hp hown hi hz0 hz1 hz2 hx
  go_enter Try.func35, Try.ntmps35
  go_wp2_with fail
  have hr3 : ((((w.alloc (.cells #[.int .i64 N, .slice A 11 c] 78)).alloc (.cells (objA x 0) 59)).alloc (.cells #[.pointer (some ⟨w.heap.size + 1, 0, none⟩), .pointer (some ⟨w.heap.size + 1, 1, none⟩), .pointer (some ⟨w.heap.size + 1, 2, none⟩), .pointer (some ⟨w.heap.size + 1, 3, none⟩), .pointer (some ⟨w.heap.size + 1, 4, none⟩), .pointer (some ⟨w.heap.size + 1, 5, none⟩)] 98))).heap[w.heap.size]? = some (.cells #[.int .i64 N, .slice A 11 c] 78 (0, 0)) := heap_old (heap_old (heap_new _ _) _) _
  have ho3 : ((((w.alloc (.cells #[.int .i64 N, .slice A 11 c] 78)).alloc (.cells (objA x 0) 59)).alloc (.cells #[.pointer (some ⟨w.heap.size + 1, 0, none⟩), .pointer (some ⟨w.heap.size + 1, 1, none⟩), .pointer (some ⟨w.heap.size + 1, 2, none⟩), .pointer (some ⟨w.heap.size + 1, 3, none⟩), .pointer (some ⟨w.heap.size + 1, 4, none⟩), .pointer (some ⟨w.heap.size + 1, 5, none⟩)] 98))).heap[w.heap.size + 1]? = some (.cells (objA x 0) 59 (0, 0)) := heap_old (by have := heap_new (w.alloc (.cells #[.int .i64 N, .slice A 11 c] 78)) (.cells (objA x 0) 59); rw [World.size_alloc] at this; exact this) _
  have hq3 : ((((w.alloc (.cells #[.int .i64 N, .slice A 11 c] 78)).alloc (.cells (objA x 0) 59)).alloc (.cells #[.pointer (some ⟨w.heap.size + 1, 0, none⟩), .pointer (some ⟨w.heap.size + 1, 1, none⟩), .pointer (some ⟨w.heap.size + 1, 2, none⟩), .pointer (some ⟨w.heap.size + 1, 3, none⟩), .pointer (some ⟨w.heap.size + 1, 4, none⟩), .pointer (some ⟨w.heap.size + 1, 5, none⟩)] 98))).heap[w.heap.size + 1 + 1]? = some (.cells #[.pointer (some ⟨w.heap.size + 1, 0, none⟩), .pointer (some ⟨w.heap.size + 1, 1, none⟩), .pointer (some ⟨w.heap.size + 1, 2, none⟩), .pointer (some ⟨w.heap.size + 1, 3, none⟩), .pointer (some ⟨w.heap.size + 1, 4, none⟩), .pointer (some ⟨w.heap.size + 1, 5, none⟩)] 98 (0, 0)) := by have := heap_new ((w.alloc (.cells #[.int .i64 N, .slice A 11 c] 78)).alloc (.cells (objA x 0) 59)) (.cells #[.pointer (some ⟨w.heap.size + 1, 0, none⟩), .pointer (some ⟨w.heap.size + 1, 1, none⟩), .pointer (some ⟨w.heap.size + 1, 2, none⟩), .pointer (some ⟨w.heap.size + 1, 3, none⟩), .pointer (some ⟨w.heap.size + 1, 4, none⟩), .pointer (some ⟨w.heap.size + 1, 5, none⟩)] 98); rw [World.size_alloc, World.size_alloc] at this; exact this
  have HK := Lib.hid ((((Keeps.refl (fun _ => False) w).alloc (.cells #[.int .i64 N, .slice A 11 c] 78)).alloc (.cells (objA x 0) 59)).alloc (.cells #[.pointer (some ⟨w.heap.size + 1, 0, none⟩), .pointer (some ⟨w.heap.size + 1, 1, none⟩), .pointer (some ⟨w.heap.size + 1, 2, none⟩), .pointer (some ⟨w.heap.size + 1, 3, none⟩), .pointer (some ⟨w.heap.size + 1, 4, none⟩), .pointer (some ⟨w.heap.size + 1, 5, none⟩)] 98))
  refine (counted_ok _ N A 11 c 10 rfl (by omega)).mono ?_
  rintro e1 w1 ⟨rfl, k1⟩
  have HB1 := Lib.hid (k1.at hr3 fun h => h)
  have HO1 := Lib.hid (k1.at ho3 fun h => h)
  have hq1 := k1.at hq3 fun h => h
  have HK1 := Lib.hid (HK.out.trans k1)
  clear k1 hr3 ho3 hq3 HK
  have hlX : w.heap.size < w.heap.size + 1 := by omega
  generalize w.heap.size + 1 = X1 at *
  have y0 : w1.cell? ⟨X1 + 1, 0, none⟩ = some (.pointer (some ⟨X1, 0, none⟩)) := cell_of hq1 0
  have y1 : w1.cell? ⟨X1 + 1, 1, none⟩ = some (.pointer (some ⟨X1, 1, none⟩)) := cell_of hq1 1
  have y2 : w1.cell? ⟨X1 + 1, 2, none⟩ = some (.pointer (some ⟨X1, 2, none⟩)) := cell_of hq1 2
  have y3 : w1.cell? ⟨X1 + 1, 3, none⟩ = some (.pointer (some ⟨X1, 3, none⟩)) := cell_of hq1 3
  have y4 : w1.cell? ⟨X1 + 1, 4, none⟩ = some (.pointer (some ⟨X1, 4, none⟩)) := cell_of hq1 4
  have y5 : w1.cell? ⟨X1 + 1, 5, none⟩ = some (.pointer (some ⟨X1, 5, none⟩)) := cell_of hq1 5
  have ly := lt_of hq1
  clear hq1
  go_wp2_with fail
  clear y0 y1 y2 y3 y4 y5 ly
  go_loopw [19] (fun i wr => ∃ (m : Nat), m ≤ 6 ∧ i = .int .i64 (m : Int) ∧ wr.heap[w.heap.size]? = some (.cells #[.int .i64 N, .slice A 11 c] 78 (0, 0)) ∧ wr.heap[X1]? = some (.cells (objA x m) 59 (0, 0)) ∧ Keeps (fun _ => False) w wr) (fun i _ => 6 - (intOf i).toNat)
  case atStart => exact ⟨0, by omega, rfl, HB1.out, HO1.out, HK1.out⟩
  case round =>
    obtain ⟨m, hm, rfl, hb, ho, hkp⟩ := hrel
    have HB := Lib.hid hb
    have HO := Lib.hid ho
    have HKr := Lib.hid hkp
    obtain ⟨r0, r1⟩ := two_cellsV hb
    clear hb ho hkp HB1 HO1 HK1
    rcases Nat.lt_or_ge m 6 with hlt | hge
    · have d1 : ((m : Int) < 6) = True := by simp; omega
      have hpt := fun W => ptr_at X1 m hlt W
      have i1 : wrap64 (1 + (m : Int)) = 1 + (m : Int) := IntWalk.wrap64_in _ ⟨by omega, by omega⟩
      go_wp2_with fail
      refine (HN1.out _ HKr.out.none m hlt _ (by omega)).mono ?_
      rintro e2 w2 ⟨rfl, k2⟩
      have HB2 := Lib.hid (k2.at HB.out fun h => h)
      have ho2 := k2.at HO.out fun h => h
      have HK2 := Lib.hid (HKr.out.trans k2)
      have c0 : w2.cell? ⟨X1, m, none⟩ = some (.int .i64 0) := (cell_of ho2 m).trans (objA_at6 x m hlt)
      have f0 := free_of ho2 m
      have l0 := lt_of ho2
      have HO2 := Lib.hid (show (w2.setCell ⟨X1, m, none⟩ (.int .i64 (x m))).heap[X1]? = some (.cells (objA x (m + 1)) 59 (0, 0)) from by rw [← objA_six x m hlt]; exact heap_set ho2 m _)
      have HB3 := Lib.hid (show (w2.setCell ⟨X1, m, none⟩ (.int .i64 (x m))).heap[w.heap.size]? = some (.cells #[.int .i64 N, .slice A 11 c] 78 (0, 0)) from heap_other HB2.out (Nat.ne_of_lt hlX) _)
      have HK3 := Lib.hid (HK2.out.setCell (p := ⟨X1, m, none⟩) (.inr (Nat.le_of_lt hlX)) (.int .i64 (x m)))
      have i2 : wrap64 ((m : Int) + 1) = (m : Int) + 1 := IntWalk.wrap64_in _ ⟨by omega, by omega⟩
      clear k2 ho2 r0 r1
      go_wp2
      go_roundw
      case rel => exact ⟨m + 1, by omega, by push_cast; rfl, HB3.out, HO2.out, HK3.out⟩
      case measure => simp [intOf]; omega
    · obtain rfl : m = 6 := by omega
      go_wp2_with fail
      clear r0 r1
      go_loopw [30] (fun i wr => ∃ (m : Nat), m ≤ 4 ∧ i = .int .i64 (m : Int) ∧ wr.heap[w.heap.size]? = some (.cells #[.int .i64 N, .slice A 11 c] 78 (0, 0)) ∧ wr.heap[X1]? = some (.cells (objA x (6 + m)) 59 (0, 0)) ∧ Keeps (fun _ => False) w wr) (fun i _ => 4 - (intOf i).toNat)
      case atStart => exact ⟨0, by omega, rfl, HB.out, HO.out, HKr.out⟩
      case round =>
        obtain ⟨m, hm, rfl, hb, ho, hkp⟩ := hrel
        have HBn := Lib.hid hb
        have HOn := Lib.hid ho
        have HKn := Lib.hid hkp
        obtain ⟨r0, r1⟩ := two_cellsV hb
        clear hb ho hkp HB HO HKr
        rcases Nat.lt_or_ge m 4 with hlt | hge
        · have d1 : ((m : Int) < 4) = True := by simp; omega
          have i1 : wrap64 (7 + (m : Int)) = 7 + (m : Int) := IntWalk.wrap64_in _ ⟨by omega, by omega⟩
          go_wp2_with fail
          refine (HN2.out _ HKn.out.none m hlt _ (by omega)).mono ?_
          rintro e2 w2 ⟨rfl, k2⟩
          have HB2 := Lib.hid (k2.at HBn.out fun h => h)
          have ho2 := k2.at HOn.out fun h => h
          have HK2 := Lib.hid (HKn.out.trans k2)
          have c0 : w2.cell? ⟨X1, 6 + m, none⟩ = some (.int .u32 0) := (cell_of ho2 (6 + m)).trans (objA_at4 x m hlt)
          have f0 := free_of ho2 (6 + m)
          have l0 := lt_of ho2
          have HO2 := Lib.hid (show (w2.setCell ⟨X1, 6 + m, none⟩ (.int .u32 (x (6 + m)))).heap[X1]? = some (.cells (objA x (6 + m + 1)) 59 (0, 0)) from by rw [← objA_four x m hlt]; exact heap_set ho2 (6 + m) _)
          have HB3 := Lib.hid (show (w2.setCell ⟨X1, 6 + m, none⟩ (.int .u32 (x (6 + m)))).heap[w.heap.size]? = some (.cells #[.int .i64 N, .slice A 11 c] 78 (0, 0)) from heap_other HB2.out (Nat.ne_of_lt hlX) _)
          have HK3 := Lib.hid (HK2.out.setCell (p := ⟨X1, 6 + m, none⟩) (.inr (Nat.le_of_lt hlX)) (.int .u32 (x (6 + m))))
          have i2 : wrap64 ((m : Int) + 1) = (m : Int) + 1 := IntWalk.wrap64_in _ ⟨by omega, by omega⟩
          have hxm := HX.out m hlt
          have i3 : IntKind.u32.wrap (x (6 + m)) = x (6 + m) := IntWalk.u32_in _ ⟨hxm.1, by omega⟩
          clear k2 ho2 r0 r1
          go_wp2
          go_roundw
          case rel =>
            have T : ∃ (m' : Nat), m' ≤ 4 ∧ Value.int .i64 ((m : Int) + 1) = .int .i64 (m' : Int) ∧ (w2.setCell ⟨X1, 6 + m, none⟩ (.int .u32 (x (6 + m)))).heap[w.heap.size]? = some (.cells #[.int .i64 N, .slice A 11 c] 78 (0, 0)) ∧ (w2.setCell ⟨X1, 6 + m, none⟩ (.int .u32 (x (6 + m)))).heap[X1]? = some (.cells (objA x (6 + m')) 59 (0, 0)) ∧ Keeps (fun _ => False) w (w2.setCell ⟨X1, 6 + m, none⟩ (.int .u32 (x (6 + m)))) := ⟨m + 1, by omega, by push_cast; rfl, HB3.out, HO2.out, HK3.out⟩
            exact ⟨_, _, _, _, _, _, _, _, _, _, _, _, _, T, rfl⟩
          case measure => simp [intOf]; omega
        · obtain rfl : m = 4 := by omega
          go_wp2_with fail
          have hp4 := HKn.out.at HP.out fun h => h
          have HP4 := Lib.hid hp4
          have ho4 := HOn.out
          have HW4 := Lib.hid (own_keepsT HW.out HKn.out)
          have p0 : wr.cell? ⟨p, 2, none⟩ = some o := cell_of hp4 2
          have o0 : wr.cell? ⟨X1, 0, none⟩ = some (.int .i64 (x 0)) := cell_of ho4 0
          have o1 : wr.cell? ⟨X1, 1, none⟩ = some (.int .i64 (x 1)) := cell_of ho4 1
          have o2 : wr.cell? ⟨X1, 2, none⟩ = some (.int .i64 (x 2)) := cell_of ho4 2
          have o3 : wr.cell? ⟨X1, 3, none⟩ = some (.int .i64 (x 3)) := cell_of ho4 3
          have o4 : wr.cell? ⟨X1, 4, none⟩ = some (.int .i64 (x 4)) := cell_of ho4 4
          have o5 : wr.cell? ⟨X1, 5, none⟩ = some (.int .i64 (x 5)) := cell_of ho4 5
          have o6 : wr.cell? ⟨X1, 6, none⟩ = some (.int .u32 (x 6)) := cell_of ho4 6
          have o7 : wr.cell? ⟨X1, 7, none⟩ = some (.int .u32 (x 7)) := cell_of ho4 7
          have o8 : wr.cell? ⟨X1, 8, none⟩ = some (.int .u32 (x 8)) := cell_of ho4 8
          have o9 : wr.cell? ⟨X1, 9, none⟩ = some (.int .u32 (x 9)) := cell_of ho4 9
          have lp4 := lt_of hp4
          have lo4 := lt_of ho4
          have hs4 := HKn.out.size
          clear hp4 ho4 r0 r1
          obtain ⟨hi, hz0, hz1, hz2⟩ := HI.out
          have HSZ := Lib.hid (show w.heap.size ≤ ((wr.alloc (.cells #[.int .i64 (x 0), .int .i64 (x 1), .int .i64 (x 2), .int .i64 (x 3), .int .i64 (x 4), .int .i64 (x 5), .int .u32 (x 6), .int .u32 (x 7), .int .u32 (x 8), .int .u32 (x 9)] 59)).drew).heap.size from by show w.heap.size ≤ (wr.alloc _).heap.size; rw [World.size_alloc]; omega)
          have HLE := Lib.hid (show B ≤ (wr.alloc (.cells #[.int .i64 (x 0), .int .i64 (x 1), .int .i64 (x 2), .int .i64 (x 3), .int .i64 (x 4), .int .i64 (x 5), .int .u32 (x 6), .int .u32 (x 7), .int .u32 (x 8), .int .u32 (x 9)] 59)).heap.size from by rw [World.size_alloc]; omega)
          go_region_law (refine step_append_lies _ rfl (.tmp 47) (.tmp 49) 24 rfl B 59 i0 (.agg #[.int .i64 0, .int .i64 0, .int .i64 0, .int .i64 0, .int .i64 0, .int .i64 0, .int .u32 0, .int .u32 0, .int .u32 0, .int .u32 0]) 10 64 Try.underlying24 hi hz0 hz1 hz2 rfl (by decide) o k xs (by simp [Act.eval, Act.put]) (HW4.out.alloc _) ⟨wr.heap.size, 0, none⟩ 1 1 (obcL x) (by simp [Act.eval, Act.put]) rfl (World.news_of_block (heap_new wr (.cells #[.int .i64 (x 0), .int .i64 (x 1), .int .i64 (x 2), .int .i64 (x 3), .int .i64 (x 4), .int .i64 (x 5), .int .u32 (x 6), .int .u32 (x 7), .int .u32 (x 8), .int .u32 (x 9)] 59))) (one_obj x) (by decide) (by unfold maxLen; omega) (by omega) HLE.out _ rfl ?_; intro g cap w5 hown hgrow hat hlt4; have h4 := Lib.hid (app_after (W := wr) HW4.out HP4.out HP4.out (by decide) (by decide) hgrow); have hw4 := Lib.hid (And.intro (show w5.ownsRow B 59 10 (.slice (some ⟨g, 0, none⟩) (k + 1) cap) (k + 1) (xs ++ obcL x) from hown) hat); have s0 : w5.cell? ⟨p, 2, none⟩ = some o := cell_of h4.out.1 2; have t0 := free_of h4.out.1 2; have l0 := lt_of h4.out.1; clear hown hgrow hat hlt4)
          all_goals
            go_wp2
            go_end0
            exact ⟨rfl, g, cap, heap_set h4.out.1 2 _, own_setX hw4.out.1 h4.out.1 (by decide) 2 _, hw4.out.2.imp_right fun h => by rw [h]; exact HSZ.out, HKn.out.setOwn h4.out.2.2 2 _⟩
end Go.Proofs.Ytdjfelabdofaaaa
