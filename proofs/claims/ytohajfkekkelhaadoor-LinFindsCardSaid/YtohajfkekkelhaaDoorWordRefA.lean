import Derived.Test.YtohajfkekkelhaaDoorRows
import Derived.Test.YtohajfkekkelhaaDoorWordMath
import Derived.Test.YtohajfkekkelhaaDoorRet
import Derived.ProofKit
import Derived.OpenShut
import Derived.WalkLawsBesides
import Derived.WalkSpells
import Derived.Lib.Hide
import Derived.Laws.BitsAllLaws
import Derived.Deep.WholeRow
import Derived.Laws.CopyOwn
import Derived.Deep.OwnRows
import Derived.Test.YtohajfkekkelhaaDoorKeep
import Derived.Test.YtohajfkekkelhaaDoorKeepRow
namespace Go.Proofs.YtohajfkekkelhaaDoor
open Go.ChangeShapes Go.WideShapes Go.ChangeAt Go.RowKit
set_option linter.unusedVariables false

/-- Truths as cells. -/
def bools (f : Nat → Bool) (n : Nat) : Array Value := ((List.range n).map fun i => Value.bool (f i)).toArray
theorem bools_get (f : Nat → Bool) (n i : Nat) (h : i < n) : (bools f n)[i]? = some (.bool (f i)) := by simp [bools, h]
theorem bools_size (f : Nat → Bool) (n : Nat) : (bools f n).size = n := by simp [bools]
theorem bools_set (f : Nat → Bool) (n i : Nat) (b : Bool) : (bools f n).setIfInBounds i (.bool b) = bools (fun k => if k = i then b else f k) n := by
  apply Array.ext_getElem?
  intro j
  rw [Array.getElem?_setIfInBounds]
  by_cases hj : j < n
  · rw [bools_get f n j hj, bools_get _ n j hj]
    by_cases hij : i = j
    · subst hij; simp [bools_size, hj]
    · rw [if_neg hij, if_neg (fun e => hij e.symm)]
  · rw [Array.getElem?_eq_none (by simp [bools]; omega), Array.getElem?_eq_none (by simp [bools]; omega)]
    split
    · rw [if_neg (by simp [bools]; omega)]
    · rfl
theorem bools_congr {f g : Nat → Bool} {n : Nat} (h : ∀ i, i < n → f i = g i) : bools f n = bools g n := by
  unfold bools
  congr 1
  apply List.map_congr_left
  intro i hi
  rw [h i (by simpa using hi)]
theorem bools_one (f : Nat → Bool) (n : Nat) : (bools f n).all (·.oneCell') = true := by
  rw [Array.all_eq_true]
  intro i hi
  have := Array.getElem?_eq_getElem hi
  rw [bools_get f n i (by simpa [bools] using hi)] at this
  rw [← Option.some.inj this]
  rfl

theorem bits_any (x : Nat) (w : World) (hx : x < 4294967296) :
    Calls Tryd.prog 70 #[.int .u32 x] w fun e w' => e = .returned (.agg (bools x.testBit 32)) ∧ Keeps (fun _ => False) w w' := by
  go_enter Tryd.func70, Tryd.ntmps70
  go_wp2_with fail
  have hb0 : ∀ n, bools (fun _ => false) 32 = n → n = bools (fun _ => false) 32 := fun _ h => h.symm
  obtain ⟨wo, rfl⟩ : ∃ wo : World, wo = w := ⟨_, rfl⟩
  go_loopw [0, 4] (fun y i wr => ∃ k : Nat, k ≤ 32 ∧ i = .int .i64 k ∧ y = .int .u32 ((x / 2 ^ k : Nat) : Int) ∧ wr.heap[wo.heap.size]? = some (.cells (bools (fun _ => false) 32) 115 (0, 0)) ∧ wr.heap[wo.heap.size + 1]? = some (.cells (bools (fun j => decide (j < k) && x.testBit j) 32) 115 (0, 0)) ∧ Keeps (fun _ => False) wo wr) (fun _ i _ => 32 - (intOf i).toNat)
  case atStart =>
    refine ⟨0, by omega, rfl, by simp, ?_, ?_, ((Keeps.refl _ _).alloc _).alloc _⟩
    · rw [heap_old (heap_new _ _) _]; rfl
    · have := heap_new (wo.alloc (.cells (bools (fun _ => false) 32) 115)) (.cells (bools (fun _ => false) 32) 115)
      rw [show (wo.alloc (.cells (bools (fun _ => false) 32) 115)).heap.size = wo.heap.size + 1 by simp] at this
      have e : bools (fun _ => false) 32 = bools (fun j => decide (j < 0) && x.testBit j) 32 := bools_congr fun i hi => by simp
      rw [← e]
      exact this
  case round =>
    obtain ⟨k, hk, rfl, rfl, h1, h2, hK⟩ := hrel
    have hlt : x / 2 ^ k < 4294967296 := Nat.lt_of_le_of_lt (Nat.div_le_self _ _) hx
    by_cases hk32 : k < 32
    · have c1 : wr.cell? ⟨wo.heap.size + 1, k, none⟩ = some (.bool (decide (k < k) && x.testBit k)) := (cell_of h2 k).trans (bools_get _ 32 k hk32)
      have f1 : wr.frozen? ⟨wo.heap.size + 1, k, none⟩ = false := free_of h2 k
      have l1 := lt_of h2
      have eb : (((x / 2 ^ k : Nat) : Int) % 2 == 1) = x.testBit k := by
        rw [Nat.testBit_eq_decide_div_mod_eq, Bool.eq_iff_iff]
        simp only [beq_iff_eq, decide_eq_true_eq]
        omega
      have ed : ((x / 2 ^ k : Nat) : Int) / 2 = ((x / 2 ^ (k + 1) : Nat) : Int) := by
        rw [Nat.pow_succ, ← Nat.div_div_eq_div_mul]; omega
      have h3 : (wr.setCell ⟨wo.heap.size + 1, k, none⟩ (.bool (x.testBit k))).heap[wo.heap.size + 1]? = some (.cells (bools (fun j => decide (j < k + 1) && x.testBit j) 32) 115 (0, 0)) := by
        rw [heap_set h2, bools_set]
        congr 2
        apply bools_congr
        intro j hj
        by_cases e : j = k
        · subst e; simp
        · rw [if_neg e]
          congr 1
          rw [Bool.eq_iff_iff]
          simp
          omega
      have h4 : (wr.setCell ⟨wo.heap.size + 1, k, none⟩ (.bool (x.testBit k))).heap[wo.heap.size]? = some (.cells (bools (fun _ => false) 32) 115 (0, 0)) := heap_other h1 (by simp) _
      have h5 : Keeps (fun _ => False) wo (wr.setCell ⟨wo.heap.size + 1, k, none⟩ (.bool (x.testBit k))) := hK.setCell (.inr (by simp)) _
      have H3 := Lib.hid (And.intro h3 (And.intro h4 h5))
      generalize hyk : x / 2 ^ k = y at *
      have EB := Lib.hid eb
      have ED := Lib.hid ed
      clear h1 h2 h3 h4 h5 eb ed hK hb0 hyk
      go_wp2
      rw [EB.out]
      go_roundw
      case rel =>
        obtain ⟨h3, h4, h5⟩ := H3.out
        exact ⟨k + 1, by omega, by go_num, by rw [ED.out], h4, h3, h5⟩
      case measure => simp [intOf]; omega
    · obtain rfl : k = 32 := by omega
      have hfull : bools (fun j => decide (j < 32) && x.testBit j) 32 = bools x.testBit 32 := bools_congr fun i hi => by simp [hi]
      rw [hfull] at h2
      have hi : (Tryd.prog.info? 115).map (·.size) = some (bools x.testBit 32).size := by rw [bools_size]; kernel_rfl
      have H2 := Lib.hid (And.intro h1 h2)
      have HI := Lib.hid hi
      have HK := Lib.hid hK
      clear h1 h2 hi hfull hb0 hK
      go_wp2_with (first
        | (with_reducible refine wpList_load_row rfl 115 (.tmp 3) rfl (wo.heap.size + 1) rfl 115 (bools x.testBit 32) (0, 0) _ H2.out.2 Tryd.underlying115 rfl HI.out ?_)
        | (refine wpList_store_row rfl 115 (.tmp 2) (.tmp 16) rfl wo.heap.size (bools x.testBit 32) rfl rfl 115 _ H2.out.1 HI.out (by rw [bools_size, bools_size]) (bools_one _ _) ?_))
      exact bodyPost_ret (v := .agg (bools x.testBit 32)) (results_cell_row Tryd.results70 _ _ wo.heap.size 115 _ (0, 0) _ rfl ((setRow_heap _ _ _ _ _ _ H2.out.1).trans rfl) Tryd.underlying115 rfl HI.out) rfl ⟨rfl, HK.out.setRow (.inr (Nat.le_refl _)) _⟩
theorem index_bools (f : Nat → Bool) (k : Nat) (hk : k < 32) (w : World) :
    (Instr.index 115 (.agg (bools f 32)) (.int .i64 (k : Int))).run Tryd.prog w = .ok (.bool (f k)) w := by
  have h := Tryd.underlying115
  have e : Tryd.prog.cellsOf 4 = 1 := by kernel_rfl
  have hget := bools_get f 32 k hk
  have h1 : (k : Int) < 32 := by omega
  have hs : (sizeOf 4).run Tryd.prog w = .ok 1 w := by kernel_rfl
  simp [Instr.index, run_underlying h, asIntOf, go_sem, part, hs, hget]
  omega
def pred1 (m : Nat) : Int := (m : Int) - 1
theorem pred1_zero : pred1 0 = -1 := rfl
theorem pred1_succ (j : Nat) : pred1 (j + 1) = (j : Int) := by unfold pred1; omega
/-- A word out of its bits. -/
theorem rword_any (x : Nat) (w : World) (hx : x < 4294967296) :
    Calls Tryd.prog 71 #[.agg (bools x.testBit 32)] w fun e w' => e = .returned (.int .u32 x) ∧ Keeps (fun _ => False) w w' := by
  have hcell : ∀ j, j < 32 → (w.alloc (.cells (bools x.testBit 32) 115)).cell? ⟨w.heap.size, j, none⟩ = some (.bool (x.testBit j)) := fun j hj => (cell_of (heap_new w _) j).trans (bools_get _ 32 j hj)
  have HC := Lib.hid hcell
  clear hcell
  go_enter Tryd.func71, Tryd.ntmps71
  go_wp2_with fail
  go_loop [3, 4] (fun y i => ∃ m : Nat, m ≤ 32 ∧ i = .int .i64 (pred1 m) ∧ y = .int .u32 ((x / 2 ^ m : Nat) : Int)) (fun _ i => (intOf i + 1).toNat)
  case atStart => exact ⟨32, by omega, rfl, by rw [Nat.div_eq_of_lt (by omega)]; rfl⟩
  case round =>
    obtain ⟨m, hm, rfl, rfl⟩ := hrel
    rcases m with _ | j
    · rw [pred1_zero]
      simp only [Nat.pow_zero, Nat.div_one]
      go_wp2
      go_ret
      exact ⟨rfl, (Keeps.refl _ _).alloc _⟩
    · rw [pred1_succ]
      have hc := HC.out j (by omega)
      have hj : j < 32 := by omega
      have hh := half_bit x j
      have hlt : x / 2 ^ (j + 1) ≤ 2147483647 := by
        have : x / 2 ^ j < 4294967296 := Nat.lt_of_le_of_lt (Nat.div_le_self _ _) hx
        omega
      have hp := pred1_succ j
      have HH := Lib.hid hh
      clear hh hp
      generalize hy : x / 2 ^ (j + 1) = y at *
      have HY := Lib.hid hy
      clear hy
      have y2 : (y : Int) ≤ 2147483647 := by omega
      cases hb : x.testBit j
      · rw [hb] at hc
        have HB := Lib.hid hb
        clear hb
        go_wp2
        go_round
        case rel => exact ⟨j, by omega, rfl, by rw [HH.out, HB.out]; simp; omega⟩
        case measure => simp [intOf]
      · rw [hb] at hc
        have HB := Lib.hid hb
        clear hb
        go_wp2
        go_round
        case rel => exact ⟨j, by omega, rfl, by rw [HH.out, HB.out]; simp; omega⟩
        case measure => simp [intOf]
theorem put_bits (x : Nat) (hx : x < 4294967296) (k : Nat) (b : Bool) (hk : k < 32) : (bools x.testBit 32).setIfInBounds k (.bool b) = bools (if b then setB x k else clrB x k).testBit 32 := by
  rw [bools_set]
  apply bools_congr
  intro j hj
  cases b
  · simp only [Bool.false_eq_true, if_false]
    rw [clrB_testBit hx]
    by_cases e : j = k
    · subst e; simp
    · have : ¬ (j : Int) = (k : Int) := by omega
      simp [e, this]
  · simp only [if_true]
    rw [setB_testBit]
    by_cases e : j = k
    · subst e; simp [hj]
    · have : ¬ (j : Int) = (k : Int) := by omega
      simp [e, this]
set_option maxRecDepth 20000 in
theorem rput_any (x : Nat) (i : Int) (b : Bool) (w : World) (hx : x < 4294967296) :
    Calls Tryd.prog 69 #[.int .u32 x, .int .i64 i, .bool b] w fun e w' => e = .returned (.int .u32 ((if b then setB x i else clrB x i : Nat) : Int)) ∧ Keeps (fun _ => False) w w' := by
  by_cases hi : 0 ≤ i ∧ i < 32
  · obtain ⟨k, rfl⟩ := Int.eq_ofNat_of_zero_le hi.1
    have hk : k < 32 := by omega
    have hset := put_bits x hx k b hk
    have hlt : (if b then setB x k else clrB x k) < 4294967296 := by cases b; exact clrB_lt hx _; exact setB_lt hx _
    generalize (if b then setB x (k : Int) else clrB x (k : Int)) = y at *
    have hinf : (Tryd.prog.info? 115).map (·.size) = some (bools x.testBit 32).size := by rw [bools_size]; kernel_rfl
    have hinf2 : (Tryd.prog.info? 115).map (·.size) = some (bools y.testBit 32).size := by rw [bools_size]; kernel_rfl
    have HS := Lib.hid hset
    have HI := Lib.hid hinf
    have HI2 := Lib.hid hinf2
    clear hset hi hinf hinf2
    go_enter Tryd.func69, Tryd.ntmps69
    go_wp2_with fail
    refine (bits_any x _ hx).mono ?_
    rintro e w1 ⟨rfl, hK⟩
    have hg := heap_new w1 (.cells (bools x.testBit 32) 115)
    have hc : (w1.alloc (.cells (bools x.testBit 32) 115)).cell? ⟨w1.heap.size, k, none⟩ = some (.bool (x.testBit k)) := (cell_of hg k).trans (bools_get _ 32 k hk)
    have hinf3 : (Tryd.prog.info? 115).map (·.size) = some ((bools x.testBit 32).setIfInBounds k (.bool b)).size := by rw [Array.size_setIfInBounds, bools_size]; kernel_rfl
    have HI3 := Lib.hid hinf3
    have HK := Lib.hid hK
    clear hinf3 hg hK
    go_wp2_with (first
      | (refine wpList_store_row rfl 115 (.tmp 7) (.tmp 9) rfl w1.heap.size (bools x.testBit 32) rfl rfl 115 _ (heap_new _ _) HI.out (by rw [bools_size]; rfl) (bools_one _ _) ?_; rw [World.setRow_alloc_new])
      | (with_reducible refine wpList_load_row rfl 115 (.tmp 7) rfl w1.heap.size rfl 115 ((bools x.testBit 32).setIfInBounds k (.bool b)) (0, 0) _ (heap_new _ _) Tryd.underlying115 rfl HI3.out ?_; rw [HS.out]))
    refine (rword_any y _ hlt).mono ?_
    rintro e w2 ⟨rfl, hK2⟩
    go_wp2
    go_ret
    exact ⟨rfl, (HK.out.alloc _).trans hK2⟩
  · have hout : (if b then setB x i else clrB x i) = x := by cases b; exact clrB_out hx hi; exact setB_out hi
    rw [hout]
    have hinf : (Tryd.prog.info? 115).map (·.size) = some (bools x.testBit 32).size := by rw [bools_size]; kernel_rfl
    have HI := Lib.hid hinf
    clear hinf hout
    rcases (by omega : i < 0 ∨ 32 ≤ i) with h | h
    · have d0 : decide (0 ≤ i) = false := by simp; omega
      clear hi
      go_enter Tryd.func69, Tryd.ntmps69
      go_wp2_with fail
      refine (bits_any x _ hx).mono ?_
      rintro e w1 ⟨rfl, hK⟩
      have HK := Lib.hid hK
      clear hK
      go_wp2_with (first
        | (refine wpList_store_row rfl 115 (.tmp 7) (.tmp 9) rfl w1.heap.size (bools x.testBit 32) rfl rfl 115 _ (heap_new _ _) HI.out (by rw [bools_size]; rfl) (bools_one _ _) ?_; rw [World.setRow_alloc_new])
        | (with_reducible refine wpList_load_row rfl 115 (.tmp 7) rfl w1.heap.size rfl 115 (bools x.testBit 32) (0, 0) _ (heap_new _ _) Tryd.underlying115 rfl HI.out ?_))
      refine (rword_any x _ hx).mono ?_
      rintro e w2 ⟨rfl, hK2⟩
      go_wp2
      go_ret
      exact ⟨rfl, (HK.out.alloc _).trans hK2⟩
    · have d0 : decide (0 ≤ i) = true := by simp; omega
      have d1 : decide (i < 32) = false := by simp; omega
      clear hi
      go_enter Tryd.func69, Tryd.ntmps69
      go_wp2_with fail
      refine (bits_any x _ hx).mono ?_
      rintro e w1 ⟨rfl, hK⟩
      have HK := Lib.hid hK
      clear hK
      go_wp2_with (first
        | (refine wpList_store_row rfl 115 (.tmp 7) (.tmp 9) rfl w1.heap.size (bools x.testBit 32) rfl rfl 115 _ (heap_new _ _) HI.out (by rw [bools_size]; rfl) (bools_one _ _) ?_; rw [World.setRow_alloc_new])
        | (with_reducible refine wpList_load_row rfl 115 (.tmp 7) rfl w1.heap.size rfl 115 (bools x.testBit 32) (0, 0) _ (heap_new _ _) Tryd.underlying115 rfl HI.out ?_))
      refine (rword_any x _ hx).mono ?_
      rintro e w2 ⟨rfl, hK2⟩
      go_wp2
      go_ret
      exact ⟨rfl, (HK.out.alloc _).trans hK2⟩
end Go.Proofs.YtohajfkekkelhaaDoor
