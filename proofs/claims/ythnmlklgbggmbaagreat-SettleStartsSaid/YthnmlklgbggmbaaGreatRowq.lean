import Derived.Test.YthnmlklgbggmbaaGreatPlDq
import Derived.Test.YthnmlklgbggmbaaGreatObjq
import Derived.Deep.WholeRow
import Derived.Laws.CopyOwn
import Derived.Deep.OwnRows
import Derived.Test.YthnmlklgbggmbaaGreatRows
import Derived.WalkKit
import Derived.ProofKit
import Derived.OpenShut
import Derived.WalkLawsBesides
import Derived.WalkSpells
import Derived.Lib.Hide
import Derived.Deep.QuietTactic
import Derived.BigQuiet
import Derived.BigRegion
import Derived.Laws.AppendOwn
import Derived.ChangeArms
import Derived.Deep.Slices
namespace Go.Proofs.YthnmlklgbggmbaaGreat
open Go.ChangeShapes Go.WideShapes Go.ChangeAt Go.RowKit
set_option linter.unusedVariables false
set_option linter.unusedSimpArgs false
set_option maxRecDepth 20000 in
set_option maxHeartbeats 8000000 in
theorem sof_any (w : World) (a : Option Addr) (n c : Nat) (ob oi : Nat → Nat → Int) (h : ObIn w a n ob oi) (hn : n ≤ 1000) (hr : ∀ i, i < n → rightS (ob i) = true) (hb : ∀ i, i < n → -9223372036854775808 ≤ ob i 1 ∧ ob i 1 ≤ 9223372036854775807) :
    Calls Tryz.prog 71 #[.slice a n c] w fun e w' => e = .returned (.tuple #[.slice (some ⟨w.heap.size, 0, none⟩) n n, .int .i64 (preP ob n)]) ∧ PlacesAt w' w.heap.size n (placeP ob) ∧ Keeps (fun _ => False) w w' := by
  have HH := Lib.hid h
  have hmk := fun w => make_places w n hn
  have HR := Lib.hid hr
  have HBD := Lib.hid hb
  have HPB := Lib.hid (fun k (hk : k ≤ n) => pre_bound hr k hk)
  have hP0 := (places_new w n).keep ((Keeps.refl (fun _ => False) _).alloc (.cells #[.int .i64 0] 3)) (fun h => h)
  have hT0 := heap_new (w.alloc (.cells (madeCells #[.int .i64 0, .int .i64 0, .int .i64 0, .int .i64 0, .int .i64 0] (n * 5)) 145)) (.cells #[.int .i64 0] 3)
  rw [World.size_alloc] at hT0
  have HS0 := Lib.hid (And.intro hP0 (And.intro hT0 (show Keeps (fun _ => False) w ((w.alloc (.cells (madeCells #[.int .i64 0, .int .i64 0, .int .i64 0, .int .i64 0, .int .i64 0] (n * 5)) 145)).alloc (.cells #[.int .i64 0] 3)) from ((Keeps.refl _ w).alloc _).alloc _)))
  clear h hr hb hP0 hT0
  go_enter Tryz.func71, Tryz.ntmps71
  go_wp2_with fail
  go_loopw [16] (fun i wr => ∃ k : Nat, k ≤ n ∧ i = .int .i64 (k : Int) ∧ PlacesAt wr w.heap.size n (fun i => if i < k then placeP ob i else zeroPl) ∧ wr.heap[w.heap.size + 1]? = some (.cells #[.int .i64 (preP ob k)] 3 (0, 0)) ∧ Keeps (fun _ => False) w wr) (fun i _ => n - (intOf i).toNat)
  case atStart => exact ⟨0, by omega, rfl, by simpa using HS0.out.1, HS0.out.2.1, HS0.out.2.2⟩
  case round =>
    clear HS0
    obtain ⟨k, hk, rfl, hpl, htot, hkeep⟩ := hrel
    have HPL := Lib.hid hpl
    have HTO := Lib.hid htot
    have HKE := Lib.hid hkeep
    by_cases hlt : k < n
    · obtain ⟨b, off, rfl, hbl, hc⟩ := HH.out.lies (by omega)
      have HRA := Lib.hid (show wr.rangeAt b (off + k * 10) (objC (ob k) (oi k)).toList from fun j v hv => by
        have hj : j < 10 := (List.getElem?_eq_some_iff.1 hv).1
        rw [hkeep.none.cell (p := ⟨b, off + k * 10 + j, none⟩) hbl, hc k hlt j hj]
        simpa using hv)
      have HNB := Lib.hid (And.intro hpl.lt (lt_of htot))
      have hB1 := heap_new wr (.cells (objC (ob k) (oi k)) 74)
      have k1 : Keeps (fun _ => False) wr (wr.alloc (.cells (objC (ob k) (oi k)) 74)) := (Keeps.refl _ wr).alloc _
      have HS1 := Lib.hid (And.intro hB1 (And.intro (hpl.keep k1 (fun h => h)) (And.intro (k1.at htot (fun h => h)) (hkeep.trans k1))))
      have HSZ := Lib.hid (fun W => size_any4 (ob k) (oi k) W (HBD.out k hlt) (HR.out k hlt))
      have hra := fun W => right_any (ob k) (oi k) W (HBD.out k hlt)
      rw [HR.out k hlt] at hra
      have HRI := Lib.hid hra
      have HSB := Lib.hid (And.intro (size_bound (HR.out k hlt)) (HPB.out k hk))
      have HLT := Lib.hid hlt
      have e0 : decide (k < n) = true := decide_eq_true hlt
      have e0' : decide ((k : Int) < (n : Int)) = true := decide_eq_true (by omega)
      have e3 : (0 : Int) ≤ (k : Int) := by omega
      have e4 : (k : Int) < (n : Int) := by omega
      clear hc hB1 k1 hra hpl htot hkeep
      obtain ⟨B, hBe⟩ : ∃ B, B = wr.heap.size := ⟨_, rfl⟩
      rw [← hBe] at HS1
      have HBE := Lib.hid hBe
      clear hBe
      go_wp2_with (refine wpList_load_mid rfl 74 (.tmp 19) rfl b (off + k * 10) rfl (objC (ob k) (oi k)).toList _ HRA.out Tryz.underlying74 rfl obj_info10 ?_)
      rw [← HBE.out]
      refine (HSZ.out _).mono ?_
      rintro e1 w2 ⟨rfl, k2⟩
      have hB2 := k2.at HS1.out.1 (fun h => h)
      have ht2 := k2.at HS1.out.2.2.1 (fun h => h)
      have hp2 := HS1.out.2.1.keep k2 (fun h => h)
      have hk2 := HS1.out.2.2.2.trans k2
      have hx := HSB.out
      go_wp2_with fail
      refine (begin_any (preP ob k) (sizeP (ob k)) (w.heap.size + 1) w2 ht2 ⟨by omega, by omega, by omega, by omega⟩).mono ?_
      rintro e3' w3 ⟨rfl, ht3, k3⟩
      have hBne : B ≠ w.heap.size + 1 := by rw [HBE.out]; have := HNB.out.2; omega
      have hBne0 : B ≠ w.heap.size := by rw [HBE.out]; have := HNB.out.1; omega
      have hB3 := k3.at hB2 hBne
      have hp3 := hp2.keep k3 (by omega)
      have hk3 := hk2.far k3 (fun j e => by omega)
      have HS3 := Lib.hid (And.intro hB3 (And.intro hp3 (And.intro ht3 hk3)))
      have HNE := Lib.hid (And.intro hBne hBne0)
      clear hB2 ht2 hp2 hk2 k2 k3 hB3 hp3 ht3 hk3 hx hBne hBne0 HS1
      obtain ⟨c0, c1, c2, c3, c4, c5, c6, c7, c8, c9⟩ := ten_cells HS3.out.1
      go_wp2_with fail
      refine (HRI.out _).mono ?_
      rintro e4' w4 ⟨rfl, k4⟩
      have HS4 := Lib.hid (And.intro (k4.at HS3.out.1 (fun h => h)) (And.intro (HS3.out.2.1.keep k4 (fun h => h)) (And.intro (k4.at HS3.out.2.2.1 (fun h => h)) (HS3.out.2.2.2.trans k4))))
      clear c0 c1 c2 c3 c4 c5 c6 c7 c8 c9 k4 HS3
      obtain ⟨c0, c1, c2, c3, c4, c5, c6, c7, c8, c9⟩ := ten_cells HS4.out.1
      have HTH := Lib.hid (HS4.out.2.1.there HLT.out)
      obtain ⟨W5, hW5⟩ : ∃ W5, W5 = w4.setCells w.heap.size (k * 5) (#[.int .i64 (ob k 0), .int .i64 0, .int .i64 (ob k 1), .int .i64 (ob k 2), .int .i64 (ob k 3)] : Array Value).toList := ⟨_, rfl⟩
      have HW5 := Lib.hid hW5
      have HPU := Lib.hid (show PlacesAt (W5.setCell ⟨w.heap.size, k * 5 + 1, none⟩ (.int .i64 (preP ob k))) w.heap.size n (fun i => if i < k + 1 then placeP ob i else zeroPl) by
        rw [hW5]
        refine (HS4.out.2.1.put HLT.out (fun j => match j with | 0 => ob k 0 | 1 => 0 | 2 => ob k 1 | 3 => ob k 2 | _ => ob k 3) (preP ob k) (placeP ob k) ⟨rfl, rfl, rfl, rfl, rfl⟩).same fun i hi => ?_
        by_cases e : i = k
        · subst e
          rw [if_pos rfl, if_pos (by omega)]
        · rw [if_neg e]
          by_cases e2 : i < k
          · rw [if_pos e2, if_pos (by omega)]
          · rw [if_neg e2, if_neg (by omega)])
      have hk5 : Keeps (fun j => j = w.heap.size) w4 W5 := by rw [hW5]; exact Keeps.sets (S := fun j => j = w.heap.size) (.inl rfl) _ _ _ (Keeps.refl _ _)
      have HT5 := Lib.hid (show (W5.setCell ⟨w.heap.size, k * 5 + 1, none⟩ (.int .i64 (preP ob k))).heap[w.heap.size + 1]? = some (.cells #[.int .i64 (preP ob k + sizeP (ob k))] 3 (0, 0)) from (hk5.setCell (p := ⟨w.heap.size, k * 5 + 1, none⟩) (.inl rfl) _).at HS4.out.2.2.1 (by show ¬ (w.heap.size + 1 = w.heap.size); omega))
      have HK5 := Lib.hid (show Keeps (fun _ => False) w (W5.setCell ⟨w.heap.size, k * 5 + 1, none⟩ (.int .i64 (preP ob k))) from HS4.out.2.2.2.far (hk5.setCell (p := ⟨w.heap.size, k * 5 + 1, none⟩) (.inl rfl) _) (fun j e => by omega))
      have HC5 := Lib.hid (show ∃ cs : Array Value, W5.heap[w.heap.size]? = some (.cells cs 145 (0, 0)) from by
        obtain ⟨cs, h1, _⟩ := HS4.out.2.1
        rw [hW5]
        exact ⟨_, heap_sets _ _ _ _ _ _ _ h1⟩)
      obtain ⟨cs5, hcs5⟩ := HC5.out
      have f5 : W5.frozen? ⟨w.heap.size, k * 5 + 1, none⟩ = false := free_of hcs5 _
      have g5 : ∃ v, W5.cell? ⟨w.heap.size, k * 5 + 1, none⟩ = some v := by
        obtain ⟨cs, h1, h2, _⟩ := HS4.out.2.1
        have h3 := heap_sets (#[.int .i64 (ob k 0), .int .i64 0, .int .i64 (ob k 1), .int .i64 (ob k 2), .int .i64 (ob k 3)] : Array Value).toList (k * 5) w4 w.heap.size cs _ _ h1
        rw [← hW5] at h3
        rw [cell_of h3]
        exact ⟨_, Array.getElem?_eq_getElem (by rw [setsA_size]; have := HLT.out; omega)⟩
      obtain ⟨v5, c15⟩ := g5
      clear hW5 hk5 hcs5 HC5 HS4
      go_wp2_with (refine wpList_store_mid rfl 145 (.tmp 38) (.tmp 37) rfl w.heap.size (k * 5) #[.int .i64 (ob k 0), .int .i64 0, .int .i64 (ob k 1), .int .i64 (ob k 2), .int .i64 (ob k 3)] rfl rfl HTH.out place_info (pl_one _ _ _ _ _) ?_; rw [← HW5.out])
      go_roundw
      case rel => exact ⟨k + 1, by have := HLT.out; omega, by go_num, HPU.out, HT5.out, HK5.out⟩
      case measure => simp [intOf]; have := HLT.out; omega
    · obtain rfl : k = n := by omega
      have e0 : decide (k < k) = false := decide_eq_false (by omega)
      have ct := cell_of HTO.out 0
      clear hlt
      go_wp2_with fail
      go_quiet (fail)
      go_wp2_with fail
      refine bodyPost_ret (v := .tuple #[.slice (some ⟨w.heap.size, 0, none⟩) k k, .int .i64 (preP ob k)]) (by simp [results, Tryz.results71, go_sem]) rfl ⟨rfl, (HPL.out.keep ((Keeps.refl (fun _ => False) wr).drewN _) (fun h => h)).same fun i hi => if_pos hi, HKE.out.trans ((Keeps.refl (fun _ => False) wr).drewN _)⟩
end Go.Proofs.YthnmlklgbggmbaaGreat
namespace Go.Proofs.YthnmlklgbggmbaaGreat
open Go.ChangeShapes Go.WideShapes Go.ChangeAt Go.RowKit
set_option linter.unusedVariables false
set_option linter.unusedSimpArgs false
def firstP (p : Nat → Int) (j : Nat) : Int := if p 0 = 1 then -1 else if p 0 = 4 ∧ j = 0 then p 1 else dataP p (j : Int)
theorem first_any (p : Nat → Int) (j : Nat) (w : World) (hj : j < 4) (hp : 0 ≤ p 1 ∧ p 1 ≤ 1000000) (h : rightS (oOf p) = true) : Calls Tryz.prog 153 #[.agg (plC p), .int .i64 (j : Int)] w fun e w' => e = .returned (.int .i64 (firstP p j)) ∧ Keeps (fun _ => False) w w' := by
  have HB := Lib.hid ((Has.start w).alloc (.cells (plC p) 145))
  by_cases h1 : p 0 = 1
  · have HF := Lib.hid (show firstP p j = -1 by unfold firstP; rw [if_pos h1])
    have e1 : (p 0 == 1) = true := beq_iff_eq.2 h1
    clear h1
    go_enter Tryz.func153, Tryz.ntmps153
    go_wp2_with fail
    go_ret
    exact ⟨by rw [HF.out]; rfl, HB.out.keeps⟩
  have e1 : (p 0 == 1) = false := beq_eq_false_iff_ne.2 h1
  have HD := Lib.hid (fun W => cell_data p j W hj hp h)
  by_cases h4 : p 0 = 4
  · have e4 : (p 0 == 4) = true := beq_iff_eq.2 h4
    by_cases hj0 : j = 0
    · have HF := Lib.hid (show firstP p j = p 1 by unfold firstP; rw [if_neg h1, if_pos ⟨h4, hj0⟩])
      have e5 : ((j : Int) == 0) = true := beq_iff_eq.2 (by omega)
      have HW := Lib.hid (fun W => cell_word p W hp h h4)
      clear h1 h4 hj0 h hp hj
      go_enter Tryz.func153, Tryz.ntmps153
      go_wp2_with fail
      refine (HW.out _).mono ?_
      rintro e w1 ⟨rfl, k1⟩
      replace HB := Lib.hid (HB.out.none k1)
      clear k1
      go_wp2_with fail
      go_ret
      exact ⟨by rw [HF.out]; rfl, HB.out.keeps⟩
    · have HF := Lib.hid (show firstP p j = dataP p (j : Int) by unfold firstP; rw [if_neg h1, if_neg (fun e => hj0 e.2)])
      have e5 : ((j : Int) == 0) = false := beq_eq_false_iff_ne.2 (by omega)
      have e6 : (j = 0) = False := eq_false hj0
      clear h1 h4 hj0 h hp hj
      go_enter Tryz.func153, Tryz.ntmps153
      go_wp2_with fail
      refine (HD.out _).mono ?_
      rintro e w1 ⟨rfl, k1⟩
      replace HB := Lib.hid (HB.out.none k1)
      clear k1
      go_wp2_with fail
      go_ret
      exact ⟨by rw [HF.out]; rfl, HB.out.keeps⟩
  · have e4 : (p 0 == 4) = false := beq_eq_false_iff_ne.2 h4
    have HF := Lib.hid (show firstP p j = dataP p (j : Int) by unfold firstP; rw [if_neg h1, if_neg (fun e => h4 e.1)])
    clear h1 h4 h hp hj
    go_enter Tryz.func153, Tryz.ntmps153
    go_wp2_with fail
    refine (HD.out _).mono ?_
    rintro e w1 ⟨rfl, k1⟩
    replace HB := Lib.hid (HB.out.none k1)
    clear k1
    go_wp2_with fail
    go_ret
    exact ⟨by rw [HF.out]; rfl, HB.out.keeps⟩
end Go.Proofs.YthnmlklgbggmbaaGreat
namespace Go.Proofs.YthnmlklgbggmbaaGreat
open Go.RowKit
theorem Keeps.setRow {S : Nat → Prop} {a w : World} (h : Keeps S a w) {g : Nat} (hg : S g ∨ a.heap.size ≤ g) (cs : Array Value) : Keeps S a (w.setRow g cs) :=
  ⟨h.os, h.tape, h.output, Nat.le_trans h.size (by simp [World.setRow]), fun k hk hs => (setRow_other w g k cs (by rintro rfl; rcases hg with hg | hg; exact hs hg; omega)).trans (h.block k hk hs)⟩
end Go.Proofs.YthnmlklgbggmbaaGreat
namespace Go.Proofs.YthnmlklgbggmbaaGreat
open Go.ChangeShapes Go.WideShapes Go.ChangeAt Go.RowKit
set_option linter.unusedVariables false
set_option linter.unusedSimpArgs false
def words (N : Nat → Nat) (n : Nat) : List Value := (List.range n).map fun i => Value.int .u32 (N i)
theorem words_get (N : Nat → Nat) (n i : Nat) (h : i < n) : (words N n).toArray[i]? = some (.int .u32 (N i)) := by simp [words, h]
theorem words_set (N : Nat → Nat) (n i v : Nat) : (words N n).toArray.setIfInBounds i (.int .u32 v) = (words (fun k => if k = i then v else N k) n).toArray := by
  apply Array.ext_getElem?
  intro j
  rw [Array.getElem?_setIfInBounds]
  by_cases hj : j < n
  · rw [words_get N n j hj, words_get _ n j hj]
    by_cases hij : i = j
    · subst hij; simp [words, hj]
    · rw [if_neg hij, if_neg (fun e => hij e.symm)]
  · rw [Array.getElem?_eq_none (by simp [words]; omega), Array.getElem?_eq_none (by simp [words]; omega)]
    split
    · rw [if_neg (by simp [words]; omega)]
    · rfl
def IsMem (w : World) (b q n : Nat) (N : Nat → Nat) : Prop :=
  (∃ l s : Int, w.heap[b]? = some (.cells #[.int .i64 l, .int .i64 s, .slice (some ⟨q, 0, none⟩) n n] 234 (0, 0))) ∧ w.heap[q]? = some (.cells (words N n).toArray 38 (0, 0)) ∧ q ≠ b ∧ n ≤ 65536
theorem IsMem.keeps {S : Nat → Prop} {w w' : World} {b q n : Nat} {N : Nat → Nat} (h : IsMem w b q n N) (hk : Keeps S w w') (hb : ¬ S b) (hq : ¬ S q) : IsMem w' b q n N := by
  obtain ⟨⟨l, s, h1⟩, h2, h3⟩ := h
  exact ⟨⟨l, s, hk.at h1 hb⟩, hk.at h2 hq, h3⟩
theorem len_any (b q n : Nat) (N : Nat → Nat) (w : World) (h : IsMem w b q n N) :
    Calls Tryz.prog 154 #[.pointer (some ⟨b, 0, none⟩)] w fun e w' => e = .returned (.int .i64 n) ∧ w = w' := by
  obtain ⟨⟨l, s, h1⟩, h2, h3⟩ := h
  have c2 : w.cell? ⟨b, 2, none⟩ = some (.slice (some ⟨q, 0, none⟩) n n) := cell_of h1 2
  clear h1 h2
  go_enter Tryz.func154, Tryz.ntmps154
  go_wp2
  go_ret
  exact ⟨rfl, rfl⟩
theorem IsMem.none {w w' : World} {b q n : Nat} {N : Nat → Nat} (h : IsMem w b q n N) (hk : Keeps (fun _ => False) w w') : IsMem w' b q n N := h.keeps hk (fun h => h) (fun h => h)
theorem made_words (n : Nat) : madeCells #[Value.int .u32 0] n = (words (fun _ => 0) n).toArray := by
  apply Array.ext <;> simp [madeCells, Nat.mod_one, words]
theorem cnew_any (n : Nat) (hn : n ≤ 65536) (w : World) :
    Calls Tryz.prog 155 #[.int .i64 n] w fun e w' => e = .returned (.pointer (some ⟨w.heap.size + 1, 0, none⟩)) ∧ IsMem w' (w.heap.size + 1) w.heap.size n (fun _ => 0) ∧ Keeps (fun _ => False) w w' := by
  have hmk := run_make_row' (P := Tryz.prog) 41 38 (.int .u32 0) 4 Tryz.underlying41 (by kernel_rfl) rfl .i64 .i64 n (by omega) (by omega)
  have e1 : max (n : Int) 0 = n := by omega
  have e2 : min (n : Int) 65536 = n := by omega
  go_enter Tryz.func155, Tryz.ntmps155
  go_wp2_with fail
  go_ret
  have e : ∀ o o2, ((w.alloc o).alloc o2).heap[w.heap.size + 1]? = some o2 := fun o o2 => by
    have := heap_new (w.alloc o) o2
    rwa [show (w.alloc o).heap.size = w.heap.size + 1 by simp] at this
  have hg : (w.alloc (.cells (madeCells #[.int .u32 0] n) 38)).heap[w.heap.size]? = some (.cells (words (fun _ => 0) n).toArray 38 (0, 0)) := by
    rw [made_words]; exact heap_new _ _
  exact ⟨rfl, ⟨⟨0, 0, e _ _⟩, heap_old hg _, by omega, hn⟩, ((Keeps.refl _ _).alloc _).alloc _⟩
theorem all_any (b q n : Nat) (N : Nat → Nat) (w : World) (h : IsMem w b q n N) :
    Calls Tryz.prog 110 #[.pointer (some ⟨b, 0, none⟩)] w fun e w' => e = .returned (.slice (some ⟨w.heap.size, 0, none⟩) n n) ∧ w'.heap[w.heap.size]? = some (.cells (words N n).toArray 38 (0, 0)) ∧ Keeps (fun _ => False) w w' := by
  have H := Lib.hid h
  obtain ⟨⟨l, s, h1⟩, h2, h3, hn⟩ := h
  have lb := lt_of h1
  have lq := lt_of h2
  have hmk := run_make_row' (P := Tryz.prog) 41 38 (.int .u32 0) 4 Tryz.underlying41 (by kernel_rfl) rfl .i64 .i64 n (by omega) (by omega)
  have hsz : (Tryz.prog.info? 38).map (·.size) = some 1 := by kernel_rfl
  have c2 : w.cell? ⟨b, 2, none⟩ = some (.slice (some ⟨q, 0, none⟩) n n) := cell_of h1 2
  have hg : (w.alloc (.cells (madeCells #[.int .u32 0] n) 38)).heap[w.heap.size]? = some (.cells (words (fun _ => 0) n).toArray 38 (0, 0)) := by
    rw [made_words]; exact heap_new _ _
  have ka : Keeps (fun _ => False) w (w.alloc (.cells (madeCells #[.int .u32 0] n) 38)) := (Keeps.refl _ _).alloc _
  have hp : ∀ (j : Nat) (v : Value), (words N n)[j]? = some v → (w.alloc (.cells (madeCells #[.int .u32 0] n) 38)).cell? ((⟨q, 0, none⟩ : Addr).add j) = some v := by
    intro j v hj
    have e : ((⟨q, 0, none⟩ : Addr).add j) = ⟨q, j, none⟩ := by simp [Addr.add]; omega
    rw [e, cell_of (heap_old h2 _)]
    simpa using hj
  have HG := Lib.hid hg
  have HP := Lib.hid hp
  have HBel := Lib.hid ka.none
  clear hg hp ka h1 h2
  go_enter Tryz.func110, Tryz.ntmps110
  go_wp2_with (first
    | (go_at_call 154; refine (len_any _ _ _ _ _ H.out).mono ?_; rintro e w' ⟨rfl, rfl⟩)
    | (refine wpList_copy_splice rfl (.tmp 9) (.tmp 13) 41 41 rfl 38 Tryz.underlying41 hsz _ _ n n n n rfl rfl w.heap.size 0 (words (fun _ => 0) n) 38 HG.out (words N n) (by simp [words]) (fun _ => ⟨rfl, ⟨q, 0, none⟩, rfl, HP.out⟩) (by simp [words]) (by simp [words, Value.oneCell']) w.heap.size w HBel.out (Nat.le_refl _) ?_; intro w4 hg4 hb4))
  go_ret
  have e : splice (words (fun _ => 0) n) 0 (words N n) = words N n := by simp [splice, words]
  have hg5 := hg4.out
  rw [e] at hg5
  exact ⟨rfl, hg5, ⟨hb4.os, hb4.tape, hb4.output, hb4.size, fun k hk _ => hb4.block k hk⟩⟩
theorem of_zero (a0 : Option Addr) (cap0 : Nat) (N : Nat → Nat) (w : World) :
    Calls Tryz.prog 111 #[.slice a0 0 cap0] w fun e w' => e = .returned (.pointer (some ⟨w.heap.size + 1, 0, none⟩)) ∧ IsMem w' (w.heap.size + 1) w.heap.size 0 N ∧ Keeps (fun _ => False) w w' := by
  have hsz : (Tryz.prog.info? 38).map (·.size) = some 1 := by kernel_rfl
  have HN := Lib.hid (cnew_any 0 (by omega) w)
  go_enter Tryz.func111, Tryz.ntmps111
  go_wp2_with fail
  refine HN.out.mono ?_
  rintro e w1 ⟨rfl, h1, k1⟩
  have c2 : w1.cell? ⟨w.heap.size + 1, 2, none⟩ = some (.slice (some ⟨w.heap.size, 0, none⟩) 0 0) := by
    obtain ⟨l, s, hb⟩ := h1.1
    exact cell_of hb 2
  have H1 := Lib.hid h1
  clear h1 HN
  go_wp2_with (refine wpList_copy_nothing rfl (.tmp 10) (.tmp 11) 41 41 rfl 38 Tryz.underlying41 hsz _ _ 0 0 0 cap0 rfl rfl rfl ?_)
  go_ret
  obtain ⟨m1, m2, m3⟩ := H1.out
  exact ⟨rfl, ⟨m1, m2, m3⟩, k1⟩
theorem of_some (b0 off n cap0 : Nat) (N : Nat → Nat) (w : World) (hn : n ≤ 65536) (hpos : 0 < n) (hb : b0 < w.heap.size) (hc : ∀ i, i < n → w.cell? ⟨b0, off + i, none⟩ = some (.int .u32 (N i))) :
    Calls Tryz.prog 111 #[.slice (some ⟨b0, off, none⟩) n cap0] w fun e w' => e = .returned (.pointer (some ⟨w.heap.size + 1, 0, none⟩)) ∧ IsMem w' (w.heap.size + 1) w.heap.size n N ∧ Keeps (fun _ => False) w w' := by
  have hsz : (Tryz.prog.info? 38).map (·.size) = some 1 := by kernel_rfl
  have HN := Lib.hid (cnew_any n hn w)
  have HC := Lib.hid hc
  clear hc
  go_enter Tryz.func111, Tryz.ntmps111
  go_wp2_with fail
  refine HN.out.mono ?_
  rintro e w1 ⟨rfl, h1, k1⟩
  have c2 : w1.cell? ⟨w.heap.size + 1, 2, none⟩ = some (.slice (some ⟨w.heap.size, 0, none⟩) n n) := by
    obtain ⟨l, s, hb⟩ := h1.1
    exact cell_of hb 2
  have hp : ∀ (j : Nat) (v : Value), (words N n)[j]? = some v → w1.cell? ((⟨b0, off, none⟩ : Addr).add j) = some v := by
    intro j v hj
    have hjn : j < n := by
      rcases Nat.lt_or_ge j n with h1 | h1
      · exact h1
      · rw [List.getElem?_eq_none (by simpa [words] using h1)] at hj; cases hj
    have hv : v = .int .u32 (N j) := by simpa [words, hjn] using hj.symm
    have e : ((⟨b0, off, none⟩ : Addr).add j) = ⟨b0, off + j, none⟩ := by
      simp only [Addr.add]
      by_cases h : j = 0 <;> simp [h]
    rw [e, hv, ← HC.out j hjn]
    exact World.cell?_of_block (w := w) (k1.block b0 hb fun h => h)
  have H1 := Lib.hid h1
  have HP := Lib.hid hp
  clear h1 HN hp
  go_wp2_with (refine wpList_copy_own rfl (.tmp 10) (.tmp 11) 41 41 rfl 38 Tryz.underlying41 hsz w.heap.size 0 n n ⟨b0, off, none⟩ n cap0 rfl rfl _ 38 H1.out.2.1 (words N n) (by simp [words]) HP.out (by simp [words]) (by simp [words, Value.oneCell']) ?_)
  go_ret
  obtain ⟨⟨l, s, m1⟩, m2, m3, m4⟩ := H1.out
  exact ⟨rfl, ⟨⟨l, s, (setRow_other _ _ _ _ (by omega)).trans m1⟩, (setRow_heap _ _ _ _ _ _ m2).trans (by simp [words]), m3, m4⟩, k1.setRow (.inr (Nat.le_refl _)) _⟩
end Go.Proofs.YthnmlklgbggmbaaGreat
namespace Go.Proofs.YthnmlklgbggmbaaGreat
open Go.ChangeShapes Go.WideShapes Go.ChangeAt Go.RowKit

def Reads (P : Program) (w : World) (t : TypeId) (cs : List Value) : Prop :=
  ∃ (H : Type) (enc : TypeId × Value → H) (fuel : Nat) (x : DataW H × List MemPlace), DataW.trod enc P w 0 (fun _ => true) true fuel t cs = some x

variable {P : Program} {w : World} {t : TypeId} {cs : List Value}

theorem reads_of {H : Type} {enc : TypeId × Value → H} {v : Value} {d : DataW H} {p : List MemPlace} (h : DataW.Trod enc P w 0 (fun _ => true) true t v d p) : Reads P w t v.cells.toList := by
  obtain ⟨fuel, hf⟩ := h
  exact ⟨H, enc, fuel, _, hf⟩
theorem Reads.int {k : IntKind} (h : Reads P w t cs) (ht : P.underlying t = some (.int k)) : ∃ n, cs = [.int k n] ∧ (Lit.int k n).wf = true := by
  obtain ⟨H, enc, fuel, x, hf⟩ := h
  obtain ⟨n, h, _, hw⟩ := DataW.trod_int ht hf
  exact ⟨n, h, hw⟩
theorem Reads.bool (h : Reads P w t cs) (ht : P.underlying t = some .bool) : ∃ b, cs = [.bool b] := by
  obtain ⟨H, enc, fuel, x, hf⟩ := h
  obtain ⟨n, h, _⟩ := DataW.trod_bool ht hf
  exact ⟨n, h⟩
theorem Reads.struct {fs : Array Field} (h : Reads P w t cs) (ht : P.underlying t = some (.struct fs)) :
    cs.length = P.cellsOf t ∧ ∀ (i : Nat) (f : Field), fs[i]? = some f → Reads P w f.type ((cs.drop f.offset).take (P.cellsOf f.type)) := by
  obtain ⟨H, enc, fuel, x, hf⟩ := h
  obtain ⟨xs, n, _, _, hl, hlen, h⟩ := DataW.trod_struct ht hf
  refine ⟨hl, fun i f hi => ?_⟩
  have hlt : i < fs.size := by
    rcases Nat.lt_or_ge i fs.size with h1 | h1
    · exact h1
    · rw [Array.getElem?_eq_none h1] at hi; cases hi
  have := h i f hi
  rw [List.getElem?_eq_getElem (by omega)] at this
  exact ⟨H, enc, n, _, this⟩
theorem Reads.field {fs : Array Field} (h : Reads P w t cs) (ht : P.underlying t = some (.struct fs)) (i : Nat) (u o k : Nat) (hi : (fs[i]?).map (fun f => (f.type, f.offset)) = some (u, o)) (hk : P.cellsOf u = k) :
    Reads P w u ((cs.drop o).take k) := by
  cases hf : fs[i]? with
  | none => rw [hf] at hi; cases hi
  | some f =>
    rw [hf] at hi
    simp at hi
    obtain ⟨rfl, rfl⟩ := hi
    have := (h.struct ht).2 i f hf
    rw [hk] at this
    exact this
theorem Reads.array {n : Nat} {e : TypeId} (h : Reads P w t cs) (ht : P.underlying t = some (.array n e)) :
    cs.length = P.cellsOf t ∧ ∀ i, i < n → Reads P w e ((cs.drop (i * P.cellsOf e)).take (P.cellsOf e)) := by
  obtain ⟨H, enc, fuel, x, hf⟩ := h
  obtain ⟨xs, m, _, _, hl, hlen, h⟩ := DataW.trod_array ht hf
  refine ⟨hl, fun i hi => ?_⟩
  have := h i hi
  rw [List.getElem?_eq_getElem (by omega)] at this
  exact ⟨H, enc, m, _, this⟩
theorem Reads.slice {e : TypeId} (h : Reads P w t cs) (ht : P.underlying t = some (.slice e)) :
    ∃ (a : Option Addr) (len cap : Nat), cs = [.slice a len cap] ∧ len ≤ cap ∧ cap ≤ maxLen ∧
      ∀ i, i < len → ∃ a', a = some a' ∧ ∃ cs', w.cells? 0 (a'.add (i * P.cellsOf e)) (P.cellsOf e) = some cs' ∧ Reads P w e cs' := by
  obtain ⟨H, enc, fuel, x, hf⟩ := h
  rcases Deep.open_slice ht hf with ⟨h, _⟩ | ⟨a, len, cap, m, n, D, Pl, h, _, hl, hm, hmm, _, hc⟩
  · exact ⟨none, 0, 0, h, by omega, by unfold maxLen; omega, fun i hi => by omega⟩
  · refine ⟨some a, len, cap, h, hl, hm, fun i hi => ⟨a, rfl, ?_⟩⟩
    simp only [if_true] at hmm
    obtain ⟨cs', h1, h2⟩ := hc i (by omega)
    exact ⟨cs', h1, ⟨H, enc, n, _, h2⟩⟩

theorem spot_none {a : Addr} {v : Value} (h : w.cell? a = some v) : a = ⟨a.block, a.off, none⟩ ∧ a.block < w.heap.size := by
  unfold World.cell? at h
  split at h
  · rename_i c _ _ e
    split at h
    · cases h
    · rename_i hs
      refine ⟨?_, ?_⟩
      · cases a with
        | mk b o s => cases s with
          | none => rfl
          | some _ => simp at hs
      · rcases Nat.lt_or_ge a.block w.heap.size with h1 | h1
        · exact h1
        · rw [Array.getElem?_eq_none h1] at e; cases e
  · cases h
theorem Reads.rows {e : TypeId} {n : Nat} (h : Reads P w t cs) (ht : P.underlying t = some (.slice e)) (hn : P.cellsOf e = n) (hpos : 0 < n) :
    ∃ (a : Option Addr) (len cap : Nat), cs = [.slice a len cap] ∧ len ≤ cap ∧ cap ≤ maxLen ∧
      (0 < len → ∃ b off, a = some ⟨b, off, none⟩ ∧ b < w.heap.size ∧ ∀ i, i < len → ∃ cs', cs'.length = n ∧ (∀ j, j < n → w.cell? ⟨b, off + i * n + j, none⟩ = cs'[j]?) ∧ Reads P w e cs') := by
  obtain ⟨a, len, cap, hc, hl, hm, hi⟩ := h.slice ht
  refine ⟨a, len, cap, hc, hl, hm, fun hlen => ?_⟩
  obtain ⟨a', rfl, cs0, h0, _⟩ := hi 0 hlen
  rw [hn] at h0
  obtain ⟨_, l0, c0⟩ := World.cells?_some h0
  have hx := c0 0 (by omega)
  rw [List.getElem?_eq_getElem (by omega)] at hx
  have hz : (a'.add (0 * n)).add 0 = a' := by simp [Addr.add]
  rw [hz] at hx
  obtain ⟨hsp, hlt⟩ := spot_none hx
  refine ⟨a'.block, a'.off, by rw [← hsp], hlt, fun i hil => ?_⟩
  obtain ⟨a2, e2, cs', h1, h2⟩ := hi i hil
  cases e2
  rw [hn] at h1
  obtain ⟨_, l1, c1⟩ := World.cells?_some h1
  refine ⟨cs', l1, fun j hj => ?_, h2⟩
  rw [← c1 j hj]
  congr 1
  rw [hsp]
  simp only [Addr.add]
  by_cases h1 : i * n = 0 <;> by_cases h2 : j = 0 <;> simp [h1, h2]
end Go.Proofs.YthnmlklgbggmbaaGreat
namespace Go.Proofs.YthnmlklgbggmbaaGreat
open Go.ChangeShapes Go.WideShapes Go.ChangeAt Go.RowKit
set_option linter.unusedVariables false
def Row (w : World) (a : Option Addr) (n : Nat) (F : Nat → Int) : Prop := 0 < n → ∃ b off, a = some ⟨b, off, none⟩ ∧ b < w.heap.size ∧ ∀ i, i < n → w.cell? ⟨b, off + i, none⟩ = some (.int .i64 (F i))
theorem Row.below {w w' : World} {a : Option Addr} {n : Nat} {F : Nat → Int} (h : Row w a n F) (hk : Below w.heap.size w w') : Row w' a n F := by
  intro hn
  obtain ⟨b, off, ha, hb, hc⟩ := h hn
  exact ⟨b, off, ha, Nat.lt_of_lt_of_le hb hk.size, fun i hi => (hk.cell (p := ⟨b, off + i, none⟩) hb).trans (hc i hi)⟩
theorem Row.keeps {S : Nat → Prop} {w w' : World} {a : Option Addr} {n : Nat} {F : Nat → Int} (h : Row w a n F) (hk : Keeps S w w') (hs : ∀ b off, a = some ⟨b, off, none⟩ → ¬ S b) : Row w' a n F := by
  intro hn
  obtain ⟨b, off, ha, hb, hc⟩ := h hn
  exact ⟨b, off, ha, Nat.lt_of_lt_of_le hb hk.size, fun i hi => (World.cell?_of_block (w := w) (hk.block b hb (hs b off ha))).trans (hc i hi)⟩
theorem Row.none {w w' : World} {a : Option Addr} {n : Nat} {F : Nat → Int} (h : Row w a n F) (hk : Keeps (fun _ => False) w w') : Row w' a n F := h.keeps hk fun _ _ _ h => h
theorem Keeps.ofBelow {w w' : World} (h : Below w.heap.size w w') : Keeps (fun _ => False) w w' := ⟨h.os, h.tape, h.output, h.size, fun k hk _ => h.block k hk⟩
theorem new_one (w : World) (x : Value) (E : TypeId) : ∀ (j : Nat) (u : Value), [x][j]? = some u → (w.alloc (.cells #[x] E)).cell? ((⟨w.heap.size, 0, Option.none⟩ : Addr).add j) = some u := by
  intro j u h
  rcases j with _ | j
  · have e : (⟨w.heap.size, 0, Option.none⟩ : Addr).add 0 = ⟨w.heap.size, 0, Option.none⟩ := by simp [Addr.add]
    rw [e, World.cell?_alloc_at _ _ _ _ rfl]
    simpa using h
  · simp at h
def nums (F : Nat → Int) (n : Nat) : List Value := (List.range n).map fun i => Value.int .i64 (F i)
theorem nums_len (F : Nat → Int) (n : Nat) : (nums F n).length = n := by simp [nums]
theorem nums_get (F : Nat → Int) (n i : Nat) (h : i < n) : (nums F n)[i]? = some (.int .i64 (F i)) := by simp [nums, h]
theorem Row.ofOwn {w : World} {B n : Nat} {E : TypeId} {v : Value} {F : Nat → Int} (h : w.ownsRow B E 1 v n (nums F n)) : ∃ a cap, v = .slice a n cap ∧ Row w a n F := by
  obtain ⟨h1, h | ⟨g, cap, cur, rfl, hg, hb, hc1, hc2, hs, ht⟩⟩ := h
  · exact ⟨Option.none, 0, by rw [h.1, h.2], fun hp => by omega⟩
  · refine ⟨_, cap, rfl, fun hp => ⟨g, 0, rfl, lt_of hb, fun i hi => ?_⟩⟩
    have e : w.cell? ⟨g, 0 + i, Option.none⟩ = cur[i]? := by simp [World.cell?, hb]
    have e2 : (cur.toList.take (n * 1))[i]? = (nums F n)[i]? := by rw [ht]
    rw [List.getElem?_take, if_pos (by omega), nums_get F n i hi] at e2
    rw [e]
    simpa using e2
theorem Row.cells {w : World} {b off n : Nat} {F : Nat → Int} (hc : ∀ i, i < n → w.cell? ⟨b, off + i, Option.none⟩ = some (.int .i64 (F i))) : ∀ (j : Nat) (u : Value), (nums F n)[j]? = some u → w.cell? ((⟨b, off, Option.none⟩ : Addr).add j) = some u := by
  intro j u hj
  have hjn : j < n := by
    rcases Nat.lt_or_ge j n with h1 | h1
    · exact h1
    · rw [List.getElem?_eq_none (by rw [nums_len]; exact h1)] at hj; cases hj
  rw [nums_get F n j hjn] at hj
  have e : ((⟨b, off, Option.none⟩ : Addr).add j) = ⟨b, off + j, Option.none⟩ := by
    simp only [Addr.add]
    by_cases h : j = 0 <;> simp [h]
  rw [e, hc j hjn, ← Option.some.inj hj]
end Go.Proofs.YthnmlklgbggmbaaGreat
