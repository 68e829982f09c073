import Derived.Test.YtohajfkekkelhaaDoorRefAz
import Derived.Test.YtohajfkekkelhaaDoorSpecQz
import Derived.Deep.RegionHeld3
import Derived.Deep.MidRow
import Derived.Deep.QuietTactic
import Derived.Test.YtohajfkekkelhaaDoorRefJz
import Derived.Test.YtohajfkekkelhaaDoorRefLz
import Derived.Test.YtohajfkekkelhaaDoorRefMz
import Derived.Test.YtohajfkekkelhaaDoorRefNz
import Derived.Test.YtohajfkekkelhaaDoorRefOz
import Derived.Test.YtohajfkekkelhaaDoorRefU19
import Derived.Test.YtohajfkekkelhaaDoorSpecLz
namespace Go.Proofs.YtohajfkekkelhaaDoor
open Go.ChangeShapes Go.WideShapes Go.ChangeAt Go.RowKit
set_option linter.unusedVariables false
set_option linter.unusedSimpArgs false
theorem ritem_info15 : (Tryd.prog.info? 103).map (·.size) = some 15 := by kernel_rfl
structure StB (w wr : World) (O : List ObjX) (k : Nat) (v : Value) (xs : List Value) : Prop where
  own : wr.ownsRow w.heap.size 103 15 v k xs
  cells : ∀ i p, i < k → O[i]? = some p → ∀ j u, ((startI p.1 p.2).l none 0 0)[j]? = some u → xs[i * 15 + j]? = some u
  below : Below w.heap.size w wr
theorem StB.keeps {w W W' : World} {O : List ObjX} {k : Nat} {v : Value} {xs : List Value} (h : StB w W O k v xs) (hk : Keeps (fun _ => False) W W') : StB w W' O k v xs :=
  ⟨h.own.kept (hk.grown0 none) (by cases e : v.ownBlock <;> simp), h.cells, h.below.trans (hk.none.mono h.below.size)⟩
theorem StB.next {w W W' : World} {O : List ObjX} {k : Nat} {v v' : Value} {xs : List Value} (h : StB w W O k v xs) {p : ObjX} (hx : O[k]? = some p) {y : W4} (hy : startI p.1 p.2 = ⟨p.1, p.2, [], y⟩)
    (ho : W'.ownsRow w.heap.size 103 15 v' (k + 1) (xs ++ (⟨p.1, p.2, [], y⟩ : ItemD).l none 0 0)) (hb : Below w.heap.size w W') : StB w W' O (k + 1) v' (xs ++ (⟨p.1, p.2, [], y⟩ : ItemD).l none 0 0) := by
  have hlen := h.own.1
  refine ⟨ho, fun i q hi hq j u hu => ?_, hb⟩
  by_cases e : i = k
  · subst e
    rw [hx] at hq
    cases hq
    rw [hy] at hu
    rw [List.getElem?_append_right (by omega), show i * 15 + j - xs.length = j by omega]
    exact hu
  · have h3 := h.cells i q (by omega) hq j u hu
    rw [List.getElem?_append_left (List.getElem?_eq_some_iff.1 h3).1]
    exact h3
theorem start_zero {p : ObjX} (h : rightS p.1 = false ∨ p.1 0 = 1) : startI p.1 p.2 = ⟨p.1, p.2, [], W4.zero⟩ := by
  have hk : kindP p.1 = 0 ∨ kindP p.1 = 1 := by
    unfold kindP
    rcases h with h | h
    · rw [h]; exact .inl rfl
    · by_cases e : rightS p.1 = true
      · rw [if_pos e]; exact .inr h
      · rw [if_neg e]; exact .inl rfl
  unfold startI
  rw [if_neg (by omega), if_neg (by omega)]
theorem start_clip {p : ObjX} (h : rightS p.1 = true) (h1 : p.1 0 ≠ 1) : ∃ m : Nat, max (p.1 2) 1 = (m : Int) ∧ m ≤ 4 ∧ startI p.1 p.2 = ⟨p.1, p.2, [], (W4.mk (p.2 0) (p.2 1) (p.2 2) (p.2 3)).clip m⟩ := by
  have hk : kindP p.1 = p.1 0 := by unfold kindP; rw [if_pos h]
  have hr := h
  unfold rightS at hr
  simp only [Bool.and_eq_true, decide_eq_true_eq] at hr
  by_cases h4 : p.1 0 = 4
  · have h3 := hr.2.2.1
    rw [if_pos h4] at h3
    have h2 : p.1 2 = 0 := by simpa using h3
    refine ⟨1, by rw [h2]; rfl, by omega, ?_⟩
    unfold startI
    rw [if_neg (by omega), if_pos (by omega)]
    rfl
  · have h3 := hr.2.2.1
    rw [if_neg h4] at h3
    simp only [Bool.and_eq_true, decide_eq_true_eq] at h3
    refine ⟨(p.1 2).toNat, by omega, by omega, ?_⟩
    unfold startI
    rw [if_pos (by omega)]
theorem item_one20 (p : ObjX) (y : W4) : ∀ u ∈ (⟨p.1, p.2, [], y⟩ : ItemD).l none 0 0, u.oneCell' = true := item_one19 _ _ _ _
set_option maxRecDepth 100000 in
set_option maxHeartbeats 16000000 in
theorem rstart_any (w : World) (a : Option Addr) (n c : Nat) (O : List ObjX) (h : ObjsArg w a n O) (hn : n ≤ 1000) :
    Calls Tryd.prog 39 #[.slice a n c] w fun e w' => Below w.heap.size w w' ∧ ∃ a' c', e = .returned (.slice a' n c') ∧ StateR w' a' (startP O) := by
  have HH := Lib.hid h
  obtain ⟨i1, hi1, hz10, hz11, hz12⟩ := info_parts info_item19
  have HS0 := Lib.hid (show StB w w O 0 (.slice none 0 0) [] from ⟨World.ownsRow_nil _ _ _ _, fun i x hi => by omega, Below.refl _ w⟩)
  clear h
  go_enter Tryd.func39, Tryd.ntmps39
  go_wp2_with fail
  go_loopw [3, 4, 5] (fun s i _ wr => ∃ (k : Nat) (v : Value) (xs : List Value), k ≤ n ∧ i = .int .i64 (k : Int) ∧ s = v ∧ StB w wr O k v xs) (fun _ i _ _ => n - (intOf i).toNat)
  case atStart => exact ⟨0, _, _, by omega, rfl, rfl, HS0.out⟩
  case round =>
    clear HS0
    obtain ⟨k, v, xs, hk, rfl, hsv, hcb⟩ := hrel
    obtain rfl := hsv.symm
    have HB := Lib.hid hcb
    clear hcb
    by_cases hlt : k < n
    · obtain ⟨b, off, rfl, hb, hobs⟩ := HH.out.lies (by omega)
      obtain ⟨p, hp⟩ : ∃ p, O[k]? = some p := ⟨_, List.getElem?_eq_getElem (by rw [HH.out.len]; exact hlt)⟩
      have okp := HH.out.ok p (List.mem_of_getElem? hp)
      have HRA := Lib.hid (show ∀ W, Below w.heap.size w W → W.rangeAt b (off + k * 10) (objL p) from fun W hW => range_below (hobs k p hp) hW hb)
      have HX := Lib.hid (And.intro hp okp)
      have HKA := Lib.hid (show Keeps (fun _ => False) wr (wr.alloc (.cells #[.int .i64 (p.1 0), .int .i64 (p.1 1), .int .i64 (p.1 2), .int .i64 (p.1 3), .int .i64 (p.1 4), .int .i64 (p.1 5), .int .u32 (p.2 0), .int .u32 (p.2 1), .int .u32 (p.2 2), .int .u32 (p.2 3), .slice none 0 0, .int .u32 0, .int .u32 0, .int .u32 0, .int .u32 0] 103)) from (Keeps.refl _ wr).alloc _)
      have HBA := Lib.hid (show Below w.heap.size w (wr.alloc (.cells #[.int .i64 (p.1 0), .int .i64 (p.1 1), .int .i64 (p.1 2), .int .i64 (p.1 3), .int .i64 (p.1 4), .int .i64 (p.1 5), .int .u32 (p.2 0), .int .u32 (p.2 1), .int .u32 (p.2 2), .int .u32 (p.2 3), .slice none 0 0, .int .u32 0, .int .u32 0, .int .u32 0, .int .u32 0] 103)) from HB.out.below.alloc HB.out.below.size _)
      have HXA := Lib.hid (show (wr.alloc (.cells #[.int .i64 (p.1 0), .int .i64 (p.1 1), .int .i64 (p.1 2), .int .i64 (p.1 3), .int .i64 (p.1 4), .int .i64 (p.1 5), .int .u32 (p.2 0), .int .u32 (p.2 1), .int .u32 (p.2 2), .int .u32 (p.2 3), .slice none 0 0, .int .u32 0, .int .u32 0, .int .u32 0, .int .u32 0] 103)).heap[wr.heap.size]? = some (.cells #[.int .i64 (p.1 0), .int .i64 (p.1 1), .int .i64 (p.1 2), .int .i64 (p.1 3), .int .i64 (p.1 4), .int .i64 (p.1 5), .int .u32 (p.2 0), .int .u32 (p.2 1), .int .u32 (p.2 2), .int .u32 (p.2 3), .slice none 0 0, .int .u32 0, .int .u32 0, .int .u32 0, .int .u32 0] 103 (0, 0)) from heap_new wr _)
      have HRI := Lib.hid (fun w => rright_all p.1 p.2 w (okp.o 1 (by omega)))
      have d1 : decide (k < n) = true := decide_eq_true hlt
      have d2 : decide ((k : Int) < (n : Int)) = true := decide_eq_true (by omega)
      clear hobs hp okp
      go_wp2_with (first
        | (refine wpList_load_mid rfl 49 (.tmp 14) rfl b (off + k * 10) rfl [.int .i64 (p.1 0), .int .i64 (p.1 1), .int .i64 (p.1 2), .int .i64 (p.1 3), .int .i64 (p.1 4), .int .i64 (p.1 5), .int .u32 (p.2 0), .int .u32 (p.2 1), .int .u32 (p.2 2), .int .u32 (p.2 3)] _ (HRA.out _ HB.out.below) Tryd.underlying49 rfl obj_info19 ?_)
        | (refine wpList_load_mid rfl 49 (.tmp 19) rfl b (off + k * 10) rfl [.int .i64 (p.1 0), .int .i64 (p.1 1), .int .i64 (p.1 2), .int .i64 (p.1 3), .int .i64 (p.1 4), .int .i64 (p.1 5), .int .u32 (p.2 0), .int .u32 (p.2 1), .int .u32 (p.2 2), .int .u32 (p.2 3)] _ (HRA.out _ HBA.out) Tryd.underlying49 rfl obj_info19 ?_))
      refine (HRI.out _).mono ?_
      rintro e6 w6 ⟨rfl, k6⟩
      have HK6 := Lib.hid (HKA.out.trans k6)
      have HX6 := Lib.hid (show w6.heap[wr.heap.size]? = some (.cells #[.int .i64 (p.1 0), .int .i64 (p.1 1), .int .i64 (p.1 2), .int .i64 (p.1 3), .int .i64 (p.1 4), .int .i64 (p.1 5), .int .u32 (p.2 0), .int .u32 (p.2 1), .int .u32 (p.2 2), .int .u32 (p.2 3), .slice none 0 0, .int .u32 0, .int .u32 0, .int .u32 0, .int .u32 0] 103 (0, 0)) from k6.at HXA.out fun h => h)
      have HB6 := Lib.hid (HB.out.keeps HK6.out)
      have c0 : w6.cell? ⟨b, off + k * 10, none⟩ = some (.int .i64 (p.1 0)) := HRA.out _ HB6.out.below 0 _ rfl
      clear k6
      by_cases hz : rightS p.1 = false ∨ p.1 0 = 1
      · have HSV := Lib.hid (start_zero hz)
        have HXB := Lib.hid (show w6.rangeAt wr.heap.size 0 [.int .i64 (p.1 0), .int .i64 (p.1 1), .int .i64 (p.1 2), .int .i64 (p.1 3), .int .i64 (p.1 4), .int .i64 (p.1 5), .int .u32 (p.2 0), .int .u32 (p.2 1), .int .u32 (p.2 2), .int .u32 (p.2 3), .slice none 0 0, .int .u32 0, .int .u32 0, .int .u32 0, .int .u32 0] from fun j u hu => by rw [cell_of HX6.out (0 + j), show 0 + j = j by omega]; simpa using hu)
        have HO1 := Lib.hid (HB6.out.own.alloc (.cells #[.int .i64 (p.1 0), .int .i64 (p.1 1), .int .i64 (p.1 2), .int .i64 (p.1 3), .int .i64 (p.1 4), .int .i64 (p.1 5), .int .u32 (p.2 0), .int .u32 (p.2 1), .int .u32 (p.2 2), .int .u32 (p.2 3), .slice none 0 0, .int .u32 0, .int .u32 0, .int .u32 0, .int .u32 0] 103))
        have HBL := Lib.hid (HB6.out.below.alloc HB6.out.below.size (.cells #[.int .i64 (p.1 0), .int .i64 (p.1 1), .int .i64 (p.1 2), .int .i64 (p.1 3), .int .i64 (p.1 4), .int .i64 (p.1 5), .int .u32 (p.2 0), .int .u32 (p.2 1), .int .u32 (p.2 2), .int .u32 (p.2 3), .slice none 0 0, .int .u32 0, .int .u32 0, .int .u32 0, .int .u32 0] 103))
        have HNW := Lib.hid (World.news_of_block (heap_new w6 (.cells #[.int .i64 (p.1 0), .int .i64 (p.1 1), .int .i64 (p.1 2), .int .i64 (p.1 3), .int .i64 (p.1 4), .int .i64 (p.1 5), .int .u32 (p.2 0), .int .u32 (p.2 1), .int .u32 (p.2 2), .int .u32 (p.2 3), .slice none 0 0, .int .u32 0, .int .u32 0, .int .u32 0, .int .u32 0] 103)))
        cases hr : rightS p.1 with
        | false =>
          clear hz hr
          go_wp2_with (first
            | (refine wpList_load_mid rfl 103 (.tmp 5) rfl wr.heap.size 0 rfl [.int .i64 (p.1 0), .int .i64 (p.1 1), .int .i64 (p.1 2), .int .i64 (p.1 3), .int .i64 (p.1 4), .int .i64 (p.1 5), .int .u32 (p.2 0), .int .u32 (p.2 1), .int .u32 (p.2 2), .int .u32 (p.2 3), .slice none 0 0, .int .u32 0, .int .u32 0, .int .u32 0, .int .u32 0] _ HXB.out Tryd.underlying103 rfl ritem_info15 ?_)
            | (at_builtin; refine wpList_append_own _ rfl (.tmp 43) (.tmp 45) 86 rfl w.heap.size 103 i1 _ 15 104 Tryd.underlying86 hi1 hz10 hz11 hz12 rfl (by decide) v k xs rfl HO1.out ⟨w6.heap.size, 0, none⟩ 1 1 (#[.int .i64 (p.1 0), .int .i64 (p.1 1), .int .i64 (p.1 2), .int .i64 (p.1 3), .int .i64 (p.1 4), .int .i64 (p.1 5), .int .u32 (p.2 0), .int .u32 (p.2 1), .int .u32 (p.2 2), .int .u32 (p.2 3), .slice none 0 0, .int .u32 0, .int .u32 0, .int .u32 0, .int .u32 0] : Array Value).toList rfl rfl HNW.out (item_one20 p W4.zero) (by unfold maxLen; omega) (by omega) HBL.out.size ?_; intro v2 w2 ho2 hg2 hk2))
          have HB2 := Lib.hid (StB.next HB6.out HX.out.1 HSV.out ho2 (HBL.out.grown hg2 HBL.out.size fun j hj => (HO1.out.lt j hj).1))
          clear ho2 hg2 hk2
          go_roundw
          case rel => exact ⟨k + 1, _, _, by omega, by go_num, rfl, HB2.out⟩
          case measure => simp [intOf]; omega
        | true =>
          have h1 : p.1 0 = 1 := by rcases hz with h | h; (rw [hr] at h; cases h); exact h
          rw [h1] at c0
          clear hz hr h1
          go_wp2_with (first
            | (refine wpList_load_mid rfl 103 (.tmp 5) rfl wr.heap.size 0 rfl [.int .i64 (p.1 0), .int .i64 (p.1 1), .int .i64 (p.1 2), .int .i64 (p.1 3), .int .i64 (p.1 4), .int .i64 (p.1 5), .int .u32 (p.2 0), .int .u32 (p.2 1), .int .u32 (p.2 2), .int .u32 (p.2 3), .slice none 0 0, .int .u32 0, .int .u32 0, .int .u32 0, .int .u32 0] _ HXB.out Tryd.underlying103 rfl ritem_info15 ?_)
            | (at_builtin; refine wpList_append_own _ rfl (.tmp 43) (.tmp 45) 86 rfl w.heap.size 103 i1 _ 15 104 Tryd.underlying86 hi1 hz10 hz11 hz12 rfl (by decide) v k xs rfl HO1.out ⟨w6.heap.size, 0, none⟩ 1 1 (#[.int .i64 (p.1 0), .int .i64 (p.1 1), .int .i64 (p.1 2), .int .i64 (p.1 3), .int .i64 (p.1 4), .int .i64 (p.1 5), .int .u32 (p.2 0), .int .u32 (p.2 1), .int .u32 (p.2 2), .int .u32 (p.2 3), .slice none 0 0, .int .u32 0, .int .u32 0, .int .u32 0, .int .u32 0] : Array Value).toList rfl rfl HNW.out (item_one20 p W4.zero) (by unfold maxLen; omega) (by omega) HBL.out.size ?_; intro v2 w2 ho2 hg2 hk2))
          have HB2 := Lib.hid (StB.next HB6.out HX.out.1 HSV.out ho2 (HBL.out.grown hg2 HBL.out.size fun j hj => (HO1.out.lt j hj).1))
          clear ho2 hg2 hk2
          go_roundw
          case rel => exact ⟨k + 1, _, _, by omega, by go_num, rfl, HB2.out⟩
          case measure => simp [intOf]; omega
      · have hr : rightS p.1 = true := by cases h : rightS p.1; exact absurd (.inl h) hz; rfl
        have h1 : p.1 0 ≠ 1 := fun h => hz (.inr h)
        obtain ⟨m, hm, hm4, hsv⟩ := start_clip hr h1
        have HSV := Lib.hid hsv
        have HMM := Lib.hid hm
        rw [hr]
        have e1 : (p.1 0 != 1) = true := by simpa using h1
        have e1' : (p.1 0 == 1) = false := by simpa using h1
        have hcl := fun w => rclip_any w (W4.mk (p.2 0) (p.2 1) (p.2 2) (p.2 3)) m (by omega)
        have HMI := Lib.hid (show (if p.1 2 < 1 then 1 else p.1 2) = (m : Int) by split <;> omega)
        have HC := Lib.hid hcl
        have HS2 := Lib.hid (fun W hW => HRA.out W hW 2 _ rfl)
        have HSV4 := Lib.hid (show ∀ W, Below w.heap.size w W → W.rangeAt b (off + k * 10 + 6) [.int .u32 (p.2 0), .int .u32 (p.2 1), .int .u32 (p.2 2), .int .u32 (p.2 3)] from fun W hW j u hu => by
          have hj : j < 4 := (List.getElem?_eq_some_iff.1 hu).1
          have := HRA.out W hW (6 + j) u (by rcases (by omega : j = 0 ∨ j = 1 ∨ j = 2 ∨ j = 3) with rfl | rfl | rfl | rfl <;> exact hu)
          rwa [← Nat.add_assoc] at this)
        have HBD := Lib.hid (HB6.out.keeps (Keeps.refl _ w6).drew)
        clear hz hr h1 hsv hcl hm
        go_wp2_with fail
        clear c0
        refine wp_region_noPanic ?_
        refine wp_region_held_drew (S := (fun W => W.rangeAt b (off + k * 10 + 6) [.int .u32 (p.2 0), .int .u32 (p.2 1), .int .u32 (p.2 2), .int .u32 (p.2 3)] ∧ W.cell? ⟨b, off + k * 10 + 2, none⟩ = some (.int .i64 (p.1 2)))) (by kernel_rfl) ?_ (fun hHeld => ?_)
        · exact ⟨HSV4.out _ HBD.out.below, HS2.out _ HBD.out.below⟩
        refine wpAnyH_take (i := 0) (v := ?_) rfl (by kernel_rfl) (by kernel_rfl) (by kernel_rfl) (fun _ _ _ h => h) (Or.inl ⟨by rfl, ?_⟩) (by assumption) ?_
        rotate_left
        · (intro w hSw; (try dsimp only at hSw); go_simp; try with_reducible rfl)
        simp only [Act.put, List.getElem_toArray, List.getElem_cons_zero, List.getElem_cons_succ, List.setIfInBounds_toArray, List.set_cons_zero, List.set_cons_succ]
        refine wpAnyH_take (i := 1) (v := ?_) rfl (by kernel_rfl) (by kernel_rfl) (by kernel_rfl) (fun _ _ _ h => h) (Or.inl ⟨by rfl, ?_⟩) (by assumption) ?_
        rotate_left
        · (intro w hSw; (try dsimp only at hSw); go_simp; try with_reducible rfl)
        simp only [Act.put, List.getElem_toArray, List.getElem_cons_zero, List.getElem_cons_succ, List.setIfInBounds_toArray, List.set_cons_zero, List.set_cons_succ]
        refine wpAnyH_take (i := 2) (v := ?_) rfl (by kernel_rfl) (by kernel_rfl) (by kernel_rfl) (fun _ _ _ h => h) (Or.inl ⟨by rfl, ?_⟩) (by assumption) ?_
        rotate_left
        · (intro w hSw; (try dsimp only at hSw); go_simp; try with_reducible rfl)
        simp only [Act.put, List.getElem_toArray, List.getElem_cons_zero, List.getElem_cons_succ, List.setIfInBounds_toArray, List.set_cons_zero, List.set_cons_succ]
        refine wpAnyH_take (i := 3) (v := ?_) rfl (by kernel_rfl) (by kernel_rfl) (by kernel_rfl) (fun _ _ _ h => h) (Or.inl ⟨by rfl, ?_⟩) (by assumption) ?_
        rotate_left
        · (intro w hSw; (try dsimp only at hSw); go_simp; try with_reducible rfl)
        simp only [Act.put, List.getElem_toArray, List.getElem_cons_zero, List.getElem_cons_succ, List.setIfInBounds_toArray, List.set_cons_zero, List.set_cons_succ]
        refine wpAnyH_take (i := 4) (v := .agg [.int .u32 (p.2 0), .int .u32 (p.2 1), .int .u32 (p.2 2), .int .u32 (p.2 3)].toArray) rfl (by kernel_rfl) (by kernel_rfl) (by kernel_rfl) (fun _ _ _ h => h) (yieldsIf_load_mid (by rfl) 41 (.tmp 33) rfl b (off + k * 10 + 6) rfl [.int .u32 (p.2 0), .int .u32 (p.2 1), .int .u32 (p.2 2), .int .u32 (p.2 3)] _ (fun w h => h.1) Tryd.underlying41 rfl val_info19) (by assumption) ?_
        simp only [Act.put, List.getElem_toArray, List.getElem_cons_zero, List.getElem_cons_succ, List.setIfInBounds_toArray, List.set_cons_zero, List.set_cons_succ]
        refine wpAnyH_take (i := 5) (v := ?_) rfl (by kernel_rfl) (by kernel_rfl) (by kernel_rfl) (fun _ _ _ h => h) (Or.inl ⟨by rfl, ?_⟩) (by assumption) ?_
        rotate_left
        · (intro w hSw; (try dsimp only at hSw); go_simp; try with_reducible rfl)
        simp only [Act.put, List.getElem_toArray, List.getElem_cons_zero, List.getElem_cons_succ, List.setIfInBounds_toArray, List.set_cons_zero, List.set_cons_succ]
        refine wpAnyH_take (i := 6) (v := ?_) rfl (by kernel_rfl) (by kernel_rfl) (by kernel_rfl) (fun _ _ _ h => h) (Or.inl ⟨by rfl, ?_⟩) (by assumption) ?_
        rotate_left
        · (intro w hSw; (try dsimp only at hSw); go_simp; try with_reducible rfl)
        simp only [Act.put, List.getElem_toArray, List.getElem_cons_zero, List.getElem_cons_succ, List.setIfInBounds_toArray, List.set_cons_zero, List.set_cons_succ]
        refine wpAnyH_take (i := 7) (v := ?_) rfl (by kernel_rfl) (by kernel_rfl) (by kernel_rfl) (fun _ _ _ h => h) (Or.inl ⟨by rfl, ?_⟩) (by assumption) ?_
        rotate_left
        · (intro w hSw; (try dsimp only at hSw); go_simp; try with_reducible rfl)
        simp only [Act.put, List.getElem_toArray, List.getElem_cons_zero, List.getElem_cons_succ, List.setIfInBounds_toArray, List.set_cons_zero, List.set_cons_succ]
        refine wpAnyH_take (i := 8) (v := ?_) rfl (by kernel_rfl) (by kernel_rfl) (by kernel_rfl) (fun _ _ _ h => h) (Or.inl ⟨by rfl, ?_⟩) (by assumption) ?_
        rotate_left
        · (intro w hSw; (try dsimp only at hSw); go_simp; try with_reducible rfl)
        simp only [Act.put, List.getElem_toArray, List.getElem_cons_zero, List.getElem_cons_succ, List.setIfInBounds_toArray, List.set_cons_zero, List.set_cons_succ]
        refine wpAnyH_take (i := 9) (v := ?_) rfl (by kernel_rfl) (by kernel_rfl) (by kernel_rfl) (fun _ _ _ h => h) (Or.inl ⟨by rfl, ?_⟩) (by assumption) ?_
        rotate_left
        · (intro w hSw; (try dsimp only at hSw); go_simp; try with_reducible rfl)
        simp only [Act.put, List.getElem_toArray, List.getElem_cons_zero, List.getElem_cons_succ, List.setIfInBounds_toArray, List.set_cons_zero, List.set_cons_succ]
        refine wpAnyH_take (i := 10) (v := ?_) rfl (by kernel_rfl) (by kernel_rfl) (by kernel_rfl) (fun _ _ _ h => h) (Or.inl ⟨by rfl, ?_⟩) (by assumption) ?_
        rotate_left
        · (intro w hSw; (try dsimp only at hSw); go_simp; try with_reducible rfl)
        simp only [Act.put, List.getElem_toArray, List.getElem_cons_zero, List.getElem_cons_succ, List.setIfInBounds_toArray, List.set_cons_zero, List.set_cons_succ]
        rw [HMI.out]
        refine wpAnyH_ready (rs := [11]) (by kernel_rfl) (by simp) ?_
        refine AllReadyH.cons rfl (fun K hK => ?_) AllReadyH.nil
        go_simp
        (go_at_call 55; refine (HC.out _).mono ?_; rintro e8 w8 ⟨rfl, k8⟩; have HK8 := Lib.hid ((HK6.out.drew).trans k8); replace HBD := Lib.hid (HB6.out.keeps ((Keeps.refl _ w6).drew.trans k8)); have HX8 := Lib.hid (show w8.heap[wr.heap.size]? = some (.cells #[.int .i64 (p.1 0), .int .i64 (p.1 1), .int .i64 (p.1 2), .int .i64 (p.1 3), .int .i64 (p.1 4), .int .i64 (p.1 5), .int .u32 (p.2 0), .int .u32 (p.2 1), .int .u32 (p.2 2), .int .u32 (p.2 3), .slice none 0 0, .int .u32 0, .int .u32 0, .int .u32 0, .int .u32 0] 103 (0, 0)) from k8.at HX6.out fun h => h); have y11 : w8.cell? ⟨wr.heap.size, 11, none⟩ = some (.int .u32 0) := cell_of HX8.out 11; have y12 : w8.cell? ⟨wr.heap.size, 12, none⟩ = some (.int .u32 0) := cell_of HX8.out 12; have y13 : w8.cell? ⟨wr.heap.size, 13, none⟩ = some (.int .u32 0) := cell_of HX8.out 13; have y14 : w8.cell? ⟨wr.heap.size, 14, none⟩ = some (.int .u32 0) := cell_of HX8.out 14; have g11 := free_of HX8.out 11; have g12 := free_of HX8.out 12; have g13 := free_of HX8.out 13; have g14 := free_of HX8.out 14; clear k8)
        go_wp2_with fail
        refine hK.out _ _ ?_ (fun hHeld => ?_)
        · ((try dsimp only); exact ⟨HSV4.out _ HBD.out.below, HS2.out _ HBD.out.below⟩)
        clear hK K
        try simp only [Act.put, List.getElem_toArray, List.getElem_cons_zero, List.getElem_cons_succ, List.setIfInBounds_toArray, List.set_cons_zero, List.set_cons_succ]
        refine wpAnyH_take (i := 12) (v := ?_) rfl (by kernel_rfl) (by kernel_rfl) (by kernel_rfl) (fun _ _ _ h => h) (Or.inl ⟨by rfl, ?_⟩) (by assumption) ?_
        rotate_left
        · (intro w hSw; (try dsimp only at hSw); go_simp; try with_reducible rfl)
        simp only [Act.put, List.getElem_toArray, List.getElem_cons_zero, List.getElem_cons_succ, List.setIfInBounds_toArray, List.set_cons_zero, List.set_cons_succ]
        refine wpAnyH_ready (rs := [13]) (by kernel_rfl) (by simp) ?_
        refine AllReadyH.cons rfl (fun K hK => ?_) AllReadyH.nil
        go_simp
        generalize hW9 : World.setCell _ _ _ = W9
        have HK9 := Lib.hid (show Keeps (fun _ => False) wr W9 by rw [← hW9]; exact (((HK8.out.setCell (p := ⟨wr.heap.size, 11, none⟩) (.inr (Nat.le_refl _)) _).setCell (p := ⟨wr.heap.size, 12, none⟩) (.inr (Nat.le_refl _)) _).setCell (p := ⟨wr.heap.size, 13, none⟩) (.inr (Nat.le_refl _)) _).setCell (p := ⟨wr.heap.size, 14, none⟩) (.inr (Nat.le_refl _)) _)
        have HX9 := Lib.hid (show W9.heap[wr.heap.size]? = some (.cells #[.int .i64 (p.1 0), .int .i64 (p.1 1), .int .i64 (p.1 2), .int .i64 (p.1 3), .int .i64 (p.1 4), .int .i64 (p.1 5), .int .u32 (p.2 0), .int .u32 (p.2 1), .int .u32 (p.2 2), .int .u32 (p.2 3), .slice none 0 0, .int .u32 ((W4.mk (p.2 0) (p.2 1) (p.2 2) (p.2 3)).clip m).a, .int .u32 ((W4.mk (p.2 0) (p.2 1) (p.2 2) (p.2 3)).clip m).b, .int .u32 ((W4.mk (p.2 0) (p.2 1) (p.2 2) (p.2 3)).clip m).c, .int .u32 ((W4.mk (p.2 0) (p.2 1) (p.2 2) (p.2 3)).clip m).d] 103 (0, 0)) by rw [← hW9]; exact heap_set (heap_set (heap_set (heap_set HX8.out 11 _) 12 _) 13 _) 14 _)
        clear hW9 y11 y12 y13 y14 g11 g12 g13 g14
        replace HB6 := Lib.hid (HB.out.keeps HK9.out)
        have HB9 := Lib.hid HB6.out.below
        refine hK.out _ _ ?_ (fun hHeld => ?_)
        · ((try dsimp only); exact ⟨HSV4.out _ HB9.out, HS2.out _ HB9.out⟩)
        clear hK K
        try simp only [Act.put, List.getElem_toArray, List.getElem_cons_zero, List.getElem_cons_succ, List.setIfInBounds_toArray, List.set_cons_zero, List.set_cons_succ]
        refine wpAnyH_done (by kernel_rfl) ?_ _
        refine NoPanic.normal ?_
        have HXB := Lib.hid (show W9.rangeAt wr.heap.size 0 [.int .i64 (p.1 0), .int .i64 (p.1 1), .int .i64 (p.1 2), .int .i64 (p.1 3), .int .i64 (p.1 4), .int .i64 (p.1 5), .int .u32 (p.2 0), .int .u32 (p.2 1), .int .u32 (p.2 2), .int .u32 (p.2 3), .slice none 0 0, .int .u32 ((W4.mk (p.2 0) (p.2 1) (p.2 2) (p.2 3)).clip m).a, .int .u32 ((W4.mk (p.2 0) (p.2 1) (p.2 2) (p.2 3)).clip m).b, .int .u32 ((W4.mk (p.2 0) (p.2 1) (p.2 2) (p.2 3)).clip m).c, .int .u32 ((W4.mk (p.2 0) (p.2 1) (p.2 2) (p.2 3)).clip m).d] from fun j u hu => by rw [cell_of HX9.out (0 + j), show 0 + j = j by omega]; simpa using hu)
        have HO1 := Lib.hid (HB6.out.own.alloc (.cells #[.int .i64 (p.1 0), .int .i64 (p.1 1), .int .i64 (p.1 2), .int .i64 (p.1 3), .int .i64 (p.1 4), .int .i64 (p.1 5), .int .u32 (p.2 0), .int .u32 (p.2 1), .int .u32 (p.2 2), .int .u32 (p.2 3), .slice none 0 0, .int .u32 ((W4.mk (p.2 0) (p.2 1) (p.2 2) (p.2 3)).clip m).a, .int .u32 ((W4.mk (p.2 0) (p.2 1) (p.2 2) (p.2 3)).clip m).b, .int .u32 ((W4.mk (p.2 0) (p.2 1) (p.2 2) (p.2 3)).clip m).c, .int .u32 ((W4.mk (p.2 0) (p.2 1) (p.2 2) (p.2 3)).clip m).d] 103))
        have HBL := Lib.hid (HB6.out.below.alloc HB6.out.below.size (.cells #[.int .i64 (p.1 0), .int .i64 (p.1 1), .int .i64 (p.1 2), .int .i64 (p.1 3), .int .i64 (p.1 4), .int .i64 (p.1 5), .int .u32 (p.2 0), .int .u32 (p.2 1), .int .u32 (p.2 2), .int .u32 (p.2 3), .slice none 0 0, .int .u32 ((W4.mk (p.2 0) (p.2 1) (p.2 2) (p.2 3)).clip m).a, .int .u32 ((W4.mk (p.2 0) (p.2 1) (p.2 2) (p.2 3)).clip m).b, .int .u32 ((W4.mk (p.2 0) (p.2 1) (p.2 2) (p.2 3)).clip m).c, .int .u32 ((W4.mk (p.2 0) (p.2 1) (p.2 2) (p.2 3)).clip m).d] 103))
        have HNW := Lib.hid (World.news_of_block (heap_new W9 (.cells #[.int .i64 (p.1 0), .int .i64 (p.1 1), .int .i64 (p.1 2), .int .i64 (p.1 3), .int .i64 (p.1 4), .int .i64 (p.1 5), .int .u32 (p.2 0), .int .u32 (p.2 1), .int .u32 (p.2 2), .int .u32 (p.2 3), .slice none 0 0, .int .u32 ((W4.mk (p.2 0) (p.2 1) (p.2 2) (p.2 3)).clip m).a, .int .u32 ((W4.mk (p.2 0) (p.2 1) (p.2 2) (p.2 3)).clip m).b, .int .u32 ((W4.mk (p.2 0) (p.2 1) (p.2 2) (p.2 3)).clip m).c, .int .u32 ((W4.mk (p.2 0) (p.2 1) (p.2 2) (p.2 3)).clip m).d] 103)))
        go_wp2_with (first
          | (refine wpList_load_mid rfl 103 (.tmp 5) rfl wr.heap.size 0 rfl [.int .i64 (p.1 0), .int .i64 (p.1 1), .int .i64 (p.1 2), .int .i64 (p.1 3), .int .i64 (p.1 4), .int .i64 (p.1 5), .int .u32 (p.2 0), .int .u32 (p.2 1), .int .u32 (p.2 2), .int .u32 (p.2 3), .slice none 0 0, .int .u32 ((W4.mk (p.2 0) (p.2 1) (p.2 2) (p.2 3)).clip m).a, .int .u32 ((W4.mk (p.2 0) (p.2 1) (p.2 2) (p.2 3)).clip m).b, .int .u32 ((W4.mk (p.2 0) (p.2 1) (p.2 2) (p.2 3)).clip m).c, .int .u32 ((W4.mk (p.2 0) (p.2 1) (p.2 2) (p.2 3)).clip m).d] _ HXB.out Tryd.underlying103 rfl ritem_info15 ?_)
          | (at_builtin; refine wpList_append_own _ rfl (.tmp 43) (.tmp 45) 86 rfl w.heap.size 103 i1 _ 15 104 Tryd.underlying86 hi1 hz10 hz11 hz12 rfl (by decide) v k xs rfl HO1.out ⟨W9.heap.size, 0, none⟩ 1 1 (#[.int .i64 (p.1 0), .int .i64 (p.1 1), .int .i64 (p.1 2), .int .i64 (p.1 3), .int .i64 (p.1 4), .int .i64 (p.1 5), .int .u32 (p.2 0), .int .u32 (p.2 1), .int .u32 (p.2 2), .int .u32 (p.2 3), .slice none 0 0, .int .u32 ((W4.mk (p.2 0) (p.2 1) (p.2 2) (p.2 3)).clip m).a, .int .u32 ((W4.mk (p.2 0) (p.2 1) (p.2 2) (p.2 3)).clip m).b, .int .u32 ((W4.mk (p.2 0) (p.2 1) (p.2 2) (p.2 3)).clip m).c, .int .u32 ((W4.mk (p.2 0) (p.2 1) (p.2 2) (p.2 3)).clip m).d] : Array Value).toList rfl rfl HNW.out (item_one20 p ((W4.mk (p.2 0) (p.2 1) (p.2 2) (p.2 3)).clip m)) (by unfold maxLen; omega) (by omega) HBL.out.size ?_; intro v2 w2 ho2 hg2 hk2))
        have HB2 := Lib.hid (StB.next HB6.out HX.out.1 HSV.out ho2 (HBL.out.grown hg2 HBL.out.size fun j hj => (HO1.out.lt j hj).1))
        clear ho2 hg2 hk2
        go_roundw
        case rel => exact ⟨k + 1, _, _, by omega, by go_num, rfl, HB2.out⟩
        case measure => simp [intOf]; omega
    · obtain rfl : k = n := by omega
      have d1 : decide (k < k) = false := decide_eq_false (by omega)
      have hol : (startP O).length = k := by unfold startP; rw [List.length_map]; exact HH.out.len
      have hfin := own_state (L := startP O) (by rw [hol]; exact HB.out.own) HB.out.below fun i x hi hx => by
        unfold startP at hx
        rw [List.getElem?_map] at hx
        obtain ⟨p, hp, rfl⟩ := Option.map_eq_some_iff.1 hx
        exact ⟨none, 0, fun j u hu => HB.out.cells i p (by rw [← hol]; exact hi) hp j u hu, Nat.le_refl _, by unfold maxLen; omega, fun _ => rfl, fun hp => by simp [startI] at hp⟩
      obtain ⟨a', c', hv, hst⟩ := hfin
      have HF := Lib.hid (And.intro hv (And.intro hst hol))
      have HBB := Lib.hid HB.out.below
      clear hv hst hol
      go_wp2_with fail
      go_ret
      exact ⟨HBB.out, a', ⟨c', by rw [← HF.out.2.2]; exact congrArg Ending.returned HF.out.1⟩, HF.out.2.1⟩
end Go.Proofs.YtohajfkekkelhaaDoor
namespace Go.Proofs.YtohajfkekkelhaaDoor
open Go.ChangeShapes Go.WideShapes Go.ChangeAt Go.RowKit
set_option linter.unusedVariables false
set_option linter.unusedSimpArgs false
theorem eleven {kk : Int} (h : knownP kk = true) : kk = 1 ∨ kk = 2 ∨ kk = 3 ∨ kk = 4 ∨ kk = 5 ∨ kk = 6 ∨ kk = 7 ∨ kk = 8 ∨ kk = 9 ∨ kk = 16 ∨ kk = 17 := by
  rcases known_yes h with ⟨h1, h2⟩ | h | h
  · have := nine h1 h2
    omega
  · omega
  · omega
section
variable (w : World) (a : Option Addr) (c : Nat) (L : List ItemD) (h : StateR w a L) (ok : ∀ x, x ∈ L → x.Ok) (hn : L.length ≤ 1000) (k N : Int) (hki : i64B k) (v : W4) (hv : v.Ok) (i : Nat) (x : ItemD) (hi : L[i]? = some x) (hf : knownP (plainP k) = true)
include h ok hn hki hv hi hf
theorem rdo_ring (hK : kindP x.o = 1) : Calls Tryd.prog 41 #[.slice a L.length c, .agg #[.int .i64 k, .int .i64 (i : Int), .int .u32 v.a, .int .u32 v.b, .int .u32 v.c, .int .u32 v.d, .int .u32 N]] w (DoesR w L.length (L.set i (stepP x (plainP k) v).1, (stepP x (plainP k) v).2)) := by
  obtain ⟨m, hm, hm4⟩ := widthR (o := x.o) (.inl hK)
  by_cases h1 : plainP k = 1
  · rw [h1]
    by_cases hfu : x.o 1 ≤ (x.row.length : Int)
    · rw [step_full hK hfu]
      show Calls _ _ _ _ (DoesR w L.length (L.set i x, res9 6))
      rw [set_itself hi]
      exact rdo_full w a c L h ok hn k N hki v hv i x hi hK h1 hfu
    · rw [step_send hK hfu m hm]
      exact rdo_send w a c L h ok hn k N hki v hv i x hi hK h1 hfu m hm hm4
  · by_cases h2 : plainP k = 2
    · rw [h2]
      rcases hr : x.row with _ | ⟨y, tl⟩
      · rw [step_empty hK hr]
        show Calls _ _ _ _ (DoesR w L.length (L.set i x, res9 7))
        rw [set_itself hi]
        exact rdo_empty w a c L h ok hn k N hki v hv i x hi hK h2 hr
      · rw [step_recv hK hr]
        exact rdo_recv w a c L h ok hn k N hki v hv i x hi hK h2 y tl hr
    · have h11 := eleven hf
      exact rdo_not1 w a c L h ok hn k N hki v hv i x hi hf hK (by omega) _ _ rfl
theorem rdo_value2 (hK : kindP x.o = 2) : Calls Tryd.prog 41 #[.slice a L.length c, .agg #[.int .i64 k, .int .i64 (i : Int), .int .u32 v.a, .int .u32 v.b, .int .u32 v.c, .int .u32 v.d, .int .u32 N]] w (DoesR w L.length (L.set i (stepP x (plainP k) v).1, (stepP x (plainP k) v).2)) := by
  obtain ⟨m, hm, hm4⟩ := widthR (o := x.o) (.inr (.inl hK))
  have h0 : x.o 0 = 2 := by rw [← (kindR (by omega : kindP x.o ≠ 0)).2, hK]
  by_cases h1 : plainP k = 3
  · rw [h1, step_put (.inl hK) m hm]
    exact rdo_put2 w a c L h ok hn k N hki v hv i x hi hK h1 m hm hm4
  · by_cases h2 : plainP k = 4
    · rw [h2, step_get (.inl ⟨hK, h0, rfl⟩)]
      show Calls _ _ _ _ (DoesR w L.length (L.set i x, ⟨0, x.v⟩))
      rw [set_itself hi]
      exact rdo_get24 w a c L h ok hn k N hki v hv i x hi hK h2
    · have h11 := eleven hf
      exact rdo_not2 w a c L h ok hn k N hki v hv i x hi hf hK (by omega) _ _ rfl
theorem rdo_value3 (hK : kindP x.o = 3) : Calls Tryd.prog 41 #[.slice a L.length c, .agg #[.int .i64 k, .int .i64 (i : Int), .int .u32 v.a, .int .u32 v.b, .int .u32 v.c, .int .u32 v.d, .int .u32 N]] w (DoesR w L.length (L.set i (stepP x (plainP k) v).1, (stepP x (plainP k) v).2)) := by
  obtain ⟨m, hm, hm4⟩ := widthR (o := x.o) (.inr (.inr hK))
  have h0 : x.o 0 = 3 := by rw [← (kindR (by omega : kindP x.o ≠ 0)).2, hK]
  by_cases h1 : plainP k = 3
  · rw [h1, step_put (.inr hK) m hm]
    exact rdo_put3 w a c L h ok hn k N hki v hv i x hi hK h1 m hm hm4
  · by_cases h2 : plainP k = 5
    · rw [h2, step_get (.inr ⟨hK, h0, .inl rfl⟩)]
      show Calls _ _ _ _ (DoesR w L.length (L.set i x, ⟨0, x.v⟩))
      rw [set_itself hi]
      exact rdo_get35 w a c L h ok hn k N hki v hv i x hi hK h2
    · by_cases h3 : plainP k = 6
      · rw [h3, step_get (.inr ⟨hK, h0, .inr rfl⟩)]
        show Calls _ _ _ _ (DoesR w L.length (L.set i x, ⟨0, x.v⟩))
        rw [set_itself hi]
        exact rdo_get36 w a c L h ok hn k N hki v hv i x hi hK h3
      · have h11 := eleven hf
        exact rdo_not3 w a c L h ok hn k N hki v hv i x hi hf hK (by omega) _ _ rfl
theorem rdo_flags (hK : kindP x.o = 4) : Calls Tryd.prog 41 #[.slice a L.length c, .agg #[.int .i64 k, .int .i64 (i : Int), .int .u32 v.a, .int .u32 v.b, .int .u32 v.c, .int .u32 v.d, .int .u32 N]] w (DoesR w L.length (L.set i (stepP x (plainP k) v).1, (stepP x (plainP k) v).2)) := by
  have okx := ok x (List.mem_of_getElem? hi)
  obtain ⟨p, hp⟩ : ∃ p : Nat, x.v.a = (p : Int) := ⟨x.v.a.toNat, by have := okx.v.a; unfold u32B at this; omega⟩
  obtain ⟨m, hm⟩ : ∃ m : Nat, v.a = (m : Int) := ⟨v.a.toNat, by have := hv.a; unfold u32B at this; omega⟩
  have hp1 : p < 4294967296 := by have := okx.v.a; unfold u32B at this; omega
  have hm1 : m < 4294967296 := by have := hv.a; unfold u32B at this; omega
  by_cases h7 : plainP k = 7
  · rw [h7, step_or hK p m hp hm hp1 hm1]
    exact rdo_or w a c L h ok hn k N hki v hv i x hi hK h7 p m hp hm hp1 hm1
  by_cases h8 : plainP k = 8
  · rw [h8, step_nand hK p m hp hm hp1 hm1]
    exact rdo_nand w a c L h ok hn k N hki v hv i x hi hK h8 p m hp hm hp1 hm1
  by_cases h9 : plainP k = 9
  · rw [h9, step_look hK p hp]
    show Calls _ _ _ _ (DoesR w L.length (L.set i x, resW p))
    rw [set_itself hi]
    exact rdo_look w a c L h ok hn k N hki v hv i x hi hK h9 p hp
  by_cases h16 : plainP k = 16
  · rw [h16, step_any hK p m hp hm]
    show Calls _ _ _ _ (DoesR w L.length (L.set i x, if holdsP 4 p m = true then resW p else res9 7))
    rw [set_itself hi]
    exact rdo_any4 w a c L h ok hn k N hki v hv i x hi hK h16 p m hp hm hp1 hm1 _ rfl
  by_cases h17 : plainP k = 17
  · rw [h17, step_all hK p m hp hm]
    show Calls _ _ _ _ (DoesR w L.length (L.set i x, if holdsP 5 p m = true then resW p else res9 7))
    rw [set_itself hi]
    exact rdo_all5 w a c L h ok hn k N hki v hv i x hi hK h17 p m hp hm hp1 hm1 _ rfl
  have h11 := eleven hf
  exact rdo_not4 w a c L h ok hn k N hki v hv i x hi hf hK (by omega) _ _ rfl
end
/-- The document's Do, on a state in memory. -/
theorem rdo_any (w : World) (a : Option Addr) (c : Nat) (L : List ItemD) (h : StateR w a L) (ok : ∀ x, x ∈ L → x.Ok) (hn : L.length ≤ 1000) (k obj N : Int) (hki : i64B k) (v : W4) (hv : v.Ok) :
    Calls Tryd.prog 41 #[.slice a L.length c, .agg #[.int .i64 k, .int .i64 obj, .int .u32 v.a, .int .u32 v.b, .int .u32 v.c, .int .u32 v.d, .int .u32 N]] w (DoesR w L.length (doP L k obj v)) := by
  unfold doP
  by_cases hk : knownP (plainP k) = false
  · rw [if_pos hk]
    exact rdo_bad w a c L h ok hn k N hki v hv obj hk
  · rw [if_neg hk]
    have hk1 : knownP (plainP k) = true := by simpa using hk
    by_cases ho : obj < 0 ∨ (L.length : Int) ≤ obj
    · rw [if_pos ho]
      exact rdo_miss w a c L h ok hn k N hki v hv obj hk1 ho
    · rw [if_neg ho]
      obtain ⟨i, rfl⟩ : ∃ i : Nat, obj = (i : Int) := ⟨obj.toNat, by omega⟩
      have hi : i < L.length := by omega
      obtain ⟨x, hx⟩ : ∃ x, L[i]? = some x := ⟨_, List.getElem?_eq_getElem hi⟩
      simp only [Int.toNat_natCast, hx]
      rcases kind_five x.o with hK | hK | hK | hK | hK
      · exact rdo_none w a c L h ok hn k N hki v hv i x hx hk1 hK _ _ rfl
      · exact rdo_ring w a c L h ok hn k N hki v hv i x hx hk1 hK
      · exact rdo_value2 w a c L h ok hn k N hki v hv i x hx hk1 hK
      · exact rdo_value3 w a c L h ok hn k N hki v hv i x hx hk1 hK
      · exact rdo_flags w a c L h ok hn k N hki v hv i x hx hk1 hK
end Go.Proofs.YtohajfkekkelhaaDoor
namespace Go.Proofs.YtohajfkekkelhaaDoor
open Go.ChangeShapes Go.WideShapes Go.ChangeAt Go.RowKit
set_option linter.unusedVariables false
set_option linter.unusedSimpArgs false
theorem allowsP_ref {L L' : List ItemD} {k obj : Int} {v : W4} {d r : ResD} (hd : doP L k obj v = (L', d)) : allowsP L k obj v r = if d.eq r = true then (L', true) else (L, (r.eq ⟨8, W4.zero⟩ && ((k == 5) || (k == 6)) && (d.f == 0)) || (r.eq ⟨9, W4.zero⟩ && (decide (14 ≤ k) && decide (k ≤ 17)) && ((d.f == 6) || (d.f == 7)))) := by
  unfold allowsP
  rw [hd]
  show (if d.eq r = true then (L', true) else _) = _
  by_cases h : d.eq r = true
  · rw [if_pos h, if_pos h]
  · rw [if_neg h, if_neg h]
    unfold ResD.eq mayP
    show (if r.v.eq W4.zero = true then _ else _) = (L, (((r.f == 8) && r.v.eq W4.zero) && _ && _) || (((r.f == 9) && r.v.eq W4.zero) && _ && _))
    cases hz : r.v.eq W4.zero with
    | false => simp
    | true =>
      rw [if_pos rfl]
      by_cases h5 : k = 5 ∨ k = 6
      · rw [if_pos h5]
        have e1 : ((k == 5) || (k == 6)) = true := by simpa using h5
        have e2 : decide (14 ≤ k) = false := decide_eq_false (by omega)
        simp only [e1, e2, Bool.and_true, Bool.and_false, Bool.false_and, Bool.or_false]
      · rw [if_neg h5]
        have e1 : ((k == 5) || (k == 6)) = false := by
          cases hh : ((k == 5) || (k == 6)) with
          | false => rfl
          | true => exact absurd (by simpa using hh) h5
        by_cases h14 : k = 14 ∨ k = 15 ∨ k = 16 ∨ k = 17
        · rw [if_pos h14]
          have e2 : decide (14 ≤ k) = true := decide_eq_true (by omega)
          have e3 : decide (k ≤ 17) = true := decide_eq_true (by omega)
          simp only [e1, e2, e3, Bool.and_true, Bool.and_false, Bool.false_and, Bool.false_or]
        · rw [if_neg h14]
          have e2 : (decide (14 ≤ k) && decide (k ≤ 17)) = false := by
            cases hh : (decide (14 ≤ k) && decide (k ≤ 17)) with
            | false => rfl
            | true => simp at hh; omega
          simp only [e1, e2, Bool.and_true, Bool.and_false, Bool.false_and, Bool.false_or]
def AllowsR (w : World) (n : Nat) (p : List ItemD × Bool) (e : Ending) (w' : World) : Prop :=
  Below w.heap.size w w' ∧ ∃ a' c', e = .returned (.tuple #[.slice a' n c', .bool p.2]) ∧ StateR w' a' p.1
set_option maxRecDepth 20000 in
set_option maxHeartbeats 16000000 in
theorem rallows_any (w : World) (a : Option Addr) (c : Nat) (L : List ItemD) (h : StateR w a L) (ok : ∀ x, x ∈ L → x.Ok) (hn : L.length ≤ 1000) (k obj N : Int) (hki : i64B k) (v : W4) (hv : v.Ok) (r : ResD) :
    Calls Tryd.prog 42 #[.slice a L.length c, .agg #[.int .i64 k, .int .i64 obj, .int .u32 v.a, .int .u32 v.b, .int .u32 v.c, .int .u32 v.d, .int .u32 N], .agg r.cells] w (AllowsR w L.length (allowsP L k obj v r)) := by
  have HB0 := Lib.hid (show Below w.heap.size w ((w.alloc (.cells #[.int .i64 k, .int .i64 obj, .int .u32 v.a, .int .u32 v.b, .int .u32 v.c, .int .u32 v.d, .int .u32 N] 43)).alloc (.cells #[.int .i64 r.f, .int .u32 r.v.a, .int .u32 r.v.b, .int .u32 r.v.c, .int .u32 r.v.d] 45)) from ((Below.refl _ w).alloc (Nat.le_refl _) _).alloc (by simp) _)
  have HS0 := Lib.hid (show Has w ((w.alloc (.cells #[.int .i64 k, .int .i64 obj, .int .u32 v.a, .int .u32 v.b, .int .u32 v.c, .int .u32 v.d, .int .u32 N] 43)).alloc (.cells #[.int .i64 r.f, .int .u32 r.v.a, .int .u32 r.v.b, .int .u32 r.v.c, .int .u32 r.v.d] 45)) [(w.heap.size + 1, .cells #[.int .i64 r.f, .int .u32 r.v.a, .int .u32 r.v.b, .int .u32 r.v.c, .int .u32 r.v.d] 45 (0, 0)), (w.heap.size, .cells #[.int .i64 k, .int .i64 obj, .int .u32 v.a, .int .u32 v.b, .int .u32 v.c, .int .u32 v.d, .int .u32 N] 43 (0, 0))] from (((Has.start w).alloc (.cells #[.int .i64 k, .int .i64 obj, .int .u32 v.a, .int .u32 v.b, .int .u32 v.c, .int .u32 v.d, .int .u32 N] 43)).alloc (.cells #[.int .i64 r.f, .int .u32 r.v.a, .int .u32 r.v.b, .int .u32 r.v.c, .int .u32 r.v.d] 45)).eq (by simp))
  have HD := Lib.hid (rdo_any ((w.alloc (.cells #[.int .i64 k, .int .i64 obj, .int .u32 v.a, .int .u32 v.b, .int .u32 v.c, .int .u32 v.d, .int .u32 N] 43)).alloc (.cells #[.int .i64 r.f, .int .u32 r.v.a, .int .u32 r.v.b, .int .u32 r.v.c, .int .u32 r.v.d] 45)) a c L (h.below HB0.out) ok hn k obj N hki v hv)
  have HST := Lib.hid h
  obtain ⟨P, hP⟩ : ∃ P, doP L k obj v = P := ⟨_, rfl⟩
  obtain ⟨L', d⟩ := P
  have HF := Lib.hid (allowsP_ref (r := r) hP)
  rw [hP] at HD
  have hef : ∀ w, (Op.equalIn 10000 45 (.agg #[.int .i64 d.f, .int .u32 d.v.a, .int .u32 d.v.b, .int .u32 d.v.c, .int .u32 d.v.d]) (.agg #[.int .i64 r.f, .int .u32 r.v.a, .int .u32 r.v.b, .int .u32 r.v.c, .int .u32 r.v.d])).run Tryd.prog w = .ok (d.eq r) w := fun w => eq_res d.f d.v.a d.v.b d.v.c d.v.d r.f r.v.a r.v.b r.v.c r.v.d w
  have he8 : ∀ w, (Op.equalIn 10000 45 (.agg #[.int .i64 r.f, .int .u32 r.v.a, .int .u32 r.v.b, .int .u32 r.v.c, .int .u32 r.v.d]) (.agg #[.int .i64 8, .int .u32 0, .int .u32 0, .int .u32 0, .int .u32 0])).run Tryd.prog w = .ok (r.eq ⟨8, W4.zero⟩) w := fun w => eq_res r.f r.v.a r.v.b r.v.c r.v.d 8 0 0 0 0 w
  have he9 : ∀ w, (Op.equalIn 10000 45 (.agg #[.int .i64 r.f, .int .u32 r.v.a, .int .u32 r.v.b, .int .u32 r.v.c, .int .u32 r.v.d]) (.agg #[.int .i64 9, .int .u32 0, .int .u32 0, .int .u32 0, .int .u32 0])).run Tryd.prog w = .ok (r.eq ⟨9, W4.zero⟩) w := fun w => eq_res r.f r.v.a r.v.b r.v.c r.v.d 9 0 0 0 0 w
  have hno : r.eq ⟨8, W4.zero⟩ = true → r.eq ⟨9, W4.zero⟩ = false := fun h8 => by
    unfold ResD.eq at h8 ⊢
    simp only [Bool.and_eq_true] at h8
    have h1 : r.f = 8 := by simpa using h8.1
    rw [h1]; rfl
  obtain ⟨n, hne⟩ : ∃ n, L.length = n := ⟨_, rfl⟩
  rw [hne] at HD ⊢
  generalize allowsP L k obj v r = Z at *
  obtain ⟨z1, z2⟩ := Z
  generalize d.eq r = b1 at *
  generalize r.eq ⟨8, W4.zero⟩ = b8 at *
  generalize r.eq ⟨9, W4.zero⟩ = b9 at *
  generalize h5 : (k == 5) = k5 at *
  generalize h6 : (k == 6) = k6 at *
  generalize h14 : decide (14 ≤ k) = k14 at *
  generalize h17 : decide (k ≤ 17) = k17 at *
  generalize g0 : (d.f == 0) = d0 at *
  generalize g6 : (d.f == 6) = d6 at *
  generalize g7 : (d.f == 7) = d7 at *
  have HNO := Lib.hid hno
  clear h ok hn hv hP hne hno hki
  go_enter Tryd.func42, Tryd.ntmps42
  go_wp2_with fail
  refine HD.out.mono ?_
  rintro e1 w1 ⟨hb1, a1, c1, rfl, hs1⟩
  have HB1 := Lib.hid (HB0.out.trans (hb1.mono HB0.out.size))
  have HS1 := Lib.hid (HS0.out.none (Keeps.ofBelow hb1) |>.alloc (.cells #[.int .i64 d.f, .int .u32 d.v.a, .int .u32 d.v.b, .int .u32 d.v.c, .int .u32 d.v.d] 45))
  have HS2 := Lib.hid (hs1.below ((Below.refl _ w1).alloc (Nat.le_refl _) (.cells #[.int .i64 d.f, .int .u32 d.v.a, .int .u32 d.v.b, .int .u32 d.v.c, .int .u32 d.v.d] 45)))
  have HB2 := Lib.hid (HB1.out.alloc HB1.out.size (.cells #[.int .i64 d.f, .int .u32 d.v.a, .int .u32 d.v.b, .int .u32 d.v.c, .int .u32 d.v.d] 45))
  have hr1 : (w1.alloc (.cells #[.int .i64 d.f, .int .u32 d.v.a, .int .u32 d.v.b, .int .u32 d.v.c, .int .u32 d.v.d] 45)).heap[w.heap.size + 1]? = some (.cells #[.int .i64 r.f, .int .u32 r.v.a, .int .u32 r.v.b, .int .u32 r.v.c, .int .u32 r.v.d] 45 (0, 0)) := HS1.out.at 1 rfl
  have hc1 : (w1.alloc (.cells #[.int .i64 d.f, .int .u32 d.v.a, .int .u32 d.v.b, .int .u32 d.v.c, .int .u32 d.v.d] 45)).heap[w.heap.size]? = some (.cells #[.int .i64 k, .int .i64 obj, .int .u32 v.a, .int .u32 v.b, .int .u32 v.c, .int .u32 v.d, .int .u32 N] 43 (0, 0)) := HS1.out.at 2 rfl
  have hl1 : w.heap.size + 1 < w1.heap.size := Nat.lt_of_lt_of_le (by simp) hb1.size
  have k0' := cell_of hc1 0
  have k1' := cell_of hc1 1
  have k2' := cell_of hc1 2
  have k3' := cell_of hc1 3
  have k4' := cell_of hc1 4
  have k5' := cell_of hc1 5
  have k6' := cell_of hc1 6
  have q0 := cell_of hr1 0
  have q1 := cell_of hr1 1
  have q2 := cell_of hr1 2
  have q3 := cell_of hr1 3
  have q4 := cell_of hr1 4
  simp only [List.getElem?_toArray, List.getElem?_cons_zero, List.getElem?_cons_succ] at q0 q1 q2 q3 q4 k0' k1' k2' k3' k4' k5' k6'
  have HW := Lib.hid (HST.out.below HB2.out)
  clear hb1 hs1 hr1 hc1 HD HB0 HS0
  cases b1 with
  | true =>
    go_wp2_with fail
    refine bodyPost_ret (v := .tuple #[.slice a1 n c1, .bool true]) (by simp [results, Tryd.results42, go_sem]) rfl ?_
    have hf := HF.out
    simp at hf
    obtain ⟨e6, e7⟩ := hf
    exact ⟨HB2.out, a1, c1, by rw [e7] <;> rfl, by rw [e6]; exact HS2.out⟩
  | false =>
    cases b8 with
    | true =>
      have e9 := HNO.out rfl
      subst e9
      cases k5 with
      | true =>
        cases d0 with
        | true =>
          go_wp2_with fail
          refine bodyPost_ret (v := .tuple #[.slice a n c, .bool true]) (by simp [results, Tryd.results42, go_sem]) rfl ?_
          have hf := HF.out
          simp at hf
          obtain ⟨e6, e7⟩ := hf
          exact ⟨HB2.out, a, c, by rw [e7] <;> rfl, by rw [e6]; exact HW.out⟩
        | false =>
          go_wp2_with fail
          refine bodyPost_ret (v := .tuple #[.slice a n c, .bool false]) (by simp [results, Tryd.results42, go_sem]) rfl ?_
          have hf := HF.out
          simp at hf
          obtain ⟨e6, e7⟩ := hf
          exact ⟨HB2.out, a, c, by rw [e7] <;> rfl, by rw [e6]; exact HW.out⟩
      | false =>
        cases k6 with
        | true =>
          cases d0 with
          | true =>
            go_wp2_with fail
            refine bodyPost_ret (v := .tuple #[.slice a n c, .bool true]) (by simp [results, Tryd.results42, go_sem]) rfl ?_
            have hf := HF.out
            simp at hf
            obtain ⟨e6, e7⟩ := hf
            exact ⟨HB2.out, a, c, by rw [e7] <;> rfl, by rw [e6]; exact HW.out⟩
          | false =>
            go_wp2_with fail
            refine bodyPost_ret (v := .tuple #[.slice a n c, .bool false]) (by simp [results, Tryd.results42, go_sem]) rfl ?_
            have hf := HF.out
            simp at hf
            obtain ⟨e6, e7⟩ := hf
            exact ⟨HB2.out, a, c, by rw [e7] <;> rfl, by rw [e6]; exact HW.out⟩
        | false =>
          go_wp2_with fail
          refine bodyPost_ret (v := .tuple #[.slice a n c, .bool false]) (by simp [results, Tryd.results42, go_sem]) rfl ?_
          have hf := HF.out
          simp at hf
          obtain ⟨e6, e7⟩ := hf
          exact ⟨HB2.out, a, c, by rw [e7] <;> rfl, by rw [e6]; exact HW.out⟩
    | false =>
      cases b9 with
      | true =>
        cases k14 with
        | true =>
          cases k17 with
          | true =>
            cases d6 with
            | true =>
              go_wp2_with fail
              refine bodyPost_ret (v := .tuple #[.slice a n c, .bool true]) (by simp [results, Tryd.results42, go_sem]) rfl ?_
              have hf := HF.out
              simp at hf
              obtain ⟨e6, e7⟩ := hf
              exact ⟨HB2.out, a, c, by rw [e7] <;> rfl, by rw [e6]; exact HW.out⟩
            | false =>
              cases d7 with
              | true =>
                go_wp2_with fail
                refine bodyPost_ret (v := .tuple #[.slice a n c, .bool true]) (by simp [results, Tryd.results42, go_sem]) rfl ?_
                have hf := HF.out
                simp at hf
                obtain ⟨e6, e7⟩ := hf
                exact ⟨HB2.out, a, c, by rw [e7] <;> rfl, by rw [e6]; exact HW.out⟩
              | false =>
                go_wp2_with fail
                refine bodyPost_ret (v := .tuple #[.slice a n c, .bool false]) (by simp [results, Tryd.results42, go_sem]) rfl ?_
                have hf := HF.out
                simp at hf
                obtain ⟨e6, e7⟩ := hf
                exact ⟨HB2.out, a, c, by rw [e7] <;> rfl, by rw [e6]; exact HW.out⟩
          | false =>
            go_wp2_with fail
            refine bodyPost_ret (v := .tuple #[.slice a n c, .bool false]) (by simp [results, Tryd.results42, go_sem]) rfl ?_
            have hf := HF.out
            simp at hf
            obtain ⟨e6, e7⟩ := hf
            exact ⟨HB2.out, a, c, by rw [e7] <;> rfl, by rw [e6]; exact HW.out⟩
        | false =>
          go_wp2_with fail
          refine bodyPost_ret (v := .tuple #[.slice a n c, .bool false]) (by simp [results, Tryd.results42, go_sem]) rfl ?_
          have hf := HF.out
          simp at hf
          obtain ⟨e6, e7⟩ := hf
          exact ⟨HB2.out, a, c, by rw [e7] <;> rfl, by rw [e6]; exact HW.out⟩
      | false =>
        go_wp2_with fail
        refine bodyPost_ret (v := .tuple #[.slice a n c, .bool false]) (by simp [results, Tryd.results42, go_sem]) rfl ?_
        have hf := HF.out
        simp at hf
        obtain ⟨e6, e7⟩ := hf
        exact ⟨HB2.out, a, c, by rw [e7] <;> rfl, by rw [e6]; exact HW.out⟩
end Go.Proofs.YtohajfkekkelhaaDoor
