import Derived.Test.YtkhmfjfclpehfaaGreatSpecNz
import Derived.Deep.RegionHeld3
import Derived.OwnWalk
namespace Go.Proofs.YtkhmfjfclpehfaaGreat
open Go.ChangeShapes Go.WideShapes Go.ChangeAt Go.RowKit
set_option linter.unusedVariables false
set_option linter.unusedSimpArgs false
structure SB (w wr : World) (n k : Nat) (O : List ObjX) (cur : Array Value) : Prop where
  heap : wr.heap[w.heap.size]? = some (.cells cur 106 (0, 0))
  size : cur.size = n * 15
  done : ∀ i p, i < k → O[i]? = some p → CurAt cur (i * 15) ((startI p.1 p.2).l none 0 0)
  rest : ∀ i, k ≤ i → i < n → CurAt cur (i * 15) [.int .i64 0, .int .i64 0, .int .i64 0, .int .i64 0, .int .i64 0, .int .i64 0, .int .u32 0, .int .u32 0, .int .u32 0, .int .u32 0, .slice none 0 0, .int .u32 0, .int .u32 0, .int .u32 0, .int .u32 0]
  below : Below w.heap.size w wr
theorem CurAt.out {cur cur' : Array Value} {o : Nat} {L : List Value} (h : CurAt cur o L) (hs : ∀ j, j < L.length → cur'[o + j]? = cur[o + j]?) : CurAt cur' o L := fun j v hv => by
  rw [hs j (List.getElem?_eq_some_iff.1 hv).1]
  exact h j v hv
theorem SB.next {w wr wr' : World} {n k : Nat} {O : List ObjX} {cur cur' : Array Value} {p : ObjX} (h : SB w wr n k O cur) (hk : O[k]? = some p) (hh : wr'.heap[w.heap.size]? = some (.cells cur' 106 (0, 0))) (hsz : cur'.size = cur.size)
    (hc : CurAt cur' (k * 15) ((startI p.1 p.2).l none 0 0)) (ho : ∀ j, j < k * 15 ∨ k * 15 + 15 ≤ j → cur'[j]? = cur[j]?) (hb : Below w.heap.size w wr') : SB w wr' n (k + 1) O cur' :=
  ⟨hh, hsz.trans h.size, fun i q hi hq => by
    by_cases e : i = k
    · subst e
      rw [hk] at hq
      cases hq
      exact hc
    · exact (h.done i q (by omega) hq).out fun j hj => ho _ (.inl (by have : j < 15 := hj; omega)), fun i hi hn => (h.rest i (by omega) hn).out fun j hj => ho _ (.inr (by omega)), hb⟩
theorem SB.start (w : World) (n : Nat) (O : List ObjX) : ∃ cur, (w.alloc (.cells (madeCells #[.int .i64 0, .int .i64 0, .int .i64 0, .int .i64 0, .int .i64 0, .int .i64 0, .int .u32 0, .int .u32 0, .int .u32 0, .int .u32 0, .slice none 0 0, .int .u32 0, .int .u32 0, .int .u32 0, .int .u32 0] (n * 15)) 106)).heap[w.heap.size]? = some (.cells cur 106 (0, 0)) ∧ SB w (w.alloc (.cells (madeCells #[.int .i64 0, .int .i64 0, .int .i64 0, .int .i64 0, .int .i64 0, .int .i64 0, .int .u32 0, .int .u32 0, .int .u32 0, .int .u32 0, .slice none 0 0, .int .u32 0, .int .u32 0, .int .u32 0, .int .u32 0] (n * 15)) 106)) n 0 O cur :=
  ⟨_, heap_new w _, heap_new w _, size_madeCells _ _, fun i p hi => by omega, fun i _ hn j v hv => by
    have hj : j < 15 := (List.getElem?_eq_some_iff.1 hv).1
    unfold madeCells
    rw [Array.getElem?_map, Array.getElem?_range, if_pos (by omega)]
    have e : (i * 15 + j) % 15 = j := by omega
    rcases (by omega : j = 0 ∨ j = 1 ∨ j = 2 ∨ j = 3 ∨ j = 4 ∨ j = 5 ∨ j = 6 ∨ j = 7 ∨ j = 8 ∨ j = 9 ∨ j = 10 ∨ j = 11 ∨ j = 12 ∨ j = 13 ∨ j = 14) with rfl | rfl | rfl | rfl | rfl | rfl | rfl | rfl | rfl | rfl | rfl | rfl | rfl | rfl | rfl <;> (cases hv; simp [Nat.mul_add_mod]), (Below.refl _ w).alloc (Nat.le_refl _) _⟩
theorem make_items (w : World) (n : Nat) (hn : n ≤ 1000) : (Instr.makeSlice 73 (.int .i64 (n : Int)) (.int .i64 (n : Int))).run Tryz.prog w = .ok (.slice (some ⟨w.heap.size, 0, none⟩) n n) (w.alloc (.cells (madeCells #[.int .i64 0, .int .i64 0, .int .i64 0, .int .i64 0, .int .i64 0, .int .i64 0, .int .u32 0, .int .u32 0, .int .u32 0, .int .u32 0, .slice none 0 0, .int .u32 0, .int .u32 0, .int .u32 0, .int .u32 0] (n * 15)) 106)) := by
  obtain ⟨i, hi, hz0, hz1, hz2⟩ := info_parts info_item
  have h := run_make w 73 106 i _ Tryz.underlying73 hi hz0 .i64 .i64 (n : Int) (n : Int) (by omega) (by omega) (by rw [hz2]; omega) (by omega)
  rw [hz1] at h
  exact h
theorem laid {cur : Array Value} {k : Nat} {p : ObjX} (h : CurAt cur (k * 15) [.int .i64 0, .int .i64 0, .int .i64 0, .int .i64 0, .int .i64 0, .int .i64 0, .int .u32 0, .int .u32 0, .int .u32 0, .int .u32 0, .slice none 0 0, .int .u32 0, .int .u32 0, .int .u32 0, .int .u32 0]) (hs : k * 15 + 15 ≤ cur.size) : CurAt (setsA cur (k * 15) (objL p)) (k * 15) ((⟨p.1, p.2, [], W4.zero⟩ : ItemD).l none 0 0) := fun j v hv => by
  have hj : j < 15 := (List.getElem?_eq_some_iff.1 hv).1
  by_cases h1 : j < 10
  · refine setsA_in (objL p) cur (k * 15) j v (by show k * 15 + 10 ≤ _; omega) ?_
    rcases (by omega : j = 0 ∨ j = 1 ∨ j = 2 ∨ j = 3 ∨ j = 4 ∨ j = 5 ∨ j = 6 ∨ j = 7 ∨ j = 8 ∨ j = 9) with rfl | rfl | rfl | rfl | rfl | rfl | rfl | rfl | rfl | rfl <;> exact hv
  · rw [setsA_out _ _ _ _ (.inr (by show k * 15 + 10 ≤ _; omega))]
    refine h j v ?_
    rcases (by omega : j = 10 ∨ j = 11 ∨ j = 12 ∨ j = 13 ∨ j = 14) with rfl | rfl | rfl | rfl | rfl <;> exact hv
theorem obj_one (p : ObjX) : (objL p).toArray.all (·.oneCell') = true := all_oneCell_toArray fun u hu => by
  simp at hu
  rcases hu with rfl | rfl | rfl | rfl | rfl | rfl | rfl | rfl | rfl | rfl <;> rfl
theorem range_objnew (wr : World) (p : ObjX) : (wr.alloc (.cells #[.int .i64 (p.1 0), .int .i64 (p.1 1), .int .i64 (p.1 2), .int .i64 (p.1 3), .int .i64 (p.1 4), .int .i64 (p.1 5), .int .u32 (p.2 0), .int .u32 (p.2 1), .int .u32 (p.2 2), .int .u32 (p.2 3)] 87)).rangeAt wr.heap.size 0 (objL p) := fun j v hv => by
  rw [cell_of (heap_new wr (.cells #[.int .i64 (p.1 0), .int .i64 (p.1 1), .int .i64 (p.1 2), .int .i64 (p.1 3), .int .i64 (p.1 4), .int .i64 (p.1 5), .int .u32 (p.2 0), .int .u32 (p.2 1), .int .u32 (p.2 2), .int .u32 (p.2 3)] 87)) (0 + j), show 0 + j = j by omega]
  simpa using hv
structure Laid (cur cur5 : Array Value) (k : Nat) (p : ObjX) : Prop where
  at' : CurAt cur5 (k * 15) ((⟨p.1, p.2, [], W4.zero⟩ : ItemD).l none 0 0)
  size : cur5.size = cur.size
  out : ∀ j, j < k * 15 ∨ k * 15 + 15 ≤ j → cur5[j]? = cur[j]?
theorem SB.same {w wr wr' : World} {n k : Nat} {O : List ObjX} {cur cur5 : Array Value} {p : ObjX} (h : SB w wr n k O cur) (hk : O[k]? = some p) (hl : Laid cur cur5 k p) (hv : startI p.1 p.2 = ⟨p.1, p.2, [], W4.zero⟩)
    (hh : wr'.heap[w.heap.size]? = some (.cells cur5 106 (0, 0))) (hb : Below w.heap.size w wr') : ∃ cur', SB w wr' n (k + 1) O cur' :=
  ⟨cur5, h.next hk hh hl.size (by rw [hv]; exact hl.at') hl.out hb⟩
theorem SB.words {w wr wr' : World} {n k : Nat} {O : List ObjX} {cur cur5 : Array Value} {p : ObjX} (h : SB w wr n k O cur) (hk : O[k]? = some p) (hl : Laid cur cur5 k p) (v : W4) (hv : startI p.1 p.2 = ⟨p.1, p.2, [], v⟩)
    (hh : wr'.heap[w.heap.size]? = some (.cells ((((cur5.setIfInBounds (k * 15 + 11) (.int .u32 v.a)).setIfInBounds (k * 15 + 12) (.int .u32 v.b)).setIfInBounds (k * 15 + 13) (.int .u32 v.c)).setIfInBounds (k * 15 + 14) (.int .u32 v.d)) 106 (0, 0))) (hb : Below w.heap.size w wr') : ∃ cur', SB w wr' n (k + 1) O cur' := by
  refine ⟨_, h.next hk hh (by simp [hl.size]) ?_ (fun j hj => ?_) hb⟩
  · rw [hv]
    exact setW (setW (setW (setW hl.at' (by show 11 < 15; omega) _) (by show 12 < 15; omega) _) (by show 13 < 15; omega) _) (by show 14 < 15; omega) _
  · rw [Array.getElem?_setIfInBounds_ne (by omega), Array.getElem?_setIfInBounds_ne (by omega), Array.getElem?_setIfInBounds_ne (by omega), Array.getElem?_setIfInBounds_ne (by omega)]
    exact hl.out j hj
set_option maxRecDepth 100000 in
set_option maxHeartbeats 16000000 in
theorem start_any (w : World) (a : Option Addr) (n c : Nat) (O : List ObjX) (h : ObjsArg w a n O) (hn : n ≤ 1000) :
    Calls Tryz.prog 19 #[.slice a n c] w fun e w' => Below w.heap.size w w' ∧ ∃ g', e = .returned (.slice (some ⟨g', 0, none⟩) n n) ∧ StateAt w' g' (startP O) := by
  have HH := Lib.hid h
  have hmk := fun w => make_items w n hn
  obtain ⟨cur0, hl0, hs0⟩ := SB.start w n O
  have HS0 := Lib.hid hs0
  clear h hs0 hl0
  go_enter Tryz.func19, Tryz.ntmps19
  go_wp2_with fail
  go_loopw [4, 5, 11] (fun _ _ i wr => ∃ (k : Nat) (cur : Array Value), k ≤ n ∧ i = .int .i64 (k : Int) ∧ SB w wr n k O cur) (fun _ _ i _ => n - (intOf i).toNat)
  case atStart => exact ⟨0, cur0, by omega, rfl, HS0.out⟩
  case round =>
    clear HS0
    obtain ⟨k, cur, hk, rfl, hsb⟩ := hrel
    have HB := Lib.hid hsb
    have hwl := lt_of hsb.heap
    clear hsb
    by_cases hlt : k < n
    · obtain ⟨b, off, rfl, hb, hobs⟩ := HH.out.lies (by omega)
      obtain ⟨p, hp⟩ : ∃ p, O[k]? = some p := ⟨_, List.getElem?_eq_getElem (by rw [HH.out.len]; exact hlt)⟩
      have okp := HH.out.ok p (List.mem_of_getElem? hp)
      have HRA := Lib.hid (range_below (hobs k p hp) HB.out.below hb)
      have HRB := Lib.hid (range_objnew wr p)
      have hcs : k * 15 + 15 ≤ cur.size := by rw [HB.out.size]; omega
      have HTH := Lib.hid (there_of (heap_old HB.out.heap (.cells #[.int .i64 (p.1 0), .int .i64 (p.1 1), .int .i64 (p.1 2), .int .i64 (p.1 3), .int .i64 (p.1 4), .int .i64 (p.1 5), .int .u32 (p.2 0), .int .u32 (p.2 1), .int .u32 (p.2 2), .int .u32 (p.2 3)] 87)) (k * 15) 10 (by omega))
      obtain ⟨W5, hW5⟩ : ∃ W5, W5 = (wr.alloc (.cells #[.int .i64 (p.1 0), .int .i64 (p.1 1), .int .i64 (p.1 2), .int .i64 (p.1 3), .int .i64 (p.1 4), .int .i64 (p.1 5), .int .u32 (p.2 0), .int .u32 (p.2 1), .int .u32 (p.2 2), .int .u32 (p.2 3)] 87)).setCells w.heap.size (k * 15) (#[.int .i64 (p.1 0), .int .i64 (p.1 1), .int .i64 (p.1 2), .int .i64 (p.1 3), .int .i64 (p.1 4), .int .i64 (p.1 5), .int .u32 (p.2 0), .int .u32 (p.2 1), .int .u32 (p.2 2), .int .u32 (p.2 3)] : Array Value).toList := ⟨_, rfl⟩
      have HH5 := Lib.hid (show W5.heap[w.heap.size]? = some (.cells (setsA cur (k * 15) (objL p)) 106 (0, 0)) by rw [hW5]; exact heap_sets (objL p) (k * 15) _ w.heap.size cur 106 (0, 0) (heap_old HB.out.heap (.cells #[.int .i64 (p.1 0), .int .i64 (p.1 1), .int .i64 (p.1 2), .int .i64 (p.1 3), .int .i64 (p.1 4), .int .i64 (p.1 5), .int .u32 (p.2 0), .int .u32 (p.2 1), .int .u32 (p.2 2), .int .u32 (p.2 3)] 87)))
      have HK5 := Lib.hid (show Keeps (fun j => j = w.heap.size) wr W5 by rw [hW5]; exact Keeps.sets (S := fun j => j = w.heap.size) (b := w.heap.size) (.inl rfl) (objL p) (k * 15) _ ((Keeps.refl (fun j => j = w.heap.size) wr).alloc (.cells #[.int .i64 (p.1 0), .int .i64 (p.1 1), .int .i64 (p.1 2), .int .i64 (p.1 3), .int .i64 (p.1 4), .int .i64 (p.1 5), .int .u32 (p.2 0), .int .u32 (p.2 1), .int .u32 (p.2 2), .int .u32 (p.2 3)] 87)))
      have HBX := Lib.hid (show W5.heap[wr.heap.size]? = some (.cells #[.int .i64 (p.1 0), .int .i64 (p.1 1), .int .i64 (p.1 2), .int .i64 (p.1 3), .int .i64 (p.1 4), .int .i64 (p.1 5), .int .u32 (p.2 0), .int .u32 (p.2 1), .int .u32 (p.2 2), .int .u32 (p.2 3)] 87 (0, 0)) by rw [hW5]; exact (Keeps.sets (S := fun j => j = w.heap.size) (b := w.heap.size) (.inl rfl) (objL p) (k * 15) _ (Keeps.refl (fun j => j = w.heap.size) (wr.alloc (.cells #[.int .i64 (p.1 0), .int .i64 (p.1 1), .int .i64 (p.1 2), .int .i64 (p.1 3), .int .i64 (p.1 4), .int .i64 (p.1 5), .int .u32 (p.2 0), .int .u32 (p.2 1), .int .u32 (p.2 2), .int .u32 (p.2 3)] 87)))).at (heap_new wr _) (by omega))
      have HRC := Lib.hid (show W5.rangeAt wr.heap.size 0 (objL p) from fun j v hv => by
        rw [cell_of HBX.out (0 + j), show 0 + j = j by omega]
        simpa using hv)
      have HW5 := Lib.hid hW5
      clear hW5
      have HL := Lib.hid (show Laid cur (setsA cur (k * 15) (objL p)) k p from ⟨laid (p := p) (HB.out.rest k (Nat.le_refl _) hlt) hcs, setsA_size _ _ _, fun j hj => setsA_out _ _ _ _ (by rcases hj with hj | hj; exact .inl hj; exact .inr (by show k * 15 + 10 ≤ j; omega))⟩)
      generalize setsA cur (k * 15) (objL p) = cur5 at HH5 HL
      have HX := Lib.hid (And.intro hp okp)
      have okp2 := okp
      have HKO := Lib.hid (fun w => kindOf_any w p.1 p.2 (okp.o 1 (by omega)))
      have dk : decide (k < n) = true := decide_eq_true hlt
      have dk' : decide ((k : Int) < (n : Int)) = true := decide_eq_true (by omega)
      have hne : ¬ wr.heap.size = w.heap.size := by omega
      have hne' : ¬ w.heap.size = wr.heap.size := by omega
      have HRBX := HRB
      clear hobs hp okp hmk HRBX
      go_wp2_with (first
        | (refine wpList_load_mid rfl 87 (.tmp 14) rfl b (off + k * 10) rfl [.int .i64 (p.1 0), .int .i64 (p.1 1), .int .i64 (p.1 2), .int .i64 (p.1 3), .int .i64 (p.1 4), .int .i64 (p.1 5), .int .u32 (p.2 0), .int .u32 (p.2 1), .int .u32 (p.2 2), .int .u32 (p.2 3)] _ HRA.out Tryz.underlying87 rfl obj_info ?_)
        | (refine wpList_load_mid rfl 87 (.tmp 5) rfl wr.heap.size 0 rfl [.int .i64 (p.1 0), .int .i64 (p.1 1), .int .i64 (p.1 2), .int .i64 (p.1 3), .int .i64 (p.1 4), .int .i64 (p.1 5), .int .u32 (p.2 0), .int .u32 (p.2 1), .int .u32 (p.2 2), .int .u32 (p.2 3)] _ HRB.out Tryz.underlying87 rfl obj_info ?_)
        | (refine wpList_store_mid rfl 87 (.tmp 20) (.tmp 18) rfl w.heap.size (k * 15) #[.int .i64 (p.1 0), .int .i64 (p.1 1), .int .i64 (p.1 2), .int .i64 (p.1 3), .int .i64 (p.1 4), .int .i64 (p.1 5), .int .u32 (p.2 0), .int .u32 (p.2 1), .int .u32 (p.2 2), .int .u32 (p.2 3)] rfl rfl HTH.out obj_info (obj_one p) ?_; rw [← HW5.out]; replace HRB := HRC))
      refine (HKO.out _).mono ?_
      rintro e6 w6 ⟨rfl, k6⟩
      have HG6 := Lib.hid (show w6.heap[w.heap.size]? = some (.cells cur5 106 (0, 0)) from k6.at HH5.out fun h => h)
      have HX6 := Lib.hid (show w6.heap[wr.heap.size]? = some (.cells #[.int .i64 (p.1 0), .int .i64 (p.1 1), .int .i64 (p.1 2), .int .i64 (p.1 3), .int .i64 (p.1 4), .int .i64 (p.1 5), .int .u32 (p.2 0), .int .u32 (p.2 1), .int .u32 (p.2 2), .int .u32 (p.2 3)] 87 (0, 0)) from k6.at HBX.out fun h => h)
      have HK6 := Lib.hid (show Keeps (fun j => j = w.heap.size) wr w6 from HK5.out.trans ⟨k6.os, k6.tape, k6.output, k6.size, fun k hk1 _ => k6.block k hk1 fun h => h⟩)
      have HB6 := Lib.hid (show Below w.heap.size w w6 from HB.out.below.trans (HK6.out.below (B := w.heap.size) (by omega) fun j _ e => by omega))
      have hl6 := lt_of HG6.out
      have hx6 := lt_of HX6.out
      clear k6
      by_cases h2 : kindP p.1 = 2
      · obtain ⟨m, hm, hm4⟩ := kind_width (.inr (.inl h2))
        have HSV := Lib.hid (show startI p.1 p.2 = ⟨p.1, p.2, [], (W4.mk (p.2 0) (p.2 1) (p.2 2) (p.2 3)).clip m⟩ by unfold startI; rw [if_pos (.inl h2), hm, Int.toNat_natCast])
        rw [h2]
        have HMM := Lib.hid hm
        have HX7 := Lib.hid HX6.out
        have z2 : w6.cell? ⟨wr.heap.size, 2, none⟩ = some (.int .i64 (m : Int)) := by rw [← hm]; exact cell_of HX6.out 2
        have z6 : w6.cell? ⟨wr.heap.size, 6, none⟩ = some (.int .u32 (p.2 0)) := cell_of HX6.out 6
        have z7 : w6.cell? ⟨wr.heap.size, 7, none⟩ = some (.int .u32 (p.2 1)) := cell_of HX6.out 7
        have z8 : w6.cell? ⟨wr.heap.size, 8, none⟩ = some (.int .u32 (p.2 2)) := cell_of HX6.out 8
        have z9 : w6.cell? ⟨wr.heap.size, 9, none⟩ = some (.int .u32 (p.2 3)) := cell_of HX6.out 9
        have HZ2 := Lib.hid z2
        have HA := Lib.hid ((((Has.start w6).old HX6.out).old HG6.out).drew)
        have HC := Lib.hid (fun w => clip_any w (m : Int))
        have HC1 := Lib.hid (fun w P => clip1_any w P m (p.2 0) (p.2 1) (p.2 2) (p.2 3) (by omega))
        have HU11 := Lib.hid (show cur5[k * 15 + 11]? = some (.int .u32 0) from HL.out.at' 11 _ rfl)
        have HU12 := Lib.hid (show cur5[k * 15 + 12]? = some (.int .u32 0) from HL.out.at' 12 _ rfl)
        have HU13 := Lib.hid (show cur5[k * 15 + 13]? = some (.int .u32 0) from HL.out.at' 13 _ rfl)
        have HU14 := Lib.hid (show cur5[k * 15 + 14]? = some (.int .u32 0) from HL.out.at' 14 _ rfl)
        clear hm
        go_wp2_with fail
        clear z2 z6 z7 z8 z9
        go_region_held3 (fun w' => w'.cell? ⟨wr.heap.size, 2, none⟩ = some (.int .i64 (m : Int)) ∧ w'.cell? ⟨wr.heap.size, 6, none⟩ = some (.int .u32 (p.2 0)) ∧ w'.cell? ⟨wr.heap.size, 7, none⟩ = some (.int .u32 (p.2 1)) ∧ w'.cell? ⟨wr.heap.size, 8, none⟩ = some (.int .u32 (p.2 2)) ∧ w'.cell? ⟨wr.heap.size, 9, none⟩ = some (.int .u32 (p.2 3)))
          (first
            | exact ⟨(World.cell?_of_block (HA.out.keeps.block wr.heap.size hx6 (fun h => h))).trans HZ2.out, cell_of (HA.out.at 1 rfl) 6, cell_of (HA.out.at 1 rfl) 7, cell_of (HA.out.at 1 rfl) 8, cell_of (HA.out.at 1 rfl) 9⟩
            | go_keep)
          ((first
            | (go_at_call 37; refine (HC.out _).mono ?_; rintro e w7 ⟨rfl, hP, k3⟩; replace HA := Lib.hid (HA.out.none k3); have HP := Lib.hid (show w7.heap[w6.heap.size]? = some (.cells #[.int .i64 (m : Int)] 3 (0, 0)) from by simpa using hP); clear k3 hP)
            | (go_at_call 63; refine (HC1.out _ _ HP.out).mono ?_; rintro e w8 ⟨rfl, b4⟩; replace HA := Lib.hid (HA.out.none (Keeps.ofBelow b4)); have hg8 : w8.heap[w.heap.size]? = some (.cells cur5 106 (0, 0)) := HA.out.at 0 rfl; have hb8 : w8.heap[wr.heap.size]? = some (.cells #[.int .i64 (p.1 0), .int .i64 (p.1 1), .int .i64 (p.1 2), .int .i64 (p.1 3), .int .i64 (p.1 4), .int .i64 (p.1 5), .int .u32 (p.2 0), .int .u32 (p.2 1), .int .u32 (p.2 2), .int .u32 (p.2 3)] 87 (0, 0)) := HA.out.at 1 rfl; have y11 := (cell_of hg8 (k * 15 + 11)).trans HU11.out; have f11 := free_of hg8 (k * 15 + 11); have y12 := (cell_of hg8 (k * 15 + 12)).trans HU12.out; have f12 := free_of hg8 (k * 15 + 12); have y13 := (cell_of hg8 (k * 15 + 13)).trans HU13.out; have f13 := free_of hg8 (k * 15 + 13); have y14 := (cell_of hg8 (k * 15 + 14)).trans HU14.out; have f14 := free_of hg8 (k * 15 + 14); have z2 : w8.cell? ⟨wr.heap.size, 2, none⟩ = some (.int .i64 (m : Int)) := (World.cell?_of_block (HA.out.keeps.block wr.heap.size hx6 (fun h => h))).trans HZ2.out; have z6 : w8.cell? ⟨wr.heap.size, 6, none⟩ = some (.int .u32 (p.2 0)) := cell_of hb8 6; have z7 : w8.cell? ⟨wr.heap.size, 7, none⟩ = some (.int .u32 (p.2 1)) := cell_of hb8 7; have z8 : w8.cell? ⟨wr.heap.size, 8, none⟩ = some (.int .u32 (p.2 2)) := cell_of hb8 8; have z9 : w8.cell? ⟨wr.heap.size, 9, none⟩ = some (.int .u32 (p.2 3)) := cell_of hb8 9; clear b4 hg8 hb8)))
        have hg8 : w8.heap[w.heap.size]? = some (.cells cur5 106 (0, 0)) := HA.out.at 0 rfl
        have HN := Lib.hid (HB.out.words HX.out.1 HL.out ((W4.mk (p.2 0) (p.2 1) (p.2 2) (p.2 3)).clip m) HSV.out (wr' := ((((w8.setCell ⟨w.heap.size, k * 15 + 11, none⟩ (.int .u32 (clipP m 0 (p.2 0)))).setCell ⟨w.heap.size, k * 15 + 11 + 1, none⟩ (.int .u32 (clipP m 1 (p.2 1)))).setCell ⟨w.heap.size, k * 15 + 11 + 2, none⟩ (.int .u32 (clipP m 2 (p.2 2)))).setCell ⟨w.heap.size, k * 15 + 11 + 3, none⟩ (.int .u32 (clipP m 3 (p.2 3))))) (heap_set (heap_set (heap_set (heap_set hg8 (k * 15 + 11) _) (k * 15 + 12) _) (k * 15 + 13) _) (k * 15 + 14) _) ((((HB6.out.trans (HA.out.keeps.none.mono HB6.out.size)).setCell (p := ⟨w.heap.size, k * 15 + 11, none⟩) (Nat.le_refl _) _).setCell (p := ⟨w.heap.size, k * 15 + 11 + 1, none⟩) (Nat.le_refl _) _).setCell (p := ⟨w.heap.size, k * 15 + 11 + 2, none⟩) (Nat.le_refl _) _ |>.setCell (p := ⟨w.heap.size, k * 15 + 11 + 3, none⟩) (Nat.le_refl _) _))
        clear y11 y12 y13 y14 f11 f12 f13 f14 z2 z6 z7 z8 z9 hg8
        go_wp2_with fail
        go_roundw
        case rel => exact ⟨k + 1, HN.out.choose, by omega, by go_num, HN.out.choose_spec⟩
        case measure => simp [intOf]; omega
      have n2 : (kindP p.1 == 2) = false := by simpa using h2
      by_cases h3 : kindP p.1 = 3
      · obtain ⟨m, hm, hm4⟩ := kind_width (.inr (.inr h3))
        have HSV := Lib.hid (show startI p.1 p.2 = ⟨p.1, p.2, [], (W4.mk (p.2 0) (p.2 1) (p.2 2) (p.2 3)).clip m⟩ by unfold startI; rw [if_pos (.inr h3), hm, Int.toNat_natCast])
        rw [h3]
        have HMM := Lib.hid hm
        have HX7 := Lib.hid HX6.out
        have z2 : w6.cell? ⟨wr.heap.size, 2, none⟩ = some (.int .i64 (m : Int)) := by rw [← hm]; exact cell_of HX6.out 2
        have z6 : w6.cell? ⟨wr.heap.size, 6, none⟩ = some (.int .u32 (p.2 0)) := cell_of HX6.out 6
        have z7 : w6.cell? ⟨wr.heap.size, 7, none⟩ = some (.int .u32 (p.2 1)) := cell_of HX6.out 7
        have z8 : w6.cell? ⟨wr.heap.size, 8, none⟩ = some (.int .u32 (p.2 2)) := cell_of HX6.out 8
        have z9 : w6.cell? ⟨wr.heap.size, 9, none⟩ = some (.int .u32 (p.2 3)) := cell_of HX6.out 9
        have HZ2 := Lib.hid z2
        have HA := Lib.hid ((((Has.start w6).old HX6.out).old HG6.out).drew)
        have HC := Lib.hid (fun w => clip_any w (m : Int))
        have HC1 := Lib.hid (fun w P => clip1_any w P m (p.2 0) (p.2 1) (p.2 2) (p.2 3) (by omega))
        have HU11 := Lib.hid (show cur5[k * 15 + 11]? = some (.int .u32 0) from HL.out.at' 11 _ rfl)
        have HU12 := Lib.hid (show cur5[k * 15 + 12]? = some (.int .u32 0) from HL.out.at' 12 _ rfl)
        have HU13 := Lib.hid (show cur5[k * 15 + 13]? = some (.int .u32 0) from HL.out.at' 13 _ rfl)
        have HU14 := Lib.hid (show cur5[k * 15 + 14]? = some (.int .u32 0) from HL.out.at' 14 _ rfl)
        clear hm
        go_wp2_with fail
        clear z2 z6 z7 z8 z9
        go_region_held3 (fun w' => w'.cell? ⟨wr.heap.size, 2, none⟩ = some (.int .i64 (m : Int)) ∧ w'.cell? ⟨wr.heap.size, 6, none⟩ = some (.int .u32 (p.2 0)) ∧ w'.cell? ⟨wr.heap.size, 7, none⟩ = some (.int .u32 (p.2 1)) ∧ w'.cell? ⟨wr.heap.size, 8, none⟩ = some (.int .u32 (p.2 2)) ∧ w'.cell? ⟨wr.heap.size, 9, none⟩ = some (.int .u32 (p.2 3)))
          (first
            | exact ⟨(World.cell?_of_block (HA.out.keeps.block wr.heap.size hx6 (fun h => h))).trans HZ2.out, cell_of (HA.out.at 1 rfl) 6, cell_of (HA.out.at 1 rfl) 7, cell_of (HA.out.at 1 rfl) 8, cell_of (HA.out.at 1 rfl) 9⟩
            | go_keep)
          ((first
            | (go_at_call 37; refine (HC.out _).mono ?_; rintro e w7 ⟨rfl, hP, k3⟩; replace HA := Lib.hid (HA.out.none k3); have HP := Lib.hid (show w7.heap[w6.heap.size]? = some (.cells #[.int .i64 (m : Int)] 3 (0, 0)) from by simpa using hP); clear k3 hP)
            | (go_at_call 63; refine (HC1.out _ _ HP.out).mono ?_; rintro e w8 ⟨rfl, b4⟩; replace HA := Lib.hid (HA.out.none (Keeps.ofBelow b4)); have hg8 : w8.heap[w.heap.size]? = some (.cells cur5 106 (0, 0)) := HA.out.at 0 rfl; have hb8 : w8.heap[wr.heap.size]? = some (.cells #[.int .i64 (p.1 0), .int .i64 (p.1 1), .int .i64 (p.1 2), .int .i64 (p.1 3), .int .i64 (p.1 4), .int .i64 (p.1 5), .int .u32 (p.2 0), .int .u32 (p.2 1), .int .u32 (p.2 2), .int .u32 (p.2 3)] 87 (0, 0)) := HA.out.at 1 rfl; have y11 := (cell_of hg8 (k * 15 + 11)).trans HU11.out; have f11 := free_of hg8 (k * 15 + 11); have y12 := (cell_of hg8 (k * 15 + 12)).trans HU12.out; have f12 := free_of hg8 (k * 15 + 12); have y13 := (cell_of hg8 (k * 15 + 13)).trans HU13.out; have f13 := free_of hg8 (k * 15 + 13); have y14 := (cell_of hg8 (k * 15 + 14)).trans HU14.out; have f14 := free_of hg8 (k * 15 + 14); have z2 : w8.cell? ⟨wr.heap.size, 2, none⟩ = some (.int .i64 (m : Int)) := (World.cell?_of_block (HA.out.keeps.block wr.heap.size hx6 (fun h => h))).trans HZ2.out; have z6 : w8.cell? ⟨wr.heap.size, 6, none⟩ = some (.int .u32 (p.2 0)) := cell_of hb8 6; have z7 : w8.cell? ⟨wr.heap.size, 7, none⟩ = some (.int .u32 (p.2 1)) := cell_of hb8 7; have z8 : w8.cell? ⟨wr.heap.size, 8, none⟩ = some (.int .u32 (p.2 2)) := cell_of hb8 8; have z9 : w8.cell? ⟨wr.heap.size, 9, none⟩ = some (.int .u32 (p.2 3)) := cell_of hb8 9; clear b4 hg8 hb8)))
        have hg8 : w8.heap[w.heap.size]? = some (.cells cur5 106 (0, 0)) := HA.out.at 0 rfl
        have HN := Lib.hid (HB.out.words HX.out.1 HL.out ((W4.mk (p.2 0) (p.2 1) (p.2 2) (p.2 3)).clip m) HSV.out (wr' := ((((w8.setCell ⟨w.heap.size, k * 15 + 11, none⟩ (.int .u32 (clipP m 0 (p.2 0)))).setCell ⟨w.heap.size, k * 15 + 11 + 1, none⟩ (.int .u32 (clipP m 1 (p.2 1)))).setCell ⟨w.heap.size, k * 15 + 11 + 2, none⟩ (.int .u32 (clipP m 2 (p.2 2)))).setCell ⟨w.heap.size, k * 15 + 11 + 3, none⟩ (.int .u32 (clipP m 3 (p.2 3))))) (heap_set (heap_set (heap_set (heap_set hg8 (k * 15 + 11) _) (k * 15 + 12) _) (k * 15 + 13) _) (k * 15 + 14) _) ((((HB6.out.trans (HA.out.keeps.none.mono HB6.out.size)).setCell (p := ⟨w.heap.size, k * 15 + 11, none⟩) (Nat.le_refl _) _).setCell (p := ⟨w.heap.size, k * 15 + 11 + 1, none⟩) (Nat.le_refl _) _).setCell (p := ⟨w.heap.size, k * 15 + 11 + 2, none⟩) (Nat.le_refl _) _ |>.setCell (p := ⟨w.heap.size, k * 15 + 11 + 3, none⟩) (Nat.le_refl _) _))
        clear y11 y12 y13 y14 f11 f12 f13 f14 z2 z6 z7 z8 z9 hg8
        go_wp2_with fail
        go_roundw
        case rel => exact ⟨k + 1, HN.out.choose, by omega, by go_num, HN.out.choose_spec⟩
        case measure => simp [intOf]; omega
      have n3 : (kindP p.1 == 3) = false := by simpa using h3
      by_cases h4 : kindP p.1 = 4
      · have HSV := Lib.hid (show startI p.1 p.2 = ⟨p.1, p.2, [], ⟨p.2 0, 0, 0, 0⟩⟩ by unfold startI; rw [if_neg (by omega), if_pos h4])
        rw [h4]
        have z6 : w6.cell? ⟨wr.heap.size, 6, none⟩ = some (.int .u32 (p.2 0)) := cell_of HX6.out 6
        have y11 : w6.cell? ⟨w.heap.size, k * 15 + 11, none⟩ = some (.int .u32 0) := (cell_of HG6.out (k * 15 + 11)).trans (HL.out.at' 11 _ rfl)
        have f11 := free_of HG6.out (k * 15 + 11)
        have y12 : w6.cell? ⟨w.heap.size, k * 15 + 12, none⟩ = some (.int .u32 0) := (cell_of HG6.out (k * 15 + 12)).trans (HL.out.at' 12 _ rfl)
        have f12 := free_of HG6.out (k * 15 + 12)
        have y13 : w6.cell? ⟨w.heap.size, k * 15 + 13, none⟩ = some (.int .u32 0) := (cell_of HG6.out (k * 15 + 13)).trans (HL.out.at' 13 _ rfl)
        have f13 := free_of HG6.out (k * 15 + 13)
        have y14 : w6.cell? ⟨w.heap.size, k * 15 + 14, none⟩ = some (.int .u32 0) := (cell_of HG6.out (k * 15 + 14)).trans (HL.out.at' 14 _ rfl)
        have f14 := free_of HG6.out (k * 15 + 14)
        have HN := Lib.hid (HB.out.words HX.out.1 HL.out ⟨p.2 0, 0, 0, 0⟩ HSV.out (wr' := ((((w6.setCell ⟨w.heap.size, k * 15 + 11, none⟩ (.int .u32 (p.2 0))).setCell ⟨w.heap.size, k * 15 + 11 + 1, none⟩ (.int .u32 0)).setCell ⟨w.heap.size, k * 15 + 11 + 2, none⟩ (.int .u32 0)).setCell ⟨w.heap.size, k * 15 + 11 + 3, none⟩ (.int .u32 0))) (heap_set (heap_set (heap_set (heap_set HG6.out (k * 15 + 11) _) (k * 15 + 12) _) (k * 15 + 13) _) (k * 15 + 14) _) (((HB6.out.setCell (p := ⟨w.heap.size, k * 15 + 11, none⟩) (Nat.le_refl _) _).setCell (p := ⟨w.heap.size, k * 15 + 11 + 1, none⟩) (Nat.le_refl _) _).setCell (p := ⟨w.heap.size, k * 15 + 11 + 2, none⟩) (Nat.le_refl _) _ |>.setCell (p := ⟨w.heap.size, k * 15 + 11 + 3, none⟩) (Nat.le_refl _) _))
        clear h2 h3 h4
        go_wp2_with fail
        go_roundw
        case rel => exact ⟨k + 1, HN.out.choose, by omega, by go_num, HN.out.choose_spec⟩
        case measure => simp [intOf]; omega
      have n4 : (kindP p.1 == 4) = false := by simpa using h4
      have HSV := Lib.hid (show startI p.1 p.2 = ⟨p.1, p.2, [], W4.zero⟩ by unfold startI; rw [if_neg (by omega), if_neg h4])
      have HN := Lib.hid (HB.out.same HX.out.1 HL.out HSV.out HG6.out HB6.out)
      generalize kindP p.1 = K at n2 n3 n4 ⊢
      clear h2 h3 h4
      go_wp2_with fail
      go_roundw
      case rel => exact ⟨k + 1, HN.out.choose, by omega, by go_num, HN.out.choose_spec⟩
      case measure => simp [intOf]; omega
    · obtain rfl : k = n := by omega
      have dk : decide (k < k) = false := decide_eq_false (by omega)
      have hlen := HH.out.len
      have HST := Lib.hid (show StateAt wr w.heap.size (startP O) from ⟨hwl, fun i x hx => by
        unfold startP at hx
        rw [List.getElem?_map] at hx
        obtain ⟨p, hp, rfl⟩ := Option.map_eq_some_iff.1 hx
        have hi : i < k := by rw [← hlen]; exact (List.getElem?_eq_some_iff.1 hp).1
        exact ⟨none, 0, fun j v hv => (cell_of HB.out.heap (i * 15 + j)).trans (HB.out.done i p hi hp j v hv), Nat.le_refl _, by unfold maxLen; omega, fun _ => rfl, fun hp => by simp [startI] at hp⟩, ⟨_, _, HB.out.heap⟩⟩)
      go_wp2_with fail
      go_ret
      exact ⟨HB.out.below, w.heap.size, rfl, HST.out⟩
end Go.Proofs.YtkhmfjfclpehfaaGreat
