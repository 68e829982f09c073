import Derived.Test.YtdnppkihpddlhaaPlD
namespace Go.Proofs.Ytdnppkihpddlhaa
open Go.ChangeShapes Go.WideShapes Go.ChangeAt Go.RowKit
set_option linter.unusedVariables false
set_option linter.unusedSimpArgs false
set_option maxRecDepth 20000 in
set_option maxHeartbeats 8000000 in
theorem sof_any (w : World) (a : Option Addr) (n c : Nat) (ob oi : Nat → Nat → Int) (h : ObIn w a n ob oi) (hn : n ≤ 1000) (hr : ∀ i, i < n → rightS (ob i) = true) (hb : ∀ i, i < n → -9223372036854775808 ≤ ob i 1 ∧ ob i 1 ≤ 9223372036854775807) :
    Calls Try.prog 7 #[.slice a n c] w fun e w' => e = .returned (.tuple #[.slice (some ⟨w.heap.size, 0, none⟩) n n, .int .i64 (preP ob n)]) ∧ PlacesAt w' w.heap.size n (placeP ob) ∧ Keeps (fun _ => False) w w' := by
  have HH := Lib.hid h
  have hmk := fun w => make_places w n hn
  have HR := Lib.hid hr
  have HBD := Lib.hid hb
  have HPB := Lib.hid (fun k (hk : k ≤ n) => pre_bound hr k hk)
  have hP0 := (places_new w n).keep ((Keeps.refl (fun _ => False) _).alloc (.cells #[.int .i64 0] 3)) (fun h => h)
  have hT0 := heap_new (w.alloc (.cells (madeCells #[.int .i64 0, .int .i64 0, .int .i64 0, .int .i64 0, .int .i64 0] (n * 5)) 41)) (.cells #[.int .i64 0] 3)
  rw [World.size_alloc] at hT0
  have HS0 := Lib.hid (And.intro hP0 (And.intro hT0 (show Keeps (fun _ => False) w ((w.alloc (.cells (madeCells #[.int .i64 0, .int .i64 0, .int .i64 0, .int .i64 0, .int .i64 0] (n * 5)) 41)).alloc (.cells #[.int .i64 0] 3)) from ((Keeps.refl _ w).alloc _).alloc _)))
  clear h hr hb hP0 hT0
  go_enter Try.func7, Try.ntmps7
  go_wp2_with fail
  go_loopw [16] (fun i wr => ∃ k : Nat, k ≤ n ∧ i = .int .i64 (k : Int) ∧ PlacesAt wr w.heap.size n (fun i => if i < k then placeP ob i else zeroPl) ∧ wr.heap[w.heap.size + 1]? = some (.cells #[.int .i64 (preP ob k)] 3 (0, 0)) ∧ Keeps (fun _ => False) w wr) (fun i _ => n - (intOf i).toNat)
  case atStart => exact ⟨0, by omega, rfl, by simpa using HS0.out.1, HS0.out.2.1, HS0.out.2.2⟩
  case round =>
    clear HS0
    obtain ⟨k, hk, rfl, hpl, htot, hkeep⟩ := hrel
    have HPL := Lib.hid hpl
    have HTO := Lib.hid htot
    have HKE := Lib.hid hkeep
    by_cases hlt : k < n
    · obtain ⟨b, off, rfl, hbl, hc⟩ := HH.out.lies (by omega)
      have HRA := Lib.hid (show wr.rangeAt b (off + k * 10) (objC (ob k) (oi k)).toList from fun j v hv => by
        have hj : j < 10 := (List.getElem?_eq_some_iff.1 hv).1
        rw [hkeep.none.cell (p := ⟨b, off + k * 10 + j, none⟩) hbl, hc k hlt j hj]
        simpa using hv)
      have HNB := Lib.hid (And.intro hpl.lt (lt_of htot))
      have hB1 := heap_new wr (.cells (objC (ob k) (oi k)) 26)
      have k1 : Keeps (fun _ => False) wr (wr.alloc (.cells (objC (ob k) (oi k)) 26)) := (Keeps.refl _ wr).alloc _
      have HS1 := Lib.hid (And.intro hB1 (And.intro (hpl.keep k1 (fun h => h)) (And.intro (k1.at htot (fun h => h)) (hkeep.trans k1))))
      have HSZ := Lib.hid (fun W => size_any4 (ob k) (oi k) W (HBD.out k hlt) (HR.out k hlt))
      have hra := fun W => right_any (ob k) (oi k) W (HBD.out k hlt)
      rw [HR.out k hlt] at hra
      have HRI := Lib.hid hra
      have HSB := Lib.hid (And.intro (size_bound (HR.out k hlt)) (HPB.out k hk))
      have HLT := Lib.hid hlt
      have e0 : decide (k < n) = true := decide_eq_true hlt
      have e0' : decide ((k : Int) < (n : Int)) = true := decide_eq_true (by omega)
      have e3 : (0 : Int) ≤ (k : Int) := by omega
      have e4 : (k : Int) < (n : Int) := by omega
      clear hc hB1 k1 hra hpl htot hkeep
      obtain ⟨B, hBe⟩ : ∃ B, B = wr.heap.size := ⟨_, rfl⟩
      rw [← hBe] at HS1
      have HBE := Lib.hid hBe
      clear hBe
      go_wp2_with (refine wpList_load_mid rfl 26 (.tmp 19) rfl b (off + k * 10) rfl (objC (ob k) (oi k)).toList _ HRA.out Try.underlying26 rfl obj_info10 ?_)
      rw [← HBE.out]
      refine (HSZ.out _).mono ?_
      rintro e1 w2 ⟨rfl, k2⟩
      have hB2 := k2.at HS1.out.1 (fun h => h)
      have ht2 := k2.at HS1.out.2.2.1 (fun h => h)
      have hp2 := HS1.out.2.1.keep k2 (fun h => h)
      have hk2 := HS1.out.2.2.2.trans k2
      have hx := HSB.out
      go_wp2_with fail
      refine (begin_any (preP ob k) (sizeP (ob k)) (w.heap.size + 1) w2 ht2 ⟨by omega, by omega, by omega, by omega⟩).mono ?_
      rintro e3' w3 ⟨rfl, ht3, k3⟩
      have hBne : B ≠ w.heap.size + 1 := by rw [HBE.out]; have := HNB.out.2; omega
      have hBne0 : B ≠ w.heap.size := by rw [HBE.out]; have := HNB.out.1; omega
      have hB3 := k3.at hB2 hBne
      have hp3 := hp2.keep k3 (by omega)
      have hk3 := hk2.far k3 (fun j e => by omega)
      have HS3 := Lib.hid (And.intro hB3 (And.intro hp3 (And.intro ht3 hk3)))
      have HNE := Lib.hid (And.intro hBne hBne0)
      clear hB2 ht2 hp2 hk2 k2 k3 hB3 hp3 ht3 hk3 hx hBne hBne0 HS1
      obtain ⟨c0, c1, c2, c3, c4, c5, c6, c7, c8, c9⟩ := ten_cells HS3.out.1
      go_wp2_with fail
      refine (HRI.out _).mono ?_
      rintro e4' w4 ⟨rfl, k4⟩
      have HS4 := Lib.hid (And.intro (k4.at HS3.out.1 (fun h => h)) (And.intro (HS3.out.2.1.keep k4 (fun h => h)) (And.intro (k4.at HS3.out.2.2.1 (fun h => h)) (HS3.out.2.2.2.trans k4))))
      clear c0 c1 c2 c3 c4 c5 c6 c7 c8 c9 k4 HS3
      obtain ⟨c0, c1, c2, c3, c4, c5, c6, c7, c8, c9⟩ := ten_cells HS4.out.1
      have HTH := Lib.hid (HS4.out.2.1.there HLT.out)
      obtain ⟨W5, hW5⟩ : ∃ W5, W5 = w4.setCells w.heap.size (k * 5) (#[.int .i64 (ob k 0), .int .i64 0, .int .i64 (ob k 1), .int .i64 (ob k 2), .int .i64 (ob k 3)] : Array Value).toList := ⟨_, rfl⟩
      have HW5 := Lib.hid hW5
      have HPU := Lib.hid (show PlacesAt (W5.setCell ⟨w.heap.size, k * 5 + 1, none⟩ (.int .i64 (preP ob k))) w.heap.size n (fun i => if i < k + 1 then placeP ob i else zeroPl) by
        rw [hW5]
        refine (HS4.out.2.1.put HLT.out (fun j => match j with | 0 => ob k 0 | 1 => 0 | 2 => ob k 1 | 3 => ob k 2 | _ => ob k 3) (preP ob k) (placeP ob k) ⟨rfl, rfl, rfl, rfl, rfl⟩).same fun i hi => ?_
        by_cases e : i = k
        · subst e
          rw [if_pos rfl, if_pos (by omega)]
        · rw [if_neg e]
          by_cases e2 : i < k
          · rw [if_pos e2, if_pos (by omega)]
          · rw [if_neg e2, if_neg (by omega)])
      have hk5 : Keeps (fun j => j = w.heap.size) w4 W5 := by rw [hW5]; exact Keeps.sets (S := fun j => j = w.heap.size) (.inl rfl) _ _ _ (Keeps.refl _ _)
      have HT5 := Lib.hid (show (W5.setCell ⟨w.heap.size, k * 5 + 1, none⟩ (.int .i64 (preP ob k))).heap[w.heap.size + 1]? = some (.cells #[.int .i64 (preP ob k + sizeP (ob k))] 3 (0, 0)) from (hk5.setCell (p := ⟨w.heap.size, k * 5 + 1, none⟩) (.inl rfl) _).at HS4.out.2.2.1 (by show ¬ (w.heap.size + 1 = w.heap.size); omega))
      have HK5 := Lib.hid (show Keeps (fun _ => False) w (W5.setCell ⟨w.heap.size, k * 5 + 1, none⟩ (.int .i64 (preP ob k))) from HS4.out.2.2.2.far (hk5.setCell (p := ⟨w.heap.size, k * 5 + 1, none⟩) (.inl rfl) _) (fun j e => by omega))
      have HC5 := Lib.hid (show ∃ cs : Array Value, W5.heap[w.heap.size]? = some (.cells cs 41 (0, 0)) from by
        obtain ⟨cs, h1, _⟩ := HS4.out.2.1
        rw [hW5]
        exact ⟨_, heap_sets _ _ _ _ _ _ _ h1⟩)
      obtain ⟨cs5, hcs5⟩ := HC5.out
      have f5 : W5.frozen? ⟨w.heap.size, k * 5 + 1, none⟩ = false := free_of hcs5 _
      have g5 : ∃ v, W5.cell? ⟨w.heap.size, k * 5 + 1, none⟩ = some v := by
        obtain ⟨cs, h1, h2, _⟩ := HS4.out.2.1
        have h3 := heap_sets (#[.int .i64 (ob k 0), .int .i64 0, .int .i64 (ob k 1), .int .i64 (ob k 2), .int .i64 (ob k 3)] : Array Value).toList (k * 5) w4 w.heap.size cs _ _ h1
        rw [← hW5] at h3
        rw [cell_of h3]
        exact ⟨_, Array.getElem?_eq_getElem (by rw [setsA_size]; have := HLT.out; omega)⟩
      obtain ⟨v5, c15⟩ := g5
      clear hW5 hk5 hcs5 HC5 HS4
      go_wp2_with (refine wpList_store_mid rfl 41 (.tmp 38) (.tmp 37) rfl w.heap.size (k * 5) #[.int .i64 (ob k 0), .int .i64 0, .int .i64 (ob k 1), .int .i64 (ob k 2), .int .i64 (ob k 3)] rfl rfl HTH.out place_info (pl_one _ _ _ _ _) ?_; rw [← HW5.out])
      go_roundw
      case rel => exact ⟨k + 1, by have := HLT.out; omega, by go_num, HPU.out, HT5.out, HK5.out⟩
      case measure => simp [intOf]; have := HLT.out; omega
    · obtain rfl : k = n := by omega
      have e0 : decide (k < k) = false := decide_eq_false (by omega)
      have ct := cell_of HTO.out 0
      clear hlt
      go_wp2_with fail
      go_quiet (fail)
      go_wp2_with fail
      refine bodyPost_ret (v := .tuple #[.slice (some ⟨w.heap.size, 0, none⟩) k k, .int .i64 (preP ob k)]) (by simp [results, Try.results7, go_sem]) rfl ⟨rfl, (HPL.out.keep ((Keeps.refl (fun _ => False) wr).drewN _) (fun h => h)).same fun i hi => if_pos hi, HKE.out.trans ((Keeps.refl (fun _ => False) wr).drewN _)⟩
end Go.Proofs.Ytdnppkihpddlhaa
