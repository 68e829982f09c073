import Derived.Test.YtdnppkihpddlhaaBdZ
import Derived.Test.YtdnppkihpddlhaaBdAl
import Derived.Test.YtdnppkihpddlhaaPlE
import Derived.Test.YtdnppkihpddlhaaObjO
import Derived.Deep.RegionHeld3
import Derived.Great.Walk
namespace Go.Proofs.Ytdnppkihpddlhaa
open Go.ChangeShapes Go.WideShapes Go.ChangeAt Go.RowKit
set_option linter.unusedVariables false
set_option linter.unusedSimpArgs false
set_option maxRecDepth 100000
theorem object_info : (Try.prog.info? 26).map (·.size) = some 10 := by kernel_rfl
theorem call_info : (Try.prog.info? 28).map (·.size) = some 7 := by kernel_rfl
theorem oSlice_built (o oi : Nat → Int) : Try.prog.builtSlice 26 1 [(0, .agg (objC o oi))] = some (objC o oi) := by kernel_rfl
/-- The place of the only object. -/
def plO (o : Nat → Int) : Nat → Int := placeP (fun _ => o) 0
theorem plO_ok {o : Nat → Int} (h : rightS o = true) : PlOk (plO o) := by
  have e : oOf (plO o) = fun j => match j with | 0 => o 0 | 1 => o 1 | 2 => o 2 | 3 => o 3 | _ => 0 := by
    funext j
    match j with
    | 0 => rfl
    | 1 => rfl
    | 2 => rfl
    | 3 => rfl
    | _ + 4 => rfl
  refine ⟨?_, ?_⟩
  · rw [e]; unfold rightS at h ⊢; exact h
  · show (0 : Int) ≤ 0 ∧ (0 : Int) ≤ 1000000
    exact ⟨by decide, by decide⟩
theorem acts_most {o : Nat → Int} (k : Int) (h : rightS o = true) : actsP k (plO o) ≤ 54 := by
  obtain ⟨h1, h2, h3, h4, h5, h6⟩ := acts_nums (plO_ok h).r
  generalize plO o = p at *
  have hm : (p 3 + 2) * p 4 ≤ 6 * 8 := Int.mul_le_mul (by omega) h6 h5 (by omega)
  unfold actsP ringA fourA lockA flagA
  repeat' split
  all_goals omega
theorem one_obj {w : World} {b : Nat} {o oi : Nat → Int} {T : TypeId} (h : w.heap[b]? = some (.cells (objC o oi) T (0, 0))) : ObIn w (some ⟨b, 0, none⟩) 1 (fun _ => o) (fun _ => oi) :=
  ⟨fun _ => ⟨b, 0, rfl, lt_of h, fun i hi j hj => by
    obtain rfl : i = 0 := by omega
    have e : 0 + 0 * 10 + j = j := by omega
    rw [e]; exact cell_of h j⟩⟩
theorem hold_false (o oi : Nat → Int) (k ob n : Int) (V : Nat → Int) (a : Option Addr) (m c : Nat) (w : World) (hb : -9223372036854775808 ≤ o 1 ∧ o 1 ≤ 9223372036854775807) (hr : rightS o = false) :
    Calls Try.prog 3 #[.agg (objC o oi), .agg (clC k ob V n), .slice a m c] w fun e w' => e = .returned (.bool true) ∧ Keeps (fun _ => False) w w' := by
  have HR := Lib.hid (fun W => right_any o oi W hb)
  have HRR := Lib.hid hr
  obtain ⟨W1, hW1⟩ : ∃ W, W = (w.alloc (.cells (objC o oi) 26)).alloc (.cells (clC k ob V n) 28) := ⟨_, rfl⟩
  have h1 := ((Has.start w).alloc (.cells (objC o oi) 26)).alloc (.cells (clC k ob V n) 28)
  rw [← hW1, World.size_alloc] at h1
  have HB := Lib.hid h1
  have HW := Lib.hid hW1
  clear h1 hW1 hr hb
  go_enter Try.func3, Try.ntmps3
  go_wp2_with (first
    | (refine Great.wpList_boxTo rfl 28 (.tmp 1) rfl (some 4) rfl (w.heap.size + 1) (by simp) (clC k ob V n) rfl ?_; rw [← HW.out])
    | (refine wpList_load_row rfl 26 (.tmp 3) rfl w.heap.size rfl 26 (objC o oi) (0, 0) _ (HB.out.at 1 rfl) Try.underlying26 rfl object_info ?_))
  refine (HR.out _).mono ?_
  rintro e w1 ⟨rfl, k1⟩
  rw [HRR.out]
  have HB1 := Lib.hid (HB.out.none k1)
  clear k1
  go_wp2_with fail
  refine (alive17_any _).mono ?_
  rintro e w2 ⟨rfl, k2⟩
  have HB2 := Lib.hid (HB1.out.none k2)
  clear k2
  go_wp2_with fail
  go_ret
  exact ⟨rfl, HB2.out.keeps⟩
set_option maxHeartbeats 8000000 in
theorem hold_true (o oi : Nat → Int) (k ob n : Int) (V : Nat → Int) (a : Option Addr) (m c : Nat) (G : Nat → Int) (w : World) (hb : -9223372036854775808 ≤ o 1 ∧ o 1 ≤ 9223372036854775807) (hr : rightS o = true)
    (hm : m ≤ maxLen) (hG : 0 < m → ∃ B off, a = some ⟨B, off, none⟩ ∧ B < w.heap.size ∧ ∀ i, i < m → w.cell? ⟨B, off + i, none⟩ = some (.int .u32 (G i))) :
    Calls Try.prog 3 #[.agg (objC o oi), .agg (clC k ob V n), .slice a m c] w fun e w' => e = .returned (.bool true) ∧ Keeps (fun _ => False) w w' := by
  have HR := Lib.hid (fun W => right_any o oi W hb)
  have HRR := Lib.hid hr
  have HRB := Lib.hid hb
  have HMG := Lib.hid (And.intro hm hG)
  obtain ⟨W1, hW1⟩ : ∃ W, W = (w.alloc (.cells (objC o oi) 26)).alloc (.cells (clC k ob V n) 28) := ⟨_, rfl⟩
  have h1 := ((Has.start w).alloc (.cells (objC o oi) 26)).alloc (.cells (clC k ob V n) 28)
  rw [← hW1, World.size_alloc] at h1
  have HB := Lib.hid h1
  have HW := Lib.hid hW1
  clear h1 hW1 hr hb hm hG
  go_enter Try.func3, Try.ntmps3
  go_wp2_with (first
    | (refine Great.wpList_boxTo rfl 28 (.tmp 1) rfl (some 4) rfl (w.heap.size + 1) (by simp) (clC k ob V n) rfl ?_; rw [← HW.out])
    | (refine wpList_load_row rfl 26 (.tmp 3) rfl w.heap.size rfl 26 (objC o oi) (0, 0) _ (HB.out.at 1 rfl) Try.underlying26 rfl object_info ?_))
  refine (HR.out _).mono ?_
  rintro e w1 ⟨rfl, k1⟩
  rw [HRR.out]
  have h1 := HB.out.none k1
  clear k1
  obtain ⟨W2, hW2⟩ : ∃ W, W = w1.alloc (.cells (objC o oi) 26) := ⟨_, rfl⟩
  have h2 := h1.alloc (.cells (objC o oi) 26)
  rw [← hW2] at h2
  have HB1 := Lib.hid h1
  have HB2 := Lib.hid h2
  have HW2 := Lib.hid hW2
  clear h1 h2 hW2
  go_wp2_with (first
    | (refine wpList_load_row rfl 26 (.tmp 3) rfl w.heap.size rfl 26 (objC o oi) (0, 0) _ (HB1.out.at 1 rfl) Try.underlying26 rfl object_info ?_)
    | (refine Great.wpList_buildSliceTo rfl 35 26 1 _ rfl w1.heap.size rfl (some 23) rfl Try.underlying35 (objC o oi) (by kernel_rfl) ?_; rw [← HW2.out]))
  refine (sof_any W2 _ 1 _ (fun _ => o) (fun _ => oi) (one_obj (HB2.out.at 0 rfl)) (by omega) (fun _ _ => HRR.out) (fun _ _ => HRB.out)).mono ?_
  rintro e w3 ⟨rfl, hp3, k3⟩
  have h3 := ((HB2.out.none k3).sub (M := [(w.heap.size + 1, .cells (clC k ob V n) 28), (w.heap.size, .cells (objC o oi) 26)]) (by intro x hx; exact List.mem_cons_of_mem _ hx))
  have hpl := places_one hp3
  have hg2 := HB2.out.keeps.size
  obtain ⟨g, hg⟩ : ∃ g, g = W2.heap.size := ⟨_, rfl⟩
  rw [← hg] at hpl hg2
  rw [← hg]
  have hsz := lt_of (HB2.out.at 1 rfl)
  rw [← hg] at hsz
  have hcl := h3.at 0 rfl
  have k1 := cell_of hcl 1
  have f1 := free_of hcl 1
  have l1 := lt_of hcl
  obtain ⟨W4, hW4⟩ : ∃ W, W = w3.setCell ⟨w.heap.size + 1, 1, none⟩ (.int .i64 0) := ⟨_, rfl⟩
  have kk4 : Keeps (fun X => X = w.heap.size + 1) w3 W4 := by rw [hW4]; exact (Keeps.refl (fun X => X = w.heap.size + 1) w3).setCell (p := ⟨w.heap.size + 1, 1, none⟩) (.inl rfl) _
  have hc4 : W4.heap[w.heap.size + 1]? = some (.cells (clC k 0 V n) 28 (0, 0)) := by rw [hW4]; exact heap_set hcl 1 _
  have HC4 := Lib.hid hc4
  have HP4 := Lib.hid (kk4.at hpl (by intro h; have h' : g = w.heap.size + 1 := h; omega))
  have HK4 := Lib.hid (h3.keeps.own kk4 (by intro X hX; have h' : X = w.heap.size + 1 := hX; exact .inr (by omega)))
  have HW4 := Lib.hid hW4
  have HGZ := Lib.hid hsz
  clear hcl h3 hpl hp3 k3 kk4 hc4 hW4 hg2 hsz hg
  go_wp2_with (first
    | (refine wpList_load_row rfl 28 (.tmp 4) rfl (w.heap.size + 1) rfl 28 (clC k 0 V n) (0, 0) _ HC4.out Try.underlying28 rfl call_info ?_)
    | (rw [← HW4.out]; refine wpList_load_row rfl 28 (.tmp 4) rfl (w.heap.size + 1) rfl 28 (clC k 0 V n) (0, 0) _ HC4.out Try.underlying28 rfl call_info ?_))
  clear k1 f1 l1
  refine (routine_any False k n V (plO o) W4 g _ HP4.out (plO_ok HRR.out)).mono ?_
  rintro e w5 ⟨T, b, fA, fT, fR, I, D, rfl, hM, hI, hbn, k5⟩
  have HM := Lib.hid hM
  have HI := Lib.hid hI
  have HC5 := Lib.hid (And.intro (five_cells (k5.at HP4.out fun h => h)) (seven_cells (k5.at HC4.out fun h => h)))
  have HP5 := Lib.hid (k5.at HP4.out fun h => h)
  have HL5 := Lib.hid (lt_of (k5.at HC4.out fun h => h))
  have HK5 := Lib.hid (HK4.out.trans k5)
  have HBN := Lib.hid (Nat.le_trans HK4.out.size hbn)
  have q0 := fun W => iface_eql T b W
  clear hM hI hbn k5
  have HAC := Lib.hid (fun W => acts_any k (plO o) W (plO_ok HRR.out).r)
  have HS := Lib.hid (And.intro HC5.out.1 HC5.out.2.1)
  go_wp2_with fail
  go_region_held3 (fun w' => (w'.cell? ⟨g, 0, none⟩ = some (.int .i64 (plO o 0)) ∧ w'.cell? ⟨g, 1, none⟩ = some (.int .i64 (plO o 1)) ∧ w'.cell? ⟨g, 2, none⟩ = some (.int .i64 (plO o 2)) ∧ w'.cell? ⟨g, 3, none⟩ = some (.int .i64 (plO o 3)) ∧ w'.cell? ⟨g, 4, none⟩ = some (.int .i64 (plO o 4))) ∧ w'.cell? ⟨w.heap.size + 1, 0, none⟩ = some (.int .i64 k))
    (first
      | exact HS.out
      | exact C9.out
      | go_keep)
    (first
      | (go_at_call 9; refine (HAC.out _).mono ?_; rintro e9 w9 ⟨rfl, k9⟩; have K9 := Lib.hid k9; have C9 := Lib.hid (And.intro (five_cells (k9.at (show w5.drew.heap[g]? = _ from HP5.out) fun h => h)) ((k9.none.cell (p := ⟨w.heap.size + 1, 0, none⟩) HL5.out).trans HS.out.2)); clear k9)
      | fail)
  all_goals
    have HK6 := Lib.hid (HK5.out.drew.trans K9.out)
    have HI6 := Lib.hid (show I 0 w9 ∨ D 0 w9 from HI.out.imp (fun h => HM.out.own _ _ _ h ((Keeps.refl _ w5).drew.trans K9.out)) (fun h => HM.out.ownD _ _ _ h ((Keeps.refl _ w5).drew.trans K9.out)))
    have HMO := Lib.hid (acts_most k HRR.out)
    clear q0
    go_wp2_with fail
    have mA := fun W => (HM.out.mA 233 W).2
    have mT := fun W => (HM.out.mT 233 W).2
    have mR := fun W => (HM.out.mR 233 W).2
    have cA := HM.out.cA
    have cT := HM.out.cT
    have cR := HM.out.cR
    go_loopw [11] (fun i wr => ∃ n : Nat, n ≤ 54 ∧ i = .int .i64 (n : Int) ∧ (I n wr ∨ D n wr) ∧ Keeps (fun _ => False) w wr) (fun i _ => 101 - (intOf i).toNat)
    case atStart => exact ⟨0, by omega, rfl, HI6.out, HK6.out⟩
    case round =>
      clear HI6 HK6
      obtain ⟨n, hn, rfl, hid, hkeep⟩ := hrel
      have dn : decide ((n : Int) ≤ 100) = true := decide_eq_true (by omega)
      rcases hid with hi | hd
      · have HN1 := Lib.hid (show n + 1 ≤ 54 from by have := HM.out.low n wr hi; have := HMO.out; omega)
        have HI7 := Lib.hid hi
        have HKE := Lib.hid hkeep
        clear hi hkeep
        go_wp2_with fail
        refine (HM.out.acts n wr HI7.out).mono ?_
        rintro e wa ⟨⟨o1, o2, o3, rfl⟩, ka⟩
        have kb := ka.alloc (.cells #[.int .i64 o1, .int .i64 o2, .int .u32 o3] 43)
        have HIX := Lib.hid (HM.out.own _ _ _ HI7.out kb)
        have HKX := Lib.hid (HKE.out.trans kb)
        clear ka kb
        by_cases hnm : n < m
        · have dm : decide ((n : Int) < (m : Int)) = true := decide_eq_true (by omega)
          obtain ⟨B, off, rfl, hB, hG⟩ := HMG.out.2 (by omega)
          have hc := (HKX.out.none.cell (p := ⟨B, off + n, none⟩) hB).trans (hG n hnm)
          have hlB := Nat.lt_of_lt_of_le hB HKX.out.size
          have hml := HMG.out.1
          clear hG hB
          go_wp2_with fail
          refine (HM.out.take n _ (G n) HIX.out (fun h => h.elim)).mono ?_
          rintro e wt ⟨rfl, hIt, kt⟩
          have HIT := Lib.hid hIt
          have HKT := Lib.hid (HKX.out.own kt (by intro X hX; have h' : X = b := hX; rw [h']; exact .inr HBN.out))
          clear hIt kt
          go_wp2_with fail
          go_roundw
          case rel => exact ⟨n + 1, HN1.out, by go_num, HIT.out, HKT.out⟩
          case measure => simp [intOf]; have := HN1.out; omega
        · have dm : decide ((n : Int) < (m : Int)) = false := decide_eq_false (by omega)
          go_wp2_with fail
          refine (HM.out.take n _ 0 HIX.out (fun h => h.elim)).mono ?_
          rintro e wt ⟨rfl, hIt, kt⟩
          have HIT := Lib.hid hIt
          have HKT := Lib.hid (HKX.out.own kt (by intro X hX; have h' : X = b := hX; rw [h']; exact .inr HBN.out))
          clear hIt kt
          go_wp2_with fail
          go_roundw
          case rel => exact ⟨n + 1, HN1.out, by go_num, HIT.out, HKT.out⟩
          case measure => simp [intOf]; have := HN1.out; omega
      · have HD7 := Lib.hid hd
        have HKE := Lib.hid hkeep
        have HMO2 := Lib.hid (HM.out.fin n wr hd).1
        clear hd hkeep
        go_wp2_with fail
        refine (HM.out.idle n wr HD7.out).mono ?_
        rintro e wa ⟨⟨o1, o2, o3, rfl⟩, ka⟩
        have kb := ka.alloc (.cells #[.int .i64 o1, .int .i64 o2, .int .u32 o3] 43)
        have HDX := Lib.hid (HM.out.ownD _ _ _ HD7.out kb)
        have HKX := Lib.hid (HKE.out.trans kb)
        obtain ⟨f, hf, hres⟩ := HM.out.res n _ HDX.out
        have HRES := Lib.hid hres
        have HF := Lib.hid hf
        clear ka kb hf hres
        go_wp2_with fail
        refine HRES.out.mono ?_
        rintro e wb ⟨⟨v0, v1, v2, v3, rfl⟩, kc⟩
        have hr8 := heap_new wb (.cells #[.int .i64 f, .int .u32 v0, .int .u32 v1, .int .u32 v2, .int .u32 v3] 48)
        have r0 := cell_of hr8 0
        have lr := lt_of hr8
        have HKY := Lib.hid (HKX.out.trans (kc.alloc (.cells #[.int .i64 f, .int .u32 v0, .int .u32 v1, .int .u32 v2, .int .u32 v3] 48)))
        clear kc hr8
        have d1 : decide ((n : Int) ≤ actsP k (plO o)) = true := decide_eq_true HMO2.out
        by_cases h0 : 0 < actsP k (plO o)
        · have d2 : decide (0 < actsP k (plO o)) = true := decide_eq_true h0
          clear h0
          go_wp2_with fail
          refine (alive17_any _).mono ?_
          rintro e wz ⟨rfl, kz⟩
          have HKZ := Lib.hid (HKY.out.trans kz)
          clear kz
          go_wp2_with fail
          go_ret
          exact ⟨rfl, HKZ.out⟩
        · have d2 : decide (0 < actsP k (plO o)) = false := decide_eq_false h0
          have d3 : (f != 0) = true := by rw [bne_iff_ne]; exact HF.out.resolve_left h0
          clear h0
          go_wp2_with fail
          refine (alive17_any _).mono ?_
          rintro e wz ⟨rfl, kz⟩
          have HKZ := Lib.hid (HKY.out.trans kz)
          clear kz
          go_wp2_with fail
          go_ret
          exact ⟨rfl, HKZ.out⟩
end Go.Proofs.Ytdnppkihpddlhaa
