import Derived.Test.YtdjfelabdofaaaaTxYz
import Derived.LoopTactic
namespace Go.Proofs.Ytdjfelabdofaaaa
open Go.ChangeShapes Go.WideShapes Go.ChangeAt Go.RowKit
set_option linter.unusedVariables false
set_option linter.unusedSimpArgs false
/-- What whole tells, where it says yes. -/
structure WholeP (c : CfD) (TC LC : Nat → List CallD) : Prop where
  o : ∀ i, i < c.nO → ∀ j, j < 6 → fitB (c.ob i j) = true
  t : ∀ i, i < c.nT → fitB (c.tp i) = true ∧ ∀ x, x ∈ TC i → callB x
  l : ∀ i, i < c.nL → fitB (c.lr i) = true ∧ ∀ x, x ∈ LC i → callB x
  k : fitB c.tick = true
def WholeQ (w : World) (c : CfD) (TC LC : Nat → List CallD) (e : Ending) (w' : World) : Prop := ∃ b, e = .returned (.bool b) ∧ (b = true → WholeP c TC LC) ∧ Keeps (fun _ => False) w w'
theorem WholeQ.no {w w' : World} {c : CfD} {TC LC : Nat → List CallD} (h : Keeps (fun _ => False) w w') : WholeQ w c TC LC (.returned (.bool false)) w' := ⟨false, rfl, (fun h => by cases h), h⟩
theorem six_of {f : Nat → Int} (h0 : fitB (f 0) = true) (h1 : fitB (f 1) = true) (h2 : fitB (f 2) = true) (h3 : fitB (f 3) = true) (h4 : fitB (f 4) = true) (h5 : fitB (f 5) = true) : ∀ j, j < 6 → fitB (f j) = true := fun j hj => by
  rcases (by omega : j = 0 ∨ j = 1 ∨ j = 2 ∨ j = 3 ∨ j = 4 ∨ j = 5) with rfl | rfl | rfl | rfl | rfl | rfl <;> assumption
set_option maxRecDepth 100000 in
set_option maxHeartbeats 20000000 in
theorem whole_any (w : World) (c : CfD) (TC LC : Nat → List CallD) (h : TxIn w c TC LC) (ht : c.nT ≤ 20) (hl : c.nL ≤ 40) (ho : c.nO ≤ 20) (hlt : ∀ i, i < c.nT → c.tl i ≤ 70) (hll : ∀ i, i < c.nL → c.ll i ≤ 70) :
    Calls Try.prog 12 #[.agg c.cells] w (WholeQ w c TC LC) := by
  have HB := Lib.hid (heap_new w (.cells #[.slice c.ta c.nT c.tc, .slice c.la c.nL c.lc, .slice c.oa c.nO c.oc, .int .i64 c.tick] 26))
  have HK := Lib.hid ((Keeps.refl (fun _ => False) w).alloc (.cells #[.slice c.ta c.nT c.tc, .slice c.la c.nL c.lc, .slice c.oa c.nO c.oc, .int .i64 c.tick] 26))
  have HI := Lib.hid h
  have HLT := Lib.hid hlt
  have HLL := Lib.hid hll
  clear h hlt hll
  go_enter Try.func12, Try.ntmps12
  go_wp2_with fail
  go_loopw [3] (fun i wr => ∃ (k : Nat), k ≤ c.nO ∧ i = .int .i64 (k : Int) ∧ (∀ i, i < k → ∀ j, j < 6 → fitB (c.ob i j) = true) ∧ wr.heap[w.heap.size]? = some (.cells #[.slice c.ta c.nT c.tc, .slice c.la c.nL c.lc, .slice c.oa c.nO c.oc, .int .i64 c.tick] 26 (0, 0)) ∧ Keeps (fun _ => False) w wr) (fun i _ => c.nO - (intOf i).toNat)
  case atStart => exact ⟨0, by omega, rfl, (fun i hi => by omega), HB.out, HK.out⟩
  case round =>
    obtain ⟨k, hk, rfl, hall, hb0, hkp⟩ := hrel
    clear HB HK
    have HALL := Lib.hid hall
    have HB := Lib.hid hb0
    have HK := Lib.hid hkp
    clear hall
    rcases Nat.lt_or_ge k c.nO with hlt | hge
    · have d1 : ((k : Int) < (c.nO : Int)) = True := by simp; omega
      obtain ⟨b, off, e1, hb, hc⟩ := HI.out.cf.o (by omega)
      have x0 : wr.cell? ⟨w.heap.size, 2, none⟩ = some (.slice (some ⟨b, off, none⟩) c.nO c.oc) := (cell_of hb0 2).trans (by rw [← e1]; rfl)
      have lx := lt_of hb0
      have lb : b < wr.heap.size := Nat.lt_of_lt_of_le hb hkp.size
      have p0 : wr.cell? ⟨b, off + k * 10, none⟩ = some (.int .i64 (c.ob k 0)) := (hkp.none.cell (p := ⟨b, off + k * 10, none⟩) hb).trans (hc k hlt 0 (by omega))
      have p1 : wr.cell? ⟨b, off + k * 10 + 1, none⟩ = some (.int .i64 (c.ob k 1)) := (hkp.none.cell (p := ⟨b, off + k * 10 + 1, none⟩) hb).trans (hc k hlt 1 (by omega))
      have p2 : wr.cell? ⟨b, off + k * 10 + 2, none⟩ = some (.int .i64 (c.ob k 2)) := (hkp.none.cell (p := ⟨b, off + k * 10 + 2, none⟩) hb).trans (hc k hlt 2 (by omega))
      have p3 : wr.cell? ⟨b, off + k * 10 + 3, none⟩ = some (.int .i64 (c.ob k 3)) := (hkp.none.cell (p := ⟨b, off + k * 10 + 3, none⟩) hb).trans (hc k hlt 3 (by omega))
      have p4 : wr.cell? ⟨b, off + k * 10 + 4, none⟩ = some (.int .i64 (c.ob k 4)) := (hkp.none.cell (p := ⟨b, off + k * 10 + 4, none⟩) hb).trans (hc k hlt 4 (by omega))
      have p5 : wr.cell? ⟨b, off + k * 10 + 5, none⟩ = some (.int .i64 (c.ob k 5)) := (hkp.none.cell (p := ⟨b, off + k * 10 + 5, none⟩) hb).trans (hc k hlt 5 (by omega))
      have p6 : wr.cell? ⟨b, off + k * 10 + 6, none⟩ = some (.int .u32 (c.oi k 0)) := (hkp.none.cell (p := ⟨b, off + k * 10 + 6, none⟩) hb).trans (hc k hlt 6 (by omega))
      have p7 : wr.cell? ⟨b, off + k * 10 + 7, none⟩ = some (.int .u32 (c.oi k 1)) := (hkp.none.cell (p := ⟨b, off + k * 10 + 7, none⟩) hb).trans (hc k hlt 7 (by omega))
      have p8 : wr.cell? ⟨b, off + k * 10 + 8, none⟩ = some (.int .u32 (c.oi k 2)) := (hkp.none.cell (p := ⟨b, off + k * 10 + 8, none⟩) hb).trans (hc k hlt 8 (by omega))
      have p9 : wr.cell? ⟨b, off + k * 10 + 9, none⟩ = some (.int .u32 (c.oi k 3)) := (hkp.none.cell (p := ⟨b, off + k * 10 + 9, none⟩) hb).trans (hc k hlt 9 (by omega))
      have HSIX := Lib.hid (fun h0 h1 h2 h3 h4 h5 => six_of (f := c.ob k) h0 h1 h2 h3 h4 h5)
      clear hc hb e1 hb0 hkp
      generalize c.ob k 0 = o0 at *
      generalize c.ob k 1 = o1 at *
      generalize c.ob k 2 = o2 at *
      generalize c.ob k 3 = o3 at *
      generalize c.ob k 4 = o4 at *
      generalize c.ob k 5 = o5 at *
      generalize c.oi k 0 = i0 at *
      generalize c.oi k 1 = i1 at *
      generalize c.oi k 2 = i2 at *
      generalize c.oi k 3 = i3 at *
      cases h0 : fitB o0 with
      | false =>
        go_wp2_with (go_at_call 11; refine (fits_any _ _).mono ?_; rintro e1 w1 ⟨rfl, rfl⟩; (first | rw [h0]))
        go_ret
        exact WholeQ.no (HK.out.alloc _)
      | true =>
        cases h1 : fitB o1 with
        | false =>
          go_wp2_with (go_at_call 11; refine (fits_any _ _).mono ?_; rintro e1 w1 ⟨rfl, rfl⟩; (first | rw [h0] | rw [h1]))
          go_ret
          exact WholeQ.no (HK.out.alloc _)
        | true =>
          cases h2 : fitB o2 with
          | false =>
            go_wp2_with (go_at_call 11; refine (fits_any _ _).mono ?_; rintro e1 w1 ⟨rfl, rfl⟩; (first | rw [h0] | rw [h1] | rw [h2]))
            go_ret
            exact WholeQ.no (HK.out.alloc _)
          | true =>
            cases h3 : fitB o3 with
            | false =>
              go_wp2_with (go_at_call 11; refine (fits_any _ _).mono ?_; rintro e1 w1 ⟨rfl, rfl⟩; (first | rw [h0] | rw [h1] | rw [h2] | rw [h3]))
              go_ret
              exact WholeQ.no (HK.out.alloc _)
            | true =>
              cases h4 : fitB o4 with
              | false =>
                go_wp2_with (go_at_call 11; refine (fits_any _ _).mono ?_; rintro e1 w1 ⟨rfl, rfl⟩; (first | rw [h0] | rw [h1] | rw [h2] | rw [h3] | rw [h4]))
                go_ret
                exact WholeQ.no (HK.out.alloc _)
              | true =>
                cases h5 : fitB o5 with
                | false =>
                  go_wp2_with (go_at_call 11; refine (fits_any _ _).mono ?_; rintro e1 w1 ⟨rfl, rfl⟩; (first | rw [h0] | rw [h1] | rw [h2] | rw [h3] | rw [h4] | rw [h5]))
                  go_ret
                  exact WholeQ.no (HK.out.alloc _)
                | true =>
                  have HA2 := Lib.hid (HSIX.out h0 h1 h2 h3 h4 h5)
                  have HB2 := Lib.hid (heap_old HB.out (.cells #[.int .i64 o0, .int .i64 o1, .int .i64 o2, .int .i64 o3, .int .i64 o4, .int .i64 o5, .int .u32 i0, .int .u32 i1, .int .u32 i2, .int .u32 i3] 59))
                  have HK2 := Lib.hid (HK.out.alloc (.cells #[.int .i64 o0, .int .i64 o1, .int .i64 o2, .int .i64 o3, .int .i64 o4, .int .i64 o5, .int .u32 i0, .int .u32 i1, .int .u32 i2, .int .u32 i3] 59))
                  go_wp2_with (go_at_call 11; refine (fits_any _ _).mono ?_; rintro e1 w1 ⟨rfl, rfl⟩; (first | rw [h0] | rw [h1] | rw [h2] | rw [h3] | rw [h4] | rw [h5]))
                  go_roundw
                  case rel =>
                    refine ⟨k + 1, by omega, by go_num, ?_, HB2.out, HK2.out⟩
                    intro i hi j hj
                    rcases Nat.lt_or_ge i k with h | h
                    · exact HALL.out i h j hj
                    · obtain rfl : i = k := by omega
                      exact HA2.out j hj
                  case measure => simp [intOf]; omega
    · obtain rfl : k = c.nO := by omega
      have x0 : wr.cell? ⟨w.heap.size, 2, none⟩ = some (.slice c.oa c.nO c.oc) := cell_of hb0 2
      have lx := lt_of hb0
      clear hb0 hkp
      go_wp2_with fail
      clear x0 lx
      go_loopw [5] (fun i wr => ∃ (k : Nat), k ≤ c.nT ∧ i = .int .i64 (k : Int) ∧ (∀ i, i < k → fitB (c.tp i) = true ∧ ∀ x, x ∈ TC i → callB x) ∧ wr.heap[w.heap.size]? = some (.cells #[.slice c.ta c.nT c.tc, .slice c.la c.nL c.lc, .slice c.oa c.nO c.oc, .int .i64 c.tick] 26 (0, 0)) ∧ Keeps (fun _ => False) w wr) (fun i _ => c.nT - (intOf i).toNat)
      case atStart => exact ⟨0, by omega, rfl, (fun i hi => by omega), HB.out, HK.out⟩
      case round =>
        obtain ⟨k, hkT, rfl, hall, hb0, hkp⟩ := hrel
        clear HB HK
        have HAT := Lib.hid hall
        have HB := Lib.hid hb0
        have HK := Lib.hid hkp
        clear hall
        rcases Nat.lt_or_ge k c.nT with hlt | hge
        · have d1 : ((k : Int) < (c.nT : Int)) = True := by simp; omega
          obtain ⟨b, off, e1, hb, hc⟩ := HI.out.cf.t (by omega)
          have hcd := (HI.out.tc k hlt).keeps hkp
          have hc := hc k hlt
          have x0 : wr.cell? ⟨w.heap.size, 0, none⟩ = some (.slice (some ⟨b, off, none⟩) c.nT c.tc) := (cell_of hb0 0).trans (by rw [← e1]; rfl)
          have lx := lt_of hb0
          have lb : b < wr.heap.size := Nat.lt_of_lt_of_le hb hkp.size
          have p0 : wr.cell? ⟨b, off + k * 3, none⟩ = some (.int .i64 (c.tp k)) := (hkp.none.cell (p := ⟨b, off + k * 3, none⟩) hb).trans hc.1
          have p1 : wr.cell? ⟨b, off + k * 3 + 1, none⟩ = some (.bool (c.tb k)) := (hkp.none.cell (p := ⟨b, off + k * 3 + 1, none⟩) hb).trans hc.2.1
          have p2 : wr.cell? ⟨b, off + k * 3 + 2, none⟩ = some (.slice (c.tca k) (c.tl k) (c.tcc k)) := (hkp.none.cell (p := ⟨b, off + k * 3 + 2, none⟩) hb).trans hc.2.2
          have HCA := Lib.hid (calls_any wr (c.tca k) (c.tl k) (c.tcc k) (TC k) hcd (HLT.out k hlt))
          clear hcd hc hb e1 hb0 hkp
          generalize c.tca k = ztca at *
          generalize c.tl k = ztl at *
          generalize c.tcc k = ztcc at *
          cases h0 : fitB (c.tp k) with
          | false =>
            go_wp2_with (go_at_call 11; refine (fits_any _ _).mono ?_; rintro e1 w1 ⟨rfl, rfl⟩; rw [h0])
            go_ret
            exact WholeQ.no HK.out
          | true =>
            have H0 := Lib.hid h0
            go_wp2_with (go_at_call 11; refine (fits_any _ _).mono ?_; rintro e1 w1 ⟨rfl, rfl⟩; rw [h0])
            refine HCA.out.mono ?_
            rintro e1 w1 ⟨bb, rfl, hbb, rfl⟩
            have HBB := Lib.hid hbb
            clear hbb HCA
            cases bb with
            | false =>
              go_wp2
              go_ret
              exact WholeQ.no HK.out
            | true =>
              go_wp2
              go_roundw
              case rel =>
                refine ⟨k + 1, by omega, by go_num, ?_, HB.out, HK.out⟩
                intro i hi
                rcases Nat.lt_or_ge i k with h | h
                · exact HAT.out i h
                · obtain rfl : i = k := by omega
                  exact ⟨H0.out, HBB.out (by simp)⟩
              case measure => simp [intOf]; omega
        · obtain rfl : k = c.nT := by omega
          have x0 : wr.cell? ⟨w.heap.size, 0, none⟩ = some (.slice c.ta c.nT c.tc) := cell_of hb0 0
          have lx := lt_of hb0
          clear hb0 hkp
          go_wp2_with fail
          clear x0 lx
          go_loopw [6] (fun i wr => ∃ (k : Nat), k ≤ c.nL ∧ i = .int .i64 (k : Int) ∧ (∀ i, i < k → fitB (c.lr i) = true ∧ ∀ x, x ∈ LC i → callB x) ∧ wr.heap[w.heap.size]? = some (.cells #[.slice c.ta c.nT c.tc, .slice c.la c.nL c.lc, .slice c.oa c.nO c.oc, .int .i64 c.tick] 26 (0, 0)) ∧ Keeps (fun _ => False) w wr) (fun i _ => c.nL - (intOf i).toNat)
          case atStart => exact ⟨0, by omega, rfl, (fun i hi => by omega), HB.out, HK.out⟩
          case round =>
            obtain ⟨k, hkL, rfl, hall, hb0, hkp⟩ := hrel
            clear HB HK
            have HAL := Lib.hid hall
            have HB := Lib.hid hb0
            have HK := Lib.hid hkp
            clear hall
            rcases Nat.lt_or_ge k c.nL with hlt | hge
            · have d1 : ((k : Int) < (c.nL : Int)) = True := by simp; omega
              obtain ⟨b, off, e1, hb, hc⟩ := HI.out.cf.l (by omega)
              have hcd := (HI.out.lc k hlt).keeps hkp
              have hc := hc k hlt
              have x0 : wr.cell? ⟨w.heap.size, 1, none⟩ = some (.slice (some ⟨b, off, none⟩) c.nL c.lc) := (cell_of hb0 1).trans (by rw [← e1]; rfl)
              have lx := lt_of hb0
              have lb : b < wr.heap.size := Nat.lt_of_lt_of_le hb hkp.size
              have p0 : wr.cell? ⟨b, off + k * 2, none⟩ = some (.int .i64 (c.lr k)) := (hkp.none.cell (p := ⟨b, off + k * 2, none⟩) hb).trans hc.1
              have p2 : wr.cell? ⟨b, off + k * 2 + 1, none⟩ = some (.slice (c.lca k) (c.ll k) (c.lcc k)) := (hkp.none.cell (p := ⟨b, off + k * 2 + 1, none⟩) hb).trans hc.2
              have HCA := Lib.hid (calls_any wr (c.lca k) (c.ll k) (c.lcc k) (LC k) hcd (HLL.out k hlt))
              clear hcd hc hb e1 hb0 hkp
              generalize c.lca k = zlca at *
              generalize c.ll k = zll at *
              generalize c.lcc k = zlcc at *
              cases h0 : fitB (c.lr k) with
              | false =>
                go_wp2_with (go_at_call 11; refine (fits_any _ _).mono ?_; rintro e1 w1 ⟨rfl, rfl⟩; rw [h0])
                go_ret
                exact WholeQ.no HK.out
              | true =>
                have H0 := Lib.hid h0
                go_wp2_with (go_at_call 11; refine (fits_any _ _).mono ?_; rintro e1 w1 ⟨rfl, rfl⟩; rw [h0])
                refine HCA.out.mono ?_
                rintro e1 w1 ⟨bb, rfl, hbb, rfl⟩
                have HBB := Lib.hid hbb
                clear hbb HCA
                cases bb with
                | false =>
                  go_wp2
                  go_ret
                  exact WholeQ.no HK.out
                | true =>
                  go_wp2
                  go_roundw
                  case rel =>
                    refine ⟨k + 1, by omega, by go_num, ?_, HB.out, HK.out⟩
                    intro i hi
                    rcases Nat.lt_or_ge i k with h | h
                    · exact HAL.out i h
                    · obtain rfl : i = k := by omega
                      exact ⟨H0.out, HBB.out (by simp)⟩
                  case measure => simp [intOf]; omega
            · obtain rfl : k = c.nL := by omega
              have x0 : wr.cell? ⟨w.heap.size, 1, none⟩ = some (.slice c.la c.nL c.lc) := cell_of hb0 1
              have x3 : wr.cell? ⟨w.heap.size, 3, none⟩ = some (.int .i64 c.tick) := cell_of hb0 3
              have lx := lt_of hb0
              clear hb0 hkp
              cases h0 : fitB c.tick with
              | false =>
                go_wp2_with (go_at_call 11; refine (fits_any _ _).mono ?_; rintro e1 w1 ⟨rfl, rfl⟩; rw [h0])
                go_ret
                exact WholeQ.no HK.out
              | true =>
                have H0 := Lib.hid h0
                go_wp2_with (go_at_call 11; refine (fits_any _ _).mono ?_; rintro e1 w1 ⟨rfl, rfl⟩; rw [h0])
                go_ret
                exact ⟨true, rfl, fun _ => ⟨HALL.out, HAT.out, HAL.out, H0.out⟩, HK.out⟩
end Go.Proofs.Ytdjfelabdofaaaa
