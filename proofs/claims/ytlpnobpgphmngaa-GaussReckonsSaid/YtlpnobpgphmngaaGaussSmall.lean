import Derived.Test.YtlpnobpgphmngaaGaussPairs
import Derived.Deep.RegionHeld3
namespace Go.Proofs.Ytlpnobpgphmngaa
open Go.ChangeShapes Go.WideShapes Go.ChangeAt Go.RowKit
set_option linter.unusedVariables false
set_option linter.unusedSimpArgs false
set_option maxRecDepth 100000 in
set_option maxHeartbeats 8000000 in
theorem reckons_small (a b c d k : Int) (l : Option Addr) (n cap : Nat) (F G : Nat → Int) (w : World) (h : n ≤ 40) (hk64 : -9223372036854775808 ≤ k ∧ k ≤ 9223372036854775807) (hr : RowP w l n F G) :
    Calls Try.prog 6 #[.agg #[.int .i64 a, .int .i64 b], .agg #[.int .i64 c, .int .i64 d], .int .i64 k, .slice l n cap] w fun e w' => e = .returned (.bool true) ∧ Keeps (fun _ => False) w w' := by
  have HR := Lib.hid hr
  obtain ⟨p1, q1, r1, ga, ra⟩ := pair_add a b c d
  obtain ⟨p2, q2, r2, gm, rm⟩ := pair_mul a b c d
  obtain ⟨p3, q3, r3, gt, rt⟩ := pair_turn a b k hk64
  obtain ⟨p4, q4, r4, gc, rc⟩ := pair_conj a b
  obtain ⟨p5, q5, r5, gs, rs⟩ := pair_sum n F G (by omega)
  obtain ⟨z, gn, rn⟩ := pair_norm a b
  have PA := Lib.hid (And.intro ga ra)
  have PM := Lib.hid (And.intro gm rm)
  have PT := Lib.hid (And.intro gt rt)
  have PC := Lib.hid (And.intro gc rc)
  have PS := Lib.hid (And.intro gs rs)
  have PN := Lib.hid (And.intro gn rn)
  clear ga ra gm rm gt rt gc rc gs rs gn rn
  have H0 := RBoxes.new w a b c d
  obtain ⟨x0, x1, _, _, l1⟩ := two_cells (show (((w.alloc (.cells #[.int .i64 a, .int .i64 b] 53)).alloc (.cells #[.int .i64 c, .int .i64 d] 53))).heap[w.heap.size]? = some (.cells #[.int .i64 a, .int .i64 b] 53 (0, 0)) from heap_old (heap_new _ _) _)
  clear hr H0
  go_enter Try.func6, Try.ntmps6
  go_wp2_with fail
  go_region
  · have H1 := Lib.hid (RkB.new2 w a b c d)
    go_wp2_with fail
    obtain ⟨wo, rfl⟩ : ∃ wo : World, wo = w := ⟨_, rfl⟩
    go_loopw [11, 12] (fun v i wr => ∃ j : Nat, j ≤ n ∧ i = .int .i64 j ∧ wr.ownsRow (wo.heap.size + 4) 55 2 v j (flat F G j) ∧ RkB wo wr a b c d (wo.heap.size + 1 + 1) (wo.heap.size + 1 + 1 + 1)) (fun _ i _ => n - (intOf i).toNat)
    case atStart => exact ⟨0, by omega, rfl, ownsRow_none _ _ _ _, H1.out⟩
    case round =>
      obtain ⟨j, hj, rfl, hown, hB⟩ := hrel
      have HB := Lib.hid hB
      have HO := Lib.hid hown
      have hsz := lt_of hB.y1
      clear hB
      by_cases hlt : j < n
      · obtain ⟨bk, off, rfl, hb, hc⟩ := (HR.out.none HB.out.keeps) (by omega)
        obtain ⟨z0, z1⟩ := hc j hlt
        clear hc
        obtain ⟨i0, hi, hz0, hz1, hz2⟩ := info_parts num_info
        go_wp2_with (at_builtin; refine wpList_append_own _ rfl (.tmp 45) (.tmp 50) 56 rfl (wo.heap.size + 4) 55 i0 (.agg #[.int .i64 0, .int .i64 0]) 2 16 Try.underlying56 hi hz0 hz1 hz2 rfl (by decide) _ _ _ rfl (HO.out.alloc _) ⟨wr.heap.size, 0, none⟩ 1 1 [.int .i64 (F j), .int .i64 (G j)] rfl rfl ?c1 ?c2 ?c3 ?c4 ?c5 ?_)
        case c1 => exact new_two _ _ _ _
        case c2 => simp [Value.oneCell']
        case c3 => unfold maxLen; omega
        case c4 => omega
        case c5 => simp; omega
        intro v' w2 hown2 hgrow _
        have hb2 := (HB.out.none ((Keeps.refl _ _).alloc (.cells #[.int .i64 (F j), .int .i64 (G j)] 55))).grown hgrow (fun k hk => (HO.out.lt k hk).1)
        go_wp2
        go_roundw
        case rel => exact ⟨j + 1, by omega, rfl, hown2, hb2⟩
        case measure => simp [intOf]; omega
      · obtain rfl : j = n := by omega
        obtain ⟨l', cap', rfl, hrow⟩ := rowP_of_owns HO.out
        have HRO := Lib.hid hrow
        have HRL := Lib.hid (HR.out.none HB.out.keeps)
        clear hrow HO H1
        obtain ⟨a0, a1, _, _, la⟩ := two_cells HB.out.a1
        obtain ⟨b0, b1, _, _, lb⟩ := two_cells HB.out.b1
        obtain ⟨x0, x1, _, _, lx⟩ := two_cells HB.out.x1
        obtain ⟨y0, y1, _, _, ly⟩ := two_cells HB.out.y1
        go_wp2_with fail
        refine (PA.out.1 _).mono ?_
        rintro e w1 ⟨rfl, k1⟩
        have K1 := Lib.hid k1
        have HB1 := Lib.hid (HB.out.none k1)
        replace HRO := Lib.hid (HRO.out.none k1)
        replace HRL := Lib.hid (HRL.out.none k1)
        clear HB a0 a1 b0 b1 x0 x1 y0 y1 la lb lx ly k1
        obtain ⟨a0, a1, _, _, la⟩ := two_cells HB1.out.a1
        obtain ⟨b0, b1, _, _, lb⟩ := two_cells HB1.out.b1
        obtain ⟨x0, x1, _, _, lx⟩ := two_cells HB1.out.x1
        obtain ⟨y0, y1, _, _, ly⟩ := two_cells HB1.out.y1
        go_wp2_with fail
        refine (PA.out.2 _).mono ?_
        rintro e w2 ⟨rfl, k2⟩
        have K2 := Lib.hid (((Keeps.refl (fun _ => False) w1).alloc (.cells #[.int .i64 p1, .int .i64 q1] 55)).trans k2)
        have E1 := Lib.hid (k2.at (heap_new w1 (.cells #[.int .i64 p1, .int .i64 q1] 55)) fun h => h)
        have HB2 := Lib.hid (HB1.out.none K2.out)
        replace HRO := Lib.hid (HRO.out.none K2.out)
        replace HRL := Lib.hid (HRL.out.none K2.out)
        clear HB1 a0 a1 b0 b1 x0 x1 y0 y1 la lb lx ly k2
        obtain ⟨a0, a1, _, _, la⟩ := two_cells HB2.out.a1
        obtain ⟨b0, b1, _, _, lb⟩ := two_cells HB2.out.b1
        obtain ⟨x0, x1, _, _, lx⟩ := two_cells HB2.out.x1
        obtain ⟨y0, y1, _, _, ly⟩ := two_cells HB2.out.y1
        go_wp2_with fail
        refine (PM.out.1 _).mono ?_
        rintro e w3 ⟨rfl, k3⟩
        have K3 := Lib.hid (((Keeps.refl (fun _ => False) w2).alloc (.cells #[.int .i64 p1, .int .i64 q1] 53)).trans k3)
        have E2 := Lib.hid (k3.at (heap_new w2 (.cells #[.int .i64 p1, .int .i64 q1] 53)) fun h => h)
        have HB3 := Lib.hid (HB2.out.none K3.out)
        replace HRO := Lib.hid (HRO.out.none K3.out)
        replace HRL := Lib.hid (HRL.out.none K3.out)
        replace E1 := Lib.hid (K3.out.at E1.out fun h => h)
        clear HB2 a0 a1 b0 b1 x0 x1 y0 y1 la lb lx ly k3
        obtain ⟨a0, a1, _, _, la⟩ := two_cells HB3.out.a1
        obtain ⟨b0, b1, _, _, lb⟩ := two_cells HB3.out.b1
        obtain ⟨x0, x1, _, _, lx⟩ := two_cells HB3.out.x1
        obtain ⟨y0, y1, _, _, ly⟩ := two_cells HB3.out.y1
        go_wp2_with fail
        refine (PM.out.2 _).mono ?_
        rintro e w4 ⟨rfl, k4⟩
        have K4 := Lib.hid (((Keeps.refl (fun _ => False) w3).alloc (.cells #[.int .i64 p2, .int .i64 q2] 55)).trans k4)
        have E3 := Lib.hid (k4.at (heap_new w3 (.cells #[.int .i64 p2, .int .i64 q2] 55)) fun h => h)
        have HB4 := Lib.hid (HB3.out.none K4.out)
        replace HRO := Lib.hid (HRO.out.none K4.out)
        replace HRL := Lib.hid (HRL.out.none K4.out)
        replace E1 := Lib.hid (K4.out.at E1.out fun h => h)
        replace E2 := Lib.hid (K4.out.at E2.out fun h => h)
        clear HB3 a0 a1 b0 b1 x0 x1 y0 y1 la lb lx ly k4
        obtain ⟨a0, a1, _, _, la⟩ := two_cells HB4.out.a1
        obtain ⟨b0, b1, _, _, lb⟩ := two_cells HB4.out.b1
        obtain ⟨x0, x1, _, _, lx⟩ := two_cells HB4.out.x1
        obtain ⟨y0, y1, _, _, ly⟩ := two_cells HB4.out.y1
        go_wp2_with fail
        refine (PT.out.1 _).mono ?_
        rintro e w5 ⟨rfl, k5⟩
        have K5 := Lib.hid (((Keeps.refl (fun _ => False) w4).alloc (.cells #[.int .i64 p2, .int .i64 q2] 53)).trans k5)
        have E4 := Lib.hid (k5.at (heap_new w4 (.cells #[.int .i64 p2, .int .i64 q2] 53)) fun h => h)
        have HB5 := Lib.hid (HB4.out.none K5.out)
        replace HRO := Lib.hid (HRO.out.none K5.out)
        replace HRL := Lib.hid (HRL.out.none K5.out)
        replace E1 := Lib.hid (K5.out.at E1.out fun h => h)
        replace E2 := Lib.hid (K5.out.at E2.out fun h => h)
        replace E3 := Lib.hid (K5.out.at E3.out fun h => h)
        clear HB4 a0 a1 b0 b1 x0 x1 y0 y1 la lb lx ly k5
        obtain ⟨a0, a1, _, _, la⟩ := two_cells HB5.out.a1
        obtain ⟨b0, b1, _, _, lb⟩ := two_cells HB5.out.b1
        obtain ⟨x0, x1, _, _, lx⟩ := two_cells HB5.out.x1
        obtain ⟨y0, y1, _, _, ly⟩ := two_cells HB5.out.y1
        go_wp2_with fail
        refine (PT.out.2 _).mono ?_
        rintro e w6 ⟨rfl, k6⟩
        have K6 := Lib.hid (((Keeps.refl (fun _ => False) w5).alloc (.cells #[.int .i64 p3, .int .i64 q3] 55)).trans k6)
        have E5 := Lib.hid (k6.at (heap_new w5 (.cells #[.int .i64 p3, .int .i64 q3] 55)) fun h => h)
        have HB6 := Lib.hid (HB5.out.none K6.out)
        replace HRO := Lib.hid (HRO.out.none K6.out)
        replace HRL := Lib.hid (HRL.out.none K6.out)
        replace E1 := Lib.hid (K6.out.at E1.out fun h => h)
        replace E2 := Lib.hid (K6.out.at E2.out fun h => h)
        replace E3 := Lib.hid (K6.out.at E3.out fun h => h)
        replace E4 := Lib.hid (K6.out.at E4.out fun h => h)
        clear HB5 a0 a1 b0 b1 x0 x1 y0 y1 la lb lx ly k6
        obtain ⟨a0, a1, _, _, la⟩ := two_cells HB6.out.a1
        obtain ⟨b0, b1, _, _, lb⟩ := two_cells HB6.out.b1
        obtain ⟨x0, x1, _, _, lx⟩ := two_cells HB6.out.x1
        obtain ⟨y0, y1, _, _, ly⟩ := two_cells HB6.out.y1
        go_wp2_with fail
        refine (PC.out.1 _).mono ?_
        rintro e w7 ⟨rfl, k7⟩
        have K7 := Lib.hid (((Keeps.refl (fun _ => False) w6).alloc (.cells #[.int .i64 p3, .int .i64 q3] 53)).trans k7)
        have E6 := Lib.hid (k7.at (heap_new w6 (.cells #[.int .i64 p3, .int .i64 q3] 53)) fun h => h)
        have HB7 := Lib.hid (HB6.out.none K7.out)
        replace HRO := Lib.hid (HRO.out.none K7.out)
        replace HRL := Lib.hid (HRL.out.none K7.out)
        replace E1 := Lib.hid (K7.out.at E1.out fun h => h)
        replace E2 := Lib.hid (K7.out.at E2.out fun h => h)
        replace E3 := Lib.hid (K7.out.at E3.out fun h => h)
        replace E4 := Lib.hid (K7.out.at E4.out fun h => h)
        replace E5 := Lib.hid (K7.out.at E5.out fun h => h)
        clear HB6 a0 a1 b0 b1 x0 x1 y0 y1 la lb lx ly k7
        obtain ⟨a0, a1, _, _, la⟩ := two_cells HB7.out.a1
        obtain ⟨b0, b1, _, _, lb⟩ := two_cells HB7.out.b1
        obtain ⟨x0, x1, _, _, lx⟩ := two_cells HB7.out.x1
        obtain ⟨y0, y1, _, _, ly⟩ := two_cells HB7.out.y1
        go_wp2_with fail
        refine (PC.out.2 _).mono ?_
        rintro e w8 ⟨rfl, k8⟩
        have K8 := Lib.hid (((Keeps.refl (fun _ => False) w7).alloc (.cells #[.int .i64 p4, .int .i64 q4] 55)).trans k8)
        have E7 := Lib.hid (k8.at (heap_new w7 (.cells #[.int .i64 p4, .int .i64 q4] 55)) fun h => h)
        have HB8 := Lib.hid (HB7.out.none K8.out)
        replace HRO := Lib.hid (HRO.out.none K8.out)
        replace HRL := Lib.hid (HRL.out.none K8.out)
        replace E1 := Lib.hid (K8.out.at E1.out fun h => h)
        replace E2 := Lib.hid (K8.out.at E2.out fun h => h)
        replace E3 := Lib.hid (K8.out.at E3.out fun h => h)
        replace E4 := Lib.hid (K8.out.at E4.out fun h => h)
        replace E5 := Lib.hid (K8.out.at E5.out fun h => h)
        replace E6 := Lib.hid (K8.out.at E6.out fun h => h)
        clear HB7 a0 a1 b0 b1 x0 x1 y0 y1 la lb lx ly k8
        obtain ⟨a0, a1, _, _, la⟩ := two_cells HB8.out.a1
        obtain ⟨b0, b1, _, _, lb⟩ := two_cells HB8.out.b1
        obtain ⟨x0, x1, _, _, lx⟩ := two_cells HB8.out.x1
        obtain ⟨y0, y1, _, _, ly⟩ := two_cells HB8.out.y1
        go_wp2_with fail
        refine (PS.out.1 _ _ _ (HRO.out.none ((Keeps.refl _ _).alloc _))).mono ?_
        rintro e w9 ⟨rfl, k9⟩
        have K9 := Lib.hid (((Keeps.refl (fun _ => False) w8).alloc (.cells #[.int .i64 p4, .int .i64 q4] 53)).trans k9)
        have E8 := Lib.hid (k9.at (heap_new w8 (.cells #[.int .i64 p4, .int .i64 q4] 53)) fun h => h)
        have HB9 := Lib.hid (HB8.out.none K9.out)
        replace HRO := Lib.hid (HRO.out.none K9.out)
        replace HRL := Lib.hid (HRL.out.none K9.out)
        replace E1 := Lib.hid (K9.out.at E1.out fun h => h)
        replace E2 := Lib.hid (K9.out.at E2.out fun h => h)
        replace E3 := Lib.hid (K9.out.at E3.out fun h => h)
        replace E4 := Lib.hid (K9.out.at E4.out fun h => h)
        replace E5 := Lib.hid (K9.out.at E5.out fun h => h)
        replace E6 := Lib.hid (K9.out.at E6.out fun h => h)
        replace E7 := Lib.hid (K9.out.at E7.out fun h => h)
        clear HB8 a0 a1 b0 b1 x0 x1 y0 y1 la lb lx ly k9
        obtain ⟨a0, a1, _, _, la⟩ := two_cells HB9.out.a1
        obtain ⟨b0, b1, _, _, lb⟩ := two_cells HB9.out.b1
        obtain ⟨x0, x1, _, _, lx⟩ := two_cells HB9.out.x1
        obtain ⟨y0, y1, _, _, ly⟩ := two_cells HB9.out.y1
        go_wp2_with fail
        refine (PS.out.2 _ _ _ (HRL.out.none ((Keeps.refl _ _).alloc _))).mono ?_
        rintro e w10 ⟨rfl, k10⟩
        have K10 := Lib.hid (((Keeps.refl (fun _ => False) w9).alloc (.cells #[.int .i64 p5, .int .i64 q5] 55)).trans k10)
        have E9 := Lib.hid (k10.at (heap_new w9 (.cells #[.int .i64 p5, .int .i64 q5] 55)) fun h => h)
        have HB10 := Lib.hid (HB9.out.none K10.out)
        replace HRO := Lib.hid (HRO.out.none K10.out)
        replace HRL := Lib.hid (HRL.out.none K10.out)
        replace E1 := Lib.hid (K10.out.at E1.out fun h => h)
        replace E2 := Lib.hid (K10.out.at E2.out fun h => h)
        replace E3 := Lib.hid (K10.out.at E3.out fun h => h)
        replace E4 := Lib.hid (K10.out.at E4.out fun h => h)
        replace E5 := Lib.hid (K10.out.at E5.out fun h => h)
        replace E6 := Lib.hid (K10.out.at E6.out fun h => h)
        replace E7 := Lib.hid (K10.out.at E7.out fun h => h)
        replace E8 := Lib.hid (K10.out.at E8.out fun h => h)
        clear HB9 a0 a1 b0 b1 x0 x1 y0 y1 la lb lx ly k10
        obtain ⟨a0, a1, _, _, la⟩ := two_cells HB10.out.a1
        obtain ⟨b0, b1, _, _, lb⟩ := two_cells HB10.out.b1
        obtain ⟨x0, x1, _, _, lx⟩ := two_cells HB10.out.x1
        obtain ⟨y0, y1, _, _, ly⟩ := two_cells HB10.out.y1
        go_wp2_with fail
        have KZ := (Keeps.refl (fun _ => False) w10).alloc (.cells #[.int .i64 p5, .int .i64 q5] 53)
        have EZ := (Lib.hid (KZ.drew))
        clear KZ a0 a1 b0 b1 x0 x1 y0 y1 la lb lx ly
        generalize hz : w10.alloc (.cells #[.int .i64 p5, .int .i64 q5] 53) = wz at *
        have E10 : Hid (wz.heap[w10.heap.size]? = some (.cells #[.int .i64 p5, .int .i64 q5] 53 (0, 0))) := Lib.hid (by rw [← hz]; exact heap_new _ _)
        replace E1 := Lib.hid (EZ.out.at E1.out fun h => h)
        replace E2 := Lib.hid (EZ.out.at E2.out fun h => h)
        replace E3 := Lib.hid (EZ.out.at E3.out fun h => h)
        replace E4 := Lib.hid (EZ.out.at E4.out fun h => h)
        replace E5 := Lib.hid (EZ.out.at E5.out fun h => h)
        replace E6 := Lib.hid (EZ.out.at E6.out fun h => h)
        replace E7 := Lib.hid (EZ.out.at E7.out fun h => h)
        replace E8 := Lib.hid (EZ.out.at E8.out fun h => h)
        replace E9 := Lib.hid (EZ.out.at E9.out fun h => h)
        have HBZ := Lib.hid (HB10.out.none EZ.out)
        replace E10 : Hid (wz.drew.heap[w10.heap.size]? = _) := E10
        clear hz HB10
        generalize hn1 : w1.heap.size = n1 at *
        clear hn1
        generalize hn2 : w2.heap.size = n2 at *
        clear hn2
        generalize hn3 : w3.heap.size = n3 at *
        clear hn3
        generalize hn4 : w4.heap.size = n4 at *
        clear hn4
        generalize hn5 : w5.heap.size = n5 at *
        clear hn5
        generalize hn6 : w6.heap.size = n6 at *
        clear hn6
        generalize hn7 : w7.heap.size = n7 at *
        clear hn7
        generalize hn8 : w8.heap.size = n8 at *
        clear hn8
        generalize hn9 : w9.heap.size = n9 at *
        clear hn9
        generalize hn10 : w10.heap.size = n10 at *
        clear hn10
        have ZB := Lib.hid (And.intro HBZ.out (And.intro E1.out (And.intro E2.out (And.intro E3.out (And.intro E4.out (And.intro E5.out (And.intro E6.out (And.intro E7.out (And.intro E8.out (And.intro E9.out (And.intro E10.out (True.intro))))))))))))
        clear HBZ E1 E2 E3 E4 E5 E6 E7 E8 E9 E10 HRO HRL EZ
        refine wp_region_noPanic ?_
        refine wp_region_held_drew (S := (fun w' => w'.cell? ⟨n1, 0, none⟩ = some (.int .i64 p1) ∧ w'.cell? ⟨n1, 1, none⟩ = some (.int .i64 q1) ∧ w'.cell? ⟨n2, 0, none⟩ = some (.int .i64 p1) ∧ w'.cell? ⟨n2, 1, none⟩ = some (.int .i64 q1) ∧ w'.cell? ⟨n3, 0, none⟩ = some (.int .i64 p2) ∧ w'.cell? ⟨n3, 1, none⟩ = some (.int .i64 q2) ∧ w'.cell? ⟨n4, 0, none⟩ = some (.int .i64 p2) ∧ w'.cell? ⟨n4, 1, none⟩ = some (.int .i64 q2) ∧ w'.cell? ⟨n5, 0, none⟩ = some (.int .i64 p3) ∧ w'.cell? ⟨n5, 1, none⟩ = some (.int .i64 q3) ∧ w'.cell? ⟨n6, 0, none⟩ = some (.int .i64 p3) ∧ w'.cell? ⟨n6, 1, none⟩ = some (.int .i64 q3) ∧ w'.cell? ⟨n7, 0, none⟩ = some (.int .i64 p4) ∧ w'.cell? ⟨n7, 1, none⟩ = some (.int .i64 q4) ∧ w'.cell? ⟨n8, 0, none⟩ = some (.int .i64 p4) ∧ w'.cell? ⟨n8, 1, none⟩ = some (.int .i64 q4) ∧ w'.cell? ⟨n9, 0, none⟩ = some (.int .i64 p5) ∧ w'.cell? ⟨n9, 1, none⟩ = some (.int .i64 q5) ∧ w'.cell? ⟨n10, 0, none⟩ = some (.int .i64 p5) ∧ w'.cell? ⟨n10, 1, none⟩ = some (.int .i64 q5) ∧ w'.cell? ⟨wo.heap.size + 1 + 1, 0, none⟩ = some (.int .i64 a) ∧ w'.cell? ⟨wo.heap.size + 1 + 1, 1, none⟩ = some (.int .i64 b) ∧ w'.cell? ⟨wo.heap.size, 0, none⟩ = some (.int .i64 a) ∧ w'.cell? ⟨wo.heap.size, 1, none⟩ = some (.int .i64 b))) (by kernel_rfl) ?_ (fun hHeld => ?_)
        · exact ⟨(two_cells (ZB.out.2.1)).1, (two_cells (ZB.out.2.1)).2.1, (two_cells (ZB.out.2.2.1)).1, (two_cells (ZB.out.2.2.1)).2.1, (two_cells (ZB.out.2.2.2.1)).1, (two_cells (ZB.out.2.2.2.1)).2.1, (two_cells (ZB.out.2.2.2.2.1)).1, (two_cells (ZB.out.2.2.2.2.1)).2.1, (two_cells (ZB.out.2.2.2.2.2.1)).1, (two_cells (ZB.out.2.2.2.2.2.1)).2.1, (two_cells (ZB.out.2.2.2.2.2.2.1)).1, (two_cells (ZB.out.2.2.2.2.2.2.1)).2.1, (two_cells (ZB.out.2.2.2.2.2.2.2.1)).1, (two_cells (ZB.out.2.2.2.2.2.2.2.1)).2.1, (two_cells (ZB.out.2.2.2.2.2.2.2.2.1)).1, (two_cells (ZB.out.2.2.2.2.2.2.2.2.1)).2.1, (two_cells (ZB.out.2.2.2.2.2.2.2.2.2.1)).1, (two_cells (ZB.out.2.2.2.2.2.2.2.2.2.1)).2.1, (two_cells (ZB.out.2.2.2.2.2.2.2.2.2.2.1)).1, (two_cells (ZB.out.2.2.2.2.2.2.2.2.2.2.1)).2.1, (two_cells ZB.out.1.x1).1, (two_cells ZB.out.1.x1).2.1, (two_cells ZB.out.1.a1).1, (two_cells ZB.out.1.a1).2.1⟩
        refine wpAnyH_take (i := 0) (v := ?_) rfl (by kernel_rfl) (by kernel_rfl) (by kernel_rfl) (fun _ _ _ h => h) (Or.inl ⟨by rfl, ?_⟩) (by assumption) ?_
        rotate_left
        · (intro w hSw; (try dsimp only at hSw); go_simp; try with_reducible rfl)
        simp only [Act.put, List.getElem_toArray, List.getElem_cons_zero, List.getElem_cons_succ, List.setIfInBounds_toArray, List.set_cons_zero, List.set_cons_succ]
        refine wpAnyH_take (i := 1) (v := ?_) rfl (by kernel_rfl) (by kernel_rfl) (by kernel_rfl) (fun _ _ _ h => h) (Or.inl ⟨by rfl, ?_⟩) (by assumption) ?_
        rotate_left
        · (intro w hSw; (try dsimp only at hSw); go_simp; try with_reducible rfl)
        simp only [Act.put, List.getElem_toArray, List.getElem_cons_zero, List.getElem_cons_succ, List.setIfInBounds_toArray, List.set_cons_zero, List.set_cons_succ]
        refine wpAnyH_take (i := 2) (v := ?_) rfl (by kernel_rfl) (by kernel_rfl) (by kernel_rfl) (fun _ _ _ h => h) (Or.inl ⟨by rfl, ?_⟩) (by assumption) ?_
        rotate_left
        · (intro w hSw; (try dsimp only at hSw); go_simp; try with_reducible rfl)
        simp only [Act.put, List.getElem_toArray, List.getElem_cons_zero, List.getElem_cons_succ, List.setIfInBounds_toArray, List.set_cons_zero, List.set_cons_succ]
        refine wpAnyH_take (i := 3) (v := ?_) rfl (by kernel_rfl) (by kernel_rfl) (by kernel_rfl) (fun _ _ _ h => h) (Or.inl ⟨by rfl, ?_⟩) (by assumption) ?_
        rotate_left
        · (intro w hSw; (try dsimp only at hSw); go_simp; try with_reducible rfl)
        simp only [Act.put, List.getElem_toArray, List.getElem_cons_zero, List.getElem_cons_succ, List.setIfInBounds_toArray, List.set_cons_zero, List.set_cons_succ]
        refine wpAnyH_ready (rs := [4]) (by kernel_rfl) (by simp) ?_
        refine AllReadyH.cons rfl (fun K hK => ?_) AllReadyH.nil
        go_simp
        (go_at_call 41; refine (same_yes p1 q1 r1 _).mono ?_; rintro e w3 ⟨rfl, k3⟩; replace ZB := Lib.hid (And.intro (ZB.out.1.none k3) (And.intro (k3.at ZB.out.2.1 fun h => h) (And.intro (k3.at ZB.out.2.2.1 fun h => h) (And.intro (k3.at ZB.out.2.2.2.1 fun h => h) (And.intro (k3.at ZB.out.2.2.2.2.1 fun h => h) (And.intro (k3.at ZB.out.2.2.2.2.2.1 fun h => h) (And.intro (k3.at ZB.out.2.2.2.2.2.2.1 fun h => h) (And.intro (k3.at ZB.out.2.2.2.2.2.2.2.1 fun h => h) (And.intro (k3.at ZB.out.2.2.2.2.2.2.2.2.1 fun h => h) (And.intro (k3.at ZB.out.2.2.2.2.2.2.2.2.2.1 fun h => h) (And.intro (k3.at ZB.out.2.2.2.2.2.2.2.2.2.2.1 fun h => h) (True.intro)))))))))))); clear k3)
        go_wp2_with fail
        refine hK.out _ _ ?_ (fun hHeld => ?_)
        · ((try dsimp only); exact ⟨(two_cells (ZB.out.2.1)).1, (two_cells (ZB.out.2.1)).2.1, (two_cells (ZB.out.2.2.1)).1, (two_cells (ZB.out.2.2.1)).2.1, (two_cells (ZB.out.2.2.2.1)).1, (two_cells (ZB.out.2.2.2.1)).2.1, (two_cells (ZB.out.2.2.2.2.1)).1, (two_cells (ZB.out.2.2.2.2.1)).2.1, (two_cells (ZB.out.2.2.2.2.2.1)).1, (two_cells (ZB.out.2.2.2.2.2.1)).2.1, (two_cells (ZB.out.2.2.2.2.2.2.1)).1, (two_cells (ZB.out.2.2.2.2.2.2.1)).2.1, (two_cells (ZB.out.2.2.2.2.2.2.2.1)).1, (two_cells (ZB.out.2.2.2.2.2.2.2.1)).2.1, (two_cells (ZB.out.2.2.2.2.2.2.2.2.1)).1, (two_cells (ZB.out.2.2.2.2.2.2.2.2.1)).2.1, (two_cells (ZB.out.2.2.2.2.2.2.2.2.2.1)).1, (two_cells (ZB.out.2.2.2.2.2.2.2.2.2.1)).2.1, (two_cells (ZB.out.2.2.2.2.2.2.2.2.2.2.1)).1, (two_cells (ZB.out.2.2.2.2.2.2.2.2.2.2.1)).2.1, (two_cells ZB.out.1.x1).1, (two_cells ZB.out.1.x1).2.1, (two_cells ZB.out.1.a1).1, (two_cells ZB.out.1.a1).2.1⟩)
        clear hK K
        try simp only [Act.put, List.getElem_toArray, List.getElem_cons_zero, List.getElem_cons_succ, List.setIfInBounds_toArray, List.set_cons_zero, List.set_cons_succ]
        refine wpAnyH_take (i := 5) (v := ?_) rfl (by kernel_rfl) (by kernel_rfl) (by kernel_rfl) (fun _ _ _ h => h) (Or.inl ⟨by rfl, ?_⟩) (by assumption) ?_
        rotate_left
        · (intro w hSw; (try dsimp only at hSw); go_simp; try with_reducible rfl)
        simp only [Act.put, List.getElem_toArray, List.getElem_cons_zero, List.getElem_cons_succ, List.setIfInBounds_toArray, List.set_cons_zero, List.set_cons_succ]
        refine wpAnyH_take (i := 6) (v := ?_) rfl (by kernel_rfl) (by kernel_rfl) (by kernel_rfl) (fun _ _ _ h => h) (Or.inl ⟨by rfl, ?_⟩) (by assumption) ?_
        rotate_left
        · (intro w hSw; (try dsimp only at hSw); go_simp; try with_reducible rfl)
        simp only [Act.put, List.getElem_toArray, List.getElem_cons_zero, List.getElem_cons_succ, List.setIfInBounds_toArray, List.set_cons_zero, List.set_cons_succ]
        refine wpAnyH_take (i := 7) (v := ?_) rfl (by kernel_rfl) (by kernel_rfl) (by kernel_rfl) (fun _ _ _ h => h) (Or.inl ⟨by rfl, ?_⟩) (by assumption) ?_
        rotate_left
        · (intro w hSw; (try dsimp only at hSw); go_simp; try with_reducible rfl)
        simp only [Act.put, List.getElem_toArray, List.getElem_cons_zero, List.getElem_cons_succ, List.setIfInBounds_toArray, List.set_cons_zero, List.set_cons_succ]
        refine wpAnyH_take (i := 8) (v := ?_) rfl (by kernel_rfl) (by kernel_rfl) (by kernel_rfl) (fun _ _ _ h => h) (Or.inl ⟨by rfl, ?_⟩) (by assumption) ?_
        rotate_left
        · (intro w hSw; (try dsimp only at hSw); go_simp; try with_reducible rfl)
        simp only [Act.put, List.getElem_toArray, List.getElem_cons_zero, List.getElem_cons_succ, List.setIfInBounds_toArray, List.set_cons_zero, List.set_cons_succ]
        refine wpAnyH_take (i := 9) (v := ?_) rfl (by kernel_rfl) (by kernel_rfl) (by kernel_rfl) (fun _ _ _ h => h) (Or.inl ⟨by rfl, ?_⟩) (by assumption) ?_
        rotate_left
        · (intro w hSw; (try dsimp only at hSw); go_simp; try with_reducible rfl)
        simp only [Act.put, List.getElem_toArray, List.getElem_cons_zero, List.getElem_cons_succ, List.setIfInBounds_toArray, List.set_cons_zero, List.set_cons_succ]
        refine wpAnyH_ready (rs := [10]) (by kernel_rfl) (by simp) ?_
        refine AllReadyH.cons rfl (fun K hK => ?_) AllReadyH.nil
        go_simp
        (go_at_call 41; refine (same_yes p2 q2 r2 _).mono ?_; rintro e w3 ⟨rfl, k3⟩; replace ZB := Lib.hid (And.intro (ZB.out.1.none k3) (And.intro (k3.at ZB.out.2.1 fun h => h) (And.intro (k3.at ZB.out.2.2.1 fun h => h) (And.intro (k3.at ZB.out.2.2.2.1 fun h => h) (And.intro (k3.at ZB.out.2.2.2.2.1 fun h => h) (And.intro (k3.at ZB.out.2.2.2.2.2.1 fun h => h) (And.intro (k3.at ZB.out.2.2.2.2.2.2.1 fun h => h) (And.intro (k3.at ZB.out.2.2.2.2.2.2.2.1 fun h => h) (And.intro (k3.at ZB.out.2.2.2.2.2.2.2.2.1 fun h => h) (And.intro (k3.at ZB.out.2.2.2.2.2.2.2.2.2.1 fun h => h) (And.intro (k3.at ZB.out.2.2.2.2.2.2.2.2.2.2.1 fun h => h) (True.intro)))))))))))); clear k3)
        go_wp2_with fail
        refine hK.out _ _ ?_ (fun hHeld => ?_)
        · ((try dsimp only); exact ⟨(two_cells (ZB.out.2.1)).1, (two_cells (ZB.out.2.1)).2.1, (two_cells (ZB.out.2.2.1)).1, (two_cells (ZB.out.2.2.1)).2.1, (two_cells (ZB.out.2.2.2.1)).1, (two_cells (ZB.out.2.2.2.1)).2.1, (two_cells (ZB.out.2.2.2.2.1)).1, (two_cells (ZB.out.2.2.2.2.1)).2.1, (two_cells (ZB.out.2.2.2.2.2.1)).1, (two_cells (ZB.out.2.2.2.2.2.1)).2.1, (two_cells (ZB.out.2.2.2.2.2.2.1)).1, (two_cells (ZB.out.2.2.2.2.2.2.1)).2.1, (two_cells (ZB.out.2.2.2.2.2.2.2.1)).1, (two_cells (ZB.out.2.2.2.2.2.2.2.1)).2.1, (two_cells (ZB.out.2.2.2.2.2.2.2.2.1)).1, (two_cells (ZB.out.2.2.2.2.2.2.2.2.1)).2.1, (two_cells (ZB.out.2.2.2.2.2.2.2.2.2.1)).1, (two_cells (ZB.out.2.2.2.2.2.2.2.2.2.1)).2.1, (two_cells (ZB.out.2.2.2.2.2.2.2.2.2.2.1)).1, (two_cells (ZB.out.2.2.2.2.2.2.2.2.2.2.1)).2.1, (two_cells ZB.out.1.x1).1, (two_cells ZB.out.1.x1).2.1, (two_cells ZB.out.1.a1).1, (two_cells ZB.out.1.a1).2.1⟩)
        clear hK K
        try simp only [Act.put, List.getElem_toArray, List.getElem_cons_zero, List.getElem_cons_succ, List.setIfInBounds_toArray, List.set_cons_zero, List.set_cons_succ]
        refine wpAnyH_take (i := 11) (v := ?_) rfl (by kernel_rfl) (by kernel_rfl) (by kernel_rfl) (fun _ _ _ h => h) (Or.inl ⟨by rfl, ?_⟩) (by assumption) ?_
        rotate_left
        · (intro w hSw; (try dsimp only at hSw); go_simp; try with_reducible rfl)
        simp only [Act.put, List.getElem_toArray, List.getElem_cons_zero, List.getElem_cons_succ, List.setIfInBounds_toArray, List.set_cons_zero, List.set_cons_succ]
        refine wpAnyH_take (i := 12) (v := ?_) rfl (by kernel_rfl) (by kernel_rfl) (by kernel_rfl) (fun _ _ _ h => h) (Or.inl ⟨by rfl, ?_⟩) (by assumption) ?_
        rotate_left
        · (intro w hSw; (try dsimp only at hSw); go_simp; try with_reducible rfl)
        simp only [Act.put, List.getElem_toArray, List.getElem_cons_zero, List.getElem_cons_succ, List.setIfInBounds_toArray, List.set_cons_zero, List.set_cons_succ]
        refine wpAnyH_take (i := 13) (v := ?_) rfl (by kernel_rfl) (by kernel_rfl) (by kernel_rfl) (fun _ _ _ h => h) (Or.inl ⟨by rfl, ?_⟩) (by assumption) ?_
        rotate_left
        · (intro w hSw; (try dsimp only at hSw); go_simp; try with_reducible rfl)
        simp only [Act.put, List.getElem_toArray, List.getElem_cons_zero, List.getElem_cons_succ, List.setIfInBounds_toArray, List.set_cons_zero, List.set_cons_succ]
        refine wpAnyH_take (i := 14) (v := ?_) rfl (by kernel_rfl) (by kernel_rfl) (by kernel_rfl) (fun _ _ _ h => h) (Or.inl ⟨by rfl, ?_⟩) (by assumption) ?_
        rotate_left
        · (intro w hSw; (try dsimp only at hSw); go_simp; try with_reducible rfl)
        simp only [Act.put, List.getElem_toArray, List.getElem_cons_zero, List.getElem_cons_succ, List.setIfInBounds_toArray, List.set_cons_zero, List.set_cons_succ]
        refine wpAnyH_take (i := 15) (v := ?_) rfl (by kernel_rfl) (by kernel_rfl) (by kernel_rfl) (fun _ _ _ h => h) (Or.inl ⟨by rfl, ?_⟩) (by assumption) ?_
        rotate_left
        · (intro w hSw; (try dsimp only at hSw); go_simp; try with_reducible rfl)
        simp only [Act.put, List.getElem_toArray, List.getElem_cons_zero, List.getElem_cons_succ, List.setIfInBounds_toArray, List.set_cons_zero, List.set_cons_succ]
        refine wpAnyH_take (i := 16) (v := ?_) rfl (by kernel_rfl) (by kernel_rfl) (by kernel_rfl) (fun _ _ _ h => h) (Or.inl ⟨by rfl, ?_⟩) (by assumption) ?_
        rotate_left
        · (intro w hSw; (try dsimp only at hSw); go_simp; try with_reducible rfl)
        simp only [Act.put, List.getElem_toArray, List.getElem_cons_zero, List.getElem_cons_succ, List.setIfInBounds_toArray, List.set_cons_zero, List.set_cons_succ]
        refine wpAnyH_ready (rs := [17]) (by kernel_rfl) (by simp) ?_
        refine AllReadyH.cons rfl (fun K hK => ?_) AllReadyH.nil
        go_simp
        (go_at_call 41; refine (same_yes p3 q3 r3 _).mono ?_; rintro e w3 ⟨rfl, k3⟩; replace ZB := Lib.hid (And.intro (ZB.out.1.none k3) (And.intro (k3.at ZB.out.2.1 fun h => h) (And.intro (k3.at ZB.out.2.2.1 fun h => h) (And.intro (k3.at ZB.out.2.2.2.1 fun h => h) (And.intro (k3.at ZB.out.2.2.2.2.1 fun h => h) (And.intro (k3.at ZB.out.2.2.2.2.2.1 fun h => h) (And.intro (k3.at ZB.out.2.2.2.2.2.2.1 fun h => h) (And.intro (k3.at ZB.out.2.2.2.2.2.2.2.1 fun h => h) (And.intro (k3.at ZB.out.2.2.2.2.2.2.2.2.1 fun h => h) (And.intro (k3.at ZB.out.2.2.2.2.2.2.2.2.2.1 fun h => h) (And.intro (k3.at ZB.out.2.2.2.2.2.2.2.2.2.2.1 fun h => h) (True.intro)))))))))))); clear k3)
        go_wp2_with fail
        refine hK.out _ _ ?_ (fun hHeld => ?_)
        · ((try dsimp only); exact ⟨(two_cells (ZB.out.2.1)).1, (two_cells (ZB.out.2.1)).2.1, (two_cells (ZB.out.2.2.1)).1, (two_cells (ZB.out.2.2.1)).2.1, (two_cells (ZB.out.2.2.2.1)).1, (two_cells (ZB.out.2.2.2.1)).2.1, (two_cells (ZB.out.2.2.2.2.1)).1, (two_cells (ZB.out.2.2.2.2.1)).2.1, (two_cells (ZB.out.2.2.2.2.2.1)).1, (two_cells (ZB.out.2.2.2.2.2.1)).2.1, (two_cells (ZB.out.2.2.2.2.2.2.1)).1, (two_cells (ZB.out.2.2.2.2.2.2.1)).2.1, (two_cells (ZB.out.2.2.2.2.2.2.2.1)).1, (two_cells (ZB.out.2.2.2.2.2.2.2.1)).2.1, (two_cells (ZB.out.2.2.2.2.2.2.2.2.1)).1, (two_cells (ZB.out.2.2.2.2.2.2.2.2.1)).2.1, (two_cells (ZB.out.2.2.2.2.2.2.2.2.2.1)).1, (two_cells (ZB.out.2.2.2.2.2.2.2.2.2.1)).2.1, (two_cells (ZB.out.2.2.2.2.2.2.2.2.2.2.1)).1, (two_cells (ZB.out.2.2.2.2.2.2.2.2.2.2.1)).2.1, (two_cells ZB.out.1.x1).1, (two_cells ZB.out.1.x1).2.1, (two_cells ZB.out.1.a1).1, (two_cells ZB.out.1.a1).2.1⟩)
        clear hK K
        try simp only [Act.put, List.getElem_toArray, List.getElem_cons_zero, List.getElem_cons_succ, List.setIfInBounds_toArray, List.set_cons_zero, List.set_cons_succ]
        refine wpAnyH_take (i := 18) (v := ?_) rfl (by kernel_rfl) (by kernel_rfl) (by kernel_rfl) (fun _ _ _ h => h) (Or.inl ⟨by rfl, ?_⟩) (by assumption) ?_
        rotate_left
        · (intro w hSw; (try dsimp only at hSw); go_simp; try with_reducible rfl)
        simp only [Act.put, List.getElem_toArray, List.getElem_cons_zero, List.getElem_cons_succ, List.setIfInBounds_toArray, List.set_cons_zero, List.set_cons_succ]
        refine wpAnyH_take (i := 19) (v := ?_) rfl (by kernel_rfl) (by kernel_rfl) (by kernel_rfl) (fun _ _ _ h => h) (Or.inl ⟨by rfl, ?_⟩) (by assumption) ?_
        rotate_left
        · (intro w hSw; (try dsimp only at hSw); go_simp; try with_reducible rfl)
        simp only [Act.put, List.getElem_toArray, List.getElem_cons_zero, List.getElem_cons_succ, List.setIfInBounds_toArray, List.set_cons_zero, List.set_cons_succ]
        refine wpAnyH_take (i := 20) (v := ?_) rfl (by kernel_rfl) (by kernel_rfl) (by kernel_rfl) (fun _ _ _ h => h) (Or.inl ⟨by rfl, ?_⟩) (by assumption) ?_
        rotate_left
        · (intro w hSw; (try dsimp only at hSw); go_simp; try with_reducible rfl)
        simp only [Act.put, List.getElem_toArray, List.getElem_cons_zero, List.getElem_cons_succ, List.setIfInBounds_toArray, List.set_cons_zero, List.set_cons_succ]
        refine wpAnyH_take (i := 21) (v := ?_) rfl (by kernel_rfl) (by kernel_rfl) (by kernel_rfl) (fun _ _ _ h => h) (Or.inl ⟨by rfl, ?_⟩) (by assumption) ?_
        rotate_left
        · (intro w hSw; (try dsimp only at hSw); go_simp; try with_reducible rfl)
        simp only [Act.put, List.getElem_toArray, List.getElem_cons_zero, List.getElem_cons_succ, List.setIfInBounds_toArray, List.set_cons_zero, List.set_cons_succ]
        refine wpAnyH_take (i := 22) (v := ?_) rfl (by kernel_rfl) (by kernel_rfl) (by kernel_rfl) (fun _ _ _ h => h) (Or.inl ⟨by rfl, ?_⟩) (by assumption) ?_
        rotate_left
        · (intro w hSw; (try dsimp only at hSw); go_simp; try with_reducible rfl)
        simp only [Act.put, List.getElem_toArray, List.getElem_cons_zero, List.getElem_cons_succ, List.setIfInBounds_toArray, List.set_cons_zero, List.set_cons_succ]
        refine wpAnyH_take (i := 23) (v := ?_) rfl (by kernel_rfl) (by kernel_rfl) (by kernel_rfl) (fun _ _ _ h => h) (Or.inl ⟨by rfl, ?_⟩) (by assumption) ?_
        rotate_left
        · (intro w hSw; (try dsimp only at hSw); go_simp; try with_reducible rfl)
        simp only [Act.put, List.getElem_toArray, List.getElem_cons_zero, List.getElem_cons_succ, List.setIfInBounds_toArray, List.set_cons_zero, List.set_cons_succ]
        refine wpAnyH_ready (rs := [24]) (by kernel_rfl) (by simp) ?_
        refine AllReadyH.cons rfl (fun K hK => ?_) AllReadyH.nil
        go_simp
        (go_at_call 41; refine (same_yes p4 q4 r4 _).mono ?_; rintro e w3 ⟨rfl, k3⟩; replace ZB := Lib.hid (And.intro (ZB.out.1.none k3) (And.intro (k3.at ZB.out.2.1 fun h => h) (And.intro (k3.at ZB.out.2.2.1 fun h => h) (And.intro (k3.at ZB.out.2.2.2.1 fun h => h) (And.intro (k3.at ZB.out.2.2.2.2.1 fun h => h) (And.intro (k3.at ZB.out.2.2.2.2.2.1 fun h => h) (And.intro (k3.at ZB.out.2.2.2.2.2.2.1 fun h => h) (And.intro (k3.at ZB.out.2.2.2.2.2.2.2.1 fun h => h) (And.intro (k3.at ZB.out.2.2.2.2.2.2.2.2.1 fun h => h) (And.intro (k3.at ZB.out.2.2.2.2.2.2.2.2.2.1 fun h => h) (And.intro (k3.at ZB.out.2.2.2.2.2.2.2.2.2.2.1 fun h => h) (True.intro)))))))))))); clear k3)
        go_wp2_with fail
        refine hK.out _ _ ?_ (fun hHeld => ?_)
        · ((try dsimp only); exact ⟨(two_cells (ZB.out.2.1)).1, (two_cells (ZB.out.2.1)).2.1, (two_cells (ZB.out.2.2.1)).1, (two_cells (ZB.out.2.2.1)).2.1, (two_cells (ZB.out.2.2.2.1)).1, (two_cells (ZB.out.2.2.2.1)).2.1, (two_cells (ZB.out.2.2.2.2.1)).1, (two_cells (ZB.out.2.2.2.2.1)).2.1, (two_cells (ZB.out.2.2.2.2.2.1)).1, (two_cells (ZB.out.2.2.2.2.2.1)).2.1, (two_cells (ZB.out.2.2.2.2.2.2.1)).1, (two_cells (ZB.out.2.2.2.2.2.2.1)).2.1, (two_cells (ZB.out.2.2.2.2.2.2.2.1)).1, (two_cells (ZB.out.2.2.2.2.2.2.2.1)).2.1, (two_cells (ZB.out.2.2.2.2.2.2.2.2.1)).1, (two_cells (ZB.out.2.2.2.2.2.2.2.2.1)).2.1, (two_cells (ZB.out.2.2.2.2.2.2.2.2.2.1)).1, (two_cells (ZB.out.2.2.2.2.2.2.2.2.2.1)).2.1, (two_cells (ZB.out.2.2.2.2.2.2.2.2.2.2.1)).1, (two_cells (ZB.out.2.2.2.2.2.2.2.2.2.2.1)).2.1, (two_cells ZB.out.1.x1).1, (two_cells ZB.out.1.x1).2.1, (two_cells ZB.out.1.a1).1, (two_cells ZB.out.1.a1).2.1⟩)
        clear hK K
        try simp only [Act.put, List.getElem_toArray, List.getElem_cons_zero, List.getElem_cons_succ, List.setIfInBounds_toArray, List.set_cons_zero, List.set_cons_succ]
        refine wpAnyH_take (i := 25) (v := ?_) rfl (by kernel_rfl) (by kernel_rfl) (by kernel_rfl) (fun _ _ _ h => h) (Or.inl ⟨by rfl, ?_⟩) (by assumption) ?_
        rotate_left
        · (intro w hSw; (try dsimp only at hSw); go_simp; try with_reducible rfl)
        simp only [Act.put, List.getElem_toArray, List.getElem_cons_zero, List.getElem_cons_succ, List.setIfInBounds_toArray, List.set_cons_zero, List.set_cons_succ]
        refine wpAnyH_take (i := 26) (v := ?_) rfl (by kernel_rfl) (by kernel_rfl) (by kernel_rfl) (fun _ _ _ h => h) (Or.inl ⟨by rfl, ?_⟩) (by assumption) ?_
        rotate_left
        · (intro w hSw; (try dsimp only at hSw); go_simp; try with_reducible rfl)
        simp only [Act.put, List.getElem_toArray, List.getElem_cons_zero, List.getElem_cons_succ, List.setIfInBounds_toArray, List.set_cons_zero, List.set_cons_succ]
        refine wpAnyH_take (i := 27) (v := ?_) rfl (by kernel_rfl) (by kernel_rfl) (by kernel_rfl) (fun _ _ _ h => h) (Or.inl ⟨by rfl, ?_⟩) (by assumption) ?_
        rotate_left
        · (intro w hSw; (try dsimp only at hSw); go_simp; try with_reducible rfl)
        simp only [Act.put, List.getElem_toArray, List.getElem_cons_zero, List.getElem_cons_succ, List.setIfInBounds_toArray, List.set_cons_zero, List.set_cons_succ]
        refine wpAnyH_take (i := 28) (v := ?_) rfl (by kernel_rfl) (by kernel_rfl) (by kernel_rfl) (fun _ _ _ h => h) (Or.inl ⟨by rfl, ?_⟩) (by assumption) ?_
        rotate_left
        · (intro w hSw; (try dsimp only at hSw); go_simp; try with_reducible rfl)
        simp only [Act.put, List.getElem_toArray, List.getElem_cons_zero, List.getElem_cons_succ, List.setIfInBounds_toArray, List.set_cons_zero, List.set_cons_succ]
        refine wpAnyH_take (i := 29) (v := ?_) rfl (by kernel_rfl) (by kernel_rfl) (by kernel_rfl) (fun _ _ _ h => h) (Or.inl ⟨by rfl, ?_⟩) (by assumption) ?_
        rotate_left
        · (intro w hSw; (try dsimp only at hSw); go_simp; try with_reducible rfl)
        simp only [Act.put, List.getElem_toArray, List.getElem_cons_zero, List.getElem_cons_succ, List.setIfInBounds_toArray, List.set_cons_zero, List.set_cons_succ]
        refine wpAnyH_take (i := 30) (v := ?_) rfl (by kernel_rfl) (by kernel_rfl) (by kernel_rfl) (fun _ _ _ h => h) (Or.inl ⟨by rfl, ?_⟩) (by assumption) ?_
        rotate_left
        · (intro w hSw; (try dsimp only at hSw); go_simp; try with_reducible rfl)
        simp only [Act.put, List.getElem_toArray, List.getElem_cons_zero, List.getElem_cons_succ, List.setIfInBounds_toArray, List.set_cons_zero, List.set_cons_succ]
        refine wpAnyH_ready (rs := [31]) (by kernel_rfl) (by simp) ?_
        refine AllReadyH.cons rfl (fun K hK => ?_) AllReadyH.nil
        go_simp
        (go_at_call 41; refine (same_yes p5 q5 r5 _).mono ?_; rintro e w3 ⟨rfl, k3⟩; replace ZB := Lib.hid (And.intro (ZB.out.1.none k3) (And.intro (k3.at ZB.out.2.1 fun h => h) (And.intro (k3.at ZB.out.2.2.1 fun h => h) (And.intro (k3.at ZB.out.2.2.2.1 fun h => h) (And.intro (k3.at ZB.out.2.2.2.2.1 fun h => h) (And.intro (k3.at ZB.out.2.2.2.2.2.1 fun h => h) (And.intro (k3.at ZB.out.2.2.2.2.2.2.1 fun h => h) (And.intro (k3.at ZB.out.2.2.2.2.2.2.2.1 fun h => h) (And.intro (k3.at ZB.out.2.2.2.2.2.2.2.2.1 fun h => h) (And.intro (k3.at ZB.out.2.2.2.2.2.2.2.2.2.1 fun h => h) (And.intro (k3.at ZB.out.2.2.2.2.2.2.2.2.2.2.1 fun h => h) (True.intro)))))))))))); clear k3)
        go_wp2_with fail
        refine hK.out _ _ ?_ (fun hHeld => ?_)
        · ((try dsimp only); exact ⟨(two_cells (ZB.out.2.1)).1, (two_cells (ZB.out.2.1)).2.1, (two_cells (ZB.out.2.2.1)).1, (two_cells (ZB.out.2.2.1)).2.1, (two_cells (ZB.out.2.2.2.1)).1, (two_cells (ZB.out.2.2.2.1)).2.1, (two_cells (ZB.out.2.2.2.2.1)).1, (two_cells (ZB.out.2.2.2.2.1)).2.1, (two_cells (ZB.out.2.2.2.2.2.1)).1, (two_cells (ZB.out.2.2.2.2.2.1)).2.1, (two_cells (ZB.out.2.2.2.2.2.2.1)).1, (two_cells (ZB.out.2.2.2.2.2.2.1)).2.1, (two_cells (ZB.out.2.2.2.2.2.2.2.1)).1, (two_cells (ZB.out.2.2.2.2.2.2.2.1)).2.1, (two_cells (ZB.out.2.2.2.2.2.2.2.2.1)).1, (two_cells (ZB.out.2.2.2.2.2.2.2.2.1)).2.1, (two_cells (ZB.out.2.2.2.2.2.2.2.2.2.1)).1, (two_cells (ZB.out.2.2.2.2.2.2.2.2.2.1)).2.1, (two_cells (ZB.out.2.2.2.2.2.2.2.2.2.2.1)).1, (two_cells (ZB.out.2.2.2.2.2.2.2.2.2.2.1)).2.1, (two_cells ZB.out.1.x1).1, (two_cells ZB.out.1.x1).2.1, (two_cells ZB.out.1.a1).1, (two_cells ZB.out.1.a1).2.1⟩)
        clear hK K
        try simp only [Act.put, List.getElem_toArray, List.getElem_cons_zero, List.getElem_cons_succ, List.setIfInBounds_toArray, List.set_cons_zero, List.set_cons_succ]
        refine wpAnyH_take (i := 32) (v := ?_) rfl (by kernel_rfl) (by kernel_rfl) (by kernel_rfl) (fun _ _ _ h => h) (Or.inl ⟨by rfl, ?_⟩) (by assumption) ?_
        rotate_left
        · (intro w hSw; (try dsimp only at hSw); go_simp; try with_reducible rfl)
        simp only [Act.put, List.getElem_toArray, List.getElem_cons_zero, List.getElem_cons_succ, List.setIfInBounds_toArray, List.set_cons_zero, List.set_cons_succ]
        refine wpAnyH_take (i := 33) (v := ?_) rfl (by kernel_rfl) (by kernel_rfl) (by kernel_rfl) (fun _ _ _ h => h) (Or.inl ⟨by rfl, ?_⟩) (by assumption) ?_
        rotate_left
        · (intro w hSw; (try dsimp only at hSw); go_simp; try with_reducible rfl)
        simp only [Act.put, List.getElem_toArray, List.getElem_cons_zero, List.getElem_cons_succ, List.setIfInBounds_toArray, List.set_cons_zero, List.set_cons_succ]
        refine wpAnyH_take (i := 34) (v := ?_) rfl (by kernel_rfl) (by kernel_rfl) (by kernel_rfl) (fun _ _ _ h => h) (Or.inl ⟨by rfl, ?_⟩) (by assumption) ?_
        rotate_left
        · (intro w hSw; (try dsimp only at hSw); go_simp; try with_reducible rfl)
        simp only [Act.put, List.getElem_toArray, List.getElem_cons_zero, List.getElem_cons_succ, List.setIfInBounds_toArray, List.set_cons_zero, List.set_cons_succ]
        refine wpAnyH_take (i := 36) (v := ?_) rfl (by kernel_rfl) (by kernel_rfl) (by kernel_rfl) (fun _ _ _ h => h) (Or.inl ⟨by rfl, ?_⟩) (by assumption) ?_
        rotate_left
        · (intro w hSw; (try dsimp only at hSw); go_simp; try with_reducible rfl)
        simp only [Act.put, List.getElem_toArray, List.getElem_cons_zero, List.getElem_cons_succ, List.setIfInBounds_toArray, List.set_cons_zero, List.set_cons_succ]
        refine wpAnyH_ready (rs := [35]) (by kernel_rfl) (by simp) ?_
        refine AllReadyH.cons rfl (fun K hK => ?_) AllReadyH.nil
        go_simp
        (go_at_call 42; refine (PN.out.1 _).mono ?_; rintro e w3 ⟨rfl, k3⟩; replace ZB := Lib.hid (And.intro (ZB.out.1.none k3) (And.intro (k3.at ZB.out.2.1 fun h => h) (And.intro (k3.at ZB.out.2.2.1 fun h => h) (And.intro (k3.at ZB.out.2.2.2.1 fun h => h) (And.intro (k3.at ZB.out.2.2.2.2.1 fun h => h) (And.intro (k3.at ZB.out.2.2.2.2.2.1 fun h => h) (And.intro (k3.at ZB.out.2.2.2.2.2.2.1 fun h => h) (And.intro (k3.at ZB.out.2.2.2.2.2.2.2.1 fun h => h) (And.intro (k3.at ZB.out.2.2.2.2.2.2.2.2.1 fun h => h) (And.intro (k3.at ZB.out.2.2.2.2.2.2.2.2.2.1 fun h => h) (And.intro (k3.at ZB.out.2.2.2.2.2.2.2.2.2.2.1 fun h => h) (True.intro)))))))))))); clear k3)
        go_wp2_with fail
        refine hK.out _ _ ?_ (fun hHeld => ?_)
        · ((try dsimp only); exact ⟨(two_cells (ZB.out.2.1)).1, (two_cells (ZB.out.2.1)).2.1, (two_cells (ZB.out.2.2.1)).1, (two_cells (ZB.out.2.2.1)).2.1, (two_cells (ZB.out.2.2.2.1)).1, (two_cells (ZB.out.2.2.2.1)).2.1, (two_cells (ZB.out.2.2.2.2.1)).1, (two_cells (ZB.out.2.2.2.2.1)).2.1, (two_cells (ZB.out.2.2.2.2.2.1)).1, (two_cells (ZB.out.2.2.2.2.2.1)).2.1, (two_cells (ZB.out.2.2.2.2.2.2.1)).1, (two_cells (ZB.out.2.2.2.2.2.2.1)).2.1, (two_cells (ZB.out.2.2.2.2.2.2.2.1)).1, (two_cells (ZB.out.2.2.2.2.2.2.2.1)).2.1, (two_cells (ZB.out.2.2.2.2.2.2.2.2.1)).1, (two_cells (ZB.out.2.2.2.2.2.2.2.2.1)).2.1, (two_cells (ZB.out.2.2.2.2.2.2.2.2.2.1)).1, (two_cells (ZB.out.2.2.2.2.2.2.2.2.2.1)).2.1, (two_cells (ZB.out.2.2.2.2.2.2.2.2.2.2.1)).1, (two_cells (ZB.out.2.2.2.2.2.2.2.2.2.2.1)).2.1, (two_cells ZB.out.1.x1).1, (two_cells ZB.out.1.x1).2.1, (two_cells ZB.out.1.a1).1, (two_cells ZB.out.1.a1).2.1⟩)
        clear hK K
        try simp only [Act.put, List.getElem_toArray, List.getElem_cons_zero, List.getElem_cons_succ, List.setIfInBounds_toArray, List.set_cons_zero, List.set_cons_succ]
        refine wpAnyH_ready (rs := [37]) (by kernel_rfl) (by simp) ?_
        refine AllReadyH.cons rfl (fun K hK => ?_) AllReadyH.nil
        go_simp
        (go_at_call 43; refine (PN.out.2 _).mono ?_; rintro e w3 ⟨rfl, k3⟩; replace ZB := Lib.hid (And.intro (ZB.out.1.none k3) (And.intro (k3.at ZB.out.2.1 fun h => h) (And.intro (k3.at ZB.out.2.2.1 fun h => h) (And.intro (k3.at ZB.out.2.2.2.1 fun h => h) (And.intro (k3.at ZB.out.2.2.2.2.1 fun h => h) (And.intro (k3.at ZB.out.2.2.2.2.2.1 fun h => h) (And.intro (k3.at ZB.out.2.2.2.2.2.2.1 fun h => h) (And.intro (k3.at ZB.out.2.2.2.2.2.2.2.1 fun h => h) (And.intro (k3.at ZB.out.2.2.2.2.2.2.2.2.1 fun h => h) (And.intro (k3.at ZB.out.2.2.2.2.2.2.2.2.2.1 fun h => h) (And.intro (k3.at ZB.out.2.2.2.2.2.2.2.2.2.2.1 fun h => h) (True.intro)))))))))))); clear k3)
        go_wp2_with fail
        refine hK.out _ _ ?_ (fun hHeld => ?_)
        · ((try dsimp only); exact ⟨(two_cells (ZB.out.2.1)).1, (two_cells (ZB.out.2.1)).2.1, (two_cells (ZB.out.2.2.1)).1, (two_cells (ZB.out.2.2.1)).2.1, (two_cells (ZB.out.2.2.2.1)).1, (two_cells (ZB.out.2.2.2.1)).2.1, (two_cells (ZB.out.2.2.2.2.1)).1, (two_cells (ZB.out.2.2.2.2.1)).2.1, (two_cells (ZB.out.2.2.2.2.2.1)).1, (two_cells (ZB.out.2.2.2.2.2.1)).2.1, (two_cells (ZB.out.2.2.2.2.2.2.1)).1, (two_cells (ZB.out.2.2.2.2.2.2.1)).2.1, (two_cells (ZB.out.2.2.2.2.2.2.2.1)).1, (two_cells (ZB.out.2.2.2.2.2.2.2.1)).2.1, (two_cells (ZB.out.2.2.2.2.2.2.2.2.1)).1, (two_cells (ZB.out.2.2.2.2.2.2.2.2.1)).2.1, (two_cells (ZB.out.2.2.2.2.2.2.2.2.2.1)).1, (two_cells (ZB.out.2.2.2.2.2.2.2.2.2.1)).2.1, (two_cells (ZB.out.2.2.2.2.2.2.2.2.2.2.1)).1, (two_cells (ZB.out.2.2.2.2.2.2.2.2.2.2.1)).2.1, (two_cells ZB.out.1.x1).1, (two_cells ZB.out.1.x1).2.1, (two_cells ZB.out.1.a1).1, (two_cells ZB.out.1.a1).2.1⟩)
        clear hK K
        try simp only [Act.put, List.getElem_toArray, List.getElem_cons_zero, List.getElem_cons_succ, List.setIfInBounds_toArray, List.set_cons_zero, List.set_cons_succ]
        refine wpAnyH_take (i := 38) (v := ?_) rfl (by kernel_rfl) (by kernel_rfl) (by kernel_rfl) (fun _ _ _ h => h) (Or.inl ⟨by rfl, ?_⟩) (by assumption) ?_
        rotate_left
        · (intro w hSw; (try dsimp only at hSw); go_simp; try with_reducible rfl)
        simp only [Act.put, List.getElem_toArray, List.getElem_cons_zero, List.getElem_cons_succ, List.setIfInBounds_toArray, List.set_cons_zero, List.set_cons_succ]
        refine wpAnyH_take (i := 39) (v := ?_) rfl (by kernel_rfl) (by kernel_rfl) (by kernel_rfl) (fun _ _ _ h => h) (Or.inl ⟨by rfl, ?_⟩) (by assumption) ?_
        rotate_left
        · (intro w hSw; (try dsimp only at hSw); go_simp; try with_reducible rfl)
        simp only [Act.put, List.getElem_toArray, List.getElem_cons_zero, List.getElem_cons_succ, List.setIfInBounds_toArray, List.set_cons_zero, List.set_cons_succ]
        refine wpAnyH_take (i := 40) (v := ?_) rfl (by kernel_rfl) (by kernel_rfl) (by kernel_rfl) (fun _ _ _ h => h) (Or.inl ⟨by rfl, ?_⟩) (by assumption) ?_
        rotate_left
        · (intro w hSw; (try dsimp only at hSw); go_simp; try with_reducible rfl)
        simp only [Act.put, List.getElem_toArray, List.getElem_cons_zero, List.getElem_cons_succ, List.setIfInBounds_toArray, List.set_cons_zero, List.set_cons_succ]
        refine wpAnyH_take (i := 41) (v := ?_) rfl (by kernel_rfl) (by kernel_rfl) (by kernel_rfl) (fun _ _ _ h => h) (Or.inl ⟨by rfl, ?_⟩) (by assumption) ?_
        rotate_left
        · (intro w hSw; (try dsimp only at hSw); go_simp; try with_reducible rfl)
        simp only [Act.put, List.getElem_toArray, List.getElem_cons_zero, List.getElem_cons_succ, List.setIfInBounds_toArray, List.set_cons_zero, List.set_cons_succ]
        refine wpAnyH_take (i := 43) (v := ?_) rfl (by kernel_rfl) (by kernel_rfl) (by kernel_rfl) (fun _ _ _ h => h) (Or.inl ⟨by rfl, ?_⟩) (by assumption) ?_
        rotate_left
        · (intro w hSw; (try dsimp only at hSw); go_simp; try with_reducible rfl)
        simp only [Act.put, List.getElem_toArray, List.getElem_cons_zero, List.getElem_cons_succ, List.setIfInBounds_toArray, List.set_cons_zero, List.set_cons_succ]
        refine wpAnyH_ready (rs := [42]) (by kernel_rfl) (by simp) ?_
        refine AllReadyH.cons rfl (fun K hK => ?_) AllReadyH.nil
        go_simp
        (go_at_call 44; refine (right_any a b _).mono ?_; rintro e w3 ⟨rfl, k3⟩; replace ZB := Lib.hid (And.intro (ZB.out.1.none k3) (And.intro (k3.at ZB.out.2.1 fun h => h) (And.intro (k3.at ZB.out.2.2.1 fun h => h) (And.intro (k3.at ZB.out.2.2.2.1 fun h => h) (And.intro (k3.at ZB.out.2.2.2.2.1 fun h => h) (And.intro (k3.at ZB.out.2.2.2.2.2.1 fun h => h) (And.intro (k3.at ZB.out.2.2.2.2.2.2.1 fun h => h) (And.intro (k3.at ZB.out.2.2.2.2.2.2.2.1 fun h => h) (And.intro (k3.at ZB.out.2.2.2.2.2.2.2.2.1 fun h => h) (And.intro (k3.at ZB.out.2.2.2.2.2.2.2.2.2.1 fun h => h) (And.intro (k3.at ZB.out.2.2.2.2.2.2.2.2.2.2.1 fun h => h) (True.intro)))))))))))); clear k3)
        go_wp2_with fail
        refine hK.out _ _ ?_ (fun hHeld => ?_)
        · ((try dsimp only); exact ⟨(two_cells (ZB.out.2.1)).1, (two_cells (ZB.out.2.1)).2.1, (two_cells (ZB.out.2.2.1)).1, (two_cells (ZB.out.2.2.1)).2.1, (two_cells (ZB.out.2.2.2.1)).1, (two_cells (ZB.out.2.2.2.1)).2.1, (two_cells (ZB.out.2.2.2.2.1)).1, (two_cells (ZB.out.2.2.2.2.1)).2.1, (two_cells (ZB.out.2.2.2.2.2.1)).1, (two_cells (ZB.out.2.2.2.2.2.1)).2.1, (two_cells (ZB.out.2.2.2.2.2.2.1)).1, (two_cells (ZB.out.2.2.2.2.2.2.1)).2.1, (two_cells (ZB.out.2.2.2.2.2.2.2.1)).1, (two_cells (ZB.out.2.2.2.2.2.2.2.1)).2.1, (two_cells (ZB.out.2.2.2.2.2.2.2.2.1)).1, (two_cells (ZB.out.2.2.2.2.2.2.2.2.1)).2.1, (two_cells (ZB.out.2.2.2.2.2.2.2.2.2.1)).1, (two_cells (ZB.out.2.2.2.2.2.2.2.2.2.1)).2.1, (two_cells (ZB.out.2.2.2.2.2.2.2.2.2.2.1)).1, (two_cells (ZB.out.2.2.2.2.2.2.2.2.2.2.1)).2.1, (two_cells ZB.out.1.x1).1, (two_cells ZB.out.1.x1).2.1, (two_cells ZB.out.1.a1).1, (two_cells ZB.out.1.a1).2.1⟩)
        clear hK K
        try simp only [Act.put, List.getElem_toArray, List.getElem_cons_zero, List.getElem_cons_succ, List.setIfInBounds_toArray, List.set_cons_zero, List.set_cons_succ]
        refine wpAnyH_ready (rs := [44]) (by kernel_rfl) (by simp) ?_
        refine AllReadyH.cons rfl (fun K hK => ?_) AllReadyH.nil
        go_simp
        (go_at_call 45; refine (rright_any a b _).mono ?_; rintro e w3 ⟨rfl, k3⟩; replace ZB := Lib.hid (And.intro (ZB.out.1.none k3) (And.intro (k3.at ZB.out.2.1 fun h => h) (And.intro (k3.at ZB.out.2.2.1 fun h => h) (And.intro (k3.at ZB.out.2.2.2.1 fun h => h) (And.intro (k3.at ZB.out.2.2.2.2.1 fun h => h) (And.intro (k3.at ZB.out.2.2.2.2.2.1 fun h => h) (And.intro (k3.at ZB.out.2.2.2.2.2.2.1 fun h => h) (And.intro (k3.at ZB.out.2.2.2.2.2.2.2.1 fun h => h) (And.intro (k3.at ZB.out.2.2.2.2.2.2.2.2.1 fun h => h) (And.intro (k3.at ZB.out.2.2.2.2.2.2.2.2.2.1 fun h => h) (And.intro (k3.at ZB.out.2.2.2.2.2.2.2.2.2.2.1 fun h => h) (True.intro)))))))))))); clear k3)
        go_wp2_with fail
        refine hK.out _ _ ?_ (fun hHeld => ?_)
        · ((try dsimp only); exact ⟨(two_cells (ZB.out.2.1)).1, (two_cells (ZB.out.2.1)).2.1, (two_cells (ZB.out.2.2.1)).1, (two_cells (ZB.out.2.2.1)).2.1, (two_cells (ZB.out.2.2.2.1)).1, (two_cells (ZB.out.2.2.2.1)).2.1, (two_cells (ZB.out.2.2.2.2.1)).1, (two_cells (ZB.out.2.2.2.2.1)).2.1, (two_cells (ZB.out.2.2.2.2.2.1)).1, (two_cells (ZB.out.2.2.2.2.2.1)).2.1, (two_cells (ZB.out.2.2.2.2.2.2.1)).1, (two_cells (ZB.out.2.2.2.2.2.2.1)).2.1, (two_cells (ZB.out.2.2.2.2.2.2.2.1)).1, (two_cells (ZB.out.2.2.2.2.2.2.2.1)).2.1, (two_cells (ZB.out.2.2.2.2.2.2.2.2.1)).1, (two_cells (ZB.out.2.2.2.2.2.2.2.2.1)).2.1, (two_cells (ZB.out.2.2.2.2.2.2.2.2.2.1)).1, (two_cells (ZB.out.2.2.2.2.2.2.2.2.2.1)).2.1, (two_cells (ZB.out.2.2.2.2.2.2.2.2.2.2.1)).1, (two_cells (ZB.out.2.2.2.2.2.2.2.2.2.2.1)).2.1, (two_cells ZB.out.1.x1).1, (two_cells ZB.out.1.x1).2.1, (two_cells ZB.out.1.a1).1, (two_cells ZB.out.1.a1).2.1⟩)
        clear hK K
        try simp only [Act.put, List.getElem_toArray, List.getElem_cons_zero, List.getElem_cons_succ, List.setIfInBounds_toArray, List.set_cons_zero, List.set_cons_succ]
        refine wpAnyH_take (i := 45) (v := ?_) rfl (by kernel_rfl) (by kernel_rfl) (by kernel_rfl) (fun _ _ _ h => h) (Or.inl ⟨by rfl, ?_⟩) (by assumption) ?_
        rotate_left
        · (intro w hSw; (try dsimp only at hSw); go_simp; try with_reducible rfl)
        simp only [Act.put, List.getElem_toArray, List.getElem_cons_zero, List.getElem_cons_succ, List.setIfInBounds_toArray, List.set_cons_zero, List.set_cons_succ]
        refine wpAnyH_take (i := 46) (v := ?_) rfl (by kernel_rfl) (by kernel_rfl) (by kernel_rfl) (fun _ _ _ h => h) (Or.inl ⟨by rfl, ?_⟩) (by assumption) ?_
        rotate_left
        · (intro w hSw; (try dsimp only at hSw); go_simp; try with_reducible rfl)
        simp only [Act.put, List.getElem_toArray, List.getElem_cons_zero, List.getElem_cons_succ, List.setIfInBounds_toArray, List.set_cons_zero, List.set_cons_succ]
        refine wpAnyH_take (i := 47) (v := ?_) rfl (by kernel_rfl) (by kernel_rfl) (by kernel_rfl) (fun _ _ _ h => h) (Or.inl ⟨by rfl, ?_⟩) (by assumption) ?_
        rotate_left
        · (intro w hSw; (try dsimp only at hSw); go_simp; try with_reducible rfl)
        simp only [Act.put, List.getElem_toArray, List.getElem_cons_zero, List.getElem_cons_succ, List.setIfInBounds_toArray, List.set_cons_zero, List.set_cons_succ]
        refine wpAnyH_ready (rs := [48]) (by kernel_rfl) (by simp) ?_
        refine AllReadyH.cons rfl (fun K hK => ?_) AllReadyH.nil
        go_simp
        (go_at_call 30; refine (alive04_any _).mono ?_; rintro e w3 ⟨rfl, k3⟩; replace ZB := Lib.hid (And.intro (ZB.out.1.none k3) (And.intro (k3.at ZB.out.2.1 fun h => h) (And.intro (k3.at ZB.out.2.2.1 fun h => h) (And.intro (k3.at ZB.out.2.2.2.1 fun h => h) (And.intro (k3.at ZB.out.2.2.2.2.1 fun h => h) (And.intro (k3.at ZB.out.2.2.2.2.2.1 fun h => h) (And.intro (k3.at ZB.out.2.2.2.2.2.2.1 fun h => h) (And.intro (k3.at ZB.out.2.2.2.2.2.2.2.1 fun h => h) (And.intro (k3.at ZB.out.2.2.2.2.2.2.2.2.1 fun h => h) (And.intro (k3.at ZB.out.2.2.2.2.2.2.2.2.2.1 fun h => h) (And.intro (k3.at ZB.out.2.2.2.2.2.2.2.2.2.2.1 fun h => h) (True.intro)))))))))))); clear k3)
        go_wp2_with fail
        refine hK.out _ _ ?_ (fun hHeld => ?_)
        · ((try dsimp only); exact ⟨(two_cells (ZB.out.2.1)).1, (two_cells (ZB.out.2.1)).2.1, (two_cells (ZB.out.2.2.1)).1, (two_cells (ZB.out.2.2.1)).2.1, (two_cells (ZB.out.2.2.2.1)).1, (two_cells (ZB.out.2.2.2.1)).2.1, (two_cells (ZB.out.2.2.2.2.1)).1, (two_cells (ZB.out.2.2.2.2.1)).2.1, (two_cells (ZB.out.2.2.2.2.2.1)).1, (two_cells (ZB.out.2.2.2.2.2.1)).2.1, (two_cells (ZB.out.2.2.2.2.2.2.1)).1, (two_cells (ZB.out.2.2.2.2.2.2.1)).2.1, (two_cells (ZB.out.2.2.2.2.2.2.2.1)).1, (two_cells (ZB.out.2.2.2.2.2.2.2.1)).2.1, (two_cells (ZB.out.2.2.2.2.2.2.2.2.1)).1, (two_cells (ZB.out.2.2.2.2.2.2.2.2.1)).2.1, (two_cells (ZB.out.2.2.2.2.2.2.2.2.2.1)).1, (two_cells (ZB.out.2.2.2.2.2.2.2.2.2.1)).2.1, (two_cells (ZB.out.2.2.2.2.2.2.2.2.2.2.1)).1, (two_cells (ZB.out.2.2.2.2.2.2.2.2.2.2.1)).2.1, (two_cells ZB.out.1.x1).1, (two_cells ZB.out.1.x1).2.1, (two_cells ZB.out.1.a1).1, (two_cells ZB.out.1.a1).2.1⟩)
        clear hK K
        try simp only [Act.put, List.getElem_toArray, List.getElem_cons_zero, List.getElem_cons_succ, List.setIfInBounds_toArray, List.set_cons_zero, List.set_cons_succ]
        refine wpAnyH_take (i := 49) (v := ?_) rfl (by kernel_rfl) (by kernel_rfl) (by kernel_rfl) (fun _ _ _ h => h) (Or.inl ⟨by rfl, ?_⟩) (by assumption) ?_
        rotate_left
        · (intro w hSw; (try dsimp only at hSw); go_simp; try with_reducible rfl)
        simp only [Act.put, List.getElem_toArray, List.getElem_cons_zero, List.getElem_cons_succ, List.setIfInBounds_toArray, List.set_cons_zero, List.set_cons_succ]
        refine wpAnyH_take (i := 50) (v := ?_) rfl (by kernel_rfl) (by kernel_rfl) (by kernel_rfl) (fun _ _ _ h => h) (Or.inl ⟨by rfl, ?_⟩) (by assumption) ?_
        rotate_left
        · (intro w hSw; (try dsimp only at hSw); go_simp; try with_reducible rfl)
        simp only [Act.put, List.getElem_toArray, List.getElem_cons_zero, List.getElem_cons_succ, List.setIfInBounds_toArray, List.set_cons_zero, List.set_cons_succ]
        refine wpAnyH_done (by kernel_rfl) ?_ _
        refine NoPanic.normal ?_
        go_wp2
        go_ret
        exact ⟨rfl, ZB.out.1.keeps⟩
  · have H1 := Lib.hid (RkB.new1 w a b c d)
    go_wp2_with fail
    obtain ⟨wo, rfl⟩ : ∃ wo : World, wo = w := ⟨_, rfl⟩
    go_loopw [11, 12] (fun v i wr => ∃ j : Nat, j ≤ n ∧ i = .int .i64 j ∧ wr.ownsRow (wo.heap.size + 4) 55 2 v j (flat F G j) ∧ RkB wo wr a b c d (wo.heap.size + 1 + 1 + 1) (wo.heap.size + 1 + 1)) (fun _ i _ => n - (intOf i).toNat)
    case atStart => exact ⟨0, by omega, rfl, ownsRow_none _ _ _ _, H1.out⟩
    case round =>
      obtain ⟨j, hj, rfl, hown, hB⟩ := hrel
      have HB := Lib.hid hB
      have HO := Lib.hid hown
      have hsz := lt_of hB.y1
      clear hB
      by_cases hlt : j < n
      · obtain ⟨bk, off, rfl, hb, hc⟩ := (HR.out.none HB.out.keeps) (by omega)
        obtain ⟨z0, z1⟩ := hc j hlt
        clear hc
        obtain ⟨i0, hi, hz0, hz1, hz2⟩ := info_parts num_info
        go_wp2_with (at_builtin; refine wpList_append_own _ rfl (.tmp 45) (.tmp 50) 56 rfl (wo.heap.size + 4) 55 i0 (.agg #[.int .i64 0, .int .i64 0]) 2 16 Try.underlying56 hi hz0 hz1 hz2 rfl (by decide) _ _ _ rfl (HO.out.alloc _) ⟨wr.heap.size, 0, none⟩ 1 1 [.int .i64 (F j), .int .i64 (G j)] rfl rfl ?c1 ?c2 ?c3 ?c4 ?c5 ?_)
        case c1 => exact new_two _ _ _ _
        case c2 => simp [Value.oneCell']
        case c3 => unfold maxLen; omega
        case c4 => omega
        case c5 => simp; omega
        intro v' w2 hown2 hgrow _
        have hb2 := (HB.out.none ((Keeps.refl _ _).alloc (.cells #[.int .i64 (F j), .int .i64 (G j)] 55))).grown hgrow (fun k hk => (HO.out.lt k hk).1)
        go_wp2
        go_roundw
        case rel => exact ⟨j + 1, by omega, rfl, hown2, hb2⟩
        case measure => simp [intOf]; omega
      · obtain rfl : j = n := by omega
        obtain ⟨l', cap', rfl, hrow⟩ := rowP_of_owns HO.out
        have HRO := Lib.hid hrow
        have HRL := Lib.hid (HR.out.none HB.out.keeps)
        clear hrow HO H1
        obtain ⟨a0, a1, _, _, la⟩ := two_cells HB.out.a1
        obtain ⟨b0, b1, _, _, lb⟩ := two_cells HB.out.b1
        obtain ⟨x0, x1, _, _, lx⟩ := two_cells HB.out.x1
        obtain ⟨y0, y1, _, _, ly⟩ := two_cells HB.out.y1
        go_wp2_with fail
        refine (PA.out.1 _).mono ?_
        rintro e w1 ⟨rfl, k1⟩
        have K1 := Lib.hid k1
        have HB1 := Lib.hid (HB.out.none k1)
        replace HRO := Lib.hid (HRO.out.none k1)
        replace HRL := Lib.hid (HRL.out.none k1)
        clear HB a0 a1 b0 b1 x0 x1 y0 y1 la lb lx ly k1
        obtain ⟨a0, a1, _, _, la⟩ := two_cells HB1.out.a1
        obtain ⟨b0, b1, _, _, lb⟩ := two_cells HB1.out.b1
        obtain ⟨x0, x1, _, _, lx⟩ := two_cells HB1.out.x1
        obtain ⟨y0, y1, _, _, ly⟩ := two_cells HB1.out.y1
        go_wp2_with fail
        refine (PA.out.2 _).mono ?_
        rintro e w2 ⟨rfl, k2⟩
        have K2 := Lib.hid (((Keeps.refl (fun _ => False) w1).alloc (.cells #[.int .i64 p1, .int .i64 q1] 55)).trans k2)
        have E1 := Lib.hid (k2.at (heap_new w1 (.cells #[.int .i64 p1, .int .i64 q1] 55)) fun h => h)
        have HB2 := Lib.hid (HB1.out.none K2.out)
        replace HRO := Lib.hid (HRO.out.none K2.out)
        replace HRL := Lib.hid (HRL.out.none K2.out)
        clear HB1 a0 a1 b0 b1 x0 x1 y0 y1 la lb lx ly k2
        obtain ⟨a0, a1, _, _, la⟩ := two_cells HB2.out.a1
        obtain ⟨b0, b1, _, _, lb⟩ := two_cells HB2.out.b1
        obtain ⟨x0, x1, _, _, lx⟩ := two_cells HB2.out.x1
        obtain ⟨y0, y1, _, _, ly⟩ := two_cells HB2.out.y1
        go_wp2_with fail
        refine (PM.out.1 _).mono ?_
        rintro e w3 ⟨rfl, k3⟩
        have K3 := Lib.hid (((Keeps.refl (fun _ => False) w2).alloc (.cells #[.int .i64 p1, .int .i64 q1] 53)).trans k3)
        have E2 := Lib.hid (k3.at (heap_new w2 (.cells #[.int .i64 p1, .int .i64 q1] 53)) fun h => h)
        have HB3 := Lib.hid (HB2.out.none K3.out)
        replace HRO := Lib.hid (HRO.out.none K3.out)
        replace HRL := Lib.hid (HRL.out.none K3.out)
        replace E1 := Lib.hid (K3.out.at E1.out fun h => h)
        clear HB2 a0 a1 b0 b1 x0 x1 y0 y1 la lb lx ly k3
        obtain ⟨a0, a1, _, _, la⟩ := two_cells HB3.out.a1
        obtain ⟨b0, b1, _, _, lb⟩ := two_cells HB3.out.b1
        obtain ⟨x0, x1, _, _, lx⟩ := two_cells HB3.out.x1
        obtain ⟨y0, y1, _, _, ly⟩ := two_cells HB3.out.y1
        go_wp2_with fail
        refine (PM.out.2 _).mono ?_
        rintro e w4 ⟨rfl, k4⟩
        have K4 := Lib.hid (((Keeps.refl (fun _ => False) w3).alloc (.cells #[.int .i64 p2, .int .i64 q2] 55)).trans k4)
        have E3 := Lib.hid (k4.at (heap_new w3 (.cells #[.int .i64 p2, .int .i64 q2] 55)) fun h => h)
        have HB4 := Lib.hid (HB3.out.none K4.out)
        replace HRO := Lib.hid (HRO.out.none K4.out)
        replace HRL := Lib.hid (HRL.out.none K4.out)
        replace E1 := Lib.hid (K4.out.at E1.out fun h => h)
        replace E2 := Lib.hid (K4.out.at E2.out fun h => h)
        clear HB3 a0 a1 b0 b1 x0 x1 y0 y1 la lb lx ly k4
        obtain ⟨a0, a1, _, _, la⟩ := two_cells HB4.out.a1
        obtain ⟨b0, b1, _, _, lb⟩ := two_cells HB4.out.b1
        obtain ⟨x0, x1, _, _, lx⟩ := two_cells HB4.out.x1
        obtain ⟨y0, y1, _, _, ly⟩ := two_cells HB4.out.y1
        go_wp2_with fail
        refine (PT.out.1 _).mono ?_
        rintro e w5 ⟨rfl, k5⟩
        have K5 := Lib.hid (((Keeps.refl (fun _ => False) w4).alloc (.cells #[.int .i64 p2, .int .i64 q2] 53)).trans k5)
        have E4 := Lib.hid (k5.at (heap_new w4 (.cells #[.int .i64 p2, .int .i64 q2] 53)) fun h => h)
        have HB5 := Lib.hid (HB4.out.none K5.out)
        replace HRO := Lib.hid (HRO.out.none K5.out)
        replace HRL := Lib.hid (HRL.out.none K5.out)
        replace E1 := Lib.hid (K5.out.at E1.out fun h => h)
        replace E2 := Lib.hid (K5.out.at E2.out fun h => h)
        replace E3 := Lib.hid (K5.out.at E3.out fun h => h)
        clear HB4 a0 a1 b0 b1 x0 x1 y0 y1 la lb lx ly k5
        obtain ⟨a0, a1, _, _, la⟩ := two_cells HB5.out.a1
        obtain ⟨b0, b1, _, _, lb⟩ := two_cells HB5.out.b1
        obtain ⟨x0, x1, _, _, lx⟩ := two_cells HB5.out.x1
        obtain ⟨y0, y1, _, _, ly⟩ := two_cells HB5.out.y1
        go_wp2_with fail
        refine (PT.out.2 _).mono ?_
        rintro e w6 ⟨rfl, k6⟩
        have K6 := Lib.hid (((Keeps.refl (fun _ => False) w5).alloc (.cells #[.int .i64 p3, .int .i64 q3] 55)).trans k6)
        have E5 := Lib.hid (k6.at (heap_new w5 (.cells #[.int .i64 p3, .int .i64 q3] 55)) fun h => h)
        have HB6 := Lib.hid (HB5.out.none K6.out)
        replace HRO := Lib.hid (HRO.out.none K6.out)
        replace HRL := Lib.hid (HRL.out.none K6.out)
        replace E1 := Lib.hid (K6.out.at E1.out fun h => h)
        replace E2 := Lib.hid (K6.out.at E2.out fun h => h)
        replace E3 := Lib.hid (K6.out.at E3.out fun h => h)
        replace E4 := Lib.hid (K6.out.at E4.out fun h => h)
        clear HB5 a0 a1 b0 b1 x0 x1 y0 y1 la lb lx ly k6
        obtain ⟨a0, a1, _, _, la⟩ := two_cells HB6.out.a1
        obtain ⟨b0, b1, _, _, lb⟩ := two_cells HB6.out.b1
        obtain ⟨x0, x1, _, _, lx⟩ := two_cells HB6.out.x1
        obtain ⟨y0, y1, _, _, ly⟩ := two_cells HB6.out.y1
        go_wp2_with fail
        refine (PC.out.1 _).mono ?_
        rintro e w7 ⟨rfl, k7⟩
        have K7 := Lib.hid (((Keeps.refl (fun _ => False) w6).alloc (.cells #[.int .i64 p3, .int .i64 q3] 53)).trans k7)
        have E6 := Lib.hid (k7.at (heap_new w6 (.cells #[.int .i64 p3, .int .i64 q3] 53)) fun h => h)
        have HB7 := Lib.hid (HB6.out.none K7.out)
        replace HRO := Lib.hid (HRO.out.none K7.out)
        replace HRL := Lib.hid (HRL.out.none K7.out)
        replace E1 := Lib.hid (K7.out.at E1.out fun h => h)
        replace E2 := Lib.hid (K7.out.at E2.out fun h => h)
        replace E3 := Lib.hid (K7.out.at E3.out fun h => h)
        replace E4 := Lib.hid (K7.out.at E4.out fun h => h)
        replace E5 := Lib.hid (K7.out.at E5.out fun h => h)
        clear HB6 a0 a1 b0 b1 x0 x1 y0 y1 la lb lx ly k7
        obtain ⟨a0, a1, _, _, la⟩ := two_cells HB7.out.a1
        obtain ⟨b0, b1, _, _, lb⟩ := two_cells HB7.out.b1
        obtain ⟨x0, x1, _, _, lx⟩ := two_cells HB7.out.x1
        obtain ⟨y0, y1, _, _, ly⟩ := two_cells HB7.out.y1
        go_wp2_with fail
        refine (PC.out.2 _).mono ?_
        rintro e w8 ⟨rfl, k8⟩
        have K8 := Lib.hid (((Keeps.refl (fun _ => False) w7).alloc (.cells #[.int .i64 p4, .int .i64 q4] 55)).trans k8)
        have E7 := Lib.hid (k8.at (heap_new w7 (.cells #[.int .i64 p4, .int .i64 q4] 55)) fun h => h)
        have HB8 := Lib.hid (HB7.out.none K8.out)
        replace HRO := Lib.hid (HRO.out.none K8.out)
        replace HRL := Lib.hid (HRL.out.none K8.out)
        replace E1 := Lib.hid (K8.out.at E1.out fun h => h)
        replace E2 := Lib.hid (K8.out.at E2.out fun h => h)
        replace E3 := Lib.hid (K8.out.at E3.out fun h => h)
        replace E4 := Lib.hid (K8.out.at E4.out fun h => h)
        replace E5 := Lib.hid (K8.out.at E5.out fun h => h)
        replace E6 := Lib.hid (K8.out.at E6.out fun h => h)
        clear HB7 a0 a1 b0 b1 x0 x1 y0 y1 la lb lx ly k8
        obtain ⟨a0, a1, _, _, la⟩ := two_cells HB8.out.a1
        obtain ⟨b0, b1, _, _, lb⟩ := two_cells HB8.out.b1
        obtain ⟨x0, x1, _, _, lx⟩ := two_cells HB8.out.x1
        obtain ⟨y0, y1, _, _, ly⟩ := two_cells HB8.out.y1
        go_wp2_with fail
        refine (PS.out.1 _ _ _ (HRO.out.none ((Keeps.refl _ _).alloc _))).mono ?_
        rintro e w9 ⟨rfl, k9⟩
        have K9 := Lib.hid (((Keeps.refl (fun _ => False) w8).alloc (.cells #[.int .i64 p4, .int .i64 q4] 53)).trans k9)
        have E8 := Lib.hid (k9.at (heap_new w8 (.cells #[.int .i64 p4, .int .i64 q4] 53)) fun h => h)
        have HB9 := Lib.hid (HB8.out.none K9.out)
        replace HRO := Lib.hid (HRO.out.none K9.out)
        replace HRL := Lib.hid (HRL.out.none K9.out)
        replace E1 := Lib.hid (K9.out.at E1.out fun h => h)
        replace E2 := Lib.hid (K9.out.at E2.out fun h => h)
        replace E3 := Lib.hid (K9.out.at E3.out fun h => h)
        replace E4 := Lib.hid (K9.out.at E4.out fun h => h)
        replace E5 := Lib.hid (K9.out.at E5.out fun h => h)
        replace E6 := Lib.hid (K9.out.at E6.out fun h => h)
        replace E7 := Lib.hid (K9.out.at E7.out fun h => h)
        clear HB8 a0 a1 b0 b1 x0 x1 y0 y1 la lb lx ly k9
        obtain ⟨a0, a1, _, _, la⟩ := two_cells HB9.out.a1
        obtain ⟨b0, b1, _, _, lb⟩ := two_cells HB9.out.b1
        obtain ⟨x0, x1, _, _, lx⟩ := two_cells HB9.out.x1
        obtain ⟨y0, y1, _, _, ly⟩ := two_cells HB9.out.y1
        go_wp2_with fail
        refine (PS.out.2 _ _ _ (HRL.out.none ((Keeps.refl _ _).alloc _))).mono ?_
        rintro e w10 ⟨rfl, k10⟩
        have K10 := Lib.hid (((Keeps.refl (fun _ => False) w9).alloc (.cells #[.int .i64 p5, .int .i64 q5] 55)).trans k10)
        have E9 := Lib.hid (k10.at (heap_new w9 (.cells #[.int .i64 p5, .int .i64 q5] 55)) fun h => h)
        have HB10 := Lib.hid (HB9.out.none K10.out)
        replace HRO := Lib.hid (HRO.out.none K10.out)
        replace HRL := Lib.hid (HRL.out.none K10.out)
        replace E1 := Lib.hid (K10.out.at E1.out fun h => h)
        replace E2 := Lib.hid (K10.out.at E2.out fun h => h)
        replace E3 := Lib.hid (K10.out.at E3.out fun h => h)
        replace E4 := Lib.hid (K10.out.at E4.out fun h => h)
        replace E5 := Lib.hid (K10.out.at E5.out fun h => h)
        replace E6 := Lib.hid (K10.out.at E6.out fun h => h)
        replace E7 := Lib.hid (K10.out.at E7.out fun h => h)
        replace E8 := Lib.hid (K10.out.at E8.out fun h => h)
        clear HB9 a0 a1 b0 b1 x0 x1 y0 y1 la lb lx ly k10
        obtain ⟨a0, a1, _, _, la⟩ := two_cells HB10.out.a1
        obtain ⟨b0, b1, _, _, lb⟩ := two_cells HB10.out.b1
        obtain ⟨x0, x1, _, _, lx⟩ := two_cells HB10.out.x1
        obtain ⟨y0, y1, _, _, ly⟩ := two_cells HB10.out.y1
        go_wp2_with fail
        have KZ := (Keeps.refl (fun _ => False) w10).alloc (.cells #[.int .i64 p5, .int .i64 q5] 53)
        have EZ := (Lib.hid (KZ.drew))
        clear KZ a0 a1 b0 b1 x0 x1 y0 y1 la lb lx ly
        generalize hz : w10.alloc (.cells #[.int .i64 p5, .int .i64 q5] 53) = wz at *
        have E10 : Hid (wz.heap[w10.heap.size]? = some (.cells #[.int .i64 p5, .int .i64 q5] 53 (0, 0))) := Lib.hid (by rw [← hz]; exact heap_new _ _)
        replace E1 := Lib.hid (EZ.out.at E1.out fun h => h)
        replace E2 := Lib.hid (EZ.out.at E2.out fun h => h)
        replace E3 := Lib.hid (EZ.out.at E3.out fun h => h)
        replace E4 := Lib.hid (EZ.out.at E4.out fun h => h)
        replace E5 := Lib.hid (EZ.out.at E5.out fun h => h)
        replace E6 := Lib.hid (EZ.out.at E6.out fun h => h)
        replace E7 := Lib.hid (EZ.out.at E7.out fun h => h)
        replace E8 := Lib.hid (EZ.out.at E8.out fun h => h)
        replace E9 := Lib.hid (EZ.out.at E9.out fun h => h)
        have HBZ := Lib.hid (HB10.out.none EZ.out)
        replace E10 : Hid (wz.drew.heap[w10.heap.size]? = _) := E10
        clear hz HB10
        generalize hn1 : w1.heap.size = n1 at *
        clear hn1
        generalize hn2 : w2.heap.size = n2 at *
        clear hn2
        generalize hn3 : w3.heap.size = n3 at *
        clear hn3
        generalize hn4 : w4.heap.size = n4 at *
        clear hn4
        generalize hn5 : w5.heap.size = n5 at *
        clear hn5
        generalize hn6 : w6.heap.size = n6 at *
        clear hn6
        generalize hn7 : w7.heap.size = n7 at *
        clear hn7
        generalize hn8 : w8.heap.size = n8 at *
        clear hn8
        generalize hn9 : w9.heap.size = n9 at *
        clear hn9
        generalize hn10 : w10.heap.size = n10 at *
        clear hn10
        have ZB := Lib.hid (And.intro HBZ.out (And.intro E1.out (And.intro E2.out (And.intro E3.out (And.intro E4.out (And.intro E5.out (And.intro E6.out (And.intro E7.out (And.intro E8.out (And.intro E9.out (And.intro E10.out (True.intro))))))))))))
        clear HBZ E1 E2 E3 E4 E5 E6 E7 E8 E9 E10 HRO HRL EZ
        refine wp_region_noPanic ?_
        refine wp_region_held_drew (S := (fun w' => w'.cell? ⟨n1, 0, none⟩ = some (.int .i64 p1) ∧ w'.cell? ⟨n1, 1, none⟩ = some (.int .i64 q1) ∧ w'.cell? ⟨n2, 0, none⟩ = some (.int .i64 p1) ∧ w'.cell? ⟨n2, 1, none⟩ = some (.int .i64 q1) ∧ w'.cell? ⟨n3, 0, none⟩ = some (.int .i64 p2) ∧ w'.cell? ⟨n3, 1, none⟩ = some (.int .i64 q2) ∧ w'.cell? ⟨n4, 0, none⟩ = some (.int .i64 p2) ∧ w'.cell? ⟨n4, 1, none⟩ = some (.int .i64 q2) ∧ w'.cell? ⟨n5, 0, none⟩ = some (.int .i64 p3) ∧ w'.cell? ⟨n5, 1, none⟩ = some (.int .i64 q3) ∧ w'.cell? ⟨n6, 0, none⟩ = some (.int .i64 p3) ∧ w'.cell? ⟨n6, 1, none⟩ = some (.int .i64 q3) ∧ w'.cell? ⟨n7, 0, none⟩ = some (.int .i64 p4) ∧ w'.cell? ⟨n7, 1, none⟩ = some (.int .i64 q4) ∧ w'.cell? ⟨n8, 0, none⟩ = some (.int .i64 p4) ∧ w'.cell? ⟨n8, 1, none⟩ = some (.int .i64 q4) ∧ w'.cell? ⟨n9, 0, none⟩ = some (.int .i64 p5) ∧ w'.cell? ⟨n9, 1, none⟩ = some (.int .i64 q5) ∧ w'.cell? ⟨n10, 0, none⟩ = some (.int .i64 p5) ∧ w'.cell? ⟨n10, 1, none⟩ = some (.int .i64 q5) ∧ w'.cell? ⟨wo.heap.size + 1 + 1 + 1, 0, none⟩ = some (.int .i64 a) ∧ w'.cell? ⟨wo.heap.size + 1 + 1 + 1, 1, none⟩ = some (.int .i64 b) ∧ w'.cell? ⟨wo.heap.size, 0, none⟩ = some (.int .i64 a) ∧ w'.cell? ⟨wo.heap.size, 1, none⟩ = some (.int .i64 b))) (by kernel_rfl) ?_ (fun hHeld => ?_)
        · exact ⟨(two_cells (ZB.out.2.1)).1, (two_cells (ZB.out.2.1)).2.1, (two_cells (ZB.out.2.2.1)).1, (two_cells (ZB.out.2.2.1)).2.1, (two_cells (ZB.out.2.2.2.1)).1, (two_cells (ZB.out.2.2.2.1)).2.1, (two_cells (ZB.out.2.2.2.2.1)).1, (two_cells (ZB.out.2.2.2.2.1)).2.1, (two_cells (ZB.out.2.2.2.2.2.1)).1, (two_cells (ZB.out.2.2.2.2.2.1)).2.1, (two_cells (ZB.out.2.2.2.2.2.2.1)).1, (two_cells (ZB.out.2.2.2.2.2.2.1)).2.1, (two_cells (ZB.out.2.2.2.2.2.2.2.1)).1, (two_cells (ZB.out.2.2.2.2.2.2.2.1)).2.1, (two_cells (ZB.out.2.2.2.2.2.2.2.2.1)).1, (two_cells (ZB.out.2.2.2.2.2.2.2.2.1)).2.1, (two_cells (ZB.out.2.2.2.2.2.2.2.2.2.1)).1, (two_cells (ZB.out.2.2.2.2.2.2.2.2.2.1)).2.1, (two_cells (ZB.out.2.2.2.2.2.2.2.2.2.2.1)).1, (two_cells (ZB.out.2.2.2.2.2.2.2.2.2.2.1)).2.1, (two_cells ZB.out.1.x1).1, (two_cells ZB.out.1.x1).2.1, (two_cells ZB.out.1.a1).1, (two_cells ZB.out.1.a1).2.1⟩
        refine wpAnyH_take (i := 0) (v := ?_) rfl (by kernel_rfl) (by kernel_rfl) (by kernel_rfl) (fun _ _ _ h => h) (Or.inl ⟨by rfl, ?_⟩) (by assumption) ?_
        rotate_left
        · (intro w hSw; (try dsimp only at hSw); go_simp; try with_reducible rfl)
        simp only [Act.put, List.getElem_toArray, List.getElem_cons_zero, List.getElem_cons_succ, List.setIfInBounds_toArray, List.set_cons_zero, List.set_cons_succ]
        refine wpAnyH_take (i := 1) (v := ?_) rfl (by kernel_rfl) (by kernel_rfl) (by kernel_rfl) (fun _ _ _ h => h) (Or.inl ⟨by rfl, ?_⟩) (by assumption) ?_
        rotate_left
        · (intro w hSw; (try dsimp only at hSw); go_simp; try with_reducible rfl)
        simp only [Act.put, List.getElem_toArray, List.getElem_cons_zero, List.getElem_cons_succ, List.setIfInBounds_toArray, List.set_cons_zero, List.set_cons_succ]
        refine wpAnyH_take (i := 2) (v := ?_) rfl (by kernel_rfl) (by kernel_rfl) (by kernel_rfl) (fun _ _ _ h => h) (Or.inl ⟨by rfl, ?_⟩) (by assumption) ?_
        rotate_left
        · (intro w hSw; (try dsimp only at hSw); go_simp; try with_reducible rfl)
        simp only [Act.put, List.getElem_toArray, List.getElem_cons_zero, List.getElem_cons_succ, List.setIfInBounds_toArray, List.set_cons_zero, List.set_cons_succ]
        refine wpAnyH_take (i := 3) (v := ?_) rfl (by kernel_rfl) (by kernel_rfl) (by kernel_rfl) (fun _ _ _ h => h) (Or.inl ⟨by rfl, ?_⟩) (by assumption) ?_
        rotate_left
        · (intro w hSw; (try dsimp only at hSw); go_simp; try with_reducible rfl)
        simp only [Act.put, List.getElem_toArray, List.getElem_cons_zero, List.getElem_cons_succ, List.setIfInBounds_toArray, List.set_cons_zero, List.set_cons_succ]
        refine wpAnyH_ready (rs := [4]) (by kernel_rfl) (by simp) ?_
        refine AllReadyH.cons rfl (fun K hK => ?_) AllReadyH.nil
        go_simp
        (go_at_call 41; refine (same_yes p1 q1 r1 _).mono ?_; rintro e w3 ⟨rfl, k3⟩; replace ZB := Lib.hid (And.intro (ZB.out.1.none k3) (And.intro (k3.at ZB.out.2.1 fun h => h) (And.intro (k3.at ZB.out.2.2.1 fun h => h) (And.intro (k3.at ZB.out.2.2.2.1 fun h => h) (And.intro (k3.at ZB.out.2.2.2.2.1 fun h => h) (And.intro (k3.at ZB.out.2.2.2.2.2.1 fun h => h) (And.intro (k3.at ZB.out.2.2.2.2.2.2.1 fun h => h) (And.intro (k3.at ZB.out.2.2.2.2.2.2.2.1 fun h => h) (And.intro (k3.at ZB.out.2.2.2.2.2.2.2.2.1 fun h => h) (And.intro (k3.at ZB.out.2.2.2.2.2.2.2.2.2.1 fun h => h) (And.intro (k3.at ZB.out.2.2.2.2.2.2.2.2.2.2.1 fun h => h) (True.intro)))))))))))); clear k3)
        go_wp2_with fail
        refine hK.out _ _ ?_ (fun hHeld => ?_)
        · ((try dsimp only); exact ⟨(two_cells (ZB.out.2.1)).1, (two_cells (ZB.out.2.1)).2.1, (two_cells (ZB.out.2.2.1)).1, (two_cells (ZB.out.2.2.1)).2.1, (two_cells (ZB.out.2.2.2.1)).1, (two_cells (ZB.out.2.2.2.1)).2.1, (two_cells (ZB.out.2.2.2.2.1)).1, (two_cells (ZB.out.2.2.2.2.1)).2.1, (two_cells (ZB.out.2.2.2.2.2.1)).1, (two_cells (ZB.out.2.2.2.2.2.1)).2.1, (two_cells (ZB.out.2.2.2.2.2.2.1)).1, (two_cells (ZB.out.2.2.2.2.2.2.1)).2.1, (two_cells (ZB.out.2.2.2.2.2.2.2.1)).1, (two_cells (ZB.out.2.2.2.2.2.2.2.1)).2.1, (two_cells (ZB.out.2.2.2.2.2.2.2.2.1)).1, (two_cells (ZB.out.2.2.2.2.2.2.2.2.1)).2.1, (two_cells (ZB.out.2.2.2.2.2.2.2.2.2.1)).1, (two_cells (ZB.out.2.2.2.2.2.2.2.2.2.1)).2.1, (two_cells (ZB.out.2.2.2.2.2.2.2.2.2.2.1)).1, (two_cells (ZB.out.2.2.2.2.2.2.2.2.2.2.1)).2.1, (two_cells ZB.out.1.x1).1, (two_cells ZB.out.1.x1).2.1, (two_cells ZB.out.1.a1).1, (two_cells ZB.out.1.a1).2.1⟩)
        clear hK K
        try simp only [Act.put, List.getElem_toArray, List.getElem_cons_zero, List.getElem_cons_succ, List.setIfInBounds_toArray, List.set_cons_zero, List.set_cons_succ]
        refine wpAnyH_take (i := 5) (v := ?_) rfl (by kernel_rfl) (by kernel_rfl) (by kernel_rfl) (fun _ _ _ h => h) (Or.inl ⟨by rfl, ?_⟩) (by assumption) ?_
        rotate_left
        · (intro w hSw; (try dsimp only at hSw); go_simp; try with_reducible rfl)
        simp only [Act.put, List.getElem_toArray, List.getElem_cons_zero, List.getElem_cons_succ, List.setIfInBounds_toArray, List.set_cons_zero, List.set_cons_succ]
        refine wpAnyH_take (i := 6) (v := ?_) rfl (by kernel_rfl) (by kernel_rfl) (by kernel_rfl) (fun _ _ _ h => h) (Or.inl ⟨by rfl, ?_⟩) (by assumption) ?_
        rotate_left
        · (intro w hSw; (try dsimp only at hSw); go_simp; try with_reducible rfl)
        simp only [Act.put, List.getElem_toArray, List.getElem_cons_zero, List.getElem_cons_succ, List.setIfInBounds_toArray, List.set_cons_zero, List.set_cons_succ]
        refine wpAnyH_take (i := 7) (v := ?_) rfl (by kernel_rfl) (by kernel_rfl) (by kernel_rfl) (fun _ _ _ h => h) (Or.inl ⟨by rfl, ?_⟩) (by assumption) ?_
        rotate_left
        · (intro w hSw; (try dsimp only at hSw); go_simp; try with_reducible rfl)
        simp only [Act.put, List.getElem_toArray, List.getElem_cons_zero, List.getElem_cons_succ, List.setIfInBounds_toArray, List.set_cons_zero, List.set_cons_succ]
        refine wpAnyH_take (i := 8) (v := ?_) rfl (by kernel_rfl) (by kernel_rfl) (by kernel_rfl) (fun _ _ _ h => h) (Or.inl ⟨by rfl, ?_⟩) (by assumption) ?_
        rotate_left
        · (intro w hSw; (try dsimp only at hSw); go_simp; try with_reducible rfl)
        simp only [Act.put, List.getElem_toArray, List.getElem_cons_zero, List.getElem_cons_succ, List.setIfInBounds_toArray, List.set_cons_zero, List.set_cons_succ]
        refine wpAnyH_take (i := 9) (v := ?_) rfl (by kernel_rfl) (by kernel_rfl) (by kernel_rfl) (fun _ _ _ h => h) (Or.inl ⟨by rfl, ?_⟩) (by assumption) ?_
        rotate_left
        · (intro w hSw; (try dsimp only at hSw); go_simp; try with_reducible rfl)
        simp only [Act.put, List.getElem_toArray, List.getElem_cons_zero, List.getElem_cons_succ, List.setIfInBounds_toArray, List.set_cons_zero, List.set_cons_succ]
        refine wpAnyH_ready (rs := [10]) (by kernel_rfl) (by simp) ?_
        refine AllReadyH.cons rfl (fun K hK => ?_) AllReadyH.nil
        go_simp
        (go_at_call 41; refine (same_yes p2 q2 r2 _).mono ?_; rintro e w3 ⟨rfl, k3⟩; replace ZB := Lib.hid (And.intro (ZB.out.1.none k3) (And.intro (k3.at ZB.out.2.1 fun h => h) (And.intro (k3.at ZB.out.2.2.1 fun h => h) (And.intro (k3.at ZB.out.2.2.2.1 fun h => h) (And.intro (k3.at ZB.out.2.2.2.2.1 fun h => h) (And.intro (k3.at ZB.out.2.2.2.2.2.1 fun h => h) (And.intro (k3.at ZB.out.2.2.2.2.2.2.1 fun h => h) (And.intro (k3.at ZB.out.2.2.2.2.2.2.2.1 fun h => h) (And.intro (k3.at ZB.out.2.2.2.2.2.2.2.2.1 fun h => h) (And.intro (k3.at ZB.out.2.2.2.2.2.2.2.2.2.1 fun h => h) (And.intro (k3.at ZB.out.2.2.2.2.2.2.2.2.2.2.1 fun h => h) (True.intro)))))))))))); clear k3)
        go_wp2_with fail
        refine hK.out _ _ ?_ (fun hHeld => ?_)
        · ((try dsimp only); exact ⟨(two_cells (ZB.out.2.1)).1, (two_cells (ZB.out.2.1)).2.1, (two_cells (ZB.out.2.2.1)).1, (two_cells (ZB.out.2.2.1)).2.1, (two_cells (ZB.out.2.2.2.1)).1, (two_cells (ZB.out.2.2.2.1)).2.1, (two_cells (ZB.out.2.2.2.2.1)).1, (two_cells (ZB.out.2.2.2.2.1)).2.1, (two_cells (ZB.out.2.2.2.2.2.1)).1, (two_cells (ZB.out.2.2.2.2.2.1)).2.1, (two_cells (ZB.out.2.2.2.2.2.2.1)).1, (two_cells (ZB.out.2.2.2.2.2.2.1)).2.1, (two_cells (ZB.out.2.2.2.2.2.2.2.1)).1, (two_cells (ZB.out.2.2.2.2.2.2.2.1)).2.1, (two_cells (ZB.out.2.2.2.2.2.2.2.2.1)).1, (two_cells (ZB.out.2.2.2.2.2.2.2.2.1)).2.1, (two_cells (ZB.out.2.2.2.2.2.2.2.2.2.1)).1, (two_cells (ZB.out.2.2.2.2.2.2.2.2.2.1)).2.1, (two_cells (ZB.out.2.2.2.2.2.2.2.2.2.2.1)).1, (two_cells (ZB.out.2.2.2.2.2.2.2.2.2.2.1)).2.1, (two_cells ZB.out.1.x1).1, (two_cells ZB.out.1.x1).2.1, (two_cells ZB.out.1.a1).1, (two_cells ZB.out.1.a1).2.1⟩)
        clear hK K
        try simp only [Act.put, List.getElem_toArray, List.getElem_cons_zero, List.getElem_cons_succ, List.setIfInBounds_toArray, List.set_cons_zero, List.set_cons_succ]
        refine wpAnyH_take (i := 11) (v := ?_) rfl (by kernel_rfl) (by kernel_rfl) (by kernel_rfl) (fun _ _ _ h => h) (Or.inl ⟨by rfl, ?_⟩) (by assumption) ?_
        rotate_left
        · (intro w hSw; (try dsimp only at hSw); go_simp; try with_reducible rfl)
        simp only [Act.put, List.getElem_toArray, List.getElem_cons_zero, List.getElem_cons_succ, List.setIfInBounds_toArray, List.set_cons_zero, List.set_cons_succ]
        refine wpAnyH_take (i := 12) (v := ?_) rfl (by kernel_rfl) (by kernel_rfl) (by kernel_rfl) (fun _ _ _ h => h) (Or.inl ⟨by rfl, ?_⟩) (by assumption) ?_
        rotate_left
        · (intro w hSw; (try dsimp only at hSw); go_simp; try with_reducible rfl)
        simp only [Act.put, List.getElem_toArray, List.getElem_cons_zero, List.getElem_cons_succ, List.setIfInBounds_toArray, List.set_cons_zero, List.set_cons_succ]
        refine wpAnyH_take (i := 13) (v := ?_) rfl (by kernel_rfl) (by kernel_rfl) (by kernel_rfl) (fun _ _ _ h => h) (Or.inl ⟨by rfl, ?_⟩) (by assumption) ?_
        rotate_left
        · (intro w hSw; (try dsimp only at hSw); go_simp; try with_reducible rfl)
        simp only [Act.put, List.getElem_toArray, List.getElem_cons_zero, List.getElem_cons_succ, List.setIfInBounds_toArray, List.set_cons_zero, List.set_cons_succ]
        refine wpAnyH_take (i := 14) (v := ?_) rfl (by kernel_rfl) (by kernel_rfl) (by kernel_rfl) (fun _ _ _ h => h) (Or.inl ⟨by rfl, ?_⟩) (by assumption) ?_
        rotate_left
        · (intro w hSw; (try dsimp only at hSw); go_simp; try with_reducible rfl)
        simp only [Act.put, List.getElem_toArray, List.getElem_cons_zero, List.getElem_cons_succ, List.setIfInBounds_toArray, List.set_cons_zero, List.set_cons_succ]
        refine wpAnyH_take (i := 15) (v := ?_) rfl (by kernel_rfl) (by kernel_rfl) (by kernel_rfl) (fun _ _ _ h => h) (Or.inl ⟨by rfl, ?_⟩) (by assumption) ?_
        rotate_left
        · (intro w hSw; (try dsimp only at hSw); go_simp; try with_reducible rfl)
        simp only [Act.put, List.getElem_toArray, List.getElem_cons_zero, List.getElem_cons_succ, List.setIfInBounds_toArray, List.set_cons_zero, List.set_cons_succ]
        refine wpAnyH_take (i := 16) (v := ?_) rfl (by kernel_rfl) (by kernel_rfl) (by kernel_rfl) (fun _ _ _ h => h) (Or.inl ⟨by rfl, ?_⟩) (by assumption) ?_
        rotate_left
        · (intro w hSw; (try dsimp only at hSw); go_simp; try with_reducible rfl)
        simp only [Act.put, List.getElem_toArray, List.getElem_cons_zero, List.getElem_cons_succ, List.setIfInBounds_toArray, List.set_cons_zero, List.set_cons_succ]
        refine wpAnyH_ready (rs := [17]) (by kernel_rfl) (by simp) ?_
        refine AllReadyH.cons rfl (fun K hK => ?_) AllReadyH.nil
        go_simp
        (go_at_call 41; refine (same_yes p3 q3 r3 _).mono ?_; rintro e w3 ⟨rfl, k3⟩; replace ZB := Lib.hid (And.intro (ZB.out.1.none k3) (And.intro (k3.at ZB.out.2.1 fun h => h) (And.intro (k3.at ZB.out.2.2.1 fun h => h) (And.intro (k3.at ZB.out.2.2.2.1 fun h => h) (And.intro (k3.at ZB.out.2.2.2.2.1 fun h => h) (And.intro (k3.at ZB.out.2.2.2.2.2.1 fun h => h) (And.intro (k3.at ZB.out.2.2.2.2.2.2.1 fun h => h) (And.intro (k3.at ZB.out.2.2.2.2.2.2.2.1 fun h => h) (And.intro (k3.at ZB.out.2.2.2.2.2.2.2.2.1 fun h => h) (And.intro (k3.at ZB.out.2.2.2.2.2.2.2.2.2.1 fun h => h) (And.intro (k3.at ZB.out.2.2.2.2.2.2.2.2.2.2.1 fun h => h) (True.intro)))))))))))); clear k3)
        go_wp2_with fail
        refine hK.out _ _ ?_ (fun hHeld => ?_)
        · ((try dsimp only); exact ⟨(two_cells (ZB.out.2.1)).1, (two_cells (ZB.out.2.1)).2.1, (two_cells (ZB.out.2.2.1)).1, (two_cells (ZB.out.2.2.1)).2.1, (two_cells (ZB.out.2.2.2.1)).1, (two_cells (ZB.out.2.2.2.1)).2.1, (two_cells (ZB.out.2.2.2.2.1)).1, (two_cells (ZB.out.2.2.2.2.1)).2.1, (two_cells (ZB.out.2.2.2.2.2.1)).1, (two_cells (ZB.out.2.2.2.2.2.1)).2.1, (two_cells (ZB.out.2.2.2.2.2.2.1)).1, (two_cells (ZB.out.2.2.2.2.2.2.1)).2.1, (two_cells (ZB.out.2.2.2.2.2.2.2.1)).1, (two_cells (ZB.out.2.2.2.2.2.2.2.1)).2.1, (two_cells (ZB.out.2.2.2.2.2.2.2.2.1)).1, (two_cells (ZB.out.2.2.2.2.2.2.2.2.1)).2.1, (two_cells (ZB.out.2.2.2.2.2.2.2.2.2.1)).1, (two_cells (ZB.out.2.2.2.2.2.2.2.2.2.1)).2.1, (two_cells (ZB.out.2.2.2.2.2.2.2.2.2.2.1)).1, (two_cells (ZB.out.2.2.2.2.2.2.2.2.2.2.1)).2.1, (two_cells ZB.out.1.x1).1, (two_cells ZB.out.1.x1).2.1, (two_cells ZB.out.1.a1).1, (two_cells ZB.out.1.a1).2.1⟩)
        clear hK K
        try simp only [Act.put, List.getElem_toArray, List.getElem_cons_zero, List.getElem_cons_succ, List.setIfInBounds_toArray, List.set_cons_zero, List.set_cons_succ]
        refine wpAnyH_take (i := 18) (v := ?_) rfl (by kernel_rfl) (by kernel_rfl) (by kernel_rfl) (fun _ _ _ h => h) (Or.inl ⟨by rfl, ?_⟩) (by assumption) ?_
        rotate_left
        · (intro w hSw; (try dsimp only at hSw); go_simp; try with_reducible rfl)
        simp only [Act.put, List.getElem_toArray, List.getElem_cons_zero, List.getElem_cons_succ, List.setIfInBounds_toArray, List.set_cons_zero, List.set_cons_succ]
        refine wpAnyH_take (i := 19) (v := ?_) rfl (by kernel_rfl) (by kernel_rfl) (by kernel_rfl) (fun _ _ _ h => h) (Or.inl ⟨by rfl, ?_⟩) (by assumption) ?_
        rotate_left
        · (intro w hSw; (try dsimp only at hSw); go_simp; try with_reducible rfl)
        simp only [Act.put, List.getElem_toArray, List.getElem_cons_zero, List.getElem_cons_succ, List.setIfInBounds_toArray, List.set_cons_zero, List.set_cons_succ]
        refine wpAnyH_take (i := 20) (v := ?_) rfl (by kernel_rfl) (by kernel_rfl) (by kernel_rfl) (fun _ _ _ h => h) (Or.inl ⟨by rfl, ?_⟩) (by assumption) ?_
        rotate_left
        · (intro w hSw; (try dsimp only at hSw); go_simp; try with_reducible rfl)
        simp only [Act.put, List.getElem_toArray, List.getElem_cons_zero, List.getElem_cons_succ, List.setIfInBounds_toArray, List.set_cons_zero, List.set_cons_succ]
        refine wpAnyH_take (i := 21) (v := ?_) rfl (by kernel_rfl) (by kernel_rfl) (by kernel_rfl) (fun _ _ _ h => h) (Or.inl ⟨by rfl, ?_⟩) (by assumption) ?_
        rotate_left
        · (intro w hSw; (try dsimp only at hSw); go_simp; try with_reducible rfl)
        simp only [Act.put, List.getElem_toArray, List.getElem_cons_zero, List.getElem_cons_succ, List.setIfInBounds_toArray, List.set_cons_zero, List.set_cons_succ]
        refine wpAnyH_take (i := 22) (v := ?_) rfl (by kernel_rfl) (by kernel_rfl) (by kernel_rfl) (fun _ _ _ h => h) (Or.inl ⟨by rfl, ?_⟩) (by assumption) ?_
        rotate_left
        · (intro w hSw; (try dsimp only at hSw); go_simp; try with_reducible rfl)
        simp only [Act.put, List.getElem_toArray, List.getElem_cons_zero, List.getElem_cons_succ, List.setIfInBounds_toArray, List.set_cons_zero, List.set_cons_succ]
        refine wpAnyH_take (i := 23) (v := ?_) rfl (by kernel_rfl) (by kernel_rfl) (by kernel_rfl) (fun _ _ _ h => h) (Or.inl ⟨by rfl, ?_⟩) (by assumption) ?_
        rotate_left
        · (intro w hSw; (try dsimp only at hSw); go_simp; try with_reducible rfl)
        simp only [Act.put, List.getElem_toArray, List.getElem_cons_zero, List.getElem_cons_succ, List.setIfInBounds_toArray, List.set_cons_zero, List.set_cons_succ]
        refine wpAnyH_ready (rs := [24]) (by kernel_rfl) (by simp) ?_
        refine AllReadyH.cons rfl (fun K hK => ?_) AllReadyH.nil
        go_simp
        (go_at_call 41; refine (same_yes p4 q4 r4 _).mono ?_; rintro e w3 ⟨rfl, k3⟩; replace ZB := Lib.hid (And.intro (ZB.out.1.none k3) (And.intro (k3.at ZB.out.2.1 fun h => h) (And.intro (k3.at ZB.out.2.2.1 fun h => h) (And.intro (k3.at ZB.out.2.2.2.1 fun h => h) (And.intro (k3.at ZB.out.2.2.2.2.1 fun h => h) (And.intro (k3.at ZB.out.2.2.2.2.2.1 fun h => h) (And.intro (k3.at ZB.out.2.2.2.2.2.2.1 fun h => h) (And.intro (k3.at ZB.out.2.2.2.2.2.2.2.1 fun h => h) (And.intro (k3.at ZB.out.2.2.2.2.2.2.2.2.1 fun h => h) (And.intro (k3.at ZB.out.2.2.2.2.2.2.2.2.2.1 fun h => h) (And.intro (k3.at ZB.out.2.2.2.2.2.2.2.2.2.2.1 fun h => h) (True.intro)))))))))))); clear k3)
        go_wp2_with fail
        refine hK.out _ _ ?_ (fun hHeld => ?_)
        · ((try dsimp only); exact ⟨(two_cells (ZB.out.2.1)).1, (two_cells (ZB.out.2.1)).2.1, (two_cells (ZB.out.2.2.1)).1, (two_cells (ZB.out.2.2.1)).2.1, (two_cells (ZB.out.2.2.2.1)).1, (two_cells (ZB.out.2.2.2.1)).2.1, (two_cells (ZB.out.2.2.2.2.1)).1, (two_cells (ZB.out.2.2.2.2.1)).2.1, (two_cells (ZB.out.2.2.2.2.2.1)).1, (two_cells (ZB.out.2.2.2.2.2.1)).2.1, (two_cells (ZB.out.2.2.2.2.2.2.1)).1, (two_cells (ZB.out.2.2.2.2.2.2.1)).2.1, (two_cells (ZB.out.2.2.2.2.2.2.2.1)).1, (two_cells (ZB.out.2.2.2.2.2.2.2.1)).2.1, (two_cells (ZB.out.2.2.2.2.2.2.2.2.1)).1, (two_cells (ZB.out.2.2.2.2.2.2.2.2.1)).2.1, (two_cells (ZB.out.2.2.2.2.2.2.2.2.2.1)).1, (two_cells (ZB.out.2.2.2.2.2.2.2.2.2.1)).2.1, (two_cells (ZB.out.2.2.2.2.2.2.2.2.2.2.1)).1, (two_cells (ZB.out.2.2.2.2.2.2.2.2.2.2.1)).2.1, (two_cells ZB.out.1.x1).1, (two_cells ZB.out.1.x1).2.1, (two_cells ZB.out.1.a1).1, (two_cells ZB.out.1.a1).2.1⟩)
        clear hK K
        try simp only [Act.put, List.getElem_toArray, List.getElem_cons_zero, List.getElem_cons_succ, List.setIfInBounds_toArray, List.set_cons_zero, List.set_cons_succ]
        refine wpAnyH_take (i := 25) (v := ?_) rfl (by kernel_rfl) (by kernel_rfl) (by kernel_rfl) (fun _ _ _ h => h) (Or.inl ⟨by rfl, ?_⟩) (by assumption) ?_
        rotate_left
        · (intro w hSw; (try dsimp only at hSw); go_simp; try with_reducible rfl)
        simp only [Act.put, List.getElem_toArray, List.getElem_cons_zero, List.getElem_cons_succ, List.setIfInBounds_toArray, List.set_cons_zero, List.set_cons_succ]
        refine wpAnyH_take (i := 26) (v := ?_) rfl (by kernel_rfl) (by kernel_rfl) (by kernel_rfl) (fun _ _ _ h => h) (Or.inl ⟨by rfl, ?_⟩) (by assumption) ?_
        rotate_left
        · (intro w hSw; (try dsimp only at hSw); go_simp; try with_reducible rfl)
        simp only [Act.put, List.getElem_toArray, List.getElem_cons_zero, List.getElem_cons_succ, List.setIfInBounds_toArray, List.set_cons_zero, List.set_cons_succ]
        refine wpAnyH_take (i := 27) (v := ?_) rfl (by kernel_rfl) (by kernel_rfl) (by kernel_rfl) (fun _ _ _ h => h) (Or.inl ⟨by rfl, ?_⟩) (by assumption) ?_
        rotate_left
        · (intro w hSw; (try dsimp only at hSw); go_simp; try with_reducible rfl)
        simp only [Act.put, List.getElem_toArray, List.getElem_cons_zero, List.getElem_cons_succ, List.setIfInBounds_toArray, List.set_cons_zero, List.set_cons_succ]
        refine wpAnyH_take (i := 28) (v := ?_) rfl (by kernel_rfl) (by kernel_rfl) (by kernel_rfl) (fun _ _ _ h => h) (Or.inl ⟨by rfl, ?_⟩) (by assumption) ?_
        rotate_left
        · (intro w hSw; (try dsimp only at hSw); go_simp; try with_reducible rfl)
        simp only [Act.put, List.getElem_toArray, List.getElem_cons_zero, List.getElem_cons_succ, List.setIfInBounds_toArray, List.set_cons_zero, List.set_cons_succ]
        refine wpAnyH_take (i := 29) (v := ?_) rfl (by kernel_rfl) (by kernel_rfl) (by kernel_rfl) (fun _ _ _ h => h) (Or.inl ⟨by rfl, ?_⟩) (by assumption) ?_
        rotate_left
        · (intro w hSw; (try dsimp only at hSw); go_simp; try with_reducible rfl)
        simp only [Act.put, List.getElem_toArray, List.getElem_cons_zero, List.getElem_cons_succ, List.setIfInBounds_toArray, List.set_cons_zero, List.set_cons_succ]
        refine wpAnyH_take (i := 30) (v := ?_) rfl (by kernel_rfl) (by kernel_rfl) (by kernel_rfl) (fun _ _ _ h => h) (Or.inl ⟨by rfl, ?_⟩) (by assumption) ?_
        rotate_left
        · (intro w hSw; (try dsimp only at hSw); go_simp; try with_reducible rfl)
        simp only [Act.put, List.getElem_toArray, List.getElem_cons_zero, List.getElem_cons_succ, List.setIfInBounds_toArray, List.set_cons_zero, List.set_cons_succ]
        refine wpAnyH_ready (rs := [31]) (by kernel_rfl) (by simp) ?_
        refine AllReadyH.cons rfl (fun K hK => ?_) AllReadyH.nil
        go_simp
        (go_at_call 41; refine (same_yes p5 q5 r5 _).mono ?_; rintro e w3 ⟨rfl, k3⟩; replace ZB := Lib.hid (And.intro (ZB.out.1.none k3) (And.intro (k3.at ZB.out.2.1 fun h => h) (And.intro (k3.at ZB.out.2.2.1 fun h => h) (And.intro (k3.at ZB.out.2.2.2.1 fun h => h) (And.intro (k3.at ZB.out.2.2.2.2.1 fun h => h) (And.intro (k3.at ZB.out.2.2.2.2.2.1 fun h => h) (And.intro (k3.at ZB.out.2.2.2.2.2.2.1 fun h => h) (And.intro (k3.at ZB.out.2.2.2.2.2.2.2.1 fun h => h) (And.intro (k3.at ZB.out.2.2.2.2.2.2.2.2.1 fun h => h) (And.intro (k3.at ZB.out.2.2.2.2.2.2.2.2.2.1 fun h => h) (And.intro (k3.at ZB.out.2.2.2.2.2.2.2.2.2.2.1 fun h => h) (True.intro)))))))))))); clear k3)
        go_wp2_with fail
        refine hK.out _ _ ?_ (fun hHeld => ?_)
        · ((try dsimp only); exact ⟨(two_cells (ZB.out.2.1)).1, (two_cells (ZB.out.2.1)).2.1, (two_cells (ZB.out.2.2.1)).1, (two_cells (ZB.out.2.2.1)).2.1, (two_cells (ZB.out.2.2.2.1)).1, (two_cells (ZB.out.2.2.2.1)).2.1, (two_cells (ZB.out.2.2.2.2.1)).1, (two_cells (ZB.out.2.2.2.2.1)).2.1, (two_cells (ZB.out.2.2.2.2.2.1)).1, (two_cells (ZB.out.2.2.2.2.2.1)).2.1, (two_cells (ZB.out.2.2.2.2.2.2.1)).1, (two_cells (ZB.out.2.2.2.2.2.2.1)).2.1, (two_cells (ZB.out.2.2.2.2.2.2.2.1)).1, (two_cells (ZB.out.2.2.2.2.2.2.2.1)).2.1, (two_cells (ZB.out.2.2.2.2.2.2.2.2.1)).1, (two_cells (ZB.out.2.2.2.2.2.2.2.2.1)).2.1, (two_cells (ZB.out.2.2.2.2.2.2.2.2.2.1)).1, (two_cells (ZB.out.2.2.2.2.2.2.2.2.2.1)).2.1, (two_cells (ZB.out.2.2.2.2.2.2.2.2.2.2.1)).1, (two_cells (ZB.out.2.2.2.2.2.2.2.2.2.2.1)).2.1, (two_cells ZB.out.1.x1).1, (two_cells ZB.out.1.x1).2.1, (two_cells ZB.out.1.a1).1, (two_cells ZB.out.1.a1).2.1⟩)
        clear hK K
        try simp only [Act.put, List.getElem_toArray, List.getElem_cons_zero, List.getElem_cons_succ, List.setIfInBounds_toArray, List.set_cons_zero, List.set_cons_succ]
        refine wpAnyH_take (i := 32) (v := ?_) rfl (by kernel_rfl) (by kernel_rfl) (by kernel_rfl) (fun _ _ _ h => h) (Or.inl ⟨by rfl, ?_⟩) (by assumption) ?_
        rotate_left
        · (intro w hSw; (try dsimp only at hSw); go_simp; try with_reducible rfl)
        simp only [Act.put, List.getElem_toArray, List.getElem_cons_zero, List.getElem_cons_succ, List.setIfInBounds_toArray, List.set_cons_zero, List.set_cons_succ]
        refine wpAnyH_take (i := 33) (v := ?_) rfl (by kernel_rfl) (by kernel_rfl) (by kernel_rfl) (fun _ _ _ h => h) (Or.inl ⟨by rfl, ?_⟩) (by assumption) ?_
        rotate_left
        · (intro w hSw; (try dsimp only at hSw); go_simp; try with_reducible rfl)
        simp only [Act.put, List.getElem_toArray, List.getElem_cons_zero, List.getElem_cons_succ, List.setIfInBounds_toArray, List.set_cons_zero, List.set_cons_succ]
        refine wpAnyH_take (i := 34) (v := ?_) rfl (by kernel_rfl) (by kernel_rfl) (by kernel_rfl) (fun _ _ _ h => h) (Or.inl ⟨by rfl, ?_⟩) (by assumption) ?_
        rotate_left
        · (intro w hSw; (try dsimp only at hSw); go_simp; try with_reducible rfl)
        simp only [Act.put, List.getElem_toArray, List.getElem_cons_zero, List.getElem_cons_succ, List.setIfInBounds_toArray, List.set_cons_zero, List.set_cons_succ]
        refine wpAnyH_take (i := 36) (v := ?_) rfl (by kernel_rfl) (by kernel_rfl) (by kernel_rfl) (fun _ _ _ h => h) (Or.inl ⟨by rfl, ?_⟩) (by assumption) ?_
        rotate_left
        · (intro w hSw; (try dsimp only at hSw); go_simp; try with_reducible rfl)
        simp only [Act.put, List.getElem_toArray, List.getElem_cons_zero, List.getElem_cons_succ, List.setIfInBounds_toArray, List.set_cons_zero, List.set_cons_succ]
        refine wpAnyH_ready (rs := [35]) (by kernel_rfl) (by simp) ?_
        refine AllReadyH.cons rfl (fun K hK => ?_) AllReadyH.nil
        go_simp
        (go_at_call 42; refine (PN.out.1 _).mono ?_; rintro e w3 ⟨rfl, k3⟩; replace ZB := Lib.hid (And.intro (ZB.out.1.none k3) (And.intro (k3.at ZB.out.2.1 fun h => h) (And.intro (k3.at ZB.out.2.2.1 fun h => h) (And.intro (k3.at ZB.out.2.2.2.1 fun h => h) (And.intro (k3.at ZB.out.2.2.2.2.1 fun h => h) (And.intro (k3.at ZB.out.2.2.2.2.2.1 fun h => h) (And.intro (k3.at ZB.out.2.2.2.2.2.2.1 fun h => h) (And.intro (k3.at ZB.out.2.2.2.2.2.2.2.1 fun h => h) (And.intro (k3.at ZB.out.2.2.2.2.2.2.2.2.1 fun h => h) (And.intro (k3.at ZB.out.2.2.2.2.2.2.2.2.2.1 fun h => h) (And.intro (k3.at ZB.out.2.2.2.2.2.2.2.2.2.2.1 fun h => h) (True.intro)))))))))))); clear k3)
        go_wp2_with fail
        refine hK.out _ _ ?_ (fun hHeld => ?_)
        · ((try dsimp only); exact ⟨(two_cells (ZB.out.2.1)).1, (two_cells (ZB.out.2.1)).2.1, (two_cells (ZB.out.2.2.1)).1, (two_cells (ZB.out.2.2.1)).2.1, (two_cells (ZB.out.2.2.2.1)).1, (two_cells (ZB.out.2.2.2.1)).2.1, (two_cells (ZB.out.2.2.2.2.1)).1, (two_cells (ZB.out.2.2.2.2.1)).2.1, (two_cells (ZB.out.2.2.2.2.2.1)).1, (two_cells (ZB.out.2.2.2.2.2.1)).2.1, (two_cells (ZB.out.2.2.2.2.2.2.1)).1, (two_cells (ZB.out.2.2.2.2.2.2.1)).2.1, (two_cells (ZB.out.2.2.2.2.2.2.2.1)).1, (two_cells (ZB.out.2.2.2.2.2.2.2.1)).2.1, (two_cells (ZB.out.2.2.2.2.2.2.2.2.1)).1, (two_cells (ZB.out.2.2.2.2.2.2.2.2.1)).2.1, (two_cells (ZB.out.2.2.2.2.2.2.2.2.2.1)).1, (two_cells (ZB.out.2.2.2.2.2.2.2.2.2.1)).2.1, (two_cells (ZB.out.2.2.2.2.2.2.2.2.2.2.1)).1, (two_cells (ZB.out.2.2.2.2.2.2.2.2.2.2.1)).2.1, (two_cells ZB.out.1.x1).1, (two_cells ZB.out.1.x1).2.1, (two_cells ZB.out.1.a1).1, (two_cells ZB.out.1.a1).2.1⟩)
        clear hK K
        try simp only [Act.put, List.getElem_toArray, List.getElem_cons_zero, List.getElem_cons_succ, List.setIfInBounds_toArray, List.set_cons_zero, List.set_cons_succ]
        refine wpAnyH_ready (rs := [37]) (by kernel_rfl) (by simp) ?_
        refine AllReadyH.cons rfl (fun K hK => ?_) AllReadyH.nil
        go_simp
        (go_at_call 43; refine (PN.out.2 _).mono ?_; rintro e w3 ⟨rfl, k3⟩; replace ZB := Lib.hid (And.intro (ZB.out.1.none k3) (And.intro (k3.at ZB.out.2.1 fun h => h) (And.intro (k3.at ZB.out.2.2.1 fun h => h) (And.intro (k3.at ZB.out.2.2.2.1 fun h => h) (And.intro (k3.at ZB.out.2.2.2.2.1 fun h => h) (And.intro (k3.at ZB.out.2.2.2.2.2.1 fun h => h) (And.intro (k3.at ZB.out.2.2.2.2.2.2.1 fun h => h) (And.intro (k3.at ZB.out.2.2.2.2.2.2.2.1 fun h => h) (And.intro (k3.at ZB.out.2.2.2.2.2.2.2.2.1 fun h => h) (And.intro (k3.at ZB.out.2.2.2.2.2.2.2.2.2.1 fun h => h) (And.intro (k3.at ZB.out.2.2.2.2.2.2.2.2.2.2.1 fun h => h) (True.intro)))))))))))); clear k3)
        go_wp2_with fail
        refine hK.out _ _ ?_ (fun hHeld => ?_)
        · ((try dsimp only); exact ⟨(two_cells (ZB.out.2.1)).1, (two_cells (ZB.out.2.1)).2.1, (two_cells (ZB.out.2.2.1)).1, (two_cells (ZB.out.2.2.1)).2.1, (two_cells (ZB.out.2.2.2.1)).1, (two_cells (ZB.out.2.2.2.1)).2.1, (two_cells (ZB.out.2.2.2.2.1)).1, (two_cells (ZB.out.2.2.2.2.1)).2.1, (two_cells (ZB.out.2.2.2.2.2.1)).1, (two_cells (ZB.out.2.2.2.2.2.1)).2.1, (two_cells (ZB.out.2.2.2.2.2.2.1)).1, (two_cells (ZB.out.2.2.2.2.2.2.1)).2.1, (two_cells (ZB.out.2.2.2.2.2.2.2.1)).1, (two_cells (ZB.out.2.2.2.2.2.2.2.1)).2.1, (two_cells (ZB.out.2.2.2.2.2.2.2.2.1)).1, (two_cells (ZB.out.2.2.2.2.2.2.2.2.1)).2.1, (two_cells (ZB.out.2.2.2.2.2.2.2.2.2.1)).1, (two_cells (ZB.out.2.2.2.2.2.2.2.2.2.1)).2.1, (two_cells (ZB.out.2.2.2.2.2.2.2.2.2.2.1)).1, (two_cells (ZB.out.2.2.2.2.2.2.2.2.2.2.1)).2.1, (two_cells ZB.out.1.x1).1, (two_cells ZB.out.1.x1).2.1, (two_cells ZB.out.1.a1).1, (two_cells ZB.out.1.a1).2.1⟩)
        clear hK K
        try simp only [Act.put, List.getElem_toArray, List.getElem_cons_zero, List.getElem_cons_succ, List.setIfInBounds_toArray, List.set_cons_zero, List.set_cons_succ]
        refine wpAnyH_take (i := 38) (v := ?_) rfl (by kernel_rfl) (by kernel_rfl) (by kernel_rfl) (fun _ _ _ h => h) (Or.inl ⟨by rfl, ?_⟩) (by assumption) ?_
        rotate_left
        · (intro w hSw; (try dsimp only at hSw); go_simp; try with_reducible rfl)
        simp only [Act.put, List.getElem_toArray, List.getElem_cons_zero, List.getElem_cons_succ, List.setIfInBounds_toArray, List.set_cons_zero, List.set_cons_succ]
        refine wpAnyH_take (i := 39) (v := ?_) rfl (by kernel_rfl) (by kernel_rfl) (by kernel_rfl) (fun _ _ _ h => h) (Or.inl ⟨by rfl, ?_⟩) (by assumption) ?_
        rotate_left
        · (intro w hSw; (try dsimp only at hSw); go_simp; try with_reducible rfl)
        simp only [Act.put, List.getElem_toArray, List.getElem_cons_zero, List.getElem_cons_succ, List.setIfInBounds_toArray, List.set_cons_zero, List.set_cons_succ]
        refine wpAnyH_take (i := 40) (v := ?_) rfl (by kernel_rfl) (by kernel_rfl) (by kernel_rfl) (fun _ _ _ h => h) (Or.inl ⟨by rfl, ?_⟩) (by assumption) ?_
        rotate_left
        · (intro w hSw; (try dsimp only at hSw); go_simp; try with_reducible rfl)
        simp only [Act.put, List.getElem_toArray, List.getElem_cons_zero, List.getElem_cons_succ, List.setIfInBounds_toArray, List.set_cons_zero, List.set_cons_succ]
        refine wpAnyH_take (i := 41) (v := ?_) rfl (by kernel_rfl) (by kernel_rfl) (by kernel_rfl) (fun _ _ _ h => h) (Or.inl ⟨by rfl, ?_⟩) (by assumption) ?_
        rotate_left
        · (intro w hSw; (try dsimp only at hSw); go_simp; try with_reducible rfl)
        simp only [Act.put, List.getElem_toArray, List.getElem_cons_zero, List.getElem_cons_succ, List.setIfInBounds_toArray, List.set_cons_zero, List.set_cons_succ]
        refine wpAnyH_take (i := 43) (v := ?_) rfl (by kernel_rfl) (by kernel_rfl) (by kernel_rfl) (fun _ _ _ h => h) (Or.inl ⟨by rfl, ?_⟩) (by assumption) ?_
        rotate_left
        · (intro w hSw; (try dsimp only at hSw); go_simp; try with_reducible rfl)
        simp only [Act.put, List.getElem_toArray, List.getElem_cons_zero, List.getElem_cons_succ, List.setIfInBounds_toArray, List.set_cons_zero, List.set_cons_succ]
        refine wpAnyH_ready (rs := [42]) (by kernel_rfl) (by simp) ?_
        refine AllReadyH.cons rfl (fun K hK => ?_) AllReadyH.nil
        go_simp
        (go_at_call 44; refine (right_any a b _).mono ?_; rintro e w3 ⟨rfl, k3⟩; replace ZB := Lib.hid (And.intro (ZB.out.1.none k3) (And.intro (k3.at ZB.out.2.1 fun h => h) (And.intro (k3.at ZB.out.2.2.1 fun h => h) (And.intro (k3.at ZB.out.2.2.2.1 fun h => h) (And.intro (k3.at ZB.out.2.2.2.2.1 fun h => h) (And.intro (k3.at ZB.out.2.2.2.2.2.1 fun h => h) (And.intro (k3.at ZB.out.2.2.2.2.2.2.1 fun h => h) (And.intro (k3.at ZB.out.2.2.2.2.2.2.2.1 fun h => h) (And.intro (k3.at ZB.out.2.2.2.2.2.2.2.2.1 fun h => h) (And.intro (k3.at ZB.out.2.2.2.2.2.2.2.2.2.1 fun h => h) (And.intro (k3.at ZB.out.2.2.2.2.2.2.2.2.2.2.1 fun h => h) (True.intro)))))))))))); clear k3)
        go_wp2_with fail
        refine hK.out _ _ ?_ (fun hHeld => ?_)
        · ((try dsimp only); exact ⟨(two_cells (ZB.out.2.1)).1, (two_cells (ZB.out.2.1)).2.1, (two_cells (ZB.out.2.2.1)).1, (two_cells (ZB.out.2.2.1)).2.1, (two_cells (ZB.out.2.2.2.1)).1, (two_cells (ZB.out.2.2.2.1)).2.1, (two_cells (ZB.out.2.2.2.2.1)).1, (two_cells (ZB.out.2.2.2.2.1)).2.1, (two_cells (ZB.out.2.2.2.2.2.1)).1, (two_cells (ZB.out.2.2.2.2.2.1)).2.1, (two_cells (ZB.out.2.2.2.2.2.2.1)).1, (two_cells (ZB.out.2.2.2.2.2.2.1)).2.1, (two_cells (ZB.out.2.2.2.2.2.2.2.1)).1, (two_cells (ZB.out.2.2.2.2.2.2.2.1)).2.1, (two_cells (ZB.out.2.2.2.2.2.2.2.2.1)).1, (two_cells (ZB.out.2.2.2.2.2.2.2.2.1)).2.1, (two_cells (ZB.out.2.2.2.2.2.2.2.2.2.1)).1, (two_cells (ZB.out.2.2.2.2.2.2.2.2.2.1)).2.1, (two_cells (ZB.out.2.2.2.2.2.2.2.2.2.2.1)).1, (two_cells (ZB.out.2.2.2.2.2.2.2.2.2.2.1)).2.1, (two_cells ZB.out.1.x1).1, (two_cells ZB.out.1.x1).2.1, (two_cells ZB.out.1.a1).1, (two_cells ZB.out.1.a1).2.1⟩)
        clear hK K
        try simp only [Act.put, List.getElem_toArray, List.getElem_cons_zero, List.getElem_cons_succ, List.setIfInBounds_toArray, List.set_cons_zero, List.set_cons_succ]
        refine wpAnyH_ready (rs := [44]) (by kernel_rfl) (by simp) ?_
        refine AllReadyH.cons rfl (fun K hK => ?_) AllReadyH.nil
        go_simp
        (go_at_call 45; refine (rright_any a b _).mono ?_; rintro e w3 ⟨rfl, k3⟩; replace ZB := Lib.hid (And.intro (ZB.out.1.none k3) (And.intro (k3.at ZB.out.2.1 fun h => h) (And.intro (k3.at ZB.out.2.2.1 fun h => h) (And.intro (k3.at ZB.out.2.2.2.1 fun h => h) (And.intro (k3.at ZB.out.2.2.2.2.1 fun h => h) (And.intro (k3.at ZB.out.2.2.2.2.2.1 fun h => h) (And.intro (k3.at ZB.out.2.2.2.2.2.2.1 fun h => h) (And.intro (k3.at ZB.out.2.2.2.2.2.2.2.1 fun h => h) (And.intro (k3.at ZB.out.2.2.2.2.2.2.2.2.1 fun h => h) (And.intro (k3.at ZB.out.2.2.2.2.2.2.2.2.2.1 fun h => h) (And.intro (k3.at ZB.out.2.2.2.2.2.2.2.2.2.2.1 fun h => h) (True.intro)))))))))))); clear k3)
        go_wp2_with fail
        refine hK.out _ _ ?_ (fun hHeld => ?_)
        · ((try dsimp only); exact ⟨(two_cells (ZB.out.2.1)).1, (two_cells (ZB.out.2.1)).2.1, (two_cells (ZB.out.2.2.1)).1, (two_cells (ZB.out.2.2.1)).2.1, (two_cells (ZB.out.2.2.2.1)).1, (two_cells (ZB.out.2.2.2.1)).2.1, (two_cells (ZB.out.2.2.2.2.1)).1, (two_cells (ZB.out.2.2.2.2.1)).2.1, (two_cells (ZB.out.2.2.2.2.2.1)).1, (two_cells (ZB.out.2.2.2.2.2.1)).2.1, (two_cells (ZB.out.2.2.2.2.2.2.1)).1, (two_cells (ZB.out.2.2.2.2.2.2.1)).2.1, (two_cells (ZB.out.2.2.2.2.2.2.2.1)).1, (two_cells (ZB.out.2.2.2.2.2.2.2.1)).2.1, (two_cells (ZB.out.2.2.2.2.2.2.2.2.1)).1, (two_cells (ZB.out.2.2.2.2.2.2.2.2.1)).2.1, (two_cells (ZB.out.2.2.2.2.2.2.2.2.2.1)).1, (two_cells (ZB.out.2.2.2.2.2.2.2.2.2.1)).2.1, (two_cells (ZB.out.2.2.2.2.2.2.2.2.2.2.1)).1, (two_cells (ZB.out.2.2.2.2.2.2.2.2.2.2.1)).2.1, (two_cells ZB.out.1.x1).1, (two_cells ZB.out.1.x1).2.1, (two_cells ZB.out.1.a1).1, (two_cells ZB.out.1.a1).2.1⟩)
        clear hK K
        try simp only [Act.put, List.getElem_toArray, List.getElem_cons_zero, List.getElem_cons_succ, List.setIfInBounds_toArray, List.set_cons_zero, List.set_cons_succ]
        refine wpAnyH_take (i := 45) (v := ?_) rfl (by kernel_rfl) (by kernel_rfl) (by kernel_rfl) (fun _ _ _ h => h) (Or.inl ⟨by rfl, ?_⟩) (by assumption) ?_
        rotate_left
        · (intro w hSw; (try dsimp only at hSw); go_simp; try with_reducible rfl)
        simp only [Act.put, List.getElem_toArray, List.getElem_cons_zero, List.getElem_cons_succ, List.setIfInBounds_toArray, List.set_cons_zero, List.set_cons_succ]
        refine wpAnyH_take (i := 46) (v := ?_) rfl (by kernel_rfl) (by kernel_rfl) (by kernel_rfl) (fun _ _ _ h => h) (Or.inl ⟨by rfl, ?_⟩) (by assumption) ?_
        rotate_left
        · (intro w hSw; (try dsimp only at hSw); go_simp; try with_reducible rfl)
        simp only [Act.put, List.getElem_toArray, List.getElem_cons_zero, List.getElem_cons_succ, List.setIfInBounds_toArray, List.set_cons_zero, List.set_cons_succ]
        refine wpAnyH_take (i := 47) (v := ?_) rfl (by kernel_rfl) (by kernel_rfl) (by kernel_rfl) (fun _ _ _ h => h) (Or.inl ⟨by rfl, ?_⟩) (by assumption) ?_
        rotate_left
        · (intro w hSw; (try dsimp only at hSw); go_simp; try with_reducible rfl)
        simp only [Act.put, List.getElem_toArray, List.getElem_cons_zero, List.getElem_cons_succ, List.setIfInBounds_toArray, List.set_cons_zero, List.set_cons_succ]
        refine wpAnyH_ready (rs := [48]) (by kernel_rfl) (by simp) ?_
        refine AllReadyH.cons rfl (fun K hK => ?_) AllReadyH.nil
        go_simp
        (go_at_call 30; refine (alive04_any _).mono ?_; rintro e w3 ⟨rfl, k3⟩; replace ZB := Lib.hid (And.intro (ZB.out.1.none k3) (And.intro (k3.at ZB.out.2.1 fun h => h) (And.intro (k3.at ZB.out.2.2.1 fun h => h) (And.intro (k3.at ZB.out.2.2.2.1 fun h => h) (And.intro (k3.at ZB.out.2.2.2.2.1 fun h => h) (And.intro (k3.at ZB.out.2.2.2.2.2.1 fun h => h) (And.intro (k3.at ZB.out.2.2.2.2.2.2.1 fun h => h) (And.intro (k3.at ZB.out.2.2.2.2.2.2.2.1 fun h => h) (And.intro (k3.at ZB.out.2.2.2.2.2.2.2.2.1 fun h => h) (And.intro (k3.at ZB.out.2.2.2.2.2.2.2.2.2.1 fun h => h) (And.intro (k3.at ZB.out.2.2.2.2.2.2.2.2.2.2.1 fun h => h) (True.intro)))))))))))); clear k3)
        go_wp2_with fail
        refine hK.out _ _ ?_ (fun hHeld => ?_)
        · ((try dsimp only); exact ⟨(two_cells (ZB.out.2.1)).1, (two_cells (ZB.out.2.1)).2.1, (two_cells (ZB.out.2.2.1)).1, (two_cells (ZB.out.2.2.1)).2.1, (two_cells (ZB.out.2.2.2.1)).1, (two_cells (ZB.out.2.2.2.1)).2.1, (two_cells (ZB.out.2.2.2.2.1)).1, (two_cells (ZB.out.2.2.2.2.1)).2.1, (two_cells (ZB.out.2.2.2.2.2.1)).1, (two_cells (ZB.out.2.2.2.2.2.1)).2.1, (two_cells (ZB.out.2.2.2.2.2.2.1)).1, (two_cells (ZB.out.2.2.2.2.2.2.1)).2.1, (two_cells (ZB.out.2.2.2.2.2.2.2.1)).1, (two_cells (ZB.out.2.2.2.2.2.2.2.1)).2.1, (two_cells (ZB.out.2.2.2.2.2.2.2.2.1)).1, (two_cells (ZB.out.2.2.2.2.2.2.2.2.1)).2.1, (two_cells (ZB.out.2.2.2.2.2.2.2.2.2.1)).1, (two_cells (ZB.out.2.2.2.2.2.2.2.2.2.1)).2.1, (two_cells (ZB.out.2.2.2.2.2.2.2.2.2.2.1)).1, (two_cells (ZB.out.2.2.2.2.2.2.2.2.2.2.1)).2.1, (two_cells ZB.out.1.x1).1, (two_cells ZB.out.1.x1).2.1, (two_cells ZB.out.1.a1).1, (two_cells ZB.out.1.a1).2.1⟩)
        clear hK K
        try simp only [Act.put, List.getElem_toArray, List.getElem_cons_zero, List.getElem_cons_succ, List.setIfInBounds_toArray, List.set_cons_zero, List.set_cons_succ]
        refine wpAnyH_take (i := 49) (v := ?_) rfl (by kernel_rfl) (by kernel_rfl) (by kernel_rfl) (fun _ _ _ h => h) (Or.inl ⟨by rfl, ?_⟩) (by assumption) ?_
        rotate_left
        · (intro w hSw; (try dsimp only at hSw); go_simp; try with_reducible rfl)
        simp only [Act.put, List.getElem_toArray, List.getElem_cons_zero, List.getElem_cons_succ, List.setIfInBounds_toArray, List.set_cons_zero, List.set_cons_succ]
        refine wpAnyH_take (i := 50) (v := ?_) rfl (by kernel_rfl) (by kernel_rfl) (by kernel_rfl) (fun _ _ _ h => h) (Or.inl ⟨by rfl, ?_⟩) (by assumption) ?_
        rotate_left
        · (intro w hSw; (try dsimp only at hSw); go_simp; try with_reducible rfl)
        simp only [Act.put, List.getElem_toArray, List.getElem_cons_zero, List.getElem_cons_succ, List.setIfInBounds_toArray, List.set_cons_zero, List.set_cons_succ]
        refine wpAnyH_done (by kernel_rfl) ?_ _
        refine NoPanic.normal ?_
        go_wp2
        go_ret
        exact ⟨rfl, ZB.out.1.keeps⟩
end Go.Proofs.Ytlpnobpgphmngaa
