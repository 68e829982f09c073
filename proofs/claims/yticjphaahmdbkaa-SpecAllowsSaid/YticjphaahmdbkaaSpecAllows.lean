import Derived.Test.YticjphaahmdbkaaSpecQz
import Derived.Test.YticjphaahmdbkaaRefWz
namespace Go.Proofs.Yticjphaahmdbkaa
open Go.ChangeShapes Go.WideShapes Go.ChangeAt Go.RowKit
set_option linter.unusedVariables false
set_option linter.unusedSimpArgs false
theorem call_info9 : (Try.prog.info? 28).map (·.size) = some 7 := by kernel_rfl
set_option maxRecDepth 20000 in
set_option maxHeartbeats 16000000 in
theorem sallows_light (w : World) (oa : Option Addr) (n0 oc : Nat) (Os : List ObjX) (ho : ObjsArg w oa n0 Os) (hn0 : n0 ≤ 8) (ca : Option Addr) (n1 cc : Nat) (Cs : List CallX) (hc : CallsArg w ca n1 Cs) (hn1 : n1 ≤ 60) (cx : CallX) (hx : cx.Ok) (r : ResD) :
    Calls Try.prog 3 #[.slice oa n0 oc, .slice ca n1 cc, .agg #[.int .i64 cx.k, .int .i64 cx.o, .int .u32 cx.v.a, .int .u32 cx.v.b, .int .u32 cx.v.c, .int .u32 cx.v.d, .int .u32 cx.n], .agg #[.int .i64 r.f, .int .u32 r.v.a, .int .u32 r.v.b, .int .u32 r.v.c, .int .u32 r.v.d]] w fun e w' => e = .returned (.bool true) ∧ Below w.heap.size w w' := by
  have HH := Lib.hid (And.intro ho (And.intro hc (And.intro hx (startP_ok ho.ok))))
  have HLN := Lib.hid (show (startP Os).length = n0 by unfold startP; rw [List.length_map]; exact ho.len)
  have hlo := ho.len
  have HB0 := Lib.hid (show Below w.heap.size w ((w.alloc (.cells #[.int .i64 cx.k, .int .i64 cx.o, .int .u32 cx.v.a, .int .u32 cx.v.b, .int .u32 cx.v.c, .int .u32 cx.v.d, .int .u32 cx.n] 28)).alloc (.cells #[.int .i64 r.f, .int .u32 r.v.a, .int .u32 r.v.b, .int .u32 r.v.c, .int .u32 r.v.d] 31)) from ((Below.refl _ w).alloc (Nat.le_refl _) _).alloc (by simp) _)
  have HS0 := Lib.hid (show Has w ((w.alloc (.cells #[.int .i64 cx.k, .int .i64 cx.o, .int .u32 cx.v.a, .int .u32 cx.v.b, .int .u32 cx.v.c, .int .u32 cx.v.d, .int .u32 cx.n] 28)).alloc (.cells #[.int .i64 r.f, .int .u32 r.v.a, .int .u32 r.v.b, .int .u32 r.v.c, .int .u32 r.v.d] 31)) [(w.heap.size + 1, .cells #[.int .i64 r.f, .int .u32 r.v.a, .int .u32 r.v.b, .int .u32 r.v.c, .int .u32 r.v.d] 31 (0, 0)), (w.heap.size, .cells #[.int .i64 cx.k, .int .i64 cx.o, .int .u32 cx.v.a, .int .u32 cx.v.b, .int .u32 cx.v.c, .int .u32 cx.v.d, .int .u32 cx.n] 28 (0, 0))] from (((Has.start w).alloc (.cells #[.int .i64 cx.k, .int .i64 cx.o, .int .u32 cx.v.a, .int .u32 cx.v.b, .int .u32 cx.v.c, .int .u32 cx.v.d, .int .u32 cx.n] 28)).alloc (.cells #[.int .i64 r.f, .int .u32 r.v.a, .int .u32 r.v.b, .int .u32 r.v.c, .int .u32 r.v.d] 31)).eq (by simp))
  have HSZ := Lib.hid (show ((w.alloc (.cells #[.int .i64 cx.k, .int .i64 cx.o, .int .u32 cx.v.a, .int .u32 cx.v.b, .int .u32 cx.v.c, .int .u32 cx.v.d, .int .u32 cx.n] 28)).alloc (.cells #[.int .i64 r.f, .int .u32 r.v.a, .int .u32 r.v.b, .int .u32 r.v.c, .int .u32 r.v.d] 31)).heap.size = w.heap.size + 2 by rw [World.size_alloc, World.size_alloc])
  have d1 : decide (8 < n0) = false := decide_eq_false (by omega)
  have d1' : decide ((8 : Int) < (n0 : Int)) = false := decide_eq_false (by omega)
  have d2 : decide (60 < n1) = false := decide_eq_false (by omega)
  have d2' : decide ((60 : Int) < (n1 : Int)) = false := decide_eq_false (by omega)
  have HN := Lib.hid (And.intro hn0 hn1)
  clear ho hc hx hlo
  go_enter Try.func3, Try.ntmps3
  go_wp2_with fail
  generalize ((w.alloc (.cells #[.int .i64 cx.k, .int .i64 cx.o, .int .u32 cx.v.a, .int .u32 cx.v.b, .int .u32 cx.v.c, .int .u32 cx.v.d, .int .u32 cx.n] 28)).alloc (.cells #[.int .i64 r.f, .int .u32 r.v.a, .int .u32 r.v.b, .int .u32 r.v.c, .int .u32 r.v.d] 31)) = X at *
  have HC := Lib.hid (show ∀ W, Below X.heap.size X W → W.rangeAt w.heap.size 0 [.int .i64 cx.k, .int .i64 cx.o, .int .u32 cx.v.a, .int .u32 cx.v.b, .int .u32 cx.v.c, .int .u32 cx.v.d, .int .u32 cx.n] from fun W hW => range_heap (Below.at hW (HS0.out.at 1 rfl) (by rw [HSZ.out]; omega)) rfl)
  have HR := Lib.hid (show ∀ W, Below X.heap.size X W → W.rangeAt (w.heap.size + 1) 0 [.int .i64 r.f, .int .u32 r.v.a, .int .u32 r.v.b, .int .u32 r.v.c, .int .u32 r.v.d] from fun W hW => range_heap (Below.at hW (HS0.out.at 0 rfl) (by rw [HSZ.out]; omega)) rfl)
  have HHX := Lib.hid (And.intro (HH.out.1.below HB0.out) (HH.out.2.1.below HB0.out))
  refine (start_any X oa n0 oc Os HHX.out.1 (by omega)).mono ?_
  rintro e1 w1 ⟨b1, g1, rfl, hs1⟩
  have HB1 := Lib.hid b1
  have HS1 := Lib.hid hs1
  have HO1 := Lib.hid (HHX.out.1.below b1)
  clear b1 hs1
  go_wp2_with fail
  refine (rstart_any w1 oa n0 oc Os HO1.out (by omega)).mono ?_
  rintro e2 w2 ⟨b2, a2, c2, rfl, hs2⟩
  have HB2 := Lib.hid (HB1.out.trans (b2.mono HB1.out.size))
  have HSR := Lib.hid hs2
  have HS2 := Lib.hid (HS1.out.below b2)
  clear b2 hs2 HS1 HO1 HB1
  go_wp2_with fail
  go_loopw [9, 10, 11] (fun s t i wr => ∃ (q : Nat) (L : List ItemD) (g cap : Nat) (a : Option Addr) (c : Nat), q ≤ n1 ∧ i = .int .i64 (q : Int) ∧ s = .slice (some ⟨g, 0, none⟩) n0 cap ∧ t = .slice a n0 c ∧ StateAt wr g L ∧ StateR wr a L ∧ (∀ y, y ∈ L → y.Ok) ∧ L.length = n0 ∧ Below X.heap.size X wr) (fun _ _ i _ => n1 - (intOf i).toNat)
  case atStart => exact ⟨0, startP Os, g1, n0, a2, c2, by omega, rfl, rfl, rfl, HS2.out, HSR.out, HH.out.2.2.2, HLN.out, HB2.out⟩
  case round =>
    clear HS2 HSR HB2
    obtain ⟨q, L, g, cap, a, c, hq, rfl, rfl, rfl, hst, hsr, hok, hlen, hB⟩ := hrel
    have HS := Lib.hid (And.intro hst (And.intro hsr (And.intro hok (And.intro hlen hB))))
    clear hst hsr hok hlen hB
    have hn1000 : L.length ≤ 1000 := by rw [HS.out.2.2.2.1]; omega
    by_cases hlt : q < n1
    · obtain ⟨cb, coff, rfl, hcb, hcc⟩ := HHX.out.2.lies (by omega)
      have hclen := HHX.out.2.len
      obtain ⟨y, hy⟩ : ∃ y, Cs[q]? = some y := ⟨_, List.getElem?_eq_getElem (by omega)⟩
      have hyo := HHX.out.2.ok y (List.mem_of_getElem? hy)
      have HY := Lib.hid (show ∀ W, Below X.heap.size X W → W.rangeAt cb (coff + q * 7) (callX y) from fun W hW => range_below (hcc q y hy) hW hcb)
      have HD := Lib.hid (do_any wr g cap L HS.out.1 HS.out.2.2.1 hn1000 y.k y.o y.n y.v hyo.v)
      have HDR := Lib.hid (fun W a' c' h => rdo_any W a' c' L h HS.out.2.2.1 hn1000 y.k y.o y.n hyo.k y.v hyo.v)
      have HDO := Lib.hid (And.intro (doP_ok y.k y.o HS.out.2.2.1 hyo.v) ((doP_len L y.k y.o y.v).trans HS.out.2.2.2.1))
      rw [HS.out.2.2.2.1] at HD HDR
      have f1 : decide (q < n1) = true := decide_eq_true hlt
      have f2 : decide ((q : Int) < (n1 : Int)) = true := decide_eq_true (by omega)
      clear hclen hy hyo hcc hn1000
      generalize doP L y.k y.o y.v = DP at *
      obtain ⟨L5, d5⟩ := DP
      go_wp2_with (refine wpList_load_mid rfl 28 (.tmp 43) rfl cb (coff + q * 7) rfl (callX y) _ (HY.out _ HS.out.2.2.2.2) Try.underlying28 rfl call_info9 ?_)
      refine HD.out.mono ?_
      rintro e5 w5 ⟨b5, g5, c5, rfl, hs5⟩
      have HB5 := Lib.hid (HS.out.2.2.2.2.trans (b5.mono HS.out.2.2.2.2.size))
      have HS5 := Lib.hid hs5
      have HR5 := Lib.hid (HS.out.2.1.below b5)
      clear b5 hs5
      go_wp2_with (refine wpList_load_mid rfl 28 (.tmp 52) rfl cb (coff + q * 7) rfl (callX y) _ (HY.out _ HB5.out) Try.underlying28 rfl call_info9 ?_)
      refine (HDR.out _ _ _ HR5.out).mono ?_
      rintro e6 w6 ⟨b6, ⟨a6, c6, rfl, hs6⟩⟩
      have HB6 := Lib.hid (HB5.out.trans (b6.mono HB5.out.size))
      have HS6 := Lib.hid (HS5.out.below b6)
      have HR6 := Lib.hid hs6
      clear b6 hs6
      go_wp2_with fail
      go_roundw
      case rel => exact ⟨q + 1, L5, g5, c5, a6, c6, by omega, by go_num, rfl, rfl, HS6.out, HR6.out, HDO.out.1, HDO.out.2, HB6.out⟩
      case measure => simp [intOf]; omega
    · obtain rfl : q = n1 := by omega
      have f1 : decide (q < q) = false := decide_eq_false (by omega)
      have HAL := Lib.hid (allows_any wr g cap L HS.out.1 HS.out.2.2.1 hn1000 cx.k cx.o cx.n cx.v HH.out.2.2.1.v r)
      have HRA := Lib.hid (fun W a' c' h => rallows_any W a' c' L h HS.out.2.2.1 hn1000 cx.k cx.o cx.n HH.out.2.2.1.k cx.v HH.out.2.2.1.v r)
      have HD := Lib.hid (fun W (h : StateAt W g L) => do_any W g cap L h HS.out.2.2.1 hn1000 cx.k cx.o cx.n cx.v HH.out.2.2.1.v)
      have HAS := Lib.hid (fun W (h : StateAt W g L) => allows_any W g cap L h HS.out.2.2.1 hn1000 cx.k cx.o cx.n cx.v HH.out.2.2.1.v (doP L cx.k cx.o cx.v).2)
      rw [allowsP_self] at HAS
      have HAO := Lib.hid (And.intro (allowsP_ok cx.k cx.o r HS.out.2.2.1 HH.out.2.2.1.v) ((allowsP_len L cx.k cx.o cx.v r).trans HS.out.2.2.2.1))
      rw [HS.out.2.2.2.1] at HAL HRA HD HAS
      clear hn1000
      generalize doP L cx.k cx.o cx.v = DP at *
      obtain ⟨L5, d5⟩ := DP
      generalize allowsP L cx.k cx.o cx.v r = AP at *
      obtain ⟨L6, m6⟩ := AP
      go_wp2_with (first
        | (refine wpList_load_mid rfl 28 (.tmp 6) rfl w.heap.size 0 rfl [.int .i64 cx.k, .int .i64 cx.o, .int .u32 cx.v.a, .int .u32 cx.v.b, .int .u32 cx.v.c, .int .u32 cx.v.d, .int .u32 cx.n] _ (HC.out _ HS.out.2.2.2.2) Try.underlying28 rfl call_info9 ?_)
        | (refine wpList_load_mid rfl 31 (.tmp 7) rfl (w.heap.size + 1) 0 rfl [.int .i64 r.f, .int .u32 r.v.a, .int .u32 r.v.b, .int .u32 r.v.c, .int .u32 r.v.d] _ (HR.out _ HS.out.2.2.2.2) Try.underlying31 rfl res_info9 ?_))
      refine HAL.out.mono ?_
      rintro e5 w5 ⟨b5, g5, c5, rfl, hs5⟩
      have HB5 := Lib.hid (HS.out.2.2.2.2.trans (b5.mono HS.out.2.2.2.2.size))
      have HS5 := Lib.hid hs5
      have HR5 := Lib.hid (HS.out.2.1.below b5)
      have HW5 := Lib.hid (HS.out.1.below b5)
      clear b5 hs5
      go_wp2_with (first
        | (refine wpList_load_mid rfl 28 (.tmp 6) rfl w.heap.size 0 rfl [.int .i64 cx.k, .int .i64 cx.o, .int .u32 cx.v.a, .int .u32 cx.v.b, .int .u32 cx.v.c, .int .u32 cx.v.d, .int .u32 cx.n] _ (HC.out _ HB5.out) Try.underlying28 rfl call_info9 ?_)
        | (refine wpList_load_mid rfl 31 (.tmp 7) rfl (w.heap.size + 1) 0 rfl [.int .i64 r.f, .int .u32 r.v.a, .int .u32 r.v.b, .int .u32 r.v.c, .int .u32 r.v.d] _ (HR.out _ HB5.out) Try.underlying31 rfl res_info9 ?_))
      refine (HRA.out _ _ _ HR5.out).mono ?_
      rintro e6 w6 ⟨b6, ⟨a6, c6, rfl, hs6⟩⟩
      have HB6 := Lib.hid (HB5.out.trans (b6.mono HB5.out.size))
      have HR6 := Lib.hid hs6
      have HS6 := Lib.hid (HS5.out.below b6)
      have HW6 := Lib.hid (HW5.out.below b6)
      clear b6 hs6
      go_wp2_with (first
        | (refine wpList_load_mid rfl 28 (.tmp 6) rfl w.heap.size 0 rfl [.int .i64 cx.k, .int .i64 cx.o, .int .u32 cx.v.a, .int .u32 cx.v.b, .int .u32 cx.v.c, .int .u32 cx.v.d, .int .u32 cx.n] _ (HC.out _ HB6.out) Try.underlying28 rfl call_info9 ?_)
        | (refine wpList_load_mid rfl 31 (.tmp 7) rfl (w.heap.size + 1) 0 rfl [.int .i64 r.f, .int .u32 r.v.a, .int .u32 r.v.b, .int .u32 r.v.c, .int .u32 r.v.d] _ (HR.out _ HB6.out) Try.underlying31 rfl res_info9 ?_))
      refine (HD.out _ HW6.out).mono ?_
      rintro e7 w7 ⟨b7, g7, c7, rfl, hs7⟩
      have HB7 := Lib.hid (HB6.out.trans (b7.mono HB6.out.size))
      have HR7 := Lib.hid (HR6.out.below b7)
      have HS7 := Lib.hid (HS6.out.below b7)
      have HW7 := Lib.hid (HW6.out.below b7)
      clear b7 hs7
      have HB8 := Lib.hid (show Below X.heap.size X (w7.alloc (.cells #[.int .i64 d5.f, .int .u32 d5.v.a, .int .u32 d5.v.b, .int .u32 d5.v.c, .int .u32 d5.v.d] 31)) from HB7.out.alloc HB7.out.size _)
      have b8 := (Below.refl w7.heap.size w7).alloc (Nat.le_refl _) (.cells #[.int .i64 d5.f, .int .u32 d5.v.a, .int .u32 d5.v.b, .int .u32 d5.v.c, .int .u32 d5.v.d] 31)
      have HR8 := Lib.hid (HR7.out.below b8)
      have HS8 := Lib.hid (HS7.out.below b8)
      have HW8 := Lib.hid (HW7.out.below b8)
      have HD8 := Lib.hid (heap_new w7 (.cells #[.int .i64 d5.f, .int .u32 d5.v.a, .int .u32 d5.v.b, .int .u32 d5.v.c, .int .u32 d5.v.d] 31))
      clear b8
      have HDR8 := Lib.hid (range_heap (L := [.int .i64 d5.f, .int .u32 d5.v.a, .int .u32 d5.v.b, .int .u32 d5.v.c, .int .u32 d5.v.d]) HD8.out rfl)
      go_wp2_with (first
        | (refine wpList_load_mid rfl 28 (.tmp 6) rfl w.heap.size 0 rfl [.int .i64 cx.k, .int .i64 cx.o, .int .u32 cx.v.a, .int .u32 cx.v.b, .int .u32 cx.v.c, .int .u32 cx.v.d, .int .u32 cx.n] _ (HC.out _ HB8.out) Try.underlying28 rfl call_info9 ?_)
        | (refine wpList_load_mid rfl 31 (.tmp 17) rfl w7.heap.size 0 rfl [.int .i64 d5.f, .int .u32 d5.v.a, .int .u32 d5.v.b, .int .u32 d5.v.c, .int .u32 d5.v.d] _ HDR8.out Try.underlying31 rfl res_info9 ?_)
        | (refine wpList_load_mid rfl 31 (.tmp 7) rfl (w.heap.size + 1) 0 rfl [.int .i64 r.f, .int .u32 r.v.a, .int .u32 r.v.b, .int .u32 r.v.c, .int .u32 r.v.d] _ (HR.out _ HB8.out) Try.underlying31 rfl res_info9 ?_))
      refine (HAS.out _ HW8.out).mono ?_
      rintro e9 w9 ⟨b9, g9, c9, rfl, hs9⟩
      have HB9 := Lib.hid (HB8.out.trans (b9.mono HB8.out.size))
      have HR9 := Lib.hid (HR8.out.below b9)
      have HS9 := Lib.hid (HS8.out.below b9)
      clear b9 hs9
      have dmm : (m6 == m6) = true := by cases m6 <;> rfl
      go_wp2_with fail
      have HBK := Lib.hid (back_any w9 g5 c5 L6 HS9.out (by rw [HAO.out.2]; omega))
      rw [HAO.out.2] at HBK
      refine HBK.out.mono ?_
      rintro ea wa ⟨ba, aa, ca, rfl, hsa⟩
      have HBa := Lib.hid (HB9.out.trans (ba.mono HB9.out.size))
      have HRa := Lib.hid (HR9.out.below ba)
      have HSM := Lib.hid (rsame_any wa aa ca a6 c6 L6 hsa HRa.out (by rw [HAO.out.2]; omega) (fun x hx => (HAO.out.1 x hx).len))
      rw [HAO.out.2] at HSM
      clear ba hsa
      go_wp2_with fail
      refine HSM.out.mono ?_
      rintro eb wb ⟨rfl, kb⟩
      have HBb := Lib.hid (HBa.out.trans (kb.none.mono HBa.out.size))
      clear kb
      go_wp2_with fail
      refine (alive19_any _).mono ?_
      rintro ec wc ⟨rfl, bc⟩
      have HBc := Lib.hid (HBb.out.trans (bc.mono HBb.out.size))
      clear bc
      go_wp2_with fail
      try simp only [Exit.jump]
      go_ret
      exact ⟨rfl, HB0.out.trans (HBc.out.mono HB0.out.size)⟩
theorem sallows_heavy (w : World) (oa : Option Addr) (n0 oc : Nat) (ca : Option Addr) (n1 cc : Nat) (cx : CallX) (r : ResD) (h : 8 < n0 ∨ 60 < n1) :
    Calls Try.prog 3 #[.slice oa n0 oc, .slice ca n1 cc, .agg #[.int .i64 cx.k, .int .i64 cx.o, .int .u32 cx.v.a, .int .u32 cx.v.b, .int .u32 cx.v.c, .int .u32 cx.v.d, .int .u32 cx.n], .agg #[.int .i64 r.f, .int .u32 r.v.a, .int .u32 r.v.b, .int .u32 r.v.c, .int .u32 r.v.d]] w fun e w' => e = .returned (.bool true) ∧ Below w.heap.size w w' := by
  have HB0 := Lib.hid (show Below w.heap.size w ((w.alloc (.cells #[.int .i64 cx.k, .int .i64 cx.o, .int .u32 cx.v.a, .int .u32 cx.v.b, .int .u32 cx.v.c, .int .u32 cx.v.d, .int .u32 cx.n] 28)).alloc (.cells #[.int .i64 r.f, .int .u32 r.v.a, .int .u32 r.v.b, .int .u32 r.v.c, .int .u32 r.v.d] 31)) from ((Below.refl _ w).alloc (Nat.le_refl _) _).alloc (by simp) _)
  by_cases h8 : 8 < n0
  · have d1 : decide (8 < n0) = true := decide_eq_true h8
    have d1' : decide ((8 : Int) < (n0 : Int)) = true := decide_eq_true (by omega)
    go_enter Try.func3, Try.ntmps3
    go_wp2_with fail
    refine (alive19_any _).mono ?_
    rintro ea wa ⟨rfl, ba⟩
    go_wp2_with fail
    try simp only [Exit.jump]
    go_ret
    exact ⟨rfl, HB0.out.trans (ba.mono HB0.out.size)⟩
  · have h60 : 60 < n1 := by omega
    have d1 : decide (8 < n0) = false := decide_eq_false h8
    have d1' : decide ((8 : Int) < (n0 : Int)) = false := decide_eq_false (by omega)
    have d2 : decide (60 < n1) = true := decide_eq_true h60
    have d2' : decide ((60 : Int) < (n1 : Int)) = true := decide_eq_true (by omega)
    go_enter Try.func3, Try.ntmps3
    go_wp2_with fail
    refine (alive19_any _).mono ?_
    rintro ea wa ⟨rfl, ba⟩
    go_wp2_with fail
    try simp only [Exit.jump]
    go_ret
    exact ⟨rfl, HB0.out.trans (ba.mono HB0.out.size)⟩
theorem specAllows_walk {H : Type} {enc : TypeId × Value → H} (W : World) (base : Nat) {v0 v1 v2 v3 : Value} {d0 d1 d2 d3 : DataW H} {p0 p1 p2 p3 : List MemPlace}
    (k0 : Value.okWide Try.prog W .any base 22 v0) (h0 : DataW.Trod enc Try.prog W 0 (fun _ => true) true 22 v0 d0 p0)
    (k1 : Value.okWide Try.prog W .any base 23 v1) (h1 : DataW.Trod enc Try.prog W 0 (fun _ => true) true 23 v1 d1 p1)
    (k2 : Value.okWide Try.prog W .any base 28 v2) (h2 : DataW.Trod enc Try.prog W 0 (fun _ => true) true 28 v2 d2 p2)
    (k3 : Value.okWide Try.prog W .any base 31 v3) (h3 : DataW.Trod enc Try.prog W 0 (fun _ => true) true 31 v3 d3 p3) :
    Calls Try.prog 3 #[v0, v1, v2, v3] W fun e w' => e = .returned (.bool true) ∧ Below W.heap.size W w' := by
  obtain ⟨a0, n0, c0, Os, hcs, _, harg0⟩ := objs_open (reads_of h0)
  obtain ⟨b0, m0, q0, rfl⟩ := okWide_slice Try.underlying22 k0
  simp [Value.cells] at hcs
  obtain ⟨rfl, rfl, rfl⟩ := hcs
  obtain ⟨a1, n1, c1, Cs, hcs, _, harg1⟩ := calls_open (reads_of h1)
  obtain ⟨b1, m1, q1, rfl⟩ := okWide_slice Try.underlying23 k1
  simp [Value.cells] at hcs
  obtain ⟨rfl, rfl, rfl⟩ := hcs
  obtain ⟨cx, rfl, hx⟩ := call_open k2 h2
  obtain ⟨r, rfl⟩ := res_open k3 h3
  by_cases h : 8 < m0 ∨ 60 < m1
  · exact sallows_heavy W b0 m0 q0 b1 m1 q1 cx r h
  · exact sallows_light W b0 m0 q0 Os harg0 (by omega) b1 m1 q1 Cs harg1 (by omega) cx hx r
end Go.Proofs.Yticjphaahmdbkaa
