import Derived.Test.YtdbplamhpkahaaaSchU
namespace Go.Proofs.Ytdbplamhpkahaaa
open Go.ChangeShapes Go.WideShapes Go.ChangeAt Go.RowKit
set_option linter.unusedVariables false
set_option linter.unusedSimpArgs false
set_option maxRecDepth 100000 in
set_option maxHeartbeats 310000000 in
theorem swhole_out (w : World) (la : Option Addr) (n0 lc : Nat) (lb : Option Addr) (n1 ld : Nat) (h : 16 < n0 ∨ 60 < n1) :
    Calls Try.prog 9 #[.slice la n0 lc, .slice lb n1 ld] w fun e w' => e = .returned (.bool true) ∧ Below w.heap.size w w' := by
  have HAL := Lib.hid (alive27_any w)
  by_cases c0 : 16 < n0
  · have d0 : decide (16 < n0) = true := decide_eq_true c0
    have d0' : decide ((16 : Int) < (n0 : Int)) = true := decide_eq_true (by omega)
    clear h
    go_enter Try.func9, Try.ntmps9
    go_wp2_with fail
    refine HAL.out.mono ?_
    rintro e w1 ⟨rfl, k1⟩
    go_wp2_with fail
    go_ret
    exact ⟨rfl, k1.none⟩
  · have c1 : 60 < n1 := by omega
    have d0 : decide (16 < n0) = false := decide_eq_false c0
    have d0' : decide ((16 : Int) < (n0 : Int)) = false := decide_eq_false (by omega)
    have d1 : decide (60 < n1) = true := decide_eq_true c1
    have d1' : decide ((60 : Int) < (n1 : Int)) = true := decide_eq_true (by omega)
    clear h
    go_enter Try.func9, Try.ntmps9
    go_wp2_with fail
    refine HAL.out.mono ?_
    rintro e w1 ⟨rfl, k1⟩
    go_wp2_with fail
    go_ret
    exact ⟨rfl, k1.none⟩
set_option maxRecDepth 100000 in
set_option maxHeartbeats 310000000 in
theorem swhole_in (w : World) (la : Option Addr) (n0 lc : Nat) (L : List Int) (hL : PriosAt w la n0 L) (h0 : n0 ≤ 16) (lb : Option Addr) (n1 ld : Nat) (X : List StepX) (hX : StepsAt w lb n1 X) (h1 : n1 ≤ 60) :
    Calls Try.prog 9 #[.slice la n0 lc, .slice lb n1 ld] w fun e w' => e = .returned (.bool true) ∧ Below w.heap.size w w' := by
  have HNEW := Lib.hid (snew_any w la n0 lc L hL (by omega))
  have HXX := Lib.hid hX
  have HML := Lib.hid (show (newM L).many = n0 by rw [many_new (by rw [hL.len]; exact h0)]; exact hL.len)
  have d0 : decide (16 < n0) = false := decide_eq_false (by omega)
  have d0' : decide ((16 : Int) < (n0 : Int)) = false := decide_eq_false (by omega)
  have d1 : decide (60 < n1) = false := decide_eq_false (by omega)
  have d1' : decide ((60 : Int) < (n1 : Int)) = false := decide_eq_false (by omega)
  clear hL hX
  go_enter Try.func9, Try.ntmps9
  go_wp2_with fail
  refine HNEW.out.mono ?_
  rintro e w1 ⟨a, rfl, hn, hs1, k1⟩
  have HS1 := Lib.hid hs1
  have K1 := Lib.hid k1
  have HNN := Lib.hid (hn.trans HML.out)
  clear hn hs1 k1 HNEW
  go_wp2_with fail
  refine (scopy_any w1 _ a _ HS1.out).mono ?_
  rintro e w2 ⟨c, rfl, hcn, hv, hl1, hl2, hl3, k2⟩
  have HV := Lib.hid (And.intro hv (And.intro hl1 (And.intro hl2 (And.intro hl3 hcn))))
  have K2 := Lib.hid k2
  have HS2 := Lib.hid (show ScW w2 (fun k => w.heap.size ≤ k ∧ (k < w1.heap.size ∨ w2.heap.size ≤ k)) a (dispM (newM L)) from HS1.out.narrow2 k2 (fun k hk hp => ⟨hp, .inl hk⟩) fun k hk => ⟨Nat.le_trans (K1.out.trans k2).size hk, .inr hk⟩)
  clear hcn hv hl1 hl2 hl3 k2 HS1
  go_wp2_with fail
  go_loopw [7] (fun v7 wr => ∃ q : Nat, q ≤ n1 ∧ v7 = .int .i64 (q : Int) ∧ ∃ M, ScW wr (fun k => w.heap.size ≤ k ∧ (k < w1.heap.size ∨ w2.heap.size ≤ k)) a M ∧ Inv M ∧ M.many = n0 ∧ KeepsS (fun k => w.heap.size ≤ k ∧ (k < w1.heap.size ∨ w2.heap.size ≤ k)) w2 wr) (fun v7 _ => n1 - (intOf v7).toNat)
  case atStart => exact ⟨0, Nat.zero_le _, rfl, _, HS2.out, inv_new L, HML.out, Keeps.refl _ _⟩
  case round =>
    obtain ⟨q, hq, rfl, M, hS, hI, hM, hK⟩ := hrel
    have HMQ := Lib.hid hM
    by_cases hlt : q < n1
    · have e1 : decide (q < n1) = true := decide_eq_true hlt
      have e1' : decide ((q : Int) < (n1 : Int)) = true := decide_eq_true (by omega)
      have e3 : (0 : Int) ≤ (q : Int) := by omega
      have e4 : (q : Int) < (n1 : Int) := by omega
      obtain ⟨b, off, rfl, hbl, hcs⟩ := HXX.out.lies (by omega)
      obtain ⟨x, hx⟩ : ∃ x, X[q]? = some x := ⟨_, List.getElem?_eq_getElem (by rw [HXX.out.len]; exact hlt)⟩
      have HOK := Lib.hid (HXX.out.ok x (List.mem_of_getElem? hx))
      have hrg := hcs q x hx
      have hblk : wr.heap[b]? = w.heap[b]? := by
        have h12 := (K1.out.trans K2.out).block b hbl (fun e => e)
        exact (hK.block b (Nat.lt_of_lt_of_le hbl (K1.out.trans K2.out).size) (fun e => by have := e.1.1; omega)).trans h12
      have cc : ∀ (j : Nat) (v : Value), (stepC x)[j]? = some v → wr.cell? ⟨b, off + q * 8 + j, none⟩ = some v := fun j v hj => (World.cell?_of_block (a := ⟨b, off + q * 8 + j, none⟩) hblk).trans (hrg j v hj)
      have z0 : wr.cell? ⟨b, off + q * 8, none⟩ = some (.int .i64 x.k) := cc 0 _ rfl
      have z1 := cc 1 _ rfl
      have z2 := cc 2 _ rfl
      have z3 := cc 3 _ rfl
      have z4 := cc 4 _ rfl
      have z5 := cc 5 _ rfl
      have z6 := cc 6 _ rfl
      have z7 := cc 7 _ rfl
      have hbw : b < wr.heap.size := Nat.lt_of_lt_of_le hbl (Nat.le_trans (K1.out.trans K2.out).size hK.size)
      obtain ⟨w3, hw3⟩ : ∃ w3, w3 = wr.alloc (.cells #[.int .i64 x.k, .int .i64 x.t, .int .i64 x.rk, .int .i64 x.ro, .int .u32 (x.m : Int), .int .u32 (x.d : Int), .int .u32 (x.b : Int), .int .u32 (x.bits : Int)] 95) := ⟨_, rfl⟩
      have hk3 : Keeps (fun _ => False) wr w3 := by rw [hw3]; exact (Keeps.refl _ wr).alloc _
      have hS3 := hS.quiet hk3
      have HKQ := Lib.hid (kS hK (kS_none hk3))
      have hna : a.n = M.many := HNN.out.trans hM.symm
      have HQN := Lib.hid hlt
      have HSI := Lib.hid (And.intro hS3 (And.intro hI hna))
      clear hS hI hM hK hcs hx hrg hblk cc hk3 hS3 hna hlt
      by_cases k1 : x.k = 1
      · have g1 : (x.k == 1) = true := beq_iff_eq.2 k1
        clear k1
        have HCON := Lib.hid (went_serve w3 (fun k => w.heap.size ≤ k ∧ (k < w1.heap.size ∨ w2.heap.size ≤ k)) a M HSI.out.1 HSI.out.2.1 HSI.out.2.2 x.rk x.ro x.m x.d x.b HOK.out.d HOK.out.b)
        have HW3 := Lib.hid hw3
        rw [hw3] at HCON
        clear hw3
        go_wp2_with fail
        refine HCON.out.mono ?_
        rintro e w5 ⟨v5, M5, rfl, h5, i5, m5, k5⟩
        rw [← HW3.out] at k5
        have HS5 := Lib.hid h5
        have HI5 := Lib.hid i5
        have HM5 := Lib.hid (m5.trans HMQ.out)
        have HK5 := Lib.hid (kS HKQ.out k5)
        clear h5 i5 m5 k5 HCON
        as_aux_lemma =>
          go_wp2_with fail
          refine (sready_any w5 (fun k => w.heap.size ≤ k ∧ (k < w1.heap.size ∨ w2.heap.size ≤ k)) a M5 HS5.out).mono ?_
          rintro e w6 ⟨v9, rfl, ho9, h6, k6⟩
          obtain ⟨a9, c9, rfl, hc9⟩ := ready_row ho9
          have HC9 := Lib.hid hc9
          have H6 := Lib.hid h6
          have K6 := Lib.hid k6
          clear ho9 hc9 h6 k6
          go_wp2_with fail
          refine (swaits_any w6 (fun k => w.heap.size ≤ k ∧ (k < w1.heap.size ∨ w2.heap.size ≤ k)) a M5 H6.out (by have := H6.out.w_nodup.2; omega)).mono ?_
          rintro e w7 ⟨v10, rfl, ho10, h7, k7⟩
          obtain ⟨a10, c10, rfl, hc10⟩ := waits_row ho10
          have HC10 := Lib.hid hc10
          have H7 := Lib.hid h7
          have K7 := Lib.hid k7
          have HL9 := Lib.hid (show (rowI M5).length ≤ 1000 by
            have hs := H6.out.rank
            have := list_len16 hs
            unfold rowI
            rw [List.length_map]
            omega)
          have HL10 := Lib.hid (show (rowW M5).length ≤ 1000 by unfold rowW; rw [List.length_map]; have := H6.out.w_nodup.2; omega)
          clear ho10 hc10 h7 k7 H6
          go_wp2_with fail
          go_loopw [11] (fun v11 wr => ∃ t : Nat, t ≤ n0 ∧ v11 = .int .i64 (t : Int) ∧ ScW wr (fun k => w.heap.size ≤ k ∧ (k < w1.heap.size ∨ w2.heap.size ≤ k)) a M5 ∧ KeepsS (fun k => w.heap.size ≤ k ∧ (k < w1.heap.size ∨ w2.heap.size ≤ k)) w7 wr) (fun v11 _ => n0 - (intOf v11).toNat)
          case atStart => exact ⟨0, Nat.zero_le _, rfl, H7.out, Keeps.refl _ _⟩
          case round =>
            obtain ⟨t, htn, rfl, hS, hK⟩ := hrel
            have HX := Lib.hid (And.intro hS hK)
            clear hS hK
            by_cases htl : t < n0
            · have e1 : decide (t < n0) = true := decide_eq_true htl
              have e1' : decide ((t : Int) < (n0 : Int)) = true := decide_eq_true (by omega)
              have HT := Lib.hid (show t < M5.many by rw [HM5.out]; exact htl)
              have HTN := Lib.hid htl
              have HR9 := Lib.hid (fun (q : Nat) (x : Int) (h : (rowI M5)[q]? = some x) => show ∃ b, a9 = some ⟨b, 0, none⟩ ∧ b < wr.heap.size ∧ wr.cell? ⟨b, q, none⟩ = some (.int .i64 x) from by
                obtain ⟨b, e1, e2, e3, e4⟩ := HC9.out q x h
                have h7 := K7.out.block b e2 (fun e => e)
                have h8 := HX.out.2.block b (Nat.lt_of_lt_of_le e2 K7.out.size) (fun e => KeepsTy.apart (w := w7) (by obtain ⟨cs, fr, e3⟩ := e3; exact ⟨cs, fr, h7.trans e3⟩) (by decide) e.2)
                exact ⟨b, e1, Nat.lt_of_lt_of_le e2 (Nat.le_trans K7.out.size HX.out.2.size), (World.cell?_of_block (a := ⟨b, q, none⟩) (h8.trans h7)).trans e4⟩)
              have HR10 := Lib.hid (fun (q : Nat) (x : Int) (h : (rowW M5)[q]? = some x) => show ∃ b, a10 = some ⟨b, 0, none⟩ ∧ b < wr.heap.size ∧ wr.cell? ⟨b, q * 4, none⟩ = some (.int .i64 x) from by
                obtain ⟨b, e1, e2, e3, e4⟩ := HC10.out q x h
                have h8 := HX.out.2.block b e2 (fun e => KeepsTy.apart e3 (by decide) e.2)
                exact ⟨b, e1, Nat.lt_of_lt_of_le e2 HX.out.2.size, (World.cell?_of_block (a := ⟨b, q * 4, none⟩) h8).trans e4⟩)
              clear htl
              go_wp2_with fail
              obtain ⟨wi, hwi⟩ : ∃ wi : World, wi = wr := ⟨_, rfl⟩
              have HWI := Lib.hid hwi
              clear hwi
              go_loopw [12, 14] (fun v12 v14 wq => ∃ k : Nat, k ≤ (rowI M5).length ∧ v14 = .int .i64 (k : Int) ∧ v12 = .int .i64 ((cntI ((rowI M5).take k) (t : Int) : Nat) : Int) ∧ wq = wr) (fun _ v14 _ => (rowI M5).length - (intOf v14).toNat)
              case atStart => exact ⟨0, Nat.zero_le _, rfl, rfl, rfl⟩
              case round =>
                obtain ⟨k, hk, rfl, rfl, rfl⟩ := hrel
                by_cases hkl : k < (rowI M5).length
                · obtain ⟨x, hx⟩ : ∃ x, (rowI M5)[k]? = some x := ⟨_, List.getElem?_eq_getElem hkl⟩
                  obtain ⟨b9, rfl, hb9, hc9⟩ := HR9.out k x hx
                  have g1 : decide (k < (rowI M5).length) = true := decide_eq_true hkl
                  have g1' : decide ((k : Int) < ((rowI M5).length : Int)) = true := decide_eq_true (by omega)
                  have g3 : (0 : Int) ≤ (k : Int) := by omega
                  have g4 : (k : Int) < ((rowI M5).length : Int) := by omega
                  have g5 : (rowI M5).length ≤ 1000 := HL9.out
                  have hst := cnt_step hx (t : Int)
                  have HLL := Lib.hid (show cntI ((rowI M5).take k) (t : Int) ≤ 1000 by have := HL9.out; unfold cntI; exact Nat.le_trans (List.length_filter_le _ _) (by rw [List.length_take]; omega))
                  by_cases hxt : x = (t : Int)
                  · rw [if_pos hxt] at hst
                    have HST := Lib.hid hst
                    have g2 : (x == (t : Int)) = true := beq_iff_eq.2 hxt
                    clear hx hst hxt
                    go_wp2_with fail
                    go_roundw
                    case rel => exact ⟨k + 1, by omega, by go_num, by rw [HST.out, IntWalk.wrap64_in _ ⟨by have := HLL.out; omega, by have := HLL.out; omega⟩]; first | done | rfl, by first | rfl | trivial⟩
                    case measure => simp [intOf]; omega
                  · rw [if_neg hxt] at hst
                    have HST := Lib.hid hst
                    have g2 : (x == (t : Int)) = false := beq_eq_false_iff_ne.2 hxt
                    clear hx hst hxt
                    go_wp2_with fail
                    go_roundw
                    case rel => exact ⟨k + 1, by omega, by go_num, by rw [HST.out, Nat.add_zero], by first | rfl | trivial⟩
                    case measure => simp [intOf]; omega
                · obtain rfl : k = (rowI M5).length := by omega
                  have g1 : decide ((rowI M5).length < (rowI M5).length) = false := decide_eq_false (Nat.lt_irrefl _)
                  rw [List.take_length, HX.out.1.ready_cnt HI5.out t HT.out]
                  clear hkl
                  go_wp2_with fail
                  go_loopw [13, 15] (fun v13 v15 wq => ∃ k : Nat, k ≤ (rowW M5).length ∧ v15 = .int .i64 (k : Int) ∧ v13 = .int .i64 ((cntI ((rowW M5).take k) (t : Int) : Nat) : Int) ∧ wq = wr) (fun _ v15 _ => (rowW M5).length - (intOf v15).toNat)
                  case atStart => exact ⟨0, Nat.zero_le _, rfl, rfl, rfl⟩
                  case round =>
                    obtain ⟨k, hk, rfl, rfl, rfl⟩ := hrel
                    by_cases hkl : k < (rowW M5).length
                    · obtain ⟨x, hx⟩ : ∃ x, (rowW M5)[k]? = some x := ⟨_, List.getElem?_eq_getElem hkl⟩
                      obtain ⟨b10, rfl, hb10, hc10⟩ := HR10.out k x hx
                      have g1 : decide (k < (rowW M5).length) = true := decide_eq_true hkl
                      have g1' : decide ((k : Int) < ((rowW M5).length : Int)) = true := decide_eq_true (by omega)
                      have g3 : (0 : Int) ≤ (k : Int) := by omega
                      have g4 : (k : Int) < ((rowW M5).length : Int) := by omega
                      have g5 : (rowW M5).length ≤ 1000 := HL10.out
                      have hst := cnt_step hx (t : Int)
                      have HLL := Lib.hid (show cntI ((rowW M5).take k) (t : Int) ≤ 1000 by have := HL10.out; unfold cntI; exact Nat.le_trans (List.length_filter_le _ _) (by rw [List.length_take]; omega))
                      by_cases hxt : x = (t : Int)
                      · rw [if_pos hxt] at hst
                        have HST := Lib.hid hst
                        have g2 : (x == (t : Int)) = true := beq_iff_eq.2 hxt
                        clear hx hst hxt
                        go_wp2_with fail
                        go_roundw
                        case rel => exact ⟨k + 1, by omega, by go_num, by rw [HST.out, IntWalk.wrap64_in _ ⟨by have := HLL.out; omega, by have := HLL.out; omega⟩]; first | done | rfl, by first | rfl | trivial⟩
                        case measure => simp [intOf]; omega
                      · rw [if_neg hxt] at hst
                        have HST := Lib.hid hst
                        have g2 : (x == (t : Int)) = false := beq_eq_false_iff_ne.2 hxt
                        clear hx hst hxt
                        go_wp2_with fail
                        go_roundw
                        case rel => exact ⟨k + 1, by omega, by go_num, by rw [HST.out, Nat.add_zero], by first | rfl | trivial⟩
                        case measure => simp [intOf]; omega
                    · obtain rfl : k = (rowW M5).length := by omega
                      have g1 : decide ((rowW M5).length < (rowW M5).length) = false := decide_eq_false (Nat.lt_irrefl _)
                      rw [List.take_length, HX.out.1.waits_cnt HI5.out t HT.out]
                      have HSTT := Lib.hid (state_has wr (fun k => w.heap.size ≤ k ∧ (k < w1.heap.size ∨ w2.heap.size ≤ k)) a M5 HX.out.1 (HNN.out.trans HM5.out.symm) t HT.out)
                      clear hkl
                      go_wp2_with fail
                      refine HSTT.out.mono ?_
                      rintro e wr' ⟨rfl, rfl⟩
                      go_wp2_with fail
                      refine (sleft_any wr (fun k => w.heap.size ≤ k ∧ (k < w1.heap.size ∨ w2.heap.size ≤ k)) a M5 HX.out.1 (HNN.out.trans HM5.out.symm) t HT.out).mono ?_
                      rintro e w8 ⟨rfl, h8, k8⟩
                      have H8 := Lib.hid h8
                      have K8 := Lib.hid (kS HX.out.2 k8)
                      have hlv := HI5.out.live t HT.out
                      have htm := HI5.out.time t HT.out
                      clear h8 k8 HSTT
                      by_cases hT0 : M5.T (t : Int) = 0
                      · rw [decide_eq_false (fun h => h hT0)]
                        rcases hlv with hs | hs | hs | hs <;> rw [hs] <;> simp only [w11, w12, w21, w22, w31, w32, w41, w42] <;> clear hs hT0 htm <;>
                        (go_wp2_with fail
                         go_roundw
                         case rel => exact ⟨t + 1, by have := HTN.out; omega, by go_num, H8.out, K8.out⟩
                         case measure => simp [intOf]; have := HTN.out; omega)
                      · rw [decide_eq_true hT0]
                        rcases htm hT0 with hs | hs <;> rw [hs] <;> simp only [w11, w12, w21, w22, w31, w32, w41, w42] <;> clear hs hT0 htm hlv <;>
                        (go_wp2_with fail
                         go_roundw
                         case rel => exact ⟨t + 1, by have := HTN.out; omega, by go_num, H8.out, K8.out⟩
                         case measure => simp [intOf]; have := HTN.out; omega)
            · obtain rfl : t = n0 := by omega
              have e1 : decide (t < t) = false := decide_eq_false (Nat.lt_irrefl _)
              clear htl
              have HR9 := Lib.hid (fun (q : Nat) (x : Int) (h : (rowI M5)[q]? = some x) => show ∃ b, a9 = some ⟨b, 0, none⟩ ∧ b < wr.heap.size ∧ wr.cell? ⟨b, q, none⟩ = some (.int .i64 x) from by
                obtain ⟨b, e1, e2, e3, e4⟩ := HC9.out q x h
                have h7 := K7.out.block b e2 (fun e => e)
                have h8 := HX.out.2.block b (Nat.lt_of_lt_of_le e2 K7.out.size) (fun e => KeepsTy.apart (w := w7) (by obtain ⟨cs, fr, e3⟩ := e3; exact ⟨cs, fr, h7.trans e3⟩) (by decide) e.2)
                exact ⟨b, e1, Nat.lt_of_lt_of_le e2 (Nat.le_trans K7.out.size HX.out.2.size), (World.cell?_of_block (a := ⟨b, q, none⟩) (h8.trans h7)).trans e4⟩)
              go_wp2_with fail
              refine (scopy_any wr (fun k => w.heap.size ≤ k ∧ (k < w1.heap.size ∨ w2.heap.size ≤ k)) a M5 HX.out.1).mono ?_
              rintro e w9 ⟨c2, rfl, _, hv, hl1, hl2, hl3, k9⟩
              have HV := Lib.hid hv
              have HL1 := Lib.hid hl1
              have K9 := Lib.hid k9
              clear hv hl1 hl2 hl3 k9
              go_wp2_with fail
              refine (vdisp w9 c2 M5 HV.out).mono ?_
              rintro e w10 ⟨bb, rfl, k10⟩
              have k910 : Keeps (fun _ => False) wr w10 := ⟨k10.os.trans K9.out.os, k10.tape.trans K9.out.tape, k10.output.trans K9.out.output, Nat.le_trans K9.out.size k10.size, fun i hi _ => (k10.block i (Nat.lt_of_lt_of_le hi K9.out.size) (fun e => by have := HL1.out; omega)).trans (K9.out.block i hi fun e => e)⟩
              have HK10 := Lib.hid k910
              have HFIN := Lib.hid (show ScW w10 (fun k => w.heap.size ≤ k ∧ (k < w1.heap.size ∨ w2.heap.size ≤ k)) a M5 ∧ KeepsS (fun k => w.heap.size ≤ k ∧ (k < w1.heap.size ∨ w2.heap.size ≤ k)) w2 w10 from ⟨HX.out.1.quiet k910, kS (kS HK5.out (kS (kS_none K6.out) (kS (kS_none K7.out) HX.out.2))) (kS_none k910)⟩)
              clear k10 k910 HV HL1 K9
              have hfirst : firstM M5 = if rowI M5 = [] then -1 else ((rowI M5).headD 0) := by
                unfold firstM rowI
                cases listT M5.R with
                | nil => rfl
                | cons x r => rfl
              cases hrow : rowI M5 with
              | nil =>
                rw [hrow] at hfirst
                rw [if_pos rfl] at hfirst
                rw [hfirst]
                clear hfirst
                go_wp2_with fail
                go_roundw
                case rel => exact ⟨q + 1, by have := HQN.out; omega, by go_num, M5, HFIN.out.1, HI5.out, HM5.out, HFIN.out.2⟩
                case measure => simp [intOf]; have := HQN.out; omega
              | cons x r =>
                obtain ⟨b9, rfl, hb9, hc9⟩ := HR9.out 0 x (by rw [hrow]; rfl)
                have hc10 : w10.cell? ⟨b9, 0, none⟩ = some (.int .i64 x) := (World.cell?_of_block (a := ⟨b9, 0, none⟩) (HK10.out.block b9 hb9 fun e => e)).trans hc9
                rw [hrow] at hfirst
                rw [if_neg (by simp)] at hfirst
                rw [hfirst]
                have f1 : ((x :: r).length == 0) = false := by simp
                have f2 : decide (0 < (x :: r).length) = true := by simp
                have f3 : (x != x) = false := by simp
                clear hfirst hc9
                simp only [List.headD_cons]
                go_wp2_with fail
                go_roundw
                case rel => exact ⟨q + 1, by have := HQN.out; omega, by go_num, M5, HFIN.out.1, HI5.out, HM5.out, HFIN.out.2⟩
                case measure => simp [intOf]; have := HQN.out; omega

      have g1 : (x.k == 1) = false := beq_eq_false_iff_ne.2 k1
      by_cases k2 : x.k = 2
      · have g2 : (x.k == 2) = true := beq_iff_eq.2 k2
        clear k1 k2
        have HCON := Lib.hid (went_tick w3 (fun k => w.heap.size ≤ k ∧ (k < w1.heap.size ∨ w2.heap.size ≤ k)) a M HSI.out.1 HSI.out.2.1 HSI.out.2.2)
        have HW3 := Lib.hid hw3
        rw [hw3] at HCON
        clear hw3
        go_wp2_with fail
        refine HCON.out.mono ?_
        rintro e w5 ⟨v5, M5, rfl, h5, i5, m5, k5⟩
        rw [← HW3.out] at k5
        have HS5 := Lib.hid h5
        have HI5 := Lib.hid i5
        have HM5 := Lib.hid (m5.trans HMQ.out)
        have HK5 := Lib.hid (kS HKQ.out k5)
        clear h5 i5 m5 k5 HCON
        as_aux_lemma =>
          go_wp2_with fail
          refine (sready_any w5 (fun k => w.heap.size ≤ k ∧ (k < w1.heap.size ∨ w2.heap.size ≤ k)) a M5 HS5.out).mono ?_
          rintro e w6 ⟨v9, rfl, ho9, h6, k6⟩
          obtain ⟨a9, c9, rfl, hc9⟩ := ready_row ho9
          have HC9 := Lib.hid hc9
          have H6 := Lib.hid h6
          have K6 := Lib.hid k6
          clear ho9 hc9 h6 k6
          go_wp2_with fail
          refine (swaits_any w6 (fun k => w.heap.size ≤ k ∧ (k < w1.heap.size ∨ w2.heap.size ≤ k)) a M5 H6.out (by have := H6.out.w_nodup.2; omega)).mono ?_
          rintro e w7 ⟨v10, rfl, ho10, h7, k7⟩
          obtain ⟨a10, c10, rfl, hc10⟩ := waits_row ho10
          have HC10 := Lib.hid hc10
          have H7 := Lib.hid h7
          have K7 := Lib.hid k7
          have HL9 := Lib.hid (show (rowI M5).length ≤ 1000 by
            have hs := H6.out.rank
            have := list_len16 hs
            unfold rowI
            rw [List.length_map]
            omega)
          have HL10 := Lib.hid (show (rowW M5).length ≤ 1000 by unfold rowW; rw [List.length_map]; have := H6.out.w_nodup.2; omega)
          clear ho10 hc10 h7 k7 H6
          go_wp2_with fail
          go_loopw [11] (fun v11 wr => ∃ t : Nat, t ≤ n0 ∧ v11 = .int .i64 (t : Int) ∧ ScW wr (fun k => w.heap.size ≤ k ∧ (k < w1.heap.size ∨ w2.heap.size ≤ k)) a M5 ∧ KeepsS (fun k => w.heap.size ≤ k ∧ (k < w1.heap.size ∨ w2.heap.size ≤ k)) w7 wr) (fun v11 _ => n0 - (intOf v11).toNat)
          case atStart => exact ⟨0, Nat.zero_le _, rfl, H7.out, Keeps.refl _ _⟩
          case round =>
            obtain ⟨t, htn, rfl, hS, hK⟩ := hrel
            have HX := Lib.hid (And.intro hS hK)
            clear hS hK
            by_cases htl : t < n0
            · have e1 : decide (t < n0) = true := decide_eq_true htl
              have e1' : decide ((t : Int) < (n0 : Int)) = true := decide_eq_true (by omega)
              have HT := Lib.hid (show t < M5.many by rw [HM5.out]; exact htl)
              have HTN := Lib.hid htl
              have HR9 := Lib.hid (fun (q : Nat) (x : Int) (h : (rowI M5)[q]? = some x) => show ∃ b, a9 = some ⟨b, 0, none⟩ ∧ b < wr.heap.size ∧ wr.cell? ⟨b, q, none⟩ = some (.int .i64 x) from by
                obtain ⟨b, e1, e2, e3, e4⟩ := HC9.out q x h
                have h7 := K7.out.block b e2 (fun e => e)
                have h8 := HX.out.2.block b (Nat.lt_of_lt_of_le e2 K7.out.size) (fun e => KeepsTy.apart (w := w7) (by obtain ⟨cs, fr, e3⟩ := e3; exact ⟨cs, fr, h7.trans e3⟩) (by decide) e.2)
                exact ⟨b, e1, Nat.lt_of_lt_of_le e2 (Nat.le_trans K7.out.size HX.out.2.size), (World.cell?_of_block (a := ⟨b, q, none⟩) (h8.trans h7)).trans e4⟩)
              have HR10 := Lib.hid (fun (q : Nat) (x : Int) (h : (rowW M5)[q]? = some x) => show ∃ b, a10 = some ⟨b, 0, none⟩ ∧ b < wr.heap.size ∧ wr.cell? ⟨b, q * 4, none⟩ = some (.int .i64 x) from by
                obtain ⟨b, e1, e2, e3, e4⟩ := HC10.out q x h
                have h8 := HX.out.2.block b e2 (fun e => KeepsTy.apart e3 (by decide) e.2)
                exact ⟨b, e1, Nat.lt_of_lt_of_le e2 HX.out.2.size, (World.cell?_of_block (a := ⟨b, q * 4, none⟩) h8).trans e4⟩)
              clear htl
              go_wp2_with fail
              obtain ⟨wi, hwi⟩ : ∃ wi : World, wi = wr := ⟨_, rfl⟩
              have HWI := Lib.hid hwi
              clear hwi
              go_loopw [12, 14] (fun v12 v14 wq => ∃ k : Nat, k ≤ (rowI M5).length ∧ v14 = .int .i64 (k : Int) ∧ v12 = .int .i64 ((cntI ((rowI M5).take k) (t : Int) : Nat) : Int) ∧ wq = wr) (fun _ v14 _ => (rowI M5).length - (intOf v14).toNat)
              case atStart => exact ⟨0, Nat.zero_le _, rfl, rfl, rfl⟩
              case round =>
                obtain ⟨k, hk, rfl, rfl, rfl⟩ := hrel
                by_cases hkl : k < (rowI M5).length
                · obtain ⟨x, hx⟩ : ∃ x, (rowI M5)[k]? = some x := ⟨_, List.getElem?_eq_getElem hkl⟩
                  obtain ⟨b9, rfl, hb9, hc9⟩ := HR9.out k x hx
                  have g1 : decide (k < (rowI M5).length) = true := decide_eq_true hkl
                  have g1' : decide ((k : Int) < ((rowI M5).length : Int)) = true := decide_eq_true (by omega)
                  have g3 : (0 : Int) ≤ (k : Int) := by omega
                  have g4 : (k : Int) < ((rowI M5).length : Int) := by omega
                  have g5 : (rowI M5).length ≤ 1000 := HL9.out
                  have hst := cnt_step hx (t : Int)
                  have HLL := Lib.hid (show cntI ((rowI M5).take k) (t : Int) ≤ 1000 by have := HL9.out; unfold cntI; exact Nat.le_trans (List.length_filter_le _ _) (by rw [List.length_take]; omega))
                  by_cases hxt : x = (t : Int)
                  · rw [if_pos hxt] at hst
                    have HST := Lib.hid hst
                    have g2 : (x == (t : Int)) = true := beq_iff_eq.2 hxt
                    clear hx hst hxt
                    go_wp2_with fail
                    go_roundw
                    case rel => exact ⟨k + 1, by omega, by go_num, by rw [HST.out, IntWalk.wrap64_in _ ⟨by have := HLL.out; omega, by have := HLL.out; omega⟩]; first | done | rfl, by first | rfl | trivial⟩
                    case measure => simp [intOf]; omega
                  · rw [if_neg hxt] at hst
                    have HST := Lib.hid hst
                    have g2 : (x == (t : Int)) = false := beq_eq_false_iff_ne.2 hxt
                    clear hx hst hxt
                    go_wp2_with fail
                    go_roundw
                    case rel => exact ⟨k + 1, by omega, by go_num, by rw [HST.out, Nat.add_zero], by first | rfl | trivial⟩
                    case measure => simp [intOf]; omega
                · obtain rfl : k = (rowI M5).length := by omega
                  have g1 : decide ((rowI M5).length < (rowI M5).length) = false := decide_eq_false (Nat.lt_irrefl _)
                  rw [List.take_length, HX.out.1.ready_cnt HI5.out t HT.out]
                  clear hkl
                  go_wp2_with fail
                  go_loopw [13, 15] (fun v13 v15 wq => ∃ k : Nat, k ≤ (rowW M5).length ∧ v15 = .int .i64 (k : Int) ∧ v13 = .int .i64 ((cntI ((rowW M5).take k) (t : Int) : Nat) : Int) ∧ wq = wr) (fun _ v15 _ => (rowW M5).length - (intOf v15).toNat)
                  case atStart => exact ⟨0, Nat.zero_le _, rfl, rfl, rfl⟩
                  case round =>
                    obtain ⟨k, hk, rfl, rfl, rfl⟩ := hrel
                    by_cases hkl : k < (rowW M5).length
                    · obtain ⟨x, hx⟩ : ∃ x, (rowW M5)[k]? = some x := ⟨_, List.getElem?_eq_getElem hkl⟩
                      obtain ⟨b10, rfl, hb10, hc10⟩ := HR10.out k x hx
                      have g1 : decide (k < (rowW M5).length) = true := decide_eq_true hkl
                      have g1' : decide ((k : Int) < ((rowW M5).length : Int)) = true := decide_eq_true (by omega)
                      have g3 : (0 : Int) ≤ (k : Int) := by omega
                      have g4 : (k : Int) < ((rowW M5).length : Int) := by omega
                      have g5 : (rowW M5).length ≤ 1000 := HL10.out
                      have hst := cnt_step hx (t : Int)
                      have HLL := Lib.hid (show cntI ((rowW M5).take k) (t : Int) ≤ 1000 by have := HL10.out; unfold cntI; exact Nat.le_trans (List.length_filter_le _ _) (by rw [List.length_take]; omega))
                      by_cases hxt : x = (t : Int)
                      · rw [if_pos hxt] at hst
                        have HST := Lib.hid hst
                        have g2 : (x == (t : Int)) = true := beq_iff_eq.2 hxt
                        clear hx hst hxt
                        go_wp2_with fail
                        go_roundw
                        case rel => exact ⟨k + 1, by omega, by go_num, by rw [HST.out, IntWalk.wrap64_in _ ⟨by have := HLL.out; omega, by have := HLL.out; omega⟩]; first | done | rfl, by first | rfl | trivial⟩
                        case measure => simp [intOf]; omega
                      · rw [if_neg hxt] at hst
                        have HST := Lib.hid hst
                        have g2 : (x == (t : Int)) = false := beq_eq_false_iff_ne.2 hxt
                        clear hx hst hxt
                        go_wp2_with fail
                        go_roundw
                        case rel => exact ⟨k + 1, by omega, by go_num, by rw [HST.out, Nat.add_zero], by first | rfl | trivial⟩
                        case measure => simp [intOf]; omega
                    · obtain rfl : k = (rowW M5).length := by omega
                      have g1 : decide ((rowW M5).length < (rowW M5).length) = false := decide_eq_false (Nat.lt_irrefl _)
                      rw [List.take_length, HX.out.1.waits_cnt HI5.out t HT.out]
                      have HSTT := Lib.hid (state_has wr (fun k => w.heap.size ≤ k ∧ (k < w1.heap.size ∨ w2.heap.size ≤ k)) a M5 HX.out.1 (HNN.out.trans HM5.out.symm) t HT.out)
                      clear hkl
                      go_wp2_with fail
                      refine HSTT.out.mono ?_
                      rintro e wr' ⟨rfl, rfl⟩
                      go_wp2_with fail
                      refine (sleft_any wr (fun k => w.heap.size ≤ k ∧ (k < w1.heap.size ∨ w2.heap.size ≤ k)) a M5 HX.out.1 (HNN.out.trans HM5.out.symm) t HT.out).mono ?_
                      rintro e w8 ⟨rfl, h8, k8⟩
                      have H8 := Lib.hid h8
                      have K8 := Lib.hid (kS HX.out.2 k8)
                      have hlv := HI5.out.live t HT.out
                      have htm := HI5.out.time t HT.out
                      clear h8 k8 HSTT
                      by_cases hT0 : M5.T (t : Int) = 0
                      · rw [decide_eq_false (fun h => h hT0)]
                        rcases hlv with hs | hs | hs | hs <;> rw [hs] <;> simp only [w11, w12, w21, w22, w31, w32, w41, w42] <;> clear hs hT0 htm <;>
                        (go_wp2_with fail
                         go_roundw
                         case rel => exact ⟨t + 1, by have := HTN.out; omega, by go_num, H8.out, K8.out⟩
                         case measure => simp [intOf]; have := HTN.out; omega)
                      · rw [decide_eq_true hT0]
                        rcases htm hT0 with hs | hs <;> rw [hs] <;> simp only [w11, w12, w21, w22, w31, w32, w41, w42] <;> clear hs hT0 htm hlv <;>
                        (go_wp2_with fail
                         go_roundw
                         case rel => exact ⟨t + 1, by have := HTN.out; omega, by go_num, H8.out, K8.out⟩
                         case measure => simp [intOf]; have := HTN.out; omega)
            · obtain rfl : t = n0 := by omega
              have e1 : decide (t < t) = false := decide_eq_false (Nat.lt_irrefl _)
              clear htl
              have HR9 := Lib.hid (fun (q : Nat) (x : Int) (h : (rowI M5)[q]? = some x) => show ∃ b, a9 = some ⟨b, 0, none⟩ ∧ b < wr.heap.size ∧ wr.cell? ⟨b, q, none⟩ = some (.int .i64 x) from by
                obtain ⟨b, e1, e2, e3, e4⟩ := HC9.out q x h
                have h7 := K7.out.block b e2 (fun e => e)
                have h8 := HX.out.2.block b (Nat.lt_of_lt_of_le e2 K7.out.size) (fun e => KeepsTy.apart (w := w7) (by obtain ⟨cs, fr, e3⟩ := e3; exact ⟨cs, fr, h7.trans e3⟩) (by decide) e.2)
                exact ⟨b, e1, Nat.lt_of_lt_of_le e2 (Nat.le_trans K7.out.size HX.out.2.size), (World.cell?_of_block (a := ⟨b, q, none⟩) (h8.trans h7)).trans e4⟩)
              go_wp2_with fail
              refine (scopy_any wr (fun k => w.heap.size ≤ k ∧ (k < w1.heap.size ∨ w2.heap.size ≤ k)) a M5 HX.out.1).mono ?_
              rintro e w9 ⟨c2, rfl, _, hv, hl1, hl2, hl3, k9⟩
              have HV := Lib.hid hv
              have HL1 := Lib.hid hl1
              have K9 := Lib.hid k9
              clear hv hl1 hl2 hl3 k9
              go_wp2_with fail
              refine (vdisp w9 c2 M5 HV.out).mono ?_
              rintro e w10 ⟨bb, rfl, k10⟩
              have k910 : Keeps (fun _ => False) wr w10 := ⟨k10.os.trans K9.out.os, k10.tape.trans K9.out.tape, k10.output.trans K9.out.output, Nat.le_trans K9.out.size k10.size, fun i hi _ => (k10.block i (Nat.lt_of_lt_of_le hi K9.out.size) (fun e => by have := HL1.out; omega)).trans (K9.out.block i hi fun e => e)⟩
              have HK10 := Lib.hid k910
              have HFIN := Lib.hid (show ScW w10 (fun k => w.heap.size ≤ k ∧ (k < w1.heap.size ∨ w2.heap.size ≤ k)) a M5 ∧ KeepsS (fun k => w.heap.size ≤ k ∧ (k < w1.heap.size ∨ w2.heap.size ≤ k)) w2 w10 from ⟨HX.out.1.quiet k910, kS (kS HK5.out (kS (kS_none K6.out) (kS (kS_none K7.out) HX.out.2))) (kS_none k910)⟩)
              clear k10 k910 HV HL1 K9
              have hfirst : firstM M5 = if rowI M5 = [] then -1 else ((rowI M5).headD 0) := by
                unfold firstM rowI
                cases listT M5.R with
                | nil => rfl
                | cons x r => rfl
              cases hrow : rowI M5 with
              | nil =>
                rw [hrow] at hfirst
                rw [if_pos rfl] at hfirst
                rw [hfirst]
                clear hfirst
                go_wp2_with fail
                go_roundw
                case rel => exact ⟨q + 1, by have := HQN.out; omega, by go_num, M5, HFIN.out.1, HI5.out, HM5.out, HFIN.out.2⟩
                case measure => simp [intOf]; have := HQN.out; omega
              | cons x r =>
                obtain ⟨b9, rfl, hb9, hc9⟩ := HR9.out 0 x (by rw [hrow]; rfl)
                have hc10 : w10.cell? ⟨b9, 0, none⟩ = some (.int .i64 x) := (World.cell?_of_block (a := ⟨b9, 0, none⟩) (HK10.out.block b9 hb9 fun e => e)).trans hc9
                rw [hrow] at hfirst
                rw [if_neg (by simp)] at hfirst
                rw [hfirst]
                have f1 : ((x :: r).length == 0) = false := by simp
                have f2 : decide (0 < (x :: r).length) = true := by simp
                have f3 : (x != x) = false := by simp
                clear hfirst hc9
                simp only [List.headD_cons]
                go_wp2_with fail
                go_roundw
                case rel => exact ⟨q + 1, by have := HQN.out; omega, by go_num, M5, HFIN.out.1, HI5.out, HM5.out, HFIN.out.2⟩
                case measure => simp [intOf]; have := HQN.out; omega

      have g2 : (x.k == 2) = false := beq_eq_false_iff_ne.2 k2
      by_cases k3 : x.k = 3
      · have g3 : (x.k == 3) = true := beq_iff_eq.2 k3
        clear k1 k2 k3
        have HCON := Lib.hid (went_note w3 (fun k => w.heap.size ≤ k ∧ (k < w1.heap.size ∨ w2.heap.size ≤ k)) a M HSI.out.1 HSI.out.2.1 HSI.out.2.2 x.t x.bits HOK.out.bits)
        have HW3 := Lib.hid hw3
        rw [hw3] at HCON
        clear hw3
        go_wp2_with fail
        refine HCON.out.mono ?_
        rintro e w5 ⟨v5, M5, rfl, h5, i5, m5, k5⟩
        rw [← HW3.out] at k5
        have HS5 := Lib.hid h5
        have HI5 := Lib.hid i5
        have HM5 := Lib.hid (m5.trans HMQ.out)
        have HK5 := Lib.hid (kS HKQ.out k5)
        clear h5 i5 m5 k5 HCON
        as_aux_lemma =>
          go_wp2_with fail
          refine (sready_any w5 (fun k => w.heap.size ≤ k ∧ (k < w1.heap.size ∨ w2.heap.size ≤ k)) a M5 HS5.out).mono ?_
          rintro e w6 ⟨v9, rfl, ho9, h6, k6⟩
          obtain ⟨a9, c9, rfl, hc9⟩ := ready_row ho9
          have HC9 := Lib.hid hc9
          have H6 := Lib.hid h6
          have K6 := Lib.hid k6
          clear ho9 hc9 h6 k6
          go_wp2_with fail
          refine (swaits_any w6 (fun k => w.heap.size ≤ k ∧ (k < w1.heap.size ∨ w2.heap.size ≤ k)) a M5 H6.out (by have := H6.out.w_nodup.2; omega)).mono ?_
          rintro e w7 ⟨v10, rfl, ho10, h7, k7⟩
          obtain ⟨a10, c10, rfl, hc10⟩ := waits_row ho10
          have HC10 := Lib.hid hc10
          have H7 := Lib.hid h7
          have K7 := Lib.hid k7
          have HL9 := Lib.hid (show (rowI M5).length ≤ 1000 by
            have hs := H6.out.rank
            have := list_len16 hs
            unfold rowI
            rw [List.length_map]
            omega)
          have HL10 := Lib.hid (show (rowW M5).length ≤ 1000 by unfold rowW; rw [List.length_map]; have := H6.out.w_nodup.2; omega)
          clear ho10 hc10 h7 k7 H6
          go_wp2_with fail
          go_loopw [11] (fun v11 wr => ∃ t : Nat, t ≤ n0 ∧ v11 = .int .i64 (t : Int) ∧ ScW wr (fun k => w.heap.size ≤ k ∧ (k < w1.heap.size ∨ w2.heap.size ≤ k)) a M5 ∧ KeepsS (fun k => w.heap.size ≤ k ∧ (k < w1.heap.size ∨ w2.heap.size ≤ k)) w7 wr) (fun v11 _ => n0 - (intOf v11).toNat)
          case atStart => exact ⟨0, Nat.zero_le _, rfl, H7.out, Keeps.refl _ _⟩
          case round =>
            obtain ⟨t, htn, rfl, hS, hK⟩ := hrel
            have HX := Lib.hid (And.intro hS hK)
            clear hS hK
            by_cases htl : t < n0
            · have e1 : decide (t < n0) = true := decide_eq_true htl
              have e1' : decide ((t : Int) < (n0 : Int)) = true := decide_eq_true (by omega)
              have HT := Lib.hid (show t < M5.many by rw [HM5.out]; exact htl)
              have HTN := Lib.hid htl
              have HR9 := Lib.hid (fun (q : Nat) (x : Int) (h : (rowI M5)[q]? = some x) => show ∃ b, a9 = some ⟨b, 0, none⟩ ∧ b < wr.heap.size ∧ wr.cell? ⟨b, q, none⟩ = some (.int .i64 x) from by
                obtain ⟨b, e1, e2, e3, e4⟩ := HC9.out q x h
                have h7 := K7.out.block b e2 (fun e => e)
                have h8 := HX.out.2.block b (Nat.lt_of_lt_of_le e2 K7.out.size) (fun e => KeepsTy.apart (w := w7) (by obtain ⟨cs, fr, e3⟩ := e3; exact ⟨cs, fr, h7.trans e3⟩) (by decide) e.2)
                exact ⟨b, e1, Nat.lt_of_lt_of_le e2 (Nat.le_trans K7.out.size HX.out.2.size), (World.cell?_of_block (a := ⟨b, q, none⟩) (h8.trans h7)).trans e4⟩)
              have HR10 := Lib.hid (fun (q : Nat) (x : Int) (h : (rowW M5)[q]? = some x) => show ∃ b, a10 = some ⟨b, 0, none⟩ ∧ b < wr.heap.size ∧ wr.cell? ⟨b, q * 4, none⟩ = some (.int .i64 x) from by
                obtain ⟨b, e1, e2, e3, e4⟩ := HC10.out q x h
                have h8 := HX.out.2.block b e2 (fun e => KeepsTy.apart e3 (by decide) e.2)
                exact ⟨b, e1, Nat.lt_of_lt_of_le e2 HX.out.2.size, (World.cell?_of_block (a := ⟨b, q * 4, none⟩) h8).trans e4⟩)
              clear htl
              go_wp2_with fail
              obtain ⟨wi, hwi⟩ : ∃ wi : World, wi = wr := ⟨_, rfl⟩
              have HWI := Lib.hid hwi
              clear hwi
              go_loopw [12, 14] (fun v12 v14 wq => ∃ k : Nat, k ≤ (rowI M5).length ∧ v14 = .int .i64 (k : Int) ∧ v12 = .int .i64 ((cntI ((rowI M5).take k) (t : Int) : Nat) : Int) ∧ wq = wr) (fun _ v14 _ => (rowI M5).length - (intOf v14).toNat)
              case atStart => exact ⟨0, Nat.zero_le _, rfl, rfl, rfl⟩
              case round =>
                obtain ⟨k, hk, rfl, rfl, rfl⟩ := hrel
                by_cases hkl : k < (rowI M5).length
                · obtain ⟨x, hx⟩ : ∃ x, (rowI M5)[k]? = some x := ⟨_, List.getElem?_eq_getElem hkl⟩
                  obtain ⟨b9, rfl, hb9, hc9⟩ := HR9.out k x hx
                  have g1 : decide (k < (rowI M5).length) = true := decide_eq_true hkl
                  have g1' : decide ((k : Int) < ((rowI M5).length : Int)) = true := decide_eq_true (by omega)
                  have g3 : (0 : Int) ≤ (k : Int) := by omega
                  have g4 : (k : Int) < ((rowI M5).length : Int) := by omega
                  have g5 : (rowI M5).length ≤ 1000 := HL9.out
                  have hst := cnt_step hx (t : Int)
                  have HLL := Lib.hid (show cntI ((rowI M5).take k) (t : Int) ≤ 1000 by have := HL9.out; unfold cntI; exact Nat.le_trans (List.length_filter_le _ _) (by rw [List.length_take]; omega))
                  by_cases hxt : x = (t : Int)
                  · rw [if_pos hxt] at hst
                    have HST := Lib.hid hst
                    have g2 : (x == (t : Int)) = true := beq_iff_eq.2 hxt
                    clear hx hst hxt
                    go_wp2_with fail
                    go_roundw
                    case rel => exact ⟨k + 1, by omega, by go_num, by rw [HST.out, IntWalk.wrap64_in _ ⟨by have := HLL.out; omega, by have := HLL.out; omega⟩]; first | done | rfl, by first | rfl | trivial⟩
                    case measure => simp [intOf]; omega
                  · rw [if_neg hxt] at hst
                    have HST := Lib.hid hst
                    have g2 : (x == (t : Int)) = false := beq_eq_false_iff_ne.2 hxt
                    clear hx hst hxt
                    go_wp2_with fail
                    go_roundw
                    case rel => exact ⟨k + 1, by omega, by go_num, by rw [HST.out, Nat.add_zero], by first | rfl | trivial⟩
                    case measure => simp [intOf]; omega
                · obtain rfl : k = (rowI M5).length := by omega
                  have g1 : decide ((rowI M5).length < (rowI M5).length) = false := decide_eq_false (Nat.lt_irrefl _)
                  rw [List.take_length, HX.out.1.ready_cnt HI5.out t HT.out]
                  clear hkl
                  go_wp2_with fail
                  go_loopw [13, 15] (fun v13 v15 wq => ∃ k : Nat, k ≤ (rowW M5).length ∧ v15 = .int .i64 (k : Int) ∧ v13 = .int .i64 ((cntI ((rowW M5).take k) (t : Int) : Nat) : Int) ∧ wq = wr) (fun _ v15 _ => (rowW M5).length - (intOf v15).toNat)
                  case atStart => exact ⟨0, Nat.zero_le _, rfl, rfl, rfl⟩
                  case round =>
                    obtain ⟨k, hk, rfl, rfl, rfl⟩ := hrel
                    by_cases hkl : k < (rowW M5).length
                    · obtain ⟨x, hx⟩ : ∃ x, (rowW M5)[k]? = some x := ⟨_, List.getElem?_eq_getElem hkl⟩
                      obtain ⟨b10, rfl, hb10, hc10⟩ := HR10.out k x hx
                      have g1 : decide (k < (rowW M5).length) = true := decide_eq_true hkl
                      have g1' : decide ((k : Int) < ((rowW M5).length : Int)) = true := decide_eq_true (by omega)
                      have g3 : (0 : Int) ≤ (k : Int) := by omega
                      have g4 : (k : Int) < ((rowW M5).length : Int) := by omega
                      have g5 : (rowW M5).length ≤ 1000 := HL10.out
                      have hst := cnt_step hx (t : Int)
                      have HLL := Lib.hid (show cntI ((rowW M5).take k) (t : Int) ≤ 1000 by have := HL10.out; unfold cntI; exact Nat.le_trans (List.length_filter_le _ _) (by rw [List.length_take]; omega))
                      by_cases hxt : x = (t : Int)
                      · rw [if_pos hxt] at hst
                        have HST := Lib.hid hst
                        have g2 : (x == (t : Int)) = true := beq_iff_eq.2 hxt
                        clear hx hst hxt
                        go_wp2_with fail
                        go_roundw
                        case rel => exact ⟨k + 1, by omega, by go_num, by rw [HST.out, IntWalk.wrap64_in _ ⟨by have := HLL.out; omega, by have := HLL.out; omega⟩]; first | done | rfl, by first | rfl | trivial⟩
                        case measure => simp [intOf]; omega
                      · rw [if_neg hxt] at hst
                        have HST := Lib.hid hst
                        have g2 : (x == (t : Int)) = false := beq_eq_false_iff_ne.2 hxt
                        clear hx hst hxt
                        go_wp2_with fail
                        go_roundw
                        case rel => exact ⟨k + 1, by omega, by go_num, by rw [HST.out, Nat.add_zero], by first | rfl | trivial⟩
                        case measure => simp [intOf]; omega
                    · obtain rfl : k = (rowW M5).length := by omega
                      have g1 : decide ((rowW M5).length < (rowW M5).length) = false := decide_eq_false (Nat.lt_irrefl _)
                      rw [List.take_length, HX.out.1.waits_cnt HI5.out t HT.out]
                      have HSTT := Lib.hid (state_has wr (fun k => w.heap.size ≤ k ∧ (k < w1.heap.size ∨ w2.heap.size ≤ k)) a M5 HX.out.1 (HNN.out.trans HM5.out.symm) t HT.out)
                      clear hkl
                      go_wp2_with fail
                      refine HSTT.out.mono ?_
                      rintro e wr' ⟨rfl, rfl⟩
                      go_wp2_with fail
                      refine (sleft_any wr (fun k => w.heap.size ≤ k ∧ (k < w1.heap.size ∨ w2.heap.size ≤ k)) a M5 HX.out.1 (HNN.out.trans HM5.out.symm) t HT.out).mono ?_
                      rintro e w8 ⟨rfl, h8, k8⟩
                      have H8 := Lib.hid h8
                      have K8 := Lib.hid (kS HX.out.2 k8)
                      have hlv := HI5.out.live t HT.out
                      have htm := HI5.out.time t HT.out
                      clear h8 k8 HSTT
                      by_cases hT0 : M5.T (t : Int) = 0
                      · rw [decide_eq_false (fun h => h hT0)]
                        rcases hlv with hs | hs | hs | hs <;> rw [hs] <;> simp only [w11, w12, w21, w22, w31, w32, w41, w42] <;> clear hs hT0 htm <;>
                        (go_wp2_with fail
                         go_roundw
                         case rel => exact ⟨t + 1, by have := HTN.out; omega, by go_num, H8.out, K8.out⟩
                         case measure => simp [intOf]; have := HTN.out; omega)
                      · rw [decide_eq_true hT0]
                        rcases htm hT0 with hs | hs <;> rw [hs] <;> simp only [w11, w12, w21, w22, w31, w32, w41, w42] <;> clear hs hT0 htm hlv <;>
                        (go_wp2_with fail
                         go_roundw
                         case rel => exact ⟨t + 1, by have := HTN.out; omega, by go_num, H8.out, K8.out⟩
                         case measure => simp [intOf]; have := HTN.out; omega)
            · obtain rfl : t = n0 := by omega
              have e1 : decide (t < t) = false := decide_eq_false (Nat.lt_irrefl _)
              clear htl
              have HR9 := Lib.hid (fun (q : Nat) (x : Int) (h : (rowI M5)[q]? = some x) => show ∃ b, a9 = some ⟨b, 0, none⟩ ∧ b < wr.heap.size ∧ wr.cell? ⟨b, q, none⟩ = some (.int .i64 x) from by
                obtain ⟨b, e1, e2, e3, e4⟩ := HC9.out q x h
                have h7 := K7.out.block b e2 (fun e => e)
                have h8 := HX.out.2.block b (Nat.lt_of_lt_of_le e2 K7.out.size) (fun e => KeepsTy.apart (w := w7) (by obtain ⟨cs, fr, e3⟩ := e3; exact ⟨cs, fr, h7.trans e3⟩) (by decide) e.2)
                exact ⟨b, e1, Nat.lt_of_lt_of_le e2 (Nat.le_trans K7.out.size HX.out.2.size), (World.cell?_of_block (a := ⟨b, q, none⟩) (h8.trans h7)).trans e4⟩)
              go_wp2_with fail
              refine (scopy_any wr (fun k => w.heap.size ≤ k ∧ (k < w1.heap.size ∨ w2.heap.size ≤ k)) a M5 HX.out.1).mono ?_
              rintro e w9 ⟨c2, rfl, _, hv, hl1, hl2, hl3, k9⟩
              have HV := Lib.hid hv
              have HL1 := Lib.hid hl1
              have K9 := Lib.hid k9
              clear hv hl1 hl2 hl3 k9
              go_wp2_with fail
              refine (vdisp w9 c2 M5 HV.out).mono ?_
              rintro e w10 ⟨bb, rfl, k10⟩
              have k910 : Keeps (fun _ => False) wr w10 := ⟨k10.os.trans K9.out.os, k10.tape.trans K9.out.tape, k10.output.trans K9.out.output, Nat.le_trans K9.out.size k10.size, fun i hi _ => (k10.block i (Nat.lt_of_lt_of_le hi K9.out.size) (fun e => by have := HL1.out; omega)).trans (K9.out.block i hi fun e => e)⟩
              have HK10 := Lib.hid k910
              have HFIN := Lib.hid (show ScW w10 (fun k => w.heap.size ≤ k ∧ (k < w1.heap.size ∨ w2.heap.size ≤ k)) a M5 ∧ KeepsS (fun k => w.heap.size ≤ k ∧ (k < w1.heap.size ∨ w2.heap.size ≤ k)) w2 w10 from ⟨HX.out.1.quiet k910, kS (kS HK5.out (kS (kS_none K6.out) (kS (kS_none K7.out) HX.out.2))) (kS_none k910)⟩)
              clear k10 k910 HV HL1 K9
              have hfirst : firstM M5 = if rowI M5 = [] then -1 else ((rowI M5).headD 0) := by
                unfold firstM rowI
                cases listT M5.R with
                | nil => rfl
                | cons x r => rfl
              cases hrow : rowI M5 with
              | nil =>
                rw [hrow] at hfirst
                rw [if_pos rfl] at hfirst
                rw [hfirst]
                clear hfirst
                go_wp2_with fail
                go_roundw
                case rel => exact ⟨q + 1, by have := HQN.out; omega, by go_num, M5, HFIN.out.1, HI5.out, HM5.out, HFIN.out.2⟩
                case measure => simp [intOf]; have := HQN.out; omega
              | cons x r =>
                obtain ⟨b9, rfl, hb9, hc9⟩ := HR9.out 0 x (by rw [hrow]; rfl)
                have hc10 : w10.cell? ⟨b9, 0, none⟩ = some (.int .i64 x) := (World.cell?_of_block (a := ⟨b9, 0, none⟩) (HK10.out.block b9 hb9 fun e => e)).trans hc9
                rw [hrow] at hfirst
                rw [if_neg (by simp)] at hfirst
                rw [hfirst]
                have f1 : ((x :: r).length == 0) = false := by simp
                have f2 : decide (0 < (x :: r).length) = true := by simp
                have f3 : (x != x) = false := by simp
                clear hfirst hc9
                simp only [List.headD_cons]
                go_wp2_with fail
                go_roundw
                case rel => exact ⟨q + 1, by have := HQN.out; omega, by go_num, M5, HFIN.out.1, HI5.out, HM5.out, HFIN.out.2⟩
                case measure => simp [intOf]; have := HQN.out; omega

      have g3 : (x.k == 3) = false := beq_eq_false_iff_ne.2 k3
      by_cases k4 : x.k = 4
      · have g4 : (x.k == 4) = true := beq_iff_eq.2 k4
        clear k1 k2 k3 k4
        have HCON := Lib.hid (went_wake w3 (fun k => w.heap.size ≤ k ∧ (k < w1.heap.size ∨ w2.heap.size ≤ k)) a M HSI.out.1 HSI.out.2.1 HSI.out.2.2 x.t)
        have HW3 := Lib.hid hw3
        rw [hw3] at HCON
        clear hw3
        go_wp2_with fail
        refine HCON.out.mono ?_
        rintro e w5 ⟨v5, M5, rfl, h5, i5, m5, k5⟩
        rw [← HW3.out] at k5
        have HS5 := Lib.hid h5
        have HI5 := Lib.hid i5
        have HM5 := Lib.hid (m5.trans HMQ.out)
        have HK5 := Lib.hid (kS HKQ.out k5)
        clear h5 i5 m5 k5 HCON
        as_aux_lemma =>
          go_wp2_with fail
          refine (sready_any w5 (fun k => w.heap.size ≤ k ∧ (k < w1.heap.size ∨ w2.heap.size ≤ k)) a M5 HS5.out).mono ?_
          rintro e w6 ⟨v9, rfl, ho9, h6, k6⟩
          obtain ⟨a9, c9, rfl, hc9⟩ := ready_row ho9
          have HC9 := Lib.hid hc9
          have H6 := Lib.hid h6
          have K6 := Lib.hid k6
          clear ho9 hc9 h6 k6
          go_wp2_with fail
          refine (swaits_any w6 (fun k => w.heap.size ≤ k ∧ (k < w1.heap.size ∨ w2.heap.size ≤ k)) a M5 H6.out (by have := H6.out.w_nodup.2; omega)).mono ?_
          rintro e w7 ⟨v10, rfl, ho10, h7, k7⟩
          obtain ⟨a10, c10, rfl, hc10⟩ := waits_row ho10
          have HC10 := Lib.hid hc10
          have H7 := Lib.hid h7
          have K7 := Lib.hid k7
          have HL9 := Lib.hid (show (rowI M5).length ≤ 1000 by
            have hs := H6.out.rank
            have := list_len16 hs
            unfold rowI
            rw [List.length_map]
            omega)
          have HL10 := Lib.hid (show (rowW M5).length ≤ 1000 by unfold rowW; rw [List.length_map]; have := H6.out.w_nodup.2; omega)
          clear ho10 hc10 h7 k7 H6
          go_wp2_with fail
          go_loopw [11] (fun v11 wr => ∃ t : Nat, t ≤ n0 ∧ v11 = .int .i64 (t : Int) ∧ ScW wr (fun k => w.heap.size ≤ k ∧ (k < w1.heap.size ∨ w2.heap.size ≤ k)) a M5 ∧ KeepsS (fun k => w.heap.size ≤ k ∧ (k < w1.heap.size ∨ w2.heap.size ≤ k)) w7 wr) (fun v11 _ => n0 - (intOf v11).toNat)
          case atStart => exact ⟨0, Nat.zero_le _, rfl, H7.out, Keeps.refl _ _⟩
          case round =>
            obtain ⟨t, htn, rfl, hS, hK⟩ := hrel
            have HX := Lib.hid (And.intro hS hK)
            clear hS hK
            by_cases htl : t < n0
            · have e1 : decide (t < n0) = true := decide_eq_true htl
              have e1' : decide ((t : Int) < (n0 : Int)) = true := decide_eq_true (by omega)
              have HT := Lib.hid (show t < M5.many by rw [HM5.out]; exact htl)
              have HTN := Lib.hid htl
              have HR9 := Lib.hid (fun (q : Nat) (x : Int) (h : (rowI M5)[q]? = some x) => show ∃ b, a9 = some ⟨b, 0, none⟩ ∧ b < wr.heap.size ∧ wr.cell? ⟨b, q, none⟩ = some (.int .i64 x) from by
                obtain ⟨b, e1, e2, e3, e4⟩ := HC9.out q x h
                have h7 := K7.out.block b e2 (fun e => e)
                have h8 := HX.out.2.block b (Nat.lt_of_lt_of_le e2 K7.out.size) (fun e => KeepsTy.apart (w := w7) (by obtain ⟨cs, fr, e3⟩ := e3; exact ⟨cs, fr, h7.trans e3⟩) (by decide) e.2)
                exact ⟨b, e1, Nat.lt_of_lt_of_le e2 (Nat.le_trans K7.out.size HX.out.2.size), (World.cell?_of_block (a := ⟨b, q, none⟩) (h8.trans h7)).trans e4⟩)
              have HR10 := Lib.hid (fun (q : Nat) (x : Int) (h : (rowW M5)[q]? = some x) => show ∃ b, a10 = some ⟨b, 0, none⟩ ∧ b < wr.heap.size ∧ wr.cell? ⟨b, q * 4, none⟩ = some (.int .i64 x) from by
                obtain ⟨b, e1, e2, e3, e4⟩ := HC10.out q x h
                have h8 := HX.out.2.block b e2 (fun e => KeepsTy.apart e3 (by decide) e.2)
                exact ⟨b, e1, Nat.lt_of_lt_of_le e2 HX.out.2.size, (World.cell?_of_block (a := ⟨b, q * 4, none⟩) h8).trans e4⟩)
              clear htl
              go_wp2_with fail
              obtain ⟨wi, hwi⟩ : ∃ wi : World, wi = wr := ⟨_, rfl⟩
              have HWI := Lib.hid hwi
              clear hwi
              go_loopw [12, 14] (fun v12 v14 wq => ∃ k : Nat, k ≤ (rowI M5).length ∧ v14 = .int .i64 (k : Int) ∧ v12 = .int .i64 ((cntI ((rowI M5).take k) (t : Int) : Nat) : Int) ∧ wq = wr) (fun _ v14 _ => (rowI M5).length - (intOf v14).toNat)
              case atStart => exact ⟨0, Nat.zero_le _, rfl, rfl, rfl⟩
              case round =>
                obtain ⟨k, hk, rfl, rfl, rfl⟩ := hrel
                by_cases hkl : k < (rowI M5).length
                · obtain ⟨x, hx⟩ : ∃ x, (rowI M5)[k]? = some x := ⟨_, List.getElem?_eq_getElem hkl⟩
                  obtain ⟨b9, rfl, hb9, hc9⟩ := HR9.out k x hx
                  have g1 : decide (k < (rowI M5).length) = true := decide_eq_true hkl
                  have g1' : decide ((k : Int) < ((rowI M5).length : Int)) = true := decide_eq_true (by omega)
                  have g3 : (0 : Int) ≤ (k : Int) := by omega
                  have g4 : (k : Int) < ((rowI M5).length : Int) := by omega
                  have g5 : (rowI M5).length ≤ 1000 := HL9.out
                  have hst := cnt_step hx (t : Int)
                  have HLL := Lib.hid (show cntI ((rowI M5).take k) (t : Int) ≤ 1000 by have := HL9.out; unfold cntI; exact Nat.le_trans (List.length_filter_le _ _) (by rw [List.length_take]; omega))
                  by_cases hxt : x = (t : Int)
                  · rw [if_pos hxt] at hst
                    have HST := Lib.hid hst
                    have g2 : (x == (t : Int)) = true := beq_iff_eq.2 hxt
                    clear hx hst hxt
                    go_wp2_with fail
                    go_roundw
                    case rel => exact ⟨k + 1, by omega, by go_num, by rw [HST.out, IntWalk.wrap64_in _ ⟨by have := HLL.out; omega, by have := HLL.out; omega⟩]; first | done | rfl, by first | rfl | trivial⟩
                    case measure => simp [intOf]; omega
                  · rw [if_neg hxt] at hst
                    have HST := Lib.hid hst
                    have g2 : (x == (t : Int)) = false := beq_eq_false_iff_ne.2 hxt
                    clear hx hst hxt
                    go_wp2_with fail
                    go_roundw
                    case rel => exact ⟨k + 1, by omega, by go_num, by rw [HST.out, Nat.add_zero], by first | rfl | trivial⟩
                    case measure => simp [intOf]; omega
                · obtain rfl : k = (rowI M5).length := by omega
                  have g1 : decide ((rowI M5).length < (rowI M5).length) = false := decide_eq_false (Nat.lt_irrefl _)
                  rw [List.take_length, HX.out.1.ready_cnt HI5.out t HT.out]
                  clear hkl
                  go_wp2_with fail
                  go_loopw [13, 15] (fun v13 v15 wq => ∃ k : Nat, k ≤ (rowW M5).length ∧ v15 = .int .i64 (k : Int) ∧ v13 = .int .i64 ((cntI ((rowW M5).take k) (t : Int) : Nat) : Int) ∧ wq = wr) (fun _ v15 _ => (rowW M5).length - (intOf v15).toNat)
                  case atStart => exact ⟨0, Nat.zero_le _, rfl, rfl, rfl⟩
                  case round =>
                    obtain ⟨k, hk, rfl, rfl, rfl⟩ := hrel
                    by_cases hkl : k < (rowW M5).length
                    · obtain ⟨x, hx⟩ : ∃ x, (rowW M5)[k]? = some x := ⟨_, List.getElem?_eq_getElem hkl⟩
                      obtain ⟨b10, rfl, hb10, hc10⟩ := HR10.out k x hx
                      have g1 : decide (k < (rowW M5).length) = true := decide_eq_true hkl
                      have g1' : decide ((k : Int) < ((rowW M5).length : Int)) = true := decide_eq_true (by omega)
                      have g3 : (0 : Int) ≤ (k : Int) := by omega
                      have g4 : (k : Int) < ((rowW M5).length : Int) := by omega
                      have g5 : (rowW M5).length ≤ 1000 := HL10.out
                      have hst := cnt_step hx (t : Int)
                      have HLL := Lib.hid (show cntI ((rowW M5).take k) (t : Int) ≤ 1000 by have := HL10.out; unfold cntI; exact Nat.le_trans (List.length_filter_le _ _) (by rw [List.length_take]; omega))
                      by_cases hxt : x = (t : Int)
                      · rw [if_pos hxt] at hst
                        have HST := Lib.hid hst
                        have g2 : (x == (t : Int)) = true := beq_iff_eq.2 hxt
                        clear hx hst hxt
                        go_wp2_with fail
                        go_roundw
                        case rel => exact ⟨k + 1, by omega, by go_num, by rw [HST.out, IntWalk.wrap64_in _ ⟨by have := HLL.out; omega, by have := HLL.out; omega⟩]; first | done | rfl, by first | rfl | trivial⟩
                        case measure => simp [intOf]; omega
                      · rw [if_neg hxt] at hst
                        have HST := Lib.hid hst
                        have g2 : (x == (t : Int)) = false := beq_eq_false_iff_ne.2 hxt
                        clear hx hst hxt
                        go_wp2_with fail
                        go_roundw
                        case rel => exact ⟨k + 1, by omega, by go_num, by rw [HST.out, Nat.add_zero], by first | rfl | trivial⟩
                        case measure => simp [intOf]; omega
                    · obtain rfl : k = (rowW M5).length := by omega
                      have g1 : decide ((rowW M5).length < (rowW M5).length) = false := decide_eq_false (Nat.lt_irrefl _)
                      rw [List.take_length, HX.out.1.waits_cnt HI5.out t HT.out]
                      have HSTT := Lib.hid (state_has wr (fun k => w.heap.size ≤ k ∧ (k < w1.heap.size ∨ w2.heap.size ≤ k)) a M5 HX.out.1 (HNN.out.trans HM5.out.symm) t HT.out)
                      clear hkl
                      go_wp2_with fail
                      refine HSTT.out.mono ?_
                      rintro e wr' ⟨rfl, rfl⟩
                      go_wp2_with fail
                      refine (sleft_any wr (fun k => w.heap.size ≤ k ∧ (k < w1.heap.size ∨ w2.heap.size ≤ k)) a M5 HX.out.1 (HNN.out.trans HM5.out.symm) t HT.out).mono ?_
                      rintro e w8 ⟨rfl, h8, k8⟩
                      have H8 := Lib.hid h8
                      have K8 := Lib.hid (kS HX.out.2 k8)
                      have hlv := HI5.out.live t HT.out
                      have htm := HI5.out.time t HT.out
                      clear h8 k8 HSTT
                      by_cases hT0 : M5.T (t : Int) = 0
                      · rw [decide_eq_false (fun h => h hT0)]
                        rcases hlv with hs | hs | hs | hs <;> rw [hs] <;> simp only [w11, w12, w21, w22, w31, w32, w41, w42] <;> clear hs hT0 htm <;>
                        (go_wp2_with fail
                         go_roundw
                         case rel => exact ⟨t + 1, by have := HTN.out; omega, by go_num, H8.out, K8.out⟩
                         case measure => simp [intOf]; have := HTN.out; omega)
                      · rw [decide_eq_true hT0]
                        rcases htm hT0 with hs | hs <;> rw [hs] <;> simp only [w11, w12, w21, w22, w31, w32, w41, w42] <;> clear hs hT0 htm hlv <;>
                        (go_wp2_with fail
                         go_roundw
                         case rel => exact ⟨t + 1, by have := HTN.out; omega, by go_num, H8.out, K8.out⟩
                         case measure => simp [intOf]; have := HTN.out; omega)
            · obtain rfl : t = n0 := by omega
              have e1 : decide (t < t) = false := decide_eq_false (Nat.lt_irrefl _)
              clear htl
              have HR9 := Lib.hid (fun (q : Nat) (x : Int) (h : (rowI M5)[q]? = some x) => show ∃ b, a9 = some ⟨b, 0, none⟩ ∧ b < wr.heap.size ∧ wr.cell? ⟨b, q, none⟩ = some (.int .i64 x) from by
                obtain ⟨b, e1, e2, e3, e4⟩ := HC9.out q x h
                have h7 := K7.out.block b e2 (fun e => e)
                have h8 := HX.out.2.block b (Nat.lt_of_lt_of_le e2 K7.out.size) (fun e => KeepsTy.apart (w := w7) (by obtain ⟨cs, fr, e3⟩ := e3; exact ⟨cs, fr, h7.trans e3⟩) (by decide) e.2)
                exact ⟨b, e1, Nat.lt_of_lt_of_le e2 (Nat.le_trans K7.out.size HX.out.2.size), (World.cell?_of_block (a := ⟨b, q, none⟩) (h8.trans h7)).trans e4⟩)
              go_wp2_with fail
              refine (scopy_any wr (fun k => w.heap.size ≤ k ∧ (k < w1.heap.size ∨ w2.heap.size ≤ k)) a M5 HX.out.1).mono ?_
              rintro e w9 ⟨c2, rfl, _, hv, hl1, hl2, hl3, k9⟩
              have HV := Lib.hid hv
              have HL1 := Lib.hid hl1
              have K9 := Lib.hid k9
              clear hv hl1 hl2 hl3 k9
              go_wp2_with fail
              refine (vdisp w9 c2 M5 HV.out).mono ?_
              rintro e w10 ⟨bb, rfl, k10⟩
              have k910 : Keeps (fun _ => False) wr w10 := ⟨k10.os.trans K9.out.os, k10.tape.trans K9.out.tape, k10.output.trans K9.out.output, Nat.le_trans K9.out.size k10.size, fun i hi _ => (k10.block i (Nat.lt_of_lt_of_le hi K9.out.size) (fun e => by have := HL1.out; omega)).trans (K9.out.block i hi fun e => e)⟩
              have HK10 := Lib.hid k910
              have HFIN := Lib.hid (show ScW w10 (fun k => w.heap.size ≤ k ∧ (k < w1.heap.size ∨ w2.heap.size ≤ k)) a M5 ∧ KeepsS (fun k => w.heap.size ≤ k ∧ (k < w1.heap.size ∨ w2.heap.size ≤ k)) w2 w10 from ⟨HX.out.1.quiet k910, kS (kS HK5.out (kS (kS_none K6.out) (kS (kS_none K7.out) HX.out.2))) (kS_none k910)⟩)
              clear k10 k910 HV HL1 K9
              have hfirst : firstM M5 = if rowI M5 = [] then -1 else ((rowI M5).headD 0) := by
                unfold firstM rowI
                cases listT M5.R with
                | nil => rfl
                | cons x r => rfl
              cases hrow : rowI M5 with
              | nil =>
                rw [hrow] at hfirst
                rw [if_pos rfl] at hfirst
                rw [hfirst]
                clear hfirst
                go_wp2_with fail
                go_roundw
                case rel => exact ⟨q + 1, by have := HQN.out; omega, by go_num, M5, HFIN.out.1, HI5.out, HM5.out, HFIN.out.2⟩
                case measure => simp [intOf]; have := HQN.out; omega
              | cons x r =>
                obtain ⟨b9, rfl, hb9, hc9⟩ := HR9.out 0 x (by rw [hrow]; rfl)
                have hc10 : w10.cell? ⟨b9, 0, none⟩ = some (.int .i64 x) := (World.cell?_of_block (a := ⟨b9, 0, none⟩) (HK10.out.block b9 hb9 fun e => e)).trans hc9
                rw [hrow] at hfirst
                rw [if_neg (by simp)] at hfirst
                rw [hfirst]
                have f1 : ((x :: r).length == 0) = false := by simp
                have f2 : decide (0 < (x :: r).length) = true := by simp
                have f3 : (x != x) = false := by simp
                clear hfirst hc9
                simp only [List.headD_cons]
                go_wp2_with fail
                go_roundw
                case rel => exact ⟨q + 1, by have := HQN.out; omega, by go_num, M5, HFIN.out.1, HI5.out, HM5.out, HFIN.out.2⟩
                case measure => simp [intOf]; have := HQN.out; omega

      have g4 : (x.k == 4) = false := beq_eq_false_iff_ne.2 k4
      clear k1 k2 k3 k4
      have HCON := Lib.hid (went_disp w3 (fun k => w.heap.size ≤ k ∧ (k < w1.heap.size ∨ w2.heap.size ≤ k)) a M HSI.out.1 HSI.out.2.1)
      have HW3 := Lib.hid hw3
      rw [hw3] at HCON
      clear hw3
      go_wp2_with fail
      refine HCON.out.mono ?_
      rintro e w5 ⟨x5, b5, M5, rfl, h5, i5, m5, k5⟩
      rw [← HW3.out] at k5
      have HS5 := Lib.hid h5
      have HI5 := Lib.hid i5
      have HM5 := Lib.hid (m5.trans HMQ.out)
      have HK5 := Lib.hid (kS HKQ.out k5)
      clear h5 i5 m5 k5 HCON
      as_aux_lemma =>
        go_wp2_with fail
        refine (sready_any w5 (fun k => w.heap.size ≤ k ∧ (k < w1.heap.size ∨ w2.heap.size ≤ k)) a M5 HS5.out).mono ?_
        rintro e w6 ⟨v9, rfl, ho9, h6, k6⟩
        obtain ⟨a9, c9, rfl, hc9⟩ := ready_row ho9
        have HC9 := Lib.hid hc9
        have H6 := Lib.hid h6
        have K6 := Lib.hid k6
        clear ho9 hc9 h6 k6
        go_wp2_with fail
        refine (swaits_any w6 (fun k => w.heap.size ≤ k ∧ (k < w1.heap.size ∨ w2.heap.size ≤ k)) a M5 H6.out (by have := H6.out.w_nodup.2; omega)).mono ?_
        rintro e w7 ⟨v10, rfl, ho10, h7, k7⟩
        obtain ⟨a10, c10, rfl, hc10⟩ := waits_row ho10
        have HC10 := Lib.hid hc10
        have H7 := Lib.hid h7
        have K7 := Lib.hid k7
        have HL9 := Lib.hid (show (rowI M5).length ≤ 1000 by
          have hs := H6.out.rank
          have := list_len16 hs
          unfold rowI
          rw [List.length_map]
          omega)
        have HL10 := Lib.hid (show (rowW M5).length ≤ 1000 by unfold rowW; rw [List.length_map]; have := H6.out.w_nodup.2; omega)
        clear ho10 hc10 h7 k7 H6
        go_wp2_with fail
        go_loopw [11] (fun v11 wr => ∃ t : Nat, t ≤ n0 ∧ v11 = .int .i64 (t : Int) ∧ ScW wr (fun k => w.heap.size ≤ k ∧ (k < w1.heap.size ∨ w2.heap.size ≤ k)) a M5 ∧ KeepsS (fun k => w.heap.size ≤ k ∧ (k < w1.heap.size ∨ w2.heap.size ≤ k)) w7 wr) (fun v11 _ => n0 - (intOf v11).toNat)
        case atStart => exact ⟨0, Nat.zero_le _, rfl, H7.out, Keeps.refl _ _⟩
        case round =>
          obtain ⟨t, htn, rfl, hS, hK⟩ := hrel
          have HX := Lib.hid (And.intro hS hK)
          clear hS hK
          by_cases htl : t < n0
          · have e1 : decide (t < n0) = true := decide_eq_true htl
            have e1' : decide ((t : Int) < (n0 : Int)) = true := decide_eq_true (by omega)
            have HT := Lib.hid (show t < M5.many by rw [HM5.out]; exact htl)
            have HTN := Lib.hid htl
            have HR9 := Lib.hid (fun (q : Nat) (x : Int) (h : (rowI M5)[q]? = some x) => show ∃ b, a9 = some ⟨b, 0, none⟩ ∧ b < wr.heap.size ∧ wr.cell? ⟨b, q, none⟩ = some (.int .i64 x) from by
              obtain ⟨b, e1, e2, e3, e4⟩ := HC9.out q x h
              have h7 := K7.out.block b e2 (fun e => e)
              have h8 := HX.out.2.block b (Nat.lt_of_lt_of_le e2 K7.out.size) (fun e => KeepsTy.apart (w := w7) (by obtain ⟨cs, fr, e3⟩ := e3; exact ⟨cs, fr, h7.trans e3⟩) (by decide) e.2)
              exact ⟨b, e1, Nat.lt_of_lt_of_le e2 (Nat.le_trans K7.out.size HX.out.2.size), (World.cell?_of_block (a := ⟨b, q, none⟩) (h8.trans h7)).trans e4⟩)
            have HR10 := Lib.hid (fun (q : Nat) (x : Int) (h : (rowW M5)[q]? = some x) => show ∃ b, a10 = some ⟨b, 0, none⟩ ∧ b < wr.heap.size ∧ wr.cell? ⟨b, q * 4, none⟩ = some (.int .i64 x) from by
              obtain ⟨b, e1, e2, e3, e4⟩ := HC10.out q x h
              have h8 := HX.out.2.block b e2 (fun e => KeepsTy.apart e3 (by decide) e.2)
              exact ⟨b, e1, Nat.lt_of_lt_of_le e2 HX.out.2.size, (World.cell?_of_block (a := ⟨b, q * 4, none⟩) h8).trans e4⟩)
            clear htl
            go_wp2_with fail
            obtain ⟨wi, hwi⟩ : ∃ wi : World, wi = wr := ⟨_, rfl⟩
            have HWI := Lib.hid hwi
            clear hwi
            go_loopw [12, 14] (fun v12 v14 wq => ∃ k : Nat, k ≤ (rowI M5).length ∧ v14 = .int .i64 (k : Int) ∧ v12 = .int .i64 ((cntI ((rowI M5).take k) (t : Int) : Nat) : Int) ∧ wq = wr) (fun _ v14 _ => (rowI M5).length - (intOf v14).toNat)
            case atStart => exact ⟨0, Nat.zero_le _, rfl, rfl, rfl⟩
            case round =>
              obtain ⟨k, hk, rfl, rfl, rfl⟩ := hrel
              by_cases hkl : k < (rowI M5).length
              · obtain ⟨x, hx⟩ : ∃ x, (rowI M5)[k]? = some x := ⟨_, List.getElem?_eq_getElem hkl⟩
                obtain ⟨b9, rfl, hb9, hc9⟩ := HR9.out k x hx
                have g1 : decide (k < (rowI M5).length) = true := decide_eq_true hkl
                have g1' : decide ((k : Int) < ((rowI M5).length : Int)) = true := decide_eq_true (by omega)
                have g3 : (0 : Int) ≤ (k : Int) := by omega
                have g4 : (k : Int) < ((rowI M5).length : Int) := by omega
                have g5 : (rowI M5).length ≤ 1000 := HL9.out
                have hst := cnt_step hx (t : Int)
                have HLL := Lib.hid (show cntI ((rowI M5).take k) (t : Int) ≤ 1000 by have := HL9.out; unfold cntI; exact Nat.le_trans (List.length_filter_le _ _) (by rw [List.length_take]; omega))
                by_cases hxt : x = (t : Int)
                · rw [if_pos hxt] at hst
                  have HST := Lib.hid hst
                  have g2 : (x == (t : Int)) = true := beq_iff_eq.2 hxt
                  clear hx hst hxt
                  go_wp2_with fail
                  go_roundw
                  case rel => exact ⟨k + 1, by omega, by go_num, by rw [HST.out, IntWalk.wrap64_in _ ⟨by have := HLL.out; omega, by have := HLL.out; omega⟩]; first | done | rfl, by first | rfl | trivial⟩
                  case measure => simp [intOf]; omega
                · rw [if_neg hxt] at hst
                  have HST := Lib.hid hst
                  have g2 : (x == (t : Int)) = false := beq_eq_false_iff_ne.2 hxt
                  clear hx hst hxt
                  go_wp2_with fail
                  go_roundw
                  case rel => exact ⟨k + 1, by omega, by go_num, by rw [HST.out, Nat.add_zero], by first | rfl | trivial⟩
                  case measure => simp [intOf]; omega
              · obtain rfl : k = (rowI M5).length := by omega
                have g1 : decide ((rowI M5).length < (rowI M5).length) = false := decide_eq_false (Nat.lt_irrefl _)
                rw [List.take_length, HX.out.1.ready_cnt HI5.out t HT.out]
                clear hkl
                go_wp2_with fail
                go_loopw [13, 15] (fun v13 v15 wq => ∃ k : Nat, k ≤ (rowW M5).length ∧ v15 = .int .i64 (k : Int) ∧ v13 = .int .i64 ((cntI ((rowW M5).take k) (t : Int) : Nat) : Int) ∧ wq = wr) (fun _ v15 _ => (rowW M5).length - (intOf v15).toNat)
                case atStart => exact ⟨0, Nat.zero_le _, rfl, rfl, rfl⟩
                case round =>
                  obtain ⟨k, hk, rfl, rfl, rfl⟩ := hrel
                  by_cases hkl : k < (rowW M5).length
                  · obtain ⟨x, hx⟩ : ∃ x, (rowW M5)[k]? = some x := ⟨_, List.getElem?_eq_getElem hkl⟩
                    obtain ⟨b10, rfl, hb10, hc10⟩ := HR10.out k x hx
                    have g1 : decide (k < (rowW M5).length) = true := decide_eq_true hkl
                    have g1' : decide ((k : Int) < ((rowW M5).length : Int)) = true := decide_eq_true (by omega)
                    have g3 : (0 : Int) ≤ (k : Int) := by omega
                    have g4 : (k : Int) < ((rowW M5).length : Int) := by omega
                    have g5 : (rowW M5).length ≤ 1000 := HL10.out
                    have hst := cnt_step hx (t : Int)
                    have HLL := Lib.hid (show cntI ((rowW M5).take k) (t : Int) ≤ 1000 by have := HL10.out; unfold cntI; exact Nat.le_trans (List.length_filter_le _ _) (by rw [List.length_take]; omega))
                    by_cases hxt : x = (t : Int)
                    · rw [if_pos hxt] at hst
                      have HST := Lib.hid hst
                      have g2 : (x == (t : Int)) = true := beq_iff_eq.2 hxt
                      clear hx hst hxt
                      go_wp2_with fail
                      go_roundw
                      case rel => exact ⟨k + 1, by omega, by go_num, by rw [HST.out, IntWalk.wrap64_in _ ⟨by have := HLL.out; omega, by have := HLL.out; omega⟩]; first | done | rfl, by first | rfl | trivial⟩
                      case measure => simp [intOf]; omega
                    · rw [if_neg hxt] at hst
                      have HST := Lib.hid hst
                      have g2 : (x == (t : Int)) = false := beq_eq_false_iff_ne.2 hxt
                      clear hx hst hxt
                      go_wp2_with fail
                      go_roundw
                      case rel => exact ⟨k + 1, by omega, by go_num, by rw [HST.out, Nat.add_zero], by first | rfl | trivial⟩
                      case measure => simp [intOf]; omega
                  · obtain rfl : k = (rowW M5).length := by omega
                    have g1 : decide ((rowW M5).length < (rowW M5).length) = false := decide_eq_false (Nat.lt_irrefl _)
                    rw [List.take_length, HX.out.1.waits_cnt HI5.out t HT.out]
                    have HSTT := Lib.hid (state_has wr (fun k => w.heap.size ≤ k ∧ (k < w1.heap.size ∨ w2.heap.size ≤ k)) a M5 HX.out.1 (HNN.out.trans HM5.out.symm) t HT.out)
                    clear hkl
                    go_wp2_with fail
                    refine HSTT.out.mono ?_
                    rintro e wr' ⟨rfl, rfl⟩
                    go_wp2_with fail
                    refine (sleft_any wr (fun k => w.heap.size ≤ k ∧ (k < w1.heap.size ∨ w2.heap.size ≤ k)) a M5 HX.out.1 (HNN.out.trans HM5.out.symm) t HT.out).mono ?_
                    rintro e w8 ⟨rfl, h8, k8⟩
                    have H8 := Lib.hid h8
                    have K8 := Lib.hid (kS HX.out.2 k8)
                    have hlv := HI5.out.live t HT.out
                    have htm := HI5.out.time t HT.out
                    clear h8 k8 HSTT
                    by_cases hT0 : M5.T (t : Int) = 0
                    · rw [decide_eq_false (fun h => h hT0)]
                      rcases hlv with hs | hs | hs | hs <;> rw [hs] <;> simp only [w11, w12, w21, w22, w31, w32, w41, w42] <;> clear hs hT0 htm <;>
                      (go_wp2_with fail
                       go_roundw
                       case rel => exact ⟨t + 1, by have := HTN.out; omega, by go_num, H8.out, K8.out⟩
                       case measure => simp [intOf]; have := HTN.out; omega)
                    · rw [decide_eq_true hT0]
                      rcases htm hT0 with hs | hs <;> rw [hs] <;> simp only [w11, w12, w21, w22, w31, w32, w41, w42] <;> clear hs hT0 htm hlv <;>
                      (go_wp2_with fail
                       go_roundw
                       case rel => exact ⟨t + 1, by have := HTN.out; omega, by go_num, H8.out, K8.out⟩
                       case measure => simp [intOf]; have := HTN.out; omega)
          · obtain rfl : t = n0 := by omega
            have e1 : decide (t < t) = false := decide_eq_false (Nat.lt_irrefl _)
            clear htl
            have HR9 := Lib.hid (fun (q : Nat) (x : Int) (h : (rowI M5)[q]? = some x) => show ∃ b, a9 = some ⟨b, 0, none⟩ ∧ b < wr.heap.size ∧ wr.cell? ⟨b, q, none⟩ = some (.int .i64 x) from by
              obtain ⟨b, e1, e2, e3, e4⟩ := HC9.out q x h
              have h7 := K7.out.block b e2 (fun e => e)
              have h8 := HX.out.2.block b (Nat.lt_of_lt_of_le e2 K7.out.size) (fun e => KeepsTy.apart (w := w7) (by obtain ⟨cs, fr, e3⟩ := e3; exact ⟨cs, fr, h7.trans e3⟩) (by decide) e.2)
              exact ⟨b, e1, Nat.lt_of_lt_of_le e2 (Nat.le_trans K7.out.size HX.out.2.size), (World.cell?_of_block (a := ⟨b, q, none⟩) (h8.trans h7)).trans e4⟩)
            go_wp2_with fail
            refine (scopy_any wr (fun k => w.heap.size ≤ k ∧ (k < w1.heap.size ∨ w2.heap.size ≤ k)) a M5 HX.out.1).mono ?_
            rintro e w9 ⟨c2, rfl, _, hv, hl1, hl2, hl3, k9⟩
            have HV := Lib.hid hv
            have HL1 := Lib.hid hl1
            have K9 := Lib.hid k9
            clear hv hl1 hl2 hl3 k9
            go_wp2_with fail
            refine (vdisp w9 c2 M5 HV.out).mono ?_
            rintro e w10 ⟨bb, rfl, k10⟩
            have k910 : Keeps (fun _ => False) wr w10 := ⟨k10.os.trans K9.out.os, k10.tape.trans K9.out.tape, k10.output.trans K9.out.output, Nat.le_trans K9.out.size k10.size, fun i hi _ => (k10.block i (Nat.lt_of_lt_of_le hi K9.out.size) (fun e => by have := HL1.out; omega)).trans (K9.out.block i hi fun e => e)⟩
            have HK10 := Lib.hid k910
            have HFIN := Lib.hid (show ScW w10 (fun k => w.heap.size ≤ k ∧ (k < w1.heap.size ∨ w2.heap.size ≤ k)) a M5 ∧ KeepsS (fun k => w.heap.size ≤ k ∧ (k < w1.heap.size ∨ w2.heap.size ≤ k)) w2 w10 from ⟨HX.out.1.quiet k910, kS (kS HK5.out (kS (kS_none K6.out) (kS (kS_none K7.out) HX.out.2))) (kS_none k910)⟩)
            clear k10 k910 HV HL1 K9
            have hfirst : firstM M5 = if rowI M5 = [] then -1 else ((rowI M5).headD 0) := by
              unfold firstM rowI
              cases listT M5.R with
              | nil => rfl
              | cons x r => rfl
            cases hrow : rowI M5 with
            | nil =>
              rw [hrow] at hfirst
              rw [if_pos rfl] at hfirst
              rw [hfirst]
              clear hfirst
              go_wp2_with fail
              go_roundw
              case rel => exact ⟨q + 1, by have := HQN.out; omega, by go_num, M5, HFIN.out.1, HI5.out, HM5.out, HFIN.out.2⟩
              case measure => simp [intOf]; have := HQN.out; omega
            | cons x r =>
              obtain ⟨b9, rfl, hb9, hc9⟩ := HR9.out 0 x (by rw [hrow]; rfl)
              have hc10 : w10.cell? ⟨b9, 0, none⟩ = some (.int .i64 x) := (World.cell?_of_block (a := ⟨b9, 0, none⟩) (HK10.out.block b9 hb9 fun e => e)).trans hc9
              rw [hrow] at hfirst
              rw [if_neg (by simp)] at hfirst
              rw [hfirst]
              have f1 : ((x :: r).length == 0) = false := by simp
              have f2 : decide (0 < (x :: r).length) = true := by simp
              have f3 : (x != x) = false := by simp
              clear hfirst hc9
              simp only [List.headD_cons]
              go_wp2_with fail
              go_roundw
              case rel => exact ⟨q + 1, by have := HQN.out; omega, by go_num, M5, HFIN.out.1, HI5.out, HM5.out, HFIN.out.2⟩
              case measure => simp [intOf]; have := HQN.out; omega

    · obtain rfl : q = n1 := by omega
      have e1 : decide (q < q) = false := decide_eq_false (Nat.lt_irrefl _)
      have HVV := Lib.hid (show ScV wr c (dispM (newM L)) from HV.out.1.kept hK (fun e => by have := HV.out.2.1; have := HV.out.1.sLt; have := e.1; omega) (fun e => by have := HV.out.2.2.1; have := HV.out.1.rank.lt; have := e.1; omega) (fun t ht e => by have := HV.out.2.2.2.1 t ht; have := HV.out.1.tLt t ht; have := e.1; omega))
      have HCN := Lib.hid (show c.n = (dispM (newM L)).many from HV.out.2.2.2.2.trans (HNN.out.trans HML.out.symm))
      have HTWO := Lib.hid ((born_new L).two)
      have HKK := Lib.hid (show Keeps (fun _ => False) w wr from ⟨hK.os.trans (K1.out.trans K2.out).os, hK.tape.trans (K1.out.trans K2.out).tape, hK.output.trans (K1.out.trans K2.out).output, Nat.le_trans (K1.out.trans K2.out).size hK.size, fun i hi _ => (hK.block i (Nat.lt_of_lt_of_le hi (K1.out.trans K2.out).size) (fun e => by have := e.1.1; omega)).trans ((K1.out.trans K2.out).block i hi fun e => e)⟩)
      clear hS hI hM hK hlt
      go_wp2_with fail
      obtain ⟨wi, hwi⟩ : ∃ wi : World, wi = wr := ⟨_, rfl⟩
      clear hwi
      go_loopw [21] (fun v21 wq => ∃ t : Nat, t ≤ n0 ∧ v21 = .int .i64 (t : Int) ∧ wq = wr) (fun v21 _ => n0 - (intOf v21).toNat)
      case atStart => exact ⟨0, Nat.zero_le _, rfl, rfl⟩
      case round =>
        obtain ⟨t, htn, rfl, rfl⟩ := hrel
        by_cases htl : t < n0
        · have f1 : decide (t < n0) = true := decide_eq_true htl
          have f1' : decide ((t : Int) < (n0 : Int)) = true := decide_eq_true (by omega)
          have HTN := Lib.hid htl
          have HTM := Lib.hid (show t < (dispM (newM L)).many from (show t < (newM L).many by rw [HML.out]; exact htl))
          have hst := vstate wr c _ HVV.out HCN.out t HTM.out
          have HTWOt := HTWO.out t HTM.out
          rw [show (dispM (newM L)).st t = (newM L).st t from rfl] at hst
          clear htl
          rcases HTWOt with hs | hs
          · rw [hs] at hst
            have HST := Lib.hid hst
            clear hs hst
            go_wp2_with fail
            refine HST.out.mono ?_
            rintro e wr' ⟨rfl, rfl⟩
            go_wp2_with fail
            refine HST.out.mono ?_
            rintro e wr' ⟨rfl, rfl⟩
            go_wp2_with fail
            go_roundw
            case rel => exact ⟨t + 1, by have := HTN.out; omega, by go_num, by first | rfl | trivial⟩
            case measure => simp [intOf]; have := HTN.out; omega
          · rw [hs] at hst
            have HST := Lib.hid hst
            clear hs hst
            go_wp2_with fail
            refine HST.out.mono ?_
            rintro e wr' ⟨rfl, rfl⟩
            go_wp2_with fail
            refine HST.out.mono ?_
            rintro e wr' ⟨rfl, rfl⟩
            go_wp2_with fail
            go_roundw
            case rel => exact ⟨t + 1, by have := HTN.out; omega, by go_num, by first | rfl | trivial⟩
            case measure => simp [intOf]; have := HTN.out; omega
        · obtain rfl : t = n0 := by omega
          have f1 : decide (t < t) = false := decide_eq_false (Nat.lt_irrefl _)
          clear htl
          go_wp2_with fail
          refine (ndisp wr).mono ?_
          rintro e wr' ⟨rfl, rfl⟩
          go_wp2_with fail
          refine (ntaken wr).mono ?_
          rintro e w4 ⟨rfl, k4⟩
          have HK4 := Lib.hid (HKK.out.trans k4)
          clear k4
          go_wp2_with fail
          refine (nnext _).mono ?_
          rintro e w5 ⟨rfl, k5⟩
          have HK5 := Lib.hid ((HK4.out.alloc _).trans k5)
          clear k5
          go_wp2_with fail
          refine (nleft27 _).mono ?_
          rintro e w5' ⟨rfl, rfl⟩
          go_wp2_with fail
          refine (ncur _).mono ?_
          rintro e w5' ⟨rfl, rfl⟩
          go_wp2_with fail
          refine (nserve _).mono ?_
          rintro e w6 ⟨rfl, k6⟩
          have HK6 := Lib.hid ((HK5.out.alloc _).trans k6)
          clear k6
          go_wp2_with fail
          refine (nnote _).mono ?_
          rintro e w6' ⟨rfl, rfl⟩
          go_wp2_with fail
          refine (nwake _).mono ?_
          rintro e w6' ⟨rfl, rfl⟩
          go_wp2_with fail
          refine (ndue _).mono ?_
          rintro e w6' ⟨rfl, rfl⟩
          go_wp2_with fail
          refine (nstate _).mono ?_
          rintro e w6' ⟨rfl, rfl⟩
          go_wp2_with fail
          refine (nbits _).mono ?_
          rintro e w6' ⟨rfl, rfl⟩
          go_wp2_with fail
          refine (ntick _).mono ?_
          rintro e w6' ⟨rfl, rfl⟩
          go_wp2_with fail
          refine (nready _).mono ?_
          rintro e w6' ⟨rfl, rfl⟩
          go_wp2_with fail
          refine (nwaits _).mono ?_
          rintro e w6' ⟨rfl, rfl⟩
          go_wp2_with fail
          refine (ncopy27 _).mono ?_
          rintro e w6' ⟨rfl, rfl⟩
          go_wp2_with fail
          refine (alive27_any _).mono ?_
          rintro e w7 ⟨rfl, k7⟩
          have HK7 := Lib.hid (HK6.out.trans k7)
          clear k7
          go_wp2_with fail
          go_ret
          exact ⟨rfl, HK7.out.none⟩
set_option maxRecDepth 100000 in
theorem schedWhole_walk {H : Type} {enc : TypeId × Value → H} (W : World) (base : Nat) {v0 v1 : Value} {d0 d1 : DataW H} {p0 p1 : List MemPlace}
    (k0 : Value.okWide Try.prog W .any base 87 v0) (h0 : DataW.Trod enc Try.prog W 0 (fun _ => true) true 87 v0 d0 p0)
    (k1 : Value.okWide Try.prog W .any base 88 v1) (h1 : DataW.Trod enc Try.prog W 0 (fun _ => true) true 88 v1 d1 p1) :
    Calls Try.prog 9 #[v0, v1] W fun e w' => e = .returned (.bool true) ∧ Below W.heap.size W w' := by
  obtain ⟨a0, n0, c0, L, hcs, _, harg0⟩ := prios_open (reads_of h0)
  obtain ⟨b0, m0, q0, rfl⟩ := okWide_slice Try.underlying87 k0
  simp [Value.cells] at hcs
  obtain ⟨rfl, rfl, rfl⟩ := hcs
  obtain ⟨a1, n1, c1, X, hcs, _, harg1⟩ := steps_open (reads_of h1)
  obtain ⟨b1, m1, q1, rfl⟩ := okWide_slice Try.underlying88 k1
  simp [Value.cells] at hcs
  obtain ⟨rfl, rfl, rfl⟩ := hcs
  by_cases hb : 16 < m0 ∨ 60 < m1
  · exact swhole_out W b0 m0 q0 b1 m1 q1 hb
  · exact swhole_in W b0 m0 q0 L harg0 (by omega) b1 m1 q1 X harg1 (by omega)
end Go.Proofs.Ytdbplamhpkahaaa
