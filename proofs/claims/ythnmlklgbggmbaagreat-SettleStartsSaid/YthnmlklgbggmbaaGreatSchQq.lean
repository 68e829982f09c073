import Derived.Test.YthnmlklgbggmbaaGreatDrDq
namespace Go.Proofs.YthnmlklgbggmbaaGreat
open Go.ChangeShapes Go.WideShapes Go.ChangeAt Go.RowKit
set_option linter.unusedVariables false
set_option linter.unusedSimpArgs false
theorem copyAt_nil {w W : World} {C : Nat} (h : CopyAt w W C []) : ∃ hd, IsQ W C [] hd := by
  obtain ⟨N, hd, hq, hm, _⟩ := h.ring
  obtain rfl : N = [] := List.map_eq_nil_iff.1 hm
  exact ⟨hd, hq⟩
theorem sc_qcopy0 (w : World) (P : Nat → Prop) (a : ScA) (M : ScM) (h : ScW w P a M) (hM : M.W = []) : Calls Tryz.prog 37 #[.pointer (some ⟨a.Q, 0, none⟩)] w fun e w' => e = .returned (.pointer (some ⟨w.heap.size, 0, none⟩)) ∧ (∃ hd, IsQ w' w.heap.size [] hd) ∧ Keeps (fun _ => False) w w' := by
  obtain ⟨N, b, hq, hg, hW, hl⟩ := h.queue
  rw [hM] at hW
  obtain rfl : N = [] := List.map_eq_nil_iff.1 hW
  refine (Copy_any a.Q [] b w hq hg.rng).mono ?_
  rintro e w' ⟨rfl, hc, hk⟩
  exact ⟨rfl, copyAt_nil hc, keeps_below hk⟩
set_option maxRecDepth 100000 in
set_option maxHeartbeats 16000000 in
theorem scopyq_any (w : World) (P : Nat → Prop) (a : ScA) (M : ScM) (h : ScW w P a M) (hM : M.W = []) :
    Calls Tryz.prog 10 #[.pointer (some ⟨a.s, 0, none⟩)] w fun e w' => ∃ a', e = .returned (.pointer (some ⟨a'.s, 0, none⟩)) ∧ a'.n = a.n ∧ ScV w' a' M ∧ w.heap.size ≤ a'.s ∧ w.heap.size ≤ a'.rk ∧ (∀ t, t < M.many → w.heap.size ≤ a'.tb t) ∧ (∃ hd, IsQ w' a'.Q [] hd) ∧ Keeps (fun _ => False) w w' := by
  have HMW := Lib.hid hM
  clear hM
  obtain ⟨cs, hblk, hc⟩ := h.blk
  obtain ⟨v, hv⟩ : ∃ v : Nat → Value, ∀ j, j < 37 → cs[j]? = some (v j) := ⟨fun j => (cs[j]?).getD undef, fun j hj => by show cs[j]? = some ((cs[j]?).getD undef); rw [Array.getElem?_eq_getElem (by rw [hc.size]; exact hj)]; rfl⟩
  have hR : w.rangeAt a.s 0 [v 0, v 1, v 2, v 3, v 4, v 5, v 6, v 7, v 8, v 9, v 10, v 11, v 12, v 13, v 14, v 15, v 16, v 17, v 18, v 19, v 20, v 21, v 22, v 23, v 24, v 25, v 26, v 27, v 28, v 29, v 30, v 31, v 32, v 33, v 34, v 35, v 36] := range_v 37 fun j hj => (cell_of hblk j).trans (hv j hj)
  have HV := Lib.hid hv
  have HC := Lib.hid hc
  have HB := Lib.hid hblk
  have HR := Lib.hid hR
  have HH := Lib.hid h
  have hsl := h.lt
  have q0 : w.cell? ⟨a.s, 0, none⟩ = some (v 0) := (cell_of hblk 0).trans (hv 0 (by omega))
  have q1 : w.cell? ⟨a.s, 1, none⟩ = some (v 1) := (cell_of hblk 1).trans (hv 1 (by omega))
  have q2 : w.cell? ⟨a.s, 2, none⟩ = some (v 2) := (cell_of hblk 2).trans (hv 2 (by omega))
  have q3 : w.cell? ⟨a.s, 3, none⟩ = some (v 3) := (cell_of hblk 3).trans (hv 3 (by omega))
  have q4 : w.cell? ⟨a.s, 4, none⟩ = some (v 4) := (cell_of hblk 4).trans (hv 4 (by omega))
  have q5 : w.cell? ⟨a.s, 5, none⟩ = some (v 5) := (cell_of hblk 5).trans (hv 5 (by omega))
  have q6 : w.cell? ⟨a.s, 6, none⟩ = some (v 6) := (cell_of hblk 6).trans (hv 6 (by omega))
  have q7 : w.cell? ⟨a.s, 7, none⟩ = some (v 7) := (cell_of hblk 7).trans (hv 7 (by omega))
  have q8 : w.cell? ⟨a.s, 8, none⟩ = some (v 8) := (cell_of hblk 8).trans (hv 8 (by omega))
  have q9 : w.cell? ⟨a.s, 9, none⟩ = some (v 9) := (cell_of hblk 9).trans (hv 9 (by omega))
  have q10 : w.cell? ⟨a.s, 10, none⟩ = some (v 10) := (cell_of hblk 10).trans (hv 10 (by omega))
  have q11 : w.cell? ⟨a.s, 11, none⟩ = some (v 11) := (cell_of hblk 11).trans (hv 11 (by omega))
  have q12 : w.cell? ⟨a.s, 12, none⟩ = some (v 12) := (cell_of hblk 12).trans (hv 12 (by omega))
  have q13 : w.cell? ⟨a.s, 13, none⟩ = some (v 13) := (cell_of hblk 13).trans (hv 13 (by omega))
  have q14 : w.cell? ⟨a.s, 14, none⟩ = some (v 14) := (cell_of hblk 14).trans (hv 14 (by omega))
  have q15 : w.cell? ⟨a.s, 15, none⟩ = some (v 15) := (cell_of hblk 15).trans (hv 15 (by omega))
  clear h hblk hc hv hR
  go_enter Tryz.func10, Tryz.ntmps10
  go_wp2_with (refine wpList_load_mid rfl 98 (.tmp 10) rfl a.s 0 rfl [v 0, v 1, v 2, v 3, v 4, v 5, v 6, v 7, v 8, v 9, v 10, v 11, v 12, v 13, v 14, v 15, v 16, v 17, v 18, v 19, v 20, v 21, v 22, v 23, v 24, v 25, v 26, v 27, v 28, v 29, v 30, v 31, v 32, v 33, v 34, v 35, v 36] _ HR.out Tryz.underlying98 rfl shared_info ?_)
  generalize hW1 : World.alloc w _ = W1
  have hk1 : Keeps (fun _ => False) w W1 := by rw [← hW1]; exact (Keeps.refl _ w).alloc _
  have hb1 : ∃ cs : Array Value, W1.heap[w.heap.size]? = some (.cells cs 100 (0, 0)) ∧ cs.size = 37 ∧ ∀ j, j < 37 → cs[j]? = some (v j) := by
    rw [← hW1]
    refine ⟨_, heap_new w _, rfl, fun j hj => ?_⟩
    rcases (by omega : j = 0 ∨ j = 1 ∨ j = 2 ∨ j = 3 ∨ j = 4 ∨ j = 5 ∨ j = 6 ∨ j = 7 ∨ j = 8 ∨ j = 9 ∨ j = 10 ∨ j = 11 ∨ j = 12 ∨ j = 13 ∨ j = 14 ∨ j = 15 ∨ j = 16 ∨ j = 17 ∨ j = 18 ∨ j = 19 ∨ j = 20 ∨ j = 21 ∨ j = 22 ∨ j = 23 ∨ j = 24 ∨ j = 25 ∨ j = 26 ∨ j = 27 ∨ j = 28 ∨ j = 29 ∨ j = 30 ∨ j = 31 ∨ j = 32 ∨ j = 33 ∨ j = 34 ∨ j = 35 ∨ j = 36) with rfl | rfl | rfl | rfl | rfl | rfl | rfl | rfl | rfl | rfl | rfl | rfl | rfl | rfl | rfl | rfl | rfl | rfl | rfl | rfl | rfl | rfl | rfl | rfl | rfl | rfl | rfl | rfl | rfl | rfl | rfl | rfl | rfl | rfl | rfl | rfl | rfl <;> rfl
  have HI := Lib.hid (And.intro hk1 hb1)
  clear hk1 hb1 hW1 q0 q1 q2 q3 q4 q5 q6 q7 q8 q9 q10 q11 q12 q13 q14 q15
  have HLE := Lib.hid HH.out.le
  go_loopw [19] (fun i wr => ∃ q : Nat, q ≤ 16 ∧ i = .int .i64 (q : Int) ∧ ∃ (cs : Array Value) (f : Nat → Nat), wr.heap[w.heap.size]? = some (.cells cs 100 (0, 0)) ∧ cs.size = 37 ∧ (∀ j, j < q → cs[j]? = some (.pointer (if j < M.many then some ⟨f j, 0, none⟩ else none))) ∧ (∀ j, q ≤ j → j < 37 → cs[j]? = some (v j)) ∧ (∀ j, j < q → j < M.many → w.heap.size ≤ f j ∧ ∃ u, wr.heap[f j]? = some (.cells #[.int .i64 (M.st j), .int .u32 (M.bits j : Int), u] 167 (0, 0))) ∧ Keeps (fun _ => False) w wr) (fun i _ => 16 - (intOf i).toNat)
  case atStart =>
    obtain ⟨cs, h1, h2, h3⟩ := HI.out.2
    exact ⟨0, by omega, rfl, cs, fun _ => 0, h1, h2, fun j hj => absurd hj (Nat.not_lt_zero _), fun j _ hj => h3 j hj, fun j hj => absurd hj (Nat.not_lt_zero _), HI.out.1⟩
  case round =>
    obtain ⟨q, hq, rfl, cs, f, hb, hcs, hlo, hhi, hts, hK⟩ := hrel
    have HX := Lib.hid (And.intro hb (And.intro hcs (And.intro hlo (And.intro hhi (And.intro hts hK)))))
    by_cases hlt : q < 16
    · have d1 : decide (q < 16) = true := decide_eq_true hlt
      have d1' : decide ((q : Int) < 16) = true := decide_eq_true (by omega)
      have d3 : (0 : Int) ≤ (q : Int) := by omega
      have d4 : (q : Int) < 16 := by omega
      have hiq : ∀ W, (Instr.index 92 (.agg #[v 0, v 1, v 2, v 3, v 4, v 5, v 6, v 7, v 8, v 9, v 10, v 11, v 12, v 13, v 14, v 15]) (.int .i64 (q : Int))).run Tryz.prog W = .ok (v q) W := fun W => index16 v W q hlt
      have hvq : v q = .pointer (if q < M.many then some ⟨a.tb q, 0, none⟩ else none) := Option.some.inj ((HV.out q (by omega)).symm.trans (HC.out.task q hlt))
      rw [hvq] at hiq
      have hsw : w.heap.size < wr.heap.size := lt_of hb
      by_cases hm : q < M.many
      · rw [if_pos hm] at hiq
        have HCT := Lib.hid (fun W (hk : Keeps (fun _ => False) wr W) => copy_task (a.tb q) _ _ _ W (by have := HH.out.live q hm; simp; omega) ((HH.out.task q hm).keeps (hK.trans hk) fun k _ e => e))
        have HM := Lib.hid hm
        clear hb hcs hlo hhi hts hK hvq hm
        go_wp2_with fail
        go_region_held3 (fun w' => True)
          (first
            | go_keep
            | trivial)
          ((go_at_call 34; refine (HCT.out _ (by first | exact (Keeps.refl _ _).drew | exact (Keeps.refl _ _).drewN _ | exact Keeps.refl _ _)).mono ?_; rintro e w2 ⟨rfl, hT, hk2⟩; have hkk : Keeps (fun _ => False) wr w2 := Keeps.trans (by first | exact (Keeps.refl _ _).drew | exact (Keeps.refl _ _).drewN _ | exact Keeps.refl _ _) hk2; have hb2 := hkk.at HX.out.1 (fun e => e); have y1 : ∃ u, w2.cell? ⟨w.heap.size, q, none⟩ = some u := ⟨_, (cell_of hb2 q).trans (HX.out.2.2.2.1 q (Nat.le_refl _) (by omega))⟩; obtain ⟨y1, y2⟩ := y1; have y3 := free_of hb2 q; have y4 := lt_of hb2; have HY := Lib.hid (And.intro hT (And.intro hkk hb2)); clear hT hk2 hkk hb2))
        obtain ⟨tv, htv, _⟩ := HY.out.1
        have hcp := copied (M := M) (v := v) (B := w.heap.size) (p := some ⟨wr.heap.size, 0, none⟩) (g := wr.heap.size) hlt HY.out.2.2 HY.out.2.1 HX.out.2.1 HX.out.2.2.1 HX.out.2.2.2.1 HX.out.2.2.2.2.1 (by rw [if_pos HM.out]) fun _ => ⟨Nat.le_of_lt hsw, tv, htv⟩
        have HCP := Lib.hid hcp
        have HK3 := Lib.hid ((HX.out.2.2.2.2.2.trans HY.out.2.1).setCell (p := ⟨w.heap.size, q, none⟩) (.inr (Nat.le_refl _)) (.pointer (some ⟨wr.heap.size, 0, none⟩)))
        clear hcp htv
        generalize hW3 : World.setCell w2 _ _ = w3 at *
        clear hW3
        go_wp2_with fail
        go_roundw
        case rel => exact ⟨q + 1, by omega, by go_num, _, _, HCP.out.1, HCP.out.2.1, HCP.out.2.2.1, HCP.out.2.2.2.1, HCP.out.2.2.2.2, HK3.out⟩
        case measure => simp [intOf]; omega
      · rw [if_neg hm] at hiq
        have HM := Lib.hid hm
        have y2 := free_of hb q
        have y1 := (cell_of hb q).trans (hhi q (Nat.le_refl _) (by omega))
        have HCN := Lib.hid (fun W (hk : W = wr.drew) => copy_nil W)
        clear hb hcs hlo hhi hts hK hvq hm
        go_wp2_with fail
        go_region_held3 (fun w' => True)
          (first
            | go_keep
            | trivial)
          ((go_at_call 34; refine (copy_nil _).mono ?_; rintro e w2 ⟨rfl, rfl⟩))
        have hcp := copied (wr := wr) (w2 := wr) (M := M) (v := v) (B := w.heap.size) (p := none) (g := 0) hlt HX.out.1 (Keeps.refl _ wr) HX.out.2.1 HX.out.2.2.1 HX.out.2.2.2.1 HX.out.2.2.2.2.1 (by rw [if_neg HM.out]) fun h => absurd h HM.out
        have HCP := Lib.hid hcp
        have HK3 := Lib.hid ((HX.out.2.2.2.2.2.setCell (p := ⟨w.heap.size, q, none⟩) (.inr (Nat.le_refl _)) (.pointer none)).drew)
        clear hcp
        go_wp2_with fail
        go_roundw
        case rel => exact ⟨q + 1, by omega, by go_num, _, _, HCP.out.1, HCP.out.2.1, HCP.out.2.2.1, HCP.out.2.2.2.1, HCP.out.2.2.2.2, HK3.out⟩
        case measure => simp [intOf]; omega
    · obtain rfl : q = 16 := by omega
      have d1 : decide (16 < 16) = false := rfl
      have HSK := Lib.hid (HH.out.quiet (hK.mono (T := fun _ => False) fun k _ e => e))
      have KC := Lib.hid ((Keeps.refl (fun _ => False) wr).drew)
      have c34 := HSK.out.cRk
      have c35 := HSK.out.cD
      have c36 := HSK.out.cQ
      have hne : a.s ≠ w.heap.size := by omega
      have hcs34 := hhi 34 (by omega) (by omega)
      have hcs35 := hhi 35 (by omega) (by omega)
      have hcs36 := hhi 36 (by omega) (by omega)
      have HCS := Lib.hid (And.intro hcs34 (And.intro hcs35 hcs36))
      clear hb hcs hlo hhi hts hK hlt hcs34 hcs35 hcs36
      go_wp2_with fail
      go_region_held3 (fun w' => w'.cell? ⟨a.s, 34, none⟩ = some (.pointer (some ⟨a.rk, 0, none⟩)) ∧ w'.cell? ⟨a.s, 35, none⟩ = some (.pointer (some ⟨a.D, 0, none⟩)) ∧ w'.cell? ⟨a.s, 36, none⟩ = some (.pointer (some ⟨a.Q, 0, none⟩)))
        (first
          | go_keep
          | with_reducible exact ⟨c34, c35, c36⟩
          | with_reducible exact ⟨z34, z35, z36⟩
          | with_reducible exact far3 hne ⟨z34, z35, z36⟩ _ _
          | with_reducible exact far3 hne (far3 hne ⟨z34, z35, z36⟩ _ _) _ _
          | with_reducible exact far3 hne (far3 hne (far3 hne ⟨z34, z35, z36⟩ _ _) _ _) _ _)
        (first
          | (go_at_call 35; refine (sc_rcopy _ P a M (HSK.out.quiet KC.out)).mono ?_; rintro e wA ⟨rfl, hr, kr⟩; have HPA := Lib.hid kr.size; have HRS := Lib.hid hr; have HPR := Lib.hid (Nat.le_trans (HX.out.2.2.2.2.2.trans KC.out).size (Nat.le_refl _)); have KC := Lib.hid (KC.out.trans kr); have z34 := (HSK.out.quiet KC.out).cRk; have z35 := (HSK.out.quiet KC.out).cD; have z36 := (HSK.out.quiet KC.out).cQ; have hbC := KC.out.at HX.out.1 (fun e => e); have f34 := free_of hbC 34; have f35 := free_of hbC 35; have f36 := free_of hbC 36; have y34 := (cell_of hbC 34).trans HCS.out.1; have y35 := (cell_of hbC 35).trans HCS.out.2.1; have y36 := (cell_of hbC 36).trans HCS.out.2.2; have hlC := lt_of hbC; clear hbC; clear hr kr)
          | (go_at_call 36; refine (sc_dcopy _ P a M (HSK.out.quiet KC.out)).mono ?_; rintro e wB ⟨rfl, kd⟩; have hszB := kd.size; (try (have HRS := Lib.hid (HRS.out.keeps kd fun e => e))); have HPD := Lib.hid kd.size; have KC := Lib.hid (KC.out.trans kd); have z34 := (HSK.out.quiet KC.out).cRk; have z35 := (HSK.out.quiet KC.out).cD; have z36 := (HSK.out.quiet KC.out).cQ; have hbC := KC.out.at HX.out.1 (fun e => e); have f34 := free_of hbC 34; have f35 := free_of hbC 35; have f36 := free_of hbC 36; have y34 := (cell_of hbC 34).trans HCS.out.1; have y35 := (cell_of hbC 35).trans HCS.out.2.1; have y36 := (cell_of hbC 36).trans HCS.out.2.2; have hlC := lt_of hbC; clear hbC; clear kd)
          | (go_at_call 37; refine (sc_qcopy0 _ P a M (HSK.out.quiet KC.out) HMW.out).mono ?_; rintro e wC ⟨rfl, ⟨hd, hiq⟩, kq⟩; have HQS := Lib.hid hiq; clear hiq; (try (have HRS := Lib.hid (HRS.out.keeps kq fun e => e))); have KC := Lib.hid (KC.out.trans kq); have z34 := (HSK.out.quiet KC.out).cRk; have z35 := (HSK.out.quiet KC.out).cD; have z36 := (HSK.out.quiet KC.out).cQ; have hbC := KC.out.at HX.out.1 (fun e => e); have f34 := free_of hbC 34; have f35 := free_of hbC 35; have f36 := free_of hbC 36; have y34 := (cell_of hbC 34).trans HCS.out.1; have y35 := (cell_of hbC 35).trans HCS.out.2.1; have y36 := (cell_of hbC 36).trans HCS.out.2.2; have hlC := lt_of hbC; clear hbC; clear kq))
      have hfin : ScV (((wC.setCell ⟨w.heap.size, 34, none⟩ (.pointer (some ⟨wr.heap.size, 0, none⟩))).setCell ⟨w.heap.size, 35, none⟩ (.pointer (some ⟨wA.heap.size, 0, none⟩))).setCell ⟨w.heap.size, 36, none⟩ (.pointer (some ⟨wB.heap.size, 0, none⟩))) ⟨a.n, w.heap.size, f, wr.heap.size, wA.heap.size, wB.heap.size⟩ M := copied_all (a := a) (pd := wA.heap.size) (pq := wB.heap.size) HH.out.le HC.out HV.out (KC.out.at HX.out.1 (fun e => e)) HX.out.2.1 HX.out.2.2.1 HX.out.2.2.2.1 (fun j hj => by obtain ⟨_, u, h1⟩ := HX.out.2.2.2.2.1 j (Nat.lt_of_lt_of_le hj HLE.out) hj; exact ⟨u, KC.out.at h1 fun e => e⟩) HRS.out
      have HFIN := Lib.hid hfin
      have HQF := Lib.hid (show IsQ (((wC.setCell ⟨w.heap.size, 34, none⟩ (.pointer (some ⟨wr.heap.size, 0, none⟩))).setCell ⟨w.heap.size, 35, none⟩ (.pointer (some ⟨wA.heap.size, 0, none⟩))).setCell ⟨w.heap.size, 36, none⟩ (.pointer (some ⟨wB.heap.size, 0, none⟩))) wB.heap.size [] hd from HQS.out.keeps (S := fun j => j = w.heap.size) ((((Keeps.refl (fun j => j = w.heap.size) wC).setCell (p := ⟨w.heap.size, 34, none⟩) (.inl rfl) _).setCell (p := ⟨w.heap.size, 35, none⟩) (.inl rfl) _).setCell (p := ⟨w.heap.size, 36, none⟩) (.inl rfl) _) (fun e => by have h1 := lt_of HX.out.1; have h2 : wr.heap.size ≤ wA.heap.size := HPA.out; have h3 := HPD.out; omega) (fun i x hx => by cases i <;> cases hx))
      have HKF := Lib.hid ((((HX.out.2.2.2.2.2.trans KC.out).setCell (p := ⟨w.heap.size, 34, none⟩) (.inr (Nat.le_refl _)) (.pointer (some ⟨wr.heap.size, 0, none⟩))).setCell (p := ⟨w.heap.size, 35, none⟩) (.inr (Nat.le_refl _)) (.pointer (some ⟨wA.heap.size, 0, none⟩))).setCell (p := ⟨w.heap.size, 36, none⟩) (.inr (Nat.le_refl _)) (.pointer (some ⟨wB.heap.size, 0, none⟩)))
      clear hfin c34 c35 c36 z34 z35 z36 y34 y35 y36 f34 f35 f36
      generalize hW9 : World.setCell (World.setCell (World.setCell wC _ _) _ _) _ _ = w9 at *
      clear hW9
      go_wp2_with fail
      go_ret
      exact ⟨⟨a.n, w.heap.size, f, wr.heap.size, wA.heap.size, wB.heap.size⟩, rfl, rfl, HFIN.out, Nat.le_refl _, HX.out.2.2.2.2.2.size, fun t ht => (HX.out.2.2.2.2.1 t (Nat.lt_of_lt_of_le ht HLE.out) ht).1, ⟨hd, HQF.out⟩, HKF.out⟩

end Go.Proofs.YthnmlklgbggmbaaGreat
