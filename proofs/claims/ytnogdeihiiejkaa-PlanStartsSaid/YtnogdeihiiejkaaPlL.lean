import Derived.Test.YtnogdeihiiejkaaPlK
namespace Go.Proofs.Ytnogdeihiiejkaa
open Go.ChangeShapes Go.WideShapes Go.ChangeAt Go.RowKit
set_option linter.unusedVariables false
set_option linter.unusedSimpArgs false
theorem pl5 {W : World} {QB : Nat} {p : Nat → Int} (h : W.heap[QB]? = some (.cells (plC p) 45 (0, 0))) : W.rangeAt QB 0 (plC p).toList := fun j v hv => by
  rw [cell_of h (0 + j), show 0 + j = j by omega]
  simpa using hv
theorem ln5 {W : World} {QB : Nat} {a b c d e f : Int} (h : W.heap[QB]? = some (.cells #[.int .i64 a, .int .i64 b, .int .i64 c, .int .i64 d, .int .i64 e, .int .i64 f] 56 (0, 0))) : W.rangeAt QB 0 [.int .i64 a, .int .i64 b, .int .i64 c, .int .i64 d, .int .i64 e] := fun j v hv => by
  have hj : j < 5 := (List.getElem?_eq_some_iff.1 hv).1
  rw [cell_of h (0 + j), show 0 + j = j by omega]
  rcases (by omega : j = 0 ∨ j = 1 ∨ j = 2 ∨ j = 3 ∨ j = 4) with rfl | rfl | rfl | rfl | rfl <;> simpa using hv
theorem line_info6 : (Try.prog.info? 56).map (·.size) = some 6 := by kernel_rfl
theorem sr_slice {w W : World} {PB : Nat} {ps : List Value} {v : Value} {L : List StX} (h : SrB w W PB ps v L) : ∃ a c, v = .slice a L.length c := own_slice h.own
set_option maxRecDepth 20000 in
set_option maxHeartbeats 8000000 in
theorem stretches_any (c : CfD) (w : World) (g : Nat) (la : Option Addr) (lc : Nat) (aa : Option Addr) (ac : Nat) (B : Nat) (hgo : GoodC c) (hpl : PlacesAt w g c.nO (placeP c.ob)) (hln : w.ownsRow B 56 6 (.slice la c.nL lc) c.nL (linesF (baseP c) c.lr c.nL)) (hak : w.ownsRow B 3 1 (.slice aa c.nT ac) c.nT (asksF (tickP c + 1) c.nT))
    (hb1 : ∀ i, i < c.nO → -9223372036854775808 ≤ c.ob i 1 ∧ c.ob i 1 ≤ 9223372036854775807) :
    Calls Try.prog 19 #[.agg ([.slice (some ⟨g, 0, none⟩) c.nO c.nO, .slice la c.nL lc, .int .i64 (tickP c), .slice aa c.nT ac, .int .i64 (tickP c + 1 + (c.nT : Int))] : List Value).toArray] w fun e w' => ∃ a n cc, e = .returned (.slice a n cc) ∧ w'.ownsRow w.heap.size 76 4 (.slice a n cc) n (flatT (allSt c)) ∧ n = (allSt c).length ∧ Keeps (fun _ => False) w w' := by
  have HGO := Lib.hid hgo
  have HPL := Lib.hid hpl
  have HLN := Lib.hid hln
  have HAK := Lib.hid hak
  have HB1 := Lib.hid hb1
  obtain ⟨i0, hi, hz0, hz1, hz2⟩ := info_parts st_zero
  have HS0 := Lib.hid (show SrB w (w.alloc (.cells ([.slice (some ⟨g, 0, none⟩) c.nO c.nO, .slice la c.nL lc, .int .i64 (tickP c), .slice aa c.nT ac, .int .i64 (tickP c + 1 + (c.nT : Int))] : List Value).toArray 33)) w.heap.size [.slice (some ⟨g, 0, none⟩) c.nO c.nO, .slice la c.nL lc, .int .i64 (tickP c), .slice aa c.nT ac, .int .i64 (tickP c + 1 + (c.nT : Int))] (.slice none 0 0) (objSt c 0) from ⟨(Keeps.refl _ w).alloc _, heap_new w _, World.ownsRow_nil _ _ _ _⟩)
  have hO := hgo.o
  have hL := hgo.l
  have hT := hgo.t
  clear hgo hpl hln hak hb1
  go_enter Try.func19, Try.ntmps19
  go_wp2_with fail
  go_loopw [3, 13] (fun r x W => ∃ (k : Nat) (ra : Option Addr) (rc : Nat), k ≤ c.nO ∧ x = .int .i64 (k : Int) ∧ r = .slice ra k rc ∧ SrB w W w.heap.size [.slice (some ⟨g, 0, none⟩) c.nO c.nO, .slice la c.nL lc, .int .i64 (tickP c), .slice aa c.nT ac, .int .i64 (tickP c + 1 + (c.nT : Int))] (.slice ra k rc) (objSt c k)) (fun _ x _ => c.nO - (intOf x).toNat)
  case atStart => exact ⟨0, none, 0, Nat.zero_le _, rfl, rfl, HS0.out⟩
  case round =>
    clear HS0
    obtain ⟨k, ra, rc, hk, rfl, rfl, hs⟩ := hrel
    have HS := Lib.hid hs
    clear hs
    by_cases hlt : k < c.nO
    · have HLT := Lib.hid hlt
      have e0 : decide (k < c.nO) = true := decide_eq_true hlt
      have e0' : decide ((k : Int) < (c.nO : Int)) = true := decide_eq_true (by omega)
      have e3 : (0 : Int) ≤ (k : Int) := by omega
      have e4 : (k : Int) < (c.nO : Int) := by omega
      have HRA := Lib.hid (show wr.rangeAt g (k * 5) (plC (placeP c.ob k)).toList from (HPL.out.keep HS.out.keeps (fun h => h)).range hlt)
      have HPZ := Lib.hid (fun W => show Calls Try.prog 15 #[.agg (plC (placeP c.ob k))] W fun e w' => e = .returned (.int .i64 (sizeP (c.ob k))) ∧ Keeps (fun _ => False) W w' from psize_any (placeP c.ob k) W (HB1.out k hlt) (HGO.out.right k hlt))
      have kk : Keeps (fun _ => False) wr (wr.alloc (.cells (plC (placeP c.ob k)) 45)) := (Keeps.refl _ wr).alloc _
      obtain ⟨W2, hW2⟩ : ∃ W2, W2 = wr.alloc (.cells (plC (placeP c.ob k)) 45) := ⟨_, rfl⟩
      obtain ⟨QB, hQB⟩ : ∃ QB, QB = wr.heap.size := ⟨_, rfl⟩
      have HR0 := Lib.hid (show SrB w W2 w.heap.size [.slice (some ⟨g, 0, none⟩) c.nO c.nO, .slice la c.nL lc, .int .i64 (tickP c), .slice aa c.nT ac, .int .i64 (tickP c + 1 + (c.nT : Int))] (.slice ra k rc) (objSt c k) by rw [hW2]; exact HS.out.none kk)
      have HQ0 := Lib.hid (show W2.heap[QB]? = some (.cells (plC (placeP c.ob k)) 45 (0, 0)) by rw [hW2, hQB]; exact heap_new wr _)
      have HW := Lib.hid (And.intro hW2 hQB)
      clear kk hW2 hQB HS hlt
      go_wp2_with (refine wpList_load_mid rfl 45 (.tmp 16) rfl g (k * 5) rfl (plC (placeP c.ob k)).toList _ HRA.out Try.underlying45 rfl place_info ?_)
      rw [← HW.out.1, ← HW.out.2]
      have HR := Lib.hid (HR0.out.none ((Keeps.refl (fun _ => False) W2).drew))
      have HQB := Lib.hid (((Keeps.refl (fun _ => False) W2).drew).at HQ0.out (fun h => h))
      clear HR0 HQ0 HW HRA
      refine wp_region_noPanic ?_
      refine wp_region_held_drew (S := (fun W => W.rangeAt QB 0 (plC (placeP c.ob k)).toList ∧ W.cell? ⟨QB, 1, none⟩ = some (.int .i64 (preP c.ob k)))) (by kernel_rfl) ?_ (fun hHeld => ?_)
      · exact ⟨pl5 HQB.out, cell_of HQB.out 1⟩
      refine wpAnyH_take (i := 0) (v := ?_) rfl (by kernel_rfl) (by kernel_rfl) (by kernel_rfl) (fun _ _ _ h => h) (Or.inl ⟨by rfl, ?_⟩) (by assumption) ?_
      rotate_left
      · (intro w hSw; (try dsimp only at hSw); go_simp; try with_reducible rfl)
      simp only [Act.put, List.getElem_toArray, List.getElem_cons_zero, List.getElem_cons_succ, List.setIfInBounds_toArray, List.set_cons_zero, List.set_cons_succ]
      refine wpAnyH_take (i := 1) (v := ?_) rfl (by kernel_rfl) (by kernel_rfl) (by kernel_rfl) (fun _ _ _ h => h) (Or.inl ⟨by rfl, ?_⟩) (by assumption) ?_
      rotate_left
      · (intro w hSw; (try dsimp only at hSw); go_simp; try with_reducible rfl)
      simp only [Act.put, List.getElem_toArray, List.getElem_cons_zero, List.getElem_cons_succ, List.setIfInBounds_toArray, List.set_cons_zero, List.set_cons_succ]
      refine wpAnyH_take (i := 2) (v := ?_) rfl (by kernel_rfl) (by kernel_rfl) (by kernel_rfl) (fun _ _ _ h => h) (Or.inl ⟨by rfl, ?_⟩) (by assumption) ?_
      rotate_left
      · (intro w hSw; (try dsimp only at hSw); go_simp; try with_reducible rfl)
      simp only [Act.put, List.getElem_toArray, List.getElem_cons_zero, List.getElem_cons_succ, List.setIfInBounds_toArray, List.set_cons_zero, List.set_cons_succ]
      refine wpAnyH_take (i := 3) (v := .agg ((plC (placeP c.ob k)).toList).toArray) rfl (by kernel_rfl) (by kernel_rfl) (by kernel_rfl) (fun _ _ _ h => h) (yieldsIf_load_mid (by rfl) 45 _ rfl QB 0 rfl (plC (placeP c.ob k)).toList _ (fun w h => h.1) Try.underlying45 rfl place_info) (by assumption) ?_
      simp only [Act.put, List.getElem_toArray, List.getElem_cons_zero, List.getElem_cons_succ, List.setIfInBounds_toArray, List.set_cons_zero, List.set_cons_succ]
      refine wpAnyH_take (i := 5) (v := ?_) rfl (by kernel_rfl) (by kernel_rfl) (by kernel_rfl) (fun _ _ _ h => h) (Or.inl ⟨by rfl, ?_⟩) (by assumption) ?_
      rotate_left
      · (intro w hSw; (try dsimp only at hSw); go_simp; try with_reducible rfl)
      simp only [Act.put, List.getElem_toArray, List.getElem_cons_zero, List.getElem_cons_succ, List.setIfInBounds_toArray, List.set_cons_zero, List.set_cons_succ]
      refine wpAnyH_ready (rs := [4]) (by kernel_rfl) (by simp) ?_
      refine AllReadyH.cons rfl (fun K hK => ?_) AllReadyH.nil
      go_simp
      (go_at_call 15; refine (HPZ.out _).mono ?_; rintro e9 w9 ⟨rfl, k9⟩; replace HR := Lib.hid (HR.out.none k9); replace HQB := Lib.hid (k9.at HQB.out (fun h => h)); clear k9)
      go_wp2_with fail
      refine hK.out _ _ ?_ (fun hHeld => ?_)
      · ((try dsimp only); exact ⟨pl5 HQB.out, cell_of HQB.out 1⟩)
      clear hK K
      try simp only [Act.put, List.getElem_toArray, List.getElem_cons_zero, List.getElem_cons_succ, List.setIfInBounds_toArray, List.set_cons_zero, List.set_cons_succ]
      refine wpAnyH_take (i := 6) (v := ?_) rfl (by kernel_rfl) (by kernel_rfl) (by kernel_rfl) (fun _ _ _ h => h) (Or.inl ⟨by rfl, ?_⟩) (by assumption) ?_
      rotate_left
      · (intro w hSw; (try dsimp only at hSw); go_simp; try with_reducible rfl)
      simp only [Act.put, List.getElem_toArray, List.getElem_cons_zero, List.getElem_cons_succ, List.setIfInBounds_toArray, List.set_cons_zero, List.set_cons_succ]
      have HOA := Lib.hid (show (w9.alloc (.cells #[.int .i64 (preP c.ob k), .int .i64 (sizeP (c.ob k)), .int .i64 (1), .int .i64 ((k : Int))] 76)).ownsRow w.heap.size 76 4 (.slice ra k rc) k (flatT (objSt c k)) by have := own_keepK HR.out.own ((Keeps.refl (fun _ => False) w9).alloc (.cells #[.int .i64 (preP c.ob k), .int .i64 (sizeP (c.ob k)), .int .i64 (1), .int .i64 ((k : Int))] 76)) (fun _ _ h => h); rwa [objSt_len] at this)
      have HNW := Lib.hid (fun (ad : Addr) (had : some (⟨w9.heap.size, 0, none⟩ : Addr) = some ad) (j : Nat) (u : Value) (hu : (flatT [(preP c.ob k, sizeP (c.ob k), 1, (k : Int))])[j]? = some u) => show (w9.alloc (.cells #[.int .i64 (preP c.ob k), .int .i64 (sizeP (c.ob k)), .int .i64 (1), .int .i64 ((k : Int))] 76)).cell? (ad.add j) = some u from by
        obtain rfl := Option.some.inj had
        rw [Addr.add_mid, cell_of (heap_new w9 _) (0 + j), show 0 + j = j by omega]
        simpa [flatT] using hu)
      have HSA := Lib.hid (show w.heap.size ≤ (w9.alloc (.cells #[.int .i64 (preP c.ob k), .int .i64 (sizeP (c.ob k)), .int .i64 (1), .int .i64 ((k : Int))] 76)).heap.size from by rw [World.size_alloc]; have := HR.out.keeps.size; omega)
      have HQA := Lib.hid (heap_old HQB.out (.cells #[.int .i64 (preP c.ob k), .int .i64 (sizeP (c.ob k)), .int .i64 (1), .int .i64 ((k : Int))] 76))
      refine wpAnyH_ready (rs := [7]) (by kernel_rfl) (by simp) ?_
      refine AllReadyH.cons rfl (fun K hK => ?_) AllReadyH.nil
      go_simp
      refine hK.out _ _ ?_ (fun hHeld => ?_)
      · ((try dsimp only); exact ⟨pl5 HQA.out, cell_of HQA.out 1⟩)
      clear hK K
      try simp only [Act.put, List.getElem_toArray, List.getElem_cons_zero, List.getElem_cons_succ, List.setIfInBounds_toArray, List.set_cons_zero, List.set_cons_succ]
      refine wpAnyH_ready (rs := [8]) (by kernel_rfl) (by simp) ?_
      refine AllReadyH.cons rfl (fun K hK => ?_) AllReadyH.nil
      (refine step_app_any rfl (.tmp 18) (.tmp 25) 73 rfl w.heap.size 76 i0 (.agg #[.int .i64 0, .int .i64 0, .int .i64 0, .int .i64 0]) 4 32 Try.underlying73 hi hz0 hz1 hz2 rfl (by decide) (.slice ra k rc) k (flatT (objSt c k)) rfl HOA.out (some ⟨w9.heap.size, 0, none⟩) 1 1 (flatT [(preP c.ob k, sizeP (c.ob k), 1, (k : Int))]) rfl (fun h => absurd h (by simp)) rfl HNW.out (flatT_one _) (by unfold maxLen; omega) (by omega) HSA.out ?_; intro v10 w10 how10 hgr10; have HGR := Lib.hid (SrB.grow (M := [(preP c.ob k, sizeP (c.ob k), 1, (k : Int))]) HR.out (.cells #[.int .i64 (preP c.ob k), .int .i64 (sizeP (c.ob k)), .int .i64 (1), .int .i64 ((k : Int))] 76) hgr10 (by rw [objSt_len]; exact how10)); have hsl := own_slice how10; clear how10 hgr10; obtain ⟨ra2, rc2, rfl⟩ := hsl)
      refine hK.out _ _ ?_ (fun hHeld => ?_)
      · ((try dsimp only); exact ⟨pl5 (HGR.out.2 _ _ _ HQB.out (by decide)), cell_of (HGR.out.2 _ _ _ HQB.out (by decide)) 1⟩)
      clear hK K
      try simp only [Act.put, List.getElem_toArray, List.getElem_cons_zero, List.getElem_cons_succ, List.setIfInBounds_toArray, List.set_cons_zero, List.set_cons_succ]
      refine wpAnyH_take (i := 9) (v := ?_) rfl (by kernel_rfl) (by kernel_rfl) (by kernel_rfl) (fun _ _ _ h => h) (Or.inl ⟨by rfl, ?_⟩) (by assumption) ?_
      rotate_left
      · (intro w hSw; (try dsimp only at hSw); go_simp; try with_reducible rfl)
      simp only [Act.put, List.getElem_toArray, List.getElem_cons_zero, List.getElem_cons_succ, List.setIfInBounds_toArray, List.set_cons_zero, List.set_cons_succ]
      refine wpAnyH_done (by kernel_rfl) ?_ _
      refine NoPanic.normal ?_
      go_wp2_with fail
      go_roundw
      case rel => exact ⟨k + 1, ra2, rc2, by have := HLT.out; omega, by go_num, rfl, by rw [objSt_next]; exact HGR.out.1⟩
      case measure => simp [intOf]; have := HLT.out; omega
    · have hkn : k = c.nO := by omega
      subst hkn
      have e0 : decide (c.nO < c.nO) = false := decide_eq_false (by omega)
      have e0' : decide ((c.nO : Int) < (c.nO : Int)) = false := decide_eq_false (by omega)
      have hcells := HS.out.box
      have p1 := cell_of hcells 1
      simp only [List.getElem?_toArray, List.getElem?_cons_zero, List.getElem?_cons_succ] at p1
      clear hcells hlt
      go_wp2_with fail
      clear p1
      have HS1 := Lib.hid (show SrB w wr w.heap.size [.slice (some ⟨g, 0, none⟩) c.nO c.nO, .slice la c.nL lc, .int .i64 (tickP c), .slice aa c.nT ac, .int .i64 (tickP c + 1 + (c.nT : Int))] (.slice ra (c.nO + 2 * 0) rc) (objSt c c.nO ++ lvSt c 0) by rw [show lvSt c 0 = [] from rfl, List.append_nil]; exact HS.out)
      rw [show Value.slice ra c.nO rc = .slice ra (c.nO + 2 * 0) rc from rfl]
      clear HS
      go_loopw [3, 31] (fun r x W => ∃ (k : Nat) (ra : Option Addr) (rc : Nat), k ≤ c.nL ∧ x = .int .i64 (k : Int) ∧ r = .slice ra (c.nO + 2 * k) rc ∧ SrB w W w.heap.size [.slice (some ⟨g, 0, none⟩) c.nO c.nO, .slice la c.nL lc, .int .i64 (tickP c), .slice aa c.nT ac, .int .i64 (tickP c + 1 + (c.nT : Int))] (.slice ra (c.nO + 2 * k) rc) (objSt c c.nO ++ lvSt c k)) (fun _ x _ => c.nL - (intOf x).toNat)
      case atStart => exact ⟨0, ra, rc, Nat.zero_le _, rfl, rfl, HS1.out⟩
      case round =>
        clear HS1
        obtain ⟨k, ra, rc, hk, rfl, rfl, hs⟩ := hrel
        have HS := Lib.hid hs
        clear hs
        by_cases hlt : k < c.nL
        · have HLT := Lib.hid hlt
          have e0 : decide (k < c.nL) = true := decide_eq_true hlt
          have e0' : decide ((k : Int) < (c.nL : Int)) = true := decide_eq_true (by omega)
          have e3 : (0 : Int) ≤ (k : Int) := by omega
          have e4 : (k : Int) < (c.nL : Int) := by omega
          obtain ⟨bl, hla, hbl, hra⟩ := line_at HLN.out hlt
          have HRA := Lib.hid (show wr.rangeAt bl (k * 6) (lineC (baseP c) c.lr k) from fun j v hv => (HS.out.keeps.none.cell (p := ⟨bl, k * 6 + j, none⟩) hbl).trans (hra j v hv))
          have hro := HGO.out.room k hlt
          have hpz := fun W => psize_any (lnPl (lnP (baseP c) c.lr k) (c.lr k)) W (by show _ ≤ c.lr k ∧ c.lr k ≤ _; omega) (lnPl_right _ (c.lr k) hro.1 hro.2.2)
          rw [lnPl_size _ (c.lr k) hro.1 hro.2.2] at hpz
          have HPZ := Lib.hid hpz
          have kk : Keeps (fun _ => False) wr (wr.alloc (.cells (lineC (baseP c) c.lr k).toArray 56)) := (Keeps.refl _ wr).alloc _
          obtain ⟨W2, hW2⟩ : ∃ W2, W2 = wr.alloc (.cells (lineC (baseP c) c.lr k).toArray 56) := ⟨_, rfl⟩
          obtain ⟨QB, hQB⟩ : ∃ QB, QB = wr.heap.size := ⟨_, rfl⟩
          have HR0 := Lib.hid (show SrB w W2 w.heap.size [.slice (some ⟨g, 0, none⟩) c.nO c.nO, .slice la c.nL lc, .int .i64 (tickP c), .slice aa c.nT ac, .int .i64 (tickP c + 1 + (c.nT : Int))] (.slice ra (c.nO + 2 * k) rc) (objSt c c.nO ++ lvSt c k) by rw [hW2]; exact HS.out.none kk)
          have HQ0 := Lib.hid (show W2.heap[QB]? = some (.cells (lineC (baseP c) c.lr k).toArray 56 (0, 0)) by rw [hW2, hQB]; exact heap_new wr _)
          have HW := Lib.hid (And.intro hW2 hQB)
          have HLA := Lib.hid hla
          clear kk hW2 hQB HS hlt hra hbl hpz hla
          rw [HLA.out]
          go_wp2_with (refine wpList_load_mid rfl 56 (.tmp 34) rfl bl (k * 6) rfl (lineC (baseP c) c.lr k) _ HRA.out Try.underlying56 rfl line_info6 ?_)
          rw [← HW.out.1, ← HW.out.2]
          have HR := Lib.hid (HR0.out.none ((Keeps.refl (fun _ => False) W2).drew))
          have HQB := Lib.hid (((Keeps.refl (fun _ => False) W2).drew).at HQ0.out (fun h => h))
          clear HR0 HQ0 HW HRA hro
          refine wp_region_noPanic ?_
          refine wp_region_held_drew (S := (fun W => W.rangeAt QB 0 [.int .i64 1, .int .i64 (lnP (baseP c) c.lr k), .int .i64 (c.lr k), .int .i64 1, .int .i64 0] ∧ W.cell? ⟨QB, 1, none⟩ = some (.int .i64 (lnP (baseP c) c.lr k)) ∧ W.cell? ⟨QB, 5, none⟩ = some (.int .i64 (lnP (baseP c) c.lr k + (2 + c.lr k))))) (by kernel_rfl) ?_ (fun hHeld => ?_)
          · exact ⟨ln5 HQB.out, cell_of HQB.out 1, cell_of HQB.out 5⟩
          refine wpAnyH_take (i := 0) (v := ?_) rfl (by kernel_rfl) (by kernel_rfl) (by kernel_rfl) (fun _ _ _ h => h) (Or.inl ⟨by rfl, ?_⟩) (by assumption) ?_
          rotate_left
          · (intro w hSw; (try dsimp only at hSw); go_simp; try with_reducible rfl)
          simp only [Act.put, List.getElem_toArray, List.getElem_cons_zero, List.getElem_cons_succ, List.setIfInBounds_toArray, List.set_cons_zero, List.set_cons_succ]
          refine wpAnyH_take (i := 1) (v := ?_) rfl (by kernel_rfl) (by kernel_rfl) (by kernel_rfl) (fun _ _ _ h => h) (Or.inl ⟨by rfl, ?_⟩) (by assumption) ?_
          rotate_left
          · (intro w hSw; (try dsimp only at hSw); go_simp; try with_reducible rfl)
          simp only [Act.put, List.getElem_toArray, List.getElem_cons_zero, List.getElem_cons_succ, List.setIfInBounds_toArray, List.set_cons_zero, List.set_cons_succ]
          refine wpAnyH_take (i := 2) (v := ?_) rfl (by kernel_rfl) (by kernel_rfl) (by kernel_rfl) (fun _ _ _ h => h) (Or.inl ⟨by rfl, ?_⟩) (by assumption) ?_
          rotate_left
          · (intro w hSw; (try dsimp only at hSw); go_simp; try with_reducible rfl)
          simp only [Act.put, List.getElem_toArray, List.getElem_cons_zero, List.getElem_cons_succ, List.setIfInBounds_toArray, List.set_cons_zero, List.set_cons_succ]
          refine wpAnyH_take (i := 3) (v := ?_) rfl (by kernel_rfl) (by kernel_rfl) (by kernel_rfl) (fun _ _ _ h => h) (Or.inl ⟨by rfl, ?_⟩) (by assumption) ?_
          rotate_left
          · (intro w hSw; (try dsimp only at hSw); go_simp; try with_reducible rfl)
          simp only [Act.put, List.getElem_toArray, List.getElem_cons_zero, List.getElem_cons_succ, List.setIfInBounds_toArray, List.set_cons_zero, List.set_cons_succ]
          refine wpAnyH_take (i := 4) (v := ?_) rfl (by kernel_rfl) (by kernel_rfl) (by kernel_rfl) (fun _ _ _ h => h) (Or.inl ⟨by rfl, ?_⟩) (by assumption) ?_
          rotate_left
          · (intro w hSw; (try dsimp only at hSw); go_simp; try with_reducible rfl)
          simp only [Act.put, List.getElem_toArray, List.getElem_cons_zero, List.getElem_cons_succ, List.setIfInBounds_toArray, List.set_cons_zero, List.set_cons_succ]
          refine wpAnyH_take (i := 5) (v := .agg ([.int .i64 1, .int .i64 (lnP (baseP c) c.lr k), .int .i64 (c.lr k), .int .i64 1, .int .i64 0] : List Value).toArray) rfl (by kernel_rfl) (by kernel_rfl) (by kernel_rfl) (fun _ _ _ h => h) (yieldsIf_load_mid (by rfl) 45 _ rfl QB 0 rfl [.int .i64 1, .int .i64 (lnP (baseP c) c.lr k), .int .i64 (c.lr k), .int .i64 1, .int .i64 0] _ (fun w h => h.1) Try.underlying45 rfl place_info) (by assumption) ?_
          simp only [Act.put, List.getElem_toArray, List.getElem_cons_zero, List.getElem_cons_succ, List.setIfInBounds_toArray, List.set_cons_zero, List.set_cons_succ]
          refine wpAnyH_take (i := 7) (v := ?_) rfl (by kernel_rfl) (by kernel_rfl) (by kernel_rfl) (fun _ _ _ h => h) (Or.inl ⟨by rfl, ?_⟩) (by assumption) ?_
          rotate_left
          · (intro w hSw; (try dsimp only at hSw); go_simp; try with_reducible rfl)
          simp only [Act.put, List.getElem_toArray, List.getElem_cons_zero, List.getElem_cons_succ, List.setIfInBounds_toArray, List.set_cons_zero, List.set_cons_succ]
          refine wpAnyH_take (i := 9) (v := ?_) rfl (by kernel_rfl) (by kernel_rfl) (by kernel_rfl) (fun _ _ _ h => h) (Or.inl ⟨by rfl, ?_⟩) (by assumption) ?_
          rotate_left
          · (intro w hSw; (try dsimp only at hSw); go_simp; try with_reducible rfl)
          simp only [Act.put, List.getElem_toArray, List.getElem_cons_zero, List.getElem_cons_succ, List.setIfInBounds_toArray, List.set_cons_zero, List.set_cons_succ]
          refine wpAnyH_take (i := 10) (v := ?_) rfl (by kernel_rfl) (by kernel_rfl) (by kernel_rfl) (fun _ _ _ h => h) (Or.inl ⟨by rfl, ?_⟩) (by assumption) ?_
          rotate_left
          · (intro w hSw; (try dsimp only at hSw); go_simp; try with_reducible rfl)
          simp only [Act.put, List.getElem_toArray, List.getElem_cons_zero, List.getElem_cons_succ, List.setIfInBounds_toArray, List.set_cons_zero, List.set_cons_succ]
          refine wpAnyH_take (i := 11) (v := ?_) rfl (by kernel_rfl) (by kernel_rfl) (by kernel_rfl) (fun _ _ _ h => h) (Or.inl ⟨by rfl, ?_⟩) (by assumption) ?_
          rotate_left
          · (intro w hSw; (try dsimp only at hSw); go_simp; try with_reducible rfl)
          simp only [Act.put, List.getElem_toArray, List.getElem_cons_zero, List.getElem_cons_succ, List.setIfInBounds_toArray, List.set_cons_zero, List.set_cons_succ]
          refine wpAnyH_take (i := 12) (v := ?_) rfl (by kernel_rfl) (by kernel_rfl) (by kernel_rfl) (fun _ _ _ h => h) (Or.inl ⟨by rfl, ?_⟩) (by assumption) ?_
          rotate_left
          · (intro w hSw; (try dsimp only at hSw); go_simp; try with_reducible rfl)
          simp only [Act.put, List.getElem_toArray, List.getElem_cons_zero, List.getElem_cons_succ, List.setIfInBounds_toArray, List.set_cons_zero, List.set_cons_succ]
          refine wpAnyH_ready (rs := [6]) (by kernel_rfl) (by simp) ?_
          refine AllReadyH.cons rfl (fun K hK => ?_) AllReadyH.nil
          go_simp
          (go_at_call 15; refine (HPZ.out _).mono ?_; rintro e9 w9 ⟨rfl, k9⟩; replace HR := Lib.hid (HR.out.none k9); replace HQB := Lib.hid (k9.at HQB.out (fun h => h)); clear k9)
          go_wp2_with fail
          refine hK.out _ _ ?_ (fun hHeld => ?_)
          · ((try dsimp only); exact ⟨ln5 HQB.out, cell_of HQB.out 1, cell_of HQB.out 5⟩)
          clear hK K
          try simp only [Act.put, List.getElem_toArray, List.getElem_cons_zero, List.getElem_cons_succ, List.setIfInBounds_toArray, List.set_cons_zero, List.set_cons_succ]
          refine wpAnyH_take (i := 8) (v := ?_) rfl (by kernel_rfl) (by kernel_rfl) (by kernel_rfl) (fun _ _ _ h => h) (Or.inl ⟨by rfl, ?_⟩) (by assumption) ?_
          rotate_left
          · (intro w hSw; (try dsimp only at hSw); go_simp; try with_reducible rfl)
          simp only [Act.put, List.getElem_toArray, List.getElem_cons_zero, List.getElem_cons_succ, List.setIfInBounds_toArray, List.set_cons_zero, List.set_cons_succ]
          have HOA := Lib.hid (show (w9.alloc (.cells #[.int .i64 (lnP (baseP c) c.lr k), .int .i64 (2 + c.lr k), .int .i64 (2), .int .i64 ((k : Int)), .int .i64 (lnP (baseP c) c.lr k + (2 + c.lr k)), .int .i64 (1), .int .i64 (3), .int .i64 ((k : Int))] 76)).ownsRow w.heap.size 76 4 (.slice ra (c.nO + 2 * k) rc) (c.nO + 2 * k) (flatT (objSt c c.nO ++ lvSt c k)) by have := own_keepK HR.out.own ((Keeps.refl (fun _ => False) w9).alloc (.cells #[.int .i64 (lnP (baseP c) c.lr k), .int .i64 (2 + c.lr k), .int .i64 (2), .int .i64 ((k : Int)), .int .i64 (lnP (baseP c) c.lr k + (2 + c.lr k)), .int .i64 (1), .int .i64 (3), .int .i64 ((k : Int))] 76)) (fun _ _ h => h); rwa [List.length_append, objSt_len, lvSt_len] at this)
          have HNW := Lib.hid (fun (ad : Addr) (had : some (⟨w9.heap.size, 0, none⟩ : Addr) = some ad) (j : Nat) (u : Value) (hu : (flatT [(lnP (baseP c) c.lr k, 2 + c.lr k, 2, (k : Int)), (lnP (baseP c) c.lr k + (2 + c.lr k), 1, 3, (k : Int))])[j]? = some u) => show (w9.alloc (.cells #[.int .i64 (lnP (baseP c) c.lr k), .int .i64 (2 + c.lr k), .int .i64 (2), .int .i64 ((k : Int)), .int .i64 (lnP (baseP c) c.lr k + (2 + c.lr k)), .int .i64 (1), .int .i64 (3), .int .i64 ((k : Int))] 76)).cell? (ad.add j) = some u from by
            obtain rfl := Option.some.inj had
            rw [Addr.add_mid, cell_of (heap_new w9 _) (0 + j), show 0 + j = j by omega]
            simpa [flatT] using hu)
          have HSA := Lib.hid (show w.heap.size ≤ (w9.alloc (.cells #[.int .i64 (lnP (baseP c) c.lr k), .int .i64 (2 + c.lr k), .int .i64 (2), .int .i64 ((k : Int)), .int .i64 (lnP (baseP c) c.lr k + (2 + c.lr k)), .int .i64 (1), .int .i64 (3), .int .i64 ((k : Int))] 76)).heap.size from by rw [World.size_alloc]; have := HR.out.keeps.size; omega)
          have HQA := Lib.hid (heap_old HQB.out (.cells #[.int .i64 (lnP (baseP c) c.lr k), .int .i64 (2 + c.lr k), .int .i64 (2), .int .i64 ((k : Int)), .int .i64 (lnP (baseP c) c.lr k + (2 + c.lr k)), .int .i64 (1), .int .i64 (3), .int .i64 ((k : Int))] 76))
          refine wpAnyH_ready (rs := [13]) (by kernel_rfl) (by simp) ?_
          refine AllReadyH.cons rfl (fun K hK => ?_) AllReadyH.nil
          go_simp
          refine hK.out _ _ ?_ (fun hHeld => ?_)
          · ((try dsimp only); exact ⟨ln5 HQA.out, cell_of HQA.out 1, cell_of HQA.out 5⟩)
          clear hK K
          try simp only [Act.put, List.getElem_toArray, List.getElem_cons_zero, List.getElem_cons_succ, List.setIfInBounds_toArray, List.set_cons_zero, List.set_cons_succ]
          refine wpAnyH_ready (rs := [14]) (by kernel_rfl) (by simp) ?_
          refine AllReadyH.cons rfl (fun K hK => ?_) AllReadyH.nil
          (refine step_app_any rfl (.tmp 36) (.tmp 49) 73 rfl w.heap.size 76 i0 (.agg #[.int .i64 0, .int .i64 0, .int .i64 0, .int .i64 0]) 4 32 Try.underlying73 hi hz0 hz1 hz2 rfl (by decide) (.slice ra (c.nO + 2 * k) rc) (c.nO + 2 * k) (flatT (objSt c c.nO ++ lvSt c k)) rfl HOA.out (some ⟨w9.heap.size, 0, none⟩) 2 2 (flatT [(lnP (baseP c) c.lr k, 2 + c.lr k, 2, (k : Int)), (lnP (baseP c) c.lr k + (2 + c.lr k), 1, 3, (k : Int))]) rfl (fun h => absurd h (by simp)) rfl HNW.out (flatT_one _) (by unfold maxLen; omega) (by omega) HSA.out ?_; intro v10 w10 how10 hgr10; have HGR := Lib.hid (SrB.grow (M := [(lnP (baseP c) c.lr k, 2 + c.lr k, 2, (k : Int)), (lnP (baseP c) c.lr k + (2 + c.lr k), 1, 3, (k : Int))]) HR.out (.cells #[.int .i64 (lnP (baseP c) c.lr k), .int .i64 (2 + c.lr k), .int .i64 (2), .int .i64 ((k : Int)), .int .i64 (lnP (baseP c) c.lr k + (2 + c.lr k)), .int .i64 (1), .int .i64 (3), .int .i64 ((k : Int))] 76) hgr10 (by rw [List.length_append, objSt_len, lvSt_len]; exact how10)); have hsl := own_slice how10; clear how10 hgr10; obtain ⟨ra2, rc2, rfl⟩ := hsl)
          refine hK.out _ _ ?_ (fun hHeld => ?_)
          · ((try dsimp only); exact ⟨ln5 (HGR.out.2 _ _ _ HQB.out (by decide)), cell_of (HGR.out.2 _ _ _ HQB.out (by decide)) 1, cell_of (HGR.out.2 _ _ _ HQB.out (by decide)) 5⟩)
          clear hK K
          try simp only [Act.put, List.getElem_toArray, List.getElem_cons_zero, List.getElem_cons_succ, List.setIfInBounds_toArray, List.set_cons_zero, List.set_cons_succ]
          refine wpAnyH_take (i := 15) (v := ?_) rfl (by kernel_rfl) (by kernel_rfl) (by kernel_rfl) (fun _ _ _ h => h) (Or.inl ⟨by rfl, ?_⟩) (by assumption) ?_
          rotate_left
          · (intro w hSw; (try dsimp only at hSw); go_simp; try with_reducible rfl)
          simp only [Act.put, List.getElem_toArray, List.getElem_cons_zero, List.getElem_cons_succ, List.setIfInBounds_toArray, List.set_cons_zero, List.set_cons_succ]
          refine wpAnyH_done (by kernel_rfl) ?_ _
          refine NoPanic.normal ?_
          go_wp2_with fail
          go_roundw
          case rel => exact ⟨k + 1, ra2, rc2, by have := HLT.out; omega, by go_num, rfl, by rw [lvSt_next, ← List.append_assoc, ← HLA.out]; exact HGR.out.1⟩
          case measure => simp [intOf]; have := HLT.out; omega
        · have hkn : k = c.nL := by omega
          subst hkn
          have e0 : decide (c.nL < c.nL) = false := decide_eq_false (by omega)
          have e0' : decide ((c.nL : Int) < (c.nL : Int)) = false := decide_eq_false (by omega)
          have p2 := cell_of HS.out.box 2
          have p3 := cell_of HS.out.box 3
          simp only [List.getElem?_toArray, List.getElem?_cons_zero, List.getElem?_cons_succ] at p2 p3
          have HR := HS
          clear hlt
          have HOA := Lib.hid (show (wr.alloc (.cells #[.int .i64 (tickP c), .int .i64 (1), .int .i64 (4), .int .i64 (0)] 76)).ownsRow w.heap.size 76 4 (.slice ra (c.nO + 2 * c.nL) rc) (c.nO + 2 * c.nL) (flatT (objSt c c.nO ++ lvSt c c.nL)) by have := own_keepK HR.out.own ((Keeps.refl (fun _ => False) wr).alloc (.cells #[.int .i64 (tickP c), .int .i64 (1), .int .i64 (4), .int .i64 (0)] 76)) (fun _ _ h => h); rwa [List.length_append, objSt_len, lvSt_len] at this)
          have HNW := Lib.hid (fun (ad : Addr) (had : some (⟨wr.heap.size, 0, none⟩ : Addr) = some ad) (j : Nat) (u : Value) (hu : (flatT [(tickP c, 1, 4, 0)])[j]? = some u) => show (wr.alloc (.cells #[.int .i64 (tickP c), .int .i64 (1), .int .i64 (4), .int .i64 (0)] 76)).cell? (ad.add j) = some u from by
            obtain rfl := Option.some.inj had
            rw [Addr.add_mid, cell_of (heap_new wr _) (0 + j), show 0 + j = j by omega]
            simpa [flatT] using hu)
          have HSA := Lib.hid (show w.heap.size ≤ (wr.alloc (.cells #[.int .i64 (tickP c), .int .i64 (1), .int .i64 (4), .int .i64 (0)] 76)).heap.size from by rw [World.size_alloc]; have := HR.out.keeps.size; omega)
          go_wp2_with (at_builtin; refine wpList_app_any rfl (.tmp 52) (.tmp 56) 73 rfl w.heap.size 76 i0 (.agg #[.int .i64 0, .int .i64 0, .int .i64 0, .int .i64 0]) 4 32 Try.underlying73 hi hz0 hz1 hz2 rfl (by decide) (.slice ra (c.nO + 2 * c.nL) rc) (c.nO + 2 * c.nL) (flatT (objSt c c.nO ++ lvSt c c.nL)) rfl HOA.out (some ⟨wr.heap.size, 0, none⟩) 1 1 (flatT [(tickP c, 1, 4, 0)]) rfl (fun h => absurd h (by simp)) rfl HNW.out (flatT_one _) (by unfold maxLen; omega) (by omega) HSA.out ?_; intro v10 w10 how10 hgr10; have HGR := Lib.hid (SrB.grow (M := [(tickP c, 1, 4, 0)]) HR.out (.cells #[.int .i64 (tickP c), .int .i64 (1), .int .i64 (4), .int .i64 (0)] 76) hgr10 (by rw [List.length_append, objSt_len, lvSt_len]; exact how10)); have hsl := own_slice how10; clear how10 hgr10; obtain ⟨ra2, rc2, rfl⟩ := hsl; have p4 : w10.cell? ⟨w.heap.size, 3, none⟩ = some (.slice aa c.nT ac) := cell_of HGR.out.1.box 3)
          have HS2 := Lib.hid (show SrB w w10 w.heap.size [.slice (some ⟨g, 0, none⟩) c.nO c.nO, .slice la c.nL lc, .int .i64 (tickP c), .slice aa c.nT ac, .int .i64 (tickP c + 1 + (c.nT : Int))] (.slice ra2 (c.nO + 2 * c.nL + 1 + 0) rc2) (objSt c c.nO ++ lvSt c c.nL ++ [(tickP c, 1, 4, 0)] ++ askSt c 0) by rw [show askSt c 0 = [] from rfl, List.append_nil]; exact HGR.out.1)
          clear p4 p2 p3 HGR HR HS HOA HNW HSA
          go_loopw [3, 61] (fun r x W => ∃ (k : Nat) (ra : Option Addr) (rc : Nat), k ≤ c.nT ∧ x = .int .i64 (k : Int) ∧ r = .slice ra (c.nO + 2 * c.nL + 1 + k) rc ∧ SrB w W w.heap.size [.slice (some ⟨g, 0, none⟩) c.nO c.nO, .slice la c.nL lc, .int .i64 (tickP c), .slice aa c.nT ac, .int .i64 (tickP c + 1 + (c.nT : Int))] (.slice ra (c.nO + 2 * c.nL + 1 + k) rc) (objSt c c.nO ++ lvSt c c.nL ++ [(tickP c, 1, 4, 0)] ++ askSt c k)) (fun _ x _ => c.nT - (intOf x).toNat)
          case atStart => exact ⟨0, ra2, rc2, Nat.zero_le _, rfl, rfl, HS2.out⟩
          case round =>
            clear HS2
            obtain ⟨k, ra, rc, hk, rfl, rfl, hs⟩ := hrel
            have HR := Lib.hid hs
            clear hs
            by_cases hlt : k < c.nT
            · have HLT := Lib.hid hlt
              have e0 : decide (k < c.nT) = true := decide_eq_true hlt
              have e0' : decide ((k : Int) < (c.nT : Int)) = true := decide_eq_true (by omega)
              have e3 : (0 : Int) ≤ (k : Int) := by omega
              have e4 : (k : Int) < (c.nT : Int) := by omega
              obtain ⟨bl, hla, hbl, hra⟩ := ask_at HAK.out hlt
              have c0 : wr.cell? ⟨bl, k, none⟩ = some (.int .i64 (tickP c + 1 + (k : Int))) := (HR.out.keeps.none.cell (p := ⟨bl, k, none⟩) hbl).trans hra
              have hb2 : bl < wr.heap.size := Nat.lt_of_lt_of_le hbl HR.out.keeps.size
              have HLA := Lib.hid hla
              clear hlt hra hbl hla
              have HOA := Lib.hid (show (wr.alloc (.cells #[.int .i64 (tickP c + 1 + (k : Int)), .int .i64 (1), .int .i64 (5), .int .i64 ((k : Int))] 76)).ownsRow w.heap.size 76 4 (.slice ra (c.nO + 2 * c.nL + 1 + k) rc) (c.nO + 2 * c.nL + 1 + k) (flatT (objSt c c.nO ++ lvSt c c.nL ++ [(tickP c, 1, 4, 0)] ++ askSt c k)) by have := own_keepK HR.out.own ((Keeps.refl (fun _ => False) wr).alloc (.cells #[.int .i64 (tickP c + 1 + (k : Int)), .int .i64 (1), .int .i64 (5), .int .i64 ((k : Int))] 76)) (fun _ _ h => h); rwa [List.length_append, List.length_append, List.length_append, objSt_len, lvSt_len, askSt_len, List.length_singleton] at this)
              have HNW := Lib.hid (fun (ad : Addr) (had : some (⟨wr.heap.size, 0, none⟩ : Addr) = some ad) (j : Nat) (u : Value) (hu : (flatT [(tickP c + 1 + (k : Int), 1, 5, (k : Int))])[j]? = some u) => show (wr.alloc (.cells #[.int .i64 (tickP c + 1 + (k : Int)), .int .i64 (1), .int .i64 (5), .int .i64 ((k : Int))] 76)).cell? (ad.add j) = some u from by
                obtain rfl := Option.some.inj had
                rw [Addr.add_mid, cell_of (heap_new wr _) (0 + j), show 0 + j = j by omega]
                simpa [flatT] using hu)
              have HSA := Lib.hid (show w.heap.size ≤ (wr.alloc (.cells #[.int .i64 (tickP c + 1 + (k : Int)), .int .i64 (1), .int .i64 (5), .int .i64 ((k : Int))] 76)).heap.size from by rw [World.size_alloc]; have := HR.out.keeps.size; omega)
              rw [HLA.out]
              go_wp2_with (at_builtin; refine wpList_app_any rfl (.tmp 66) (.tmp 70) 73 rfl w.heap.size 76 i0 (.agg #[.int .i64 0, .int .i64 0, .int .i64 0, .int .i64 0]) 4 32 Try.underlying73 hi hz0 hz1 hz2 rfl (by decide) (.slice ra (c.nO + 2 * c.nL + 1 + k) rc) (c.nO + 2 * c.nL + 1 + k) (flatT (objSt c c.nO ++ lvSt c c.nL ++ [(tickP c, 1, 4, 0)] ++ askSt c k)) rfl HOA.out (some ⟨wr.heap.size, 0, none⟩) 1 1 (flatT [(tickP c + 1 + (k : Int), 1, 5, (k : Int))]) rfl (fun h => absurd h (by simp)) rfl HNW.out (flatT_one _) (by unfold maxLen; omega) (by omega) HSA.out ?_; intro v10 w10 how10 hgr10; have HGR := Lib.hid (SrB.grow (M := [(tickP c + 1 + (k : Int), 1, 5, (k : Int))]) HR.out (.cells #[.int .i64 (tickP c + 1 + (k : Int)), .int .i64 (1), .int .i64 (5), .int .i64 ((k : Int))] 76) hgr10 (by rw [List.length_append, List.length_append, List.length_append, objSt_len, lvSt_len, askSt_len, List.length_singleton]; exact how10)); have hsl := own_slice how10; clear how10 hgr10; obtain ⟨ra2, rc2, rfl⟩ := hsl)
              go_roundw
              case rel => exact ⟨k + 1, ra2, rc2, by have := HLT.out; omega, by go_num, rfl, by rw [askSt_next, ← List.append_assoc, ← HLA.out]; exact HGR.out.1⟩
              case measure => simp [intOf]; have := HLT.out; omega
            · have hkn : k = c.nT := by omega
              subst hkn
              have e0 : decide (c.nT < c.nT) = false := decide_eq_false (by omega)
              have e0' : decide ((c.nT : Int) < (c.nT : Int)) = false := decide_eq_false (by omega)
              have HE := Lib.hid (show objSt c c.nO ++ lvSt c c.nL ++ [(tickP c, 1, 4, 0)] ++ askSt c c.nT = allSt c by unfold allSt; simp)
              have HLE := Lib.hid (show (objSt c c.nO ++ lvSt c c.nL ++ [(tickP c, 1, 4, 0)] ++ askSt c c.nT).length = c.nO + 2 * c.nL + 1 + c.nT by rw [List.length_append, List.length_append, List.length_append, objSt_len, lvSt_len, askSt_len, List.length_singleton])
              clear hlt
              go_wp2_with fail
              go_ret
              have how := HR.out.own
              rw [HLE.out] at how
              rw [HE.out] at how
              exact ⟨ra, _, rc, rfl, how, by rw [← HE.out, HLE.out], HR.out.keeps⟩
end Go.Proofs.Ytnogdeihiiejkaa
