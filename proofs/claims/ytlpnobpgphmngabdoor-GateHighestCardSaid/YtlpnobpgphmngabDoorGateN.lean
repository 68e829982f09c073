import Derived.Test.YtlpnobpgphmngabDoorGateC
namespace Go.Proofs.YtlpnobpgphmngabDoor
open Go.ChangeShapes Go.WideShapes Go.ChangeAt Go.RowKit
set_option linter.unusedVariables false
theorem hasB_no {x : Nat} {k : Int} (h : ∀ j : Nat, (j : Int) = k → x.testBit j = false) : hasB x k = false := by
  unfold hasB
  by_cases hk : 0 ≤ k ∧ k < 32
  · rw [h k.toNat (by omega)]; simp
  · simp [hk]
set_option maxRecDepth 20000 in
theorem gnext_no (b : Nat) (s : GS) (w : World) (h : IsGate w b s) (g : Good s) (hn : ∀ j : Nat, topV s.L s.d < j → s.x.testBit j = false) :
    Calls Tryd.prog 24 #[.pointer (some ⟨b, 0, none⟩)] w fun e w' => e = .returned (.tuple #[.int .i64 (topV s.L s.d), .bool false]) ∧ IsGate w' b s ∧ Keeps (fun _ => False) w w' := by
  have hmf : ∀ (fn : Fn) (first cap : Array Value) (w : World), (Instr.makeFunc fn first cap).run Tryd.prog w = .ok (.func fn first cap) w := fun _ _ _ _ => rfl
  have ht := g.rises.top
  have hd := g.rises.le
  have hx := g.x
  have hmo := g.mo
  have c37 := h.c37
  have lb := h.lt
  have H := Lib.hid h
  have HN := Lib.hid hn
  clear h hn
  go_enter Tryd.func24, Tryd.ntmps24
  go_wp2_with fail
  go_step3
  go_wp2_with fail
  go_quiet (fail)
  go_wp2_with fail
  refine (gtop _ _ _ hd (H.out.drewN _)).mono ?_
  rintro e w' ⟨rfl, n2, rfl⟩
  generalize htp : topV s.L s.d = tp at *
  have HT := Lib.hid htp
  clear htp
  go_wp2_with fail
  go_step3
  go_wp2_with fail
  obtain ⟨wo, rfl⟩ : ∃ wo : World, wo = w := ⟨_, rfl⟩
  go_loopw [3, 7] (fun en k wr => ∃ kc : Int, -1 ≤ kc ∧ kc ≤ 31 ∧ k = .int .i64 kc ∧ en = .bool false ∧ IsGate wr b s ∧ Keeps (fun _ => False) wo wr) (fun _ k _ => (intOf k + 1).toNat)
  case atStart => exact ⟨s.mo, by omega, by omega, rfl, rfl, H.out.drewN _, ((Keeps.refl _ _).drewN _)⟩
  case round =>
    obtain ⟨kc, hk1, hk2, rfl, rfl, hg, hK⟩ := hrel
    have HG := Lib.hid (And.intro hg hK)
    clear hg hK
    by_cases hlt : tp < kc
    · have hno : hasB s.x kc = false := hasB_no fun j hj => HN.out j (by omega)
      have HO := Lib.hid hno
      clear hno
      go_wp2_with fail
      refine (gtake_no b s kc _ hx HG.out.1 HO.out).mono ?_
      rintro e w' ⟨rfl, rfl⟩
      go_wp2
      go_roundw
      case rel => exact ⟨kc - 1, by omega, by omega, rfl, rfl, HG.out.1, HG.out.2⟩
      case measure => simp [intOf]; omega
    · go_wp2_with fail
      refine (glevel b s _ hd HG.out.1).mono ?_
      rintro e w' ⟨rfl, n3, rfl⟩
      rw [HT.out]
      go_wp2
      try rw [Exit.noGoto_ret]
      exact bodyPost_ret (v := .tuple #[.int .i64 tp, .bool false]) (by simp [results, Tryd.results24, go_sem]) rfl ⟨by rw [HT.out], HG.out.1.drewN _, HG.out.2.drewN _⟩
set_option maxRecDepth 20000 in
theorem gnext_yes (b k : Nat) (s : GS) (w : World) (h : IsGate w b s) (g : Good s) (hlt : topV s.L s.d < k) (hkm : k ≤ s.mo) (hn : s.x.testBit k = true ∧ ∀ j : Nat, k < j → s.x.testBit j = false) :
    Calls Tryd.prog 24 #[.pointer (some ⟨b, 0, none⟩)] w fun e w' => e = .returned (.tuple #[.int .i64 (k : Int), .bool true]) ∧ (∃ q', IsGate w' b { x := clrB s.x k, t := s.t + 1, m := s.m, L := fun i => if i = s.d then (k : Int) else s.L i, d := s.d + 1, q := q', mo := s.mo, en := s.en + 1 }) ∧ Keeps (fun k => k = b) w w' := by
  have hgt := g.t
  have hge := g.en
  have HR := Lib.hid (rises_enter g.rises (k := k) ⟨hlt, by omega, by have := g.mo; omega⟩)
  have hmf : ∀ (fn : Fn) (first cap : Array Value) (w : World), (Instr.makeFunc fn first cap).run Tryd.prog w = .ok (.func fn first cap) w := fun _ _ _ _ => rfl
  have ht := g.rises.top
  have hd := g.rises.le
  have hx := g.x
  have hmo := g.mo
  have c37 := h.c37
  have lb := h.lt
  have H := Lib.hid h
  have HN := Lib.hid hn
  clear h hn
  go_enter Tryd.func24, Tryd.ntmps24
  go_wp2_with fail
  go_step3
  go_wp2_with fail
  go_quiet (fail)
  go_wp2_with fail
  refine (gtop _ _ _ hd (H.out.drewN _)).mono ?_
  rintro e w' ⟨rfl, n2, rfl⟩
  generalize htp : topV s.L s.d = tp at *
  have HT := Lib.hid htp
  clear htp
  go_wp2_with fail
  go_step3
  go_wp2_with fail
  obtain ⟨wo, rfl⟩ : ∃ wo : World, wo = w := ⟨_, rfl⟩
  go_loopw [3, 7] (fun en i wr => ∃ kc : Int, (k : Int) ≤ kc ∧ kc ≤ 31 ∧ i = .int .i64 kc ∧ en = .bool false ∧ IsGate wr b s ∧ Keeps (fun _ => False) wo wr) (fun _ i _ => (intOf i + 1).toNat)
  case atStart => exact ⟨s.mo, by omega, by omega, rfl, rfl, H.out.drewN _, ((Keeps.refl _ _).drewN _)⟩
  case round =>
    obtain ⟨kc, hk1, hk2, rfl, rfl, hg, hK⟩ := hrel
    have HG := Lib.hid (And.intro hg hK)
    clear hg hK
    by_cases he : kc = k
    · subst he
      have hhas : hasB s.x (k : Int) = true := by rw [hasB_nat (by omega)]; exact HN.out.1
      have HO := Lib.hid hhas
      clear hhas
      go_wp2_with fail
      refine (gtake_yes b s k _ hx hgt HG.out.1 HO.out).mono ?_
      rintro e w1 ⟨rfl, g1, k1⟩
      have G1 := Lib.hid (And.intro g1 ((HG.out.2.mono (T := fun k => k = b) fun _ _ h => h.elim).trans k1))
      clear g1 k1 HG
      go_wp2_with fail
      refine (genter_yes b _ k _ (by show s.d < 32; exact HR.out.1) G1.out.1 ⟨by show topV s.L s.d < _; rw [HT.out]; exact hlt, by omega, by omega⟩).mono ?_
      rintro e w2 ⟨rfl, ⟨q', g2⟩, k2⟩
      have c38 := g2.c38
      have f38 := g2.free 38
      have l2 := g2.lt
      have G2 := Lib.hid (And.intro g2 (G1.out.2.trans k2))
      clear g2 k2 G1
      go_wp2_with fail
      refine (glevel b _ _ (by show s.d + 1 ≤ 32; have := HR.out.1; omega) (G2.out.1.setE (s.en + 1))).mono ?_
      rintro e w' ⟨rfl, n3, rfl⟩
      rw [show topV (fun i => if i = s.d then (k : Int) else s.L i) (s.d + 1) = k from if_pos rfl]
      go_wp2
      try rw [Exit.noGoto_ret]
      exact bodyPost_ret (v := .tuple #[.int .i64 k, .bool true]) (by simp [results, Tryd.results24, go_sem]) rfl ⟨rfl, ⟨q', (G2.out.1.setE (s.en + 1)).drewN _⟩, (G2.out.2.setB 38 _).drewN _⟩
    · have hno : hasB s.x kc = false := hasB_no fun j hj => HN.out.2 j (by omega)
      have hlt2 : tp < kc := by omega
      have HO := Lib.hid hno
      clear hno
      go_wp2_with fail
      refine (gtake_no b s kc _ hx HG.out.1 HO.out).mono ?_
      rintro e w' ⟨rfl, rfl⟩
      go_wp2
      go_roundw
      case rel => exact ⟨kc - 1, by omega, by omega, rfl, rfl, HG.out.1, HG.out.2⟩
      case measure => simp [intOf]; omega
end Go.Proofs.YtlpnobpgphmngabDoor
