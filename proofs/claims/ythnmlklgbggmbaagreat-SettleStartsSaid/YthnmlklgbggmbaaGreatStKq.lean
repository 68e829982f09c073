import Derived.Test.YthnmlklgbggmbaaGreatStGq
namespace Go.Proofs.YthnmlklgbggmbaaGreat
open Go.ChangeShapes Go.WideShapes Go.ChangeAt Go.RowKit
set_option linter.unusedVariables false
set_option linter.unusedSimpArgs false
attribute [local irreducible] wpList
theorem meas_as {k n : Nat} (hy : wrap64 ((k : Int) + 1) = (k : Int) + 1) (h : k < n) : n - (intOf (.int .i64 (wrap64 ((k : Int) + 1)))).toNat < n - (intOf (.int .i64 (k : Int))).toNat := by
  rw [hy]
  show n - ((k : Int) + 1).toNat < n - ((k : Int)).toNat
  omega
section
variable {w : World} {s wb g pg : Nat} {la aa : Option Addr} {lc ac : Nat} {c : CfD} {a' : ScA} {M : ScM}
set_option maxRecDepth 20000 in
set_option maxHeartbeats 4000000 in
theorem asks_true (h : StillS w s wb g pg la aa lc ac c a' M) (hg : GoodC c) : Calls Tryz.prog 162 #[.pointer (some ⟨s, 0, none⟩)] w fun e w' => e = .returned (.bool true) ∧ Keeps (fun _ => False) w w' := by
  have hn := plan_nums hg
  have HT := Lib.hid hg.t
  obtain ⟨B, hak⟩ := h.ak
  have HA := Lib.hid (fun k (hk : k < c.nT) => ask_at hak (k := k) hk)
  have HW := Lib.hid (fun W (kk : Keeps (fun _ => False) w W) (k : Nat) => (h.quiet kk).word hg (tickP c + 1 + (k : Int)) (by omega))
  have HF := Lib.hid (fun W (kk : Keeps (fun _ => False) w W) => show W.cell? ⟨s, 6, none⟩ = some (.func (.func 117) #[] #[.pointer (some ⟨wb, 0, none⟩)]) from cell_of (h.quiet kk).blk 6)
  have c3 : w.cell? ⟨s, 3, none⟩ = some (.slice aa c.nT ac) := cell_of h.blk 3
  clear h hg hak hn
  go_enter Tryz.func162, Tryz.ntmps162
  go_wp2_with fail
  clear c3
  go_loopw [11] (fun i wr => ∃ k : Nat, i = .int .i64 (k : Int) ∧ k ≤ c.nT ∧ Keeps (fun _ => False) w wr) (fun i _ => c.nT - (intOf i).toNat)
  case atStart => exact ⟨0, rfl, by omega, Keeps.refl _ _⟩
  case round =>
    obtain ⟨k, rfl, hk, hkr⟩ := hrel
    have HK := Lib.hid hkr
    have ht := HT.out
    by_cases hlt : k < c.nT
    · obtain ⟨ab, ha, hab, hc⟩ := HA.out k hlt
      have HLT := Lib.hid hlt
      have d1 : decide ((k : Int) < (c.nT : Int)) = true := decide_eq_true (by omega)
      have d2 : decide (k < c.nT) = true := decide_eq_true hlt
      have b1 : (0 : Int) ≤ (k : Int) := by omega
      have b2 : (k : Int) < (c.nT : Int) := by omega
      have ck : wr.cell? ⟨ab, k, none⟩ = some (.int .i64 (tickP c + 1 + (k : Int))) := (hkr.none.cell (p := ⟨ab, k, none⟩) hab).trans hc
      have c6 := HF.out wr hkr
      have y1 : wrap64 ((k : Int) + 1) = (k : Int) + 1 := IntWalk.wrap64_in _ ⟨by omega, by omega⟩
      rw [ha]
      clear hc hab hkr hk ht hlt
      go_wp2_with fail
      refine (HW.out _ HK.out k).mono ?_
      rintro e2 w2 ⟨rfl, rfl⟩
      go_wp2_with fail
      go_roundw
      case rel => exact ⟨k + 1, by rw [y1]; rfl, HLT.out, HK.out⟩
      case measure => exact meas_as y1 HLT.out
    · have d1 : decide ((k : Int) < (c.nT : Int)) = false := decide_eq_false (by omega)
      have d2 : decide (k < c.nT) = false := decide_eq_false hlt
      clear hkr hk ht hlt
      go_wp2_with fail
      go_ret
      exact ⟨rfl, HK.out⟩
set_option maxRecDepth 20000 in
set_option maxHeartbeats 4000000 in
theorem lines_true (h : StillS w s wb g pg la aa lc ac c a' M) (hg : GoodC c) : Calls Tryz.prog 158 #[.pointer (some ⟨s, 0, none⟩)] w fun e w' => e = .returned (.bool true) ∧ Keeps (fun _ => False) w w' := by
  have HL := Lib.hid hg.l
  obtain ⟨B, hln⟩ := h.ln
  have HA := Lib.hid (fun k (hk : k < c.nL) => line_at hln (k := k) hk)
  have HW := Lib.hid (fun W (kk : Keeps (fun _ => False) w W) (k : Nat) (hk : k < c.nL) part (hp : part = 1 ∨ part = 2) => counter_zero (h.quiet kk) hg k hk part hp)
  have c1 : w.cell? ⟨s, 1, none⟩ = some (.slice la c.nL lc) := cell_of h.blk 1
  clear h hg hln
  go_enter Tryz.func158, Tryz.ntmps158
  go_wp2_with fail
  clear c1
  go_loopw [11] (fun i wr => ∃ k : Nat, i = .int .i64 (k : Int) ∧ k ≤ c.nL ∧ Keeps (fun _ => False) w wr) (fun i _ => c.nL - (intOf i).toNat)
  case atStart => exact ⟨0, rfl, by omega, Keeps.refl _ _⟩
  case round =>
    obtain ⟨k, rfl, hk, hkr⟩ := hrel
    have HK := Lib.hid hkr
    have hl := HL.out
    by_cases hlt : k < c.nL
    · obtain ⟨lb, ha, hlb, hc⟩ := HA.out k hlt
      have HLT := Lib.hid hlt
      have d1 : decide ((k : Int) < (c.nL : Int)) = true := decide_eq_true (by omega)
      have d2 : decide (k < c.nL) = true := decide_eq_true hlt
      have b1 : (0 : Int) ≤ (k : Int) := by omega
      have b2 : (k : Int) < (c.nL : Int) := by omega
      have r : ∀ j v, (lineC (baseP c) c.lr k)[j]? = some v → wr.cell? ⟨lb, k * 6 + j, none⟩ = some v := fun j v hj => (hkr.none.cell (p := ⟨lb, k * 6 + j, none⟩) hlb).trans (hc j v hj)
      have r0 : wr.cell? ⟨lb, k * 6, none⟩ = some (.int .i64 1) := r 0 _ rfl
      have r1 : wr.cell? ⟨lb, k * 6 + 1, none⟩ = some (.int .i64 (lnP (baseP c) c.lr k)) := r 1 _ rfl
      have r2 : wr.cell? ⟨lb, k * 6 + 2, none⟩ = some (.int .i64 (c.lr k)) := r 2 _ rfl
      have r3 : wr.cell? ⟨lb, k * 6 + 3, none⟩ = some (.int .i64 1) := r 3 _ rfl
      have r4 : wr.cell? ⟨lb, k * 6 + 4, none⟩ = some (.int .i64 0) := r 4 _ rfl
      have r5 : wr.cell? ⟨lb, k * 6 + 5, none⟩ = some (.int .i64 (lnP (baseP c) c.lr k + (2 + c.lr k))) := r 5 _ rfl
      have y1 : wrap64 ((k : Int) + 1) = (k : Int) + 1 := IntWalk.wrap64_in _ ⟨by omega, by omega⟩
      rw [ha]
      clear hc hlb hkr hk hl hlt r
      go_wp2_with fail
      have HBX := Lib.hid (heap_new wr (.cells #[.int .i64 1, .int .i64 (lnP (baseP c) c.lr k), .int .i64 (c.lr k), .int .i64 1, .int .i64 0, .int .i64 (lnP (baseP c) c.lr k + (2 + c.lr k))] 148))
      have HK1 := Lib.hid (HK.out.alloc (.cells #[.int .i64 1, .int .i64 (lnP (baseP c) c.lr k), .int .i64 (c.lr k), .int .i64 1, .int .i64 0, .int .i64 (lnP (baseP c) c.lr k + (2 + c.lr k))] 148))
      generalize wr.alloc (.cells #[.int .i64 1, .int .i64 (lnP (baseP c) c.lr k), .int .i64 (c.lr k), .int .i64 1, .int .i64 0, .int .i64 (lnP (baseP c) c.lr k + (2 + c.lr k))] 148) = W1 at HBX HK1 ⊢
      generalize wr.heap.size = LB at HBX ⊢
      have HP := Lib.hid (fun W (kk : Keeps (fun _ => False) W1 W) => show W.cell? ⟨LB, 0, none⟩ = some (.int .i64 1) ∧ W.cell? ⟨LB, 1, none⟩ = some (.int .i64 (lnP (baseP c) c.lr k)) ∧ W.cell? ⟨LB, 2, none⟩ = some (.int .i64 (c.lr k)) ∧ W.cell? ⟨LB, 3, none⟩ = some (.int .i64 1) ∧ W.cell? ⟨LB, 4, none⟩ = some (.int .i64 0) from by have hb := kk.at HBX.out fun h => h; exact ⟨cell_of hb 0, cell_of hb 1, cell_of hb 2, cell_of hb 3, cell_of hb 4⟩)
      clear r0 r1 r2 r3 r4 r5
      go_region_held3 (fun w' => w'.cell? ⟨LB, 0, none⟩ = some (.int .i64 1) ∧ w'.cell? ⟨LB, 1, none⟩ = some (.int .i64 (lnP (baseP c) c.lr k)) ∧ w'.cell? ⟨LB, 2, none⟩ = some (.int .i64 (c.lr k)) ∧ w'.cell? ⟨LB, 3, none⟩ = some (.int .i64 1) ∧ w'.cell? ⟨LB, 4, none⟩ = some (.int .i64 0))
        (first
          | exact HP.out _ (Keeps.refl _ W1).drew
          | exact HP.out _ HK9.out
          | exact HP.out _ HK10.out
          | go_keep)
        (first
          | (go_at_call 121; refine (HW.out _ (HK1.out.trans HK9.out) k HLT.out _ (by first | exact .inr rfl | exact .inl rfl)).mono ?_; rintro e10 w10 ⟨rfl, k10⟩; have HK10 := Lib.hid (HK9.out.trans k10); clear k10)
          | (go_at_call 121; refine (HW.out _ HK1.out.drew k HLT.out _ (by first | exact .inl rfl | exact .inr rfl)).mono ?_; rintro e9 w9 ⟨rfl, k9⟩; have HK9 := Lib.hid ((Keeps.refl (fun _ => False) W1).drew.trans k9); clear k9)
          | fail)
      all_goals
        have HK11 := Lib.hid (HK1.out.trans HK10.out)
        go_wp2_with fail
        go_roundw
        case rel => exact ⟨k + 1, by rw [y1]; rfl, HLT.out, HK11.out⟩
        case measure => exact meas_as y1 HLT.out
    · have d1 : decide ((k : Int) < (c.nL : Int)) = false := decide_eq_false (by omega)
      have d2 : decide (k < c.nL) = false := decide_eq_false hlt
      clear hkr hk hl hlt
      go_wp2_with fail
      go_ret
      exact ⟨rfl, HK.out⟩
end
end Go.Proofs.YthnmlklgbggmbaaGreat
namespace Go.Proofs.YthnmlklgbggmbaaGreat
open Go.ChangeShapes Go.WideShapes Go.ChangeAt Go.RowKit
set_option linter.unusedVariables false
set_option linter.unusedSimpArgs false
attribute [local irreducible] wpList
theorem index5 (v0 v1 v2 v3 v4 : Value) (W : World) : (Instr.index 236 (.agg #[v0, v1, v2, v3, v4]) (.int .i64 0)).run Tryz.prog W = .ok v0 W ∧ (Instr.index 236 (.agg #[v0, v1, v2, v3, v4]) (.int .i64 1)).run Tryz.prog W = .ok v1 W ∧ (Instr.index 236 (.agg #[v0, v1, v2, v3, v4]) (.int .i64 2)).run Tryz.prog W = .ok v2 W ∧ (Instr.index 236 (.agg #[v0, v1, v2, v3, v4]) (.int .i64 3)).run Tryz.prog W = .ok v3 W ∧ (Instr.index 236 (.agg #[v0, v1, v2, v3, v4]) (.int .i64 4)).run Tryz.prog W = .ok v4 W :=
  ⟨by kernel_rfl, by kernel_rfl, by kernel_rfl, by kernel_rfl, by kernel_rfl⟩
section
variable {w : World} {s wb g pg : Nat} {la aa : Option Addr} {lc ac : Nat} {c : CfD} {a' : ScA} {M : ScM}
set_option maxRecDepth 20000 in
set_option maxHeartbeats 4000000 in
theorem broken_zero (h : StillS w s wb g pg la aa lc ac c a' M) (hg : GoodC c) (hc : firstM M = M.cur) : Calls Tryz.prog 114 #[.pointer (some ⟨s, 0, none⟩)] w fun e w' => e = .returned (.int .i64 0) ∧ Keeps (fun _ => False) w w' := by
  have H1 := Lib.hid (fun W (k : Keeps (fun _ => False) w W) => lines_true (h.quiet k) hg)
  have H2 := Lib.hid (fun W (k : Keeps (fun _ => False) w W) => time_true (h.quiet k) hg)
  have H3 := Lib.hid (fun W (k : Keeps (fun _ => False) w W) => waits_true (h.quiet k))
  have H4 := Lib.hid (fun W (k : Keeps (fun _ => False) w W) => first_true (h.quiet k) hc)
  have H5 := Lib.hid (fun W (k : Keeps (fun _ => False) w W) => asks_true (h.quiet k) hg)
  have hmf : ∀ (fn : Fn) (first cap : Array Value) (w : World), (Instr.makeFunc fn first cap).run Tryz.prog w = .ok (.func fn first cap) w := fun _ _ _ _ => rfl
  have hx0 := fun W => index5 (.func (.func 158) #[.pointer (some ⟨s, 0, none⟩)] #[]) (.func (.func 159) #[.pointer (some ⟨s, 0, none⟩)] #[]) (.func (.func 160) #[.pointer (some ⟨s, 0, none⟩)] #[]) (.func (.func 161) #[.pointer (some ⟨s, 0, none⟩)] #[]) (.func (.func 162) #[.pointer (some ⟨s, 0, none⟩)] #[]) W
  clear h hg hc
  go_enter Tryz.func114, Tryz.ntmps114
  go_wp2_with fail
  refine wp_scope_n 0 ?_
  go_wp2_with fail
  go_step3
  go_wp2_with fail
  go_loopw [17, 3] (fun i b wr => b = .int .i64 0 ∧ ∃ k : Nat, i = .int .i64 (k : Int) ∧ k ≤ 5 ∧ Keeps (fun _ => False) w wr) (fun i _ _ => 5 - (intOf i).toNat)
  case atStart => exact ⟨rfl, 0, rfl, by omega, Keeps.refl _ _⟩
  case round =>
    obtain ⟨rfl, k, rfl, hk, hkr⟩ := hrel
    have HK := Lib.hid hkr
    clear hkr
    rcases (by omega : k = 0 ∨ k = 1 ∨ k = 2 ∨ k = 3 ∨ k = 4 ∨ k = 5) with rfl | rfl | rfl | rfl | rfl | rfl
    · clear hk
      obtain ⟨i0, i1, i2, i3, i4⟩ := hx0 wr
      go_wp2_with fail
      refine (H1.out _ HK.out).mono ?_
      rintro e1 w1 ⟨rfl, k1⟩
      have HK2 := Lib.hid (HK.out.trans k1)
      clear k1
      go_wp2_with fail
      go_roundw
      case rel => exact ⟨rfl, 1, rfl, by omega, HK2.out⟩
      case measure => simp [intOf]
    · clear hk
      obtain ⟨i0, i1, i2, i3, i4⟩ := hx0 wr
      go_wp2_with fail
      refine (H2.out _ HK.out).mono ?_
      rintro e2 w2 ⟨rfl, k2⟩
      have HK2 := Lib.hid (HK.out.trans k2)
      clear k2
      go_wp2_with fail
      go_roundw
      case rel => exact ⟨rfl, 2, rfl, by omega, HK2.out⟩
      case measure => simp [intOf]
    · clear hk
      obtain ⟨i0, i1, i2, i3, i4⟩ := hx0 wr
      go_wp2_with fail
      refine (H3.out _ HK.out).mono ?_
      rintro e3 w3 ⟨rfl, k3⟩
      have HK2 := Lib.hid (HK.out.trans k3)
      clear k3
      go_wp2_with fail
      go_roundw
      case rel => exact ⟨rfl, 3, rfl, by omega, HK2.out⟩
      case measure => simp [intOf]
    · clear hk
      obtain ⟨i0, i1, i2, i3, i4⟩ := hx0 wr
      go_wp2_with fail
      refine (H4.out _ HK.out).mono ?_
      rintro e4 w4 ⟨rfl, k4⟩
      have HK2 := Lib.hid (HK.out.trans k4)
      clear k4
      go_wp2_with fail
      go_roundw
      case rel => exact ⟨rfl, 4, rfl, by omega, HK2.out⟩
      case measure => simp [intOf]
    · clear hk
      obtain ⟨i0, i1, i2, i3, i4⟩ := hx0 wr
      go_wp2_with fail
      refine (H5.out _ HK.out).mono ?_
      rintro e5 w5 ⟨rfl, k5⟩
      have HK2 := Lib.hid (HK.out.trans k5)
      clear k5
      go_wp2_with fail
      go_roundw
      case rel => exact ⟨rfl, 5, rfl, by omega, HK2.out⟩
      case measure => simp [intOf]
    · clear hk
      go_wp2_with fail
      refine scopeN_ret _ ?_
      go_ret
      exact ⟨rfl, HK.out⟩
end
end Go.Proofs.YthnmlklgbggmbaaGreat
namespace Go.Proofs.YthnmlklgbggmbaaGreat
open Go.ChangeShapes Go.WideShapes Go.ChangeAt Go.RowKit
set_option linter.unusedVariables false
set_option linter.unusedSimpArgs false
attribute [local irreducible] wpList
@[reducible] def plA (pg : Nat) (la aa : Option Addr) (lc ac : Nat) (c : CfD) : Array Value := #[.slice (some ⟨pg, 0, none⟩) c.nO c.nO, .slice la c.nL lc, .int .i64 (tickP c), .slice aa c.nT ac, .int .i64 (tickP c + 1 + (c.nT : Int))]
@[reducible] def stC9 (pg : Nat) (la aa : Option Addr) (lc ac : Nat) (c : CfD) (f : Value) (s : Nat) (r : Int) : Array Value := #[.slice (some ⟨pg, 0, none⟩) c.nO c.nO, .slice la c.nL lc, .int .i64 (tickP c), .slice aa c.nT ac, .int .i64 (tickP c + 1 + (c.nT : Int)), .int .u32 0, f, .pointer (some ⟨s, 0, none⟩), .int .i64 r]
section
variable {w : World} {x mb q gb zb fb : Nat} {c : CfD} {p : DrP} {a : ScA} {M : ScM} {P : Nat → Prop} {pg lc ac : Nat} {la aa : Option Addr}
set_option maxRecDepth 20000 in
set_option maxHeartbeats 4000000 in
theorem look_any (h : CoreS w x mb q gb zb fb c p a M P) (hg : GoodC c) (B B' : Nat) (hln : w.ownsRow B 148 6 (.slice la c.nL lc) c.nL (linesF (baseP c) c.lr c.nL)) (hak : w.ownsRow B' 3 1 (.slice aa c.nT ac) c.nT (asksF (tickP c + 1) c.nT)) :
    Calls Tryz.prog 65 #[.agg (plA pg la aa lc ac c), .pointer (some ⟨x, 0, none⟩)] w fun e w' => ∃ s wb g a', e = .returned (.tuple #[.pointer (some ⟨s, 0, none⟩), .bool true]) ∧ StillS w' s wb g pg la aa lc ac c a' M ∧ Keeps (fun _ => False) w w' := by
  have hn := plan_nums hg
  have hcn : ((cellsN c : Nat) : Int) = tickP c + 1 + (c.nT : Int) := by unfold cellsN; omega
  have HH := Lib.hid (fun W (k : Keeps (fun _ => False) w W) => h.quiet k)
  have HLN := Lib.hid (And.intro hln hak)
  have HB := Lib.hid ((Has.start w).alloc (.cells (plA pg la aa lc ac c) 83))
  have hmf : ∀ (fn : Fn) (first cap : Array Value) (w : World), (Instr.makeFunc fn first cap).run Tryz.prog w = .ok (.func fn first cap) w := fun _ _ _ _ => rfl
  have z1 : ((cellsN c : Int) != tickP c + 1 + (c.nT : Int)) = false := by rw [hcn]; simp
  have z2 : ((cellsN c : Int) = tickP c + 1 + (c.nT : Int)) = True := eq_true hcn
  clear h hg hln hak hn hcn
  go_enter Tryz.func65, Tryz.ntmps65
  go_wp2_with fail
  refine (core_words (HH.out _ HB.out.keeps)).mono ?_
  rintro e1 w1 ⟨g, rfl, hg1, _, k1⟩
  replace HB := Lib.hid ((HB.out.none k1).alloc (.cells #[.slice (some ⟨g, 0, none⟩) (cellsN c) (cellsN c)] 41))
  have HGR := Lib.hid (((Keeps.refl (fun _ => False) w1).alloc (.cells #[.slice (some ⟨g, 0, none⟩) (cellsN c) (cellsN c)] 41)).at hg1 fun h => h)
  clear k1 hg1
  obtain ⟨p0, p1, p2, p3, p4⟩ := five_plan (HB.out.at 1 rfl)
  go_wp2_with fail
  generalize w1.alloc (.cells #[.slice (some ⟨g, 0, none⟩) (cellsN c) (cellsN c)] 41) = W2 at HB HGR ⊢ p0 p1 p2 p3 p4
  generalize hWB : w1.heap.size = WB at HB ⊢
  clear hWB p0 p1 p2 p3 p4
  have HP := Lib.hid (fun W (kk : Keeps (fun _ => False) W2 W) => five_plan (kk.at (HB.out.at 1 rfl) fun h => h))
  go_region_held3 (fun w' => w'.cell? ⟨w.heap.size, 0, none⟩ = some (.slice (some ⟨pg, 0, none⟩) c.nO c.nO) ∧ w'.cell? ⟨w.heap.size, 1, none⟩ = some (.slice la c.nL lc) ∧ w'.cell? ⟨w.heap.size, 2, none⟩ = some (.int .i64 (tickP c)) ∧ w'.cell? ⟨w.heap.size, 3, none⟩ = some (.slice aa c.nT ac) ∧ w'.cell? ⟨w.heap.size, 4, none⟩ = some (.int .i64 (tickP c + 1 + (c.nT : Int))))
    (first
      | exact HP.out _ (Keeps.refl _ W2).drew
      | exact HP.out _ HK9.out
      | go_keep)
    (first
      | (go_at_call 116; refine (core_seen (HH.out _ HB.out.keeps.drew)).mono ?_; rintro e8 w8 ⟨rfl, rfl⟩)
      | (go_at_call 63; refine (core_sched (HH.out _ HB.out.keeps.drew)).mono ?_; rintro e9 w9 ⟨a', rfl, hv9, hq9, k9⟩; have HV9 := Lib.hid (And.intro hv9 hq9); have HK9 := Lib.hid ((Keeps.refl (fun _ => False) W2).drew.trans k9); clear hv9 hq9 k9)
      | fail)
  obtain ⟨W3, hW3⟩ : ∃ W, W = w9.alloc (.cells (stC9 pg la aa lc ac c .nilFunc a'.s 0) 137) := ⟨_, rfl⟩
  obtain ⟨s, hs⟩ : ∃ s, s = w9.heap.size := ⟨_, rfl⟩
  have b3 : W3.heap[s]? = some (.cells (stC9 pg la aa lc ac c .nilFunc a'.s 0) 137 (0, 0)) := by rw [hW3, hs]; exact heap_new _ _
  have k3 : Keeps (fun _ => False) w9 W3 := by rw [hW3]; exact (Keeps.refl _ w9).alloc _
  obtain ⟨W4, hW4⟩ : ∃ W, W = W3.setCell ⟨s, 6, none⟩ (.func (.func 117) #[] #[.pointer (some ⟨WB, 0, none⟩)]) := ⟨_, rfl⟩
  have b4 : W4.heap[s]? = some (.cells (stC9 pg la aa lc ac c (.func (.func 117) #[] #[.pointer (some ⟨WB, 0, none⟩)]) a'.s 0) 137 (0, 0)) := by rw [hW4]; exact (heap_set b3 6 _).trans (by kernel_rfl)
  have k4 : Keeps (fun j => j = s) w9 W4 := by rw [hW4]; exact (k3.mono (T := fun j => j = s) fun _ _ e => e.elim).setCell (p := ⟨s, 6, none⟩) (.inl rfl) _
  have kW9 : Keeps (fun _ => False) w w9 := HB.out.keeps.trans HK9.out
  have kW4 : Keeps (fun _ => False) w W4 := kW9.far k4 fun j e => by rw [e, hs]; exact kW9.size
  have c6 : W3.cell? ⟨s, 6, none⟩ = some .nilFunc := cell_of b3 6
  have f6 := free_of b3 6
  have l3 := lt_of b3
  have c7 : W3.cell? ⟨s, 7, none⟩ = some (.pointer (some ⟨a'.s, 0, none⟩)) := cell_of b3 7
  have hv4 : ScV W4 a' M := HV9.out.1.kept k4 (fun e => by obtain ⟨_, hx, _⟩ := HV9.out.1.blk; have := lt_of hx; omega) (fun e => by have := HV9.out.1.rank.lt; omega) (fun t ht e => by obtain ⟨_, hx⟩ := HV9.out.1.task t ht; have := lt_of hx; omega)
  have HV4 := Lib.hid hv4
  have HB4 := Lib.hid (And.intro b4 (And.intro k4 kW4))
  have HSS := Lib.hid hs
  have HE3 := Lib.hid hW3
  have HE4 := Lib.hid hW4
  rw [← hW3, ← hs]
  clear b3 k3 b4 k4 kW9 kW4 hv4 hs hW3 hW4
  go_wp2_with fail
  rw [← HE4.out]
  clear c6 f6 c7 l3
  refine (raiser_any (HH.out _ HB4.out.2.2) a' HV4.out).mono ?_
  rintro e5 w5 ⟨rfl, k5⟩
  have b5 := k5.at HB4.out.1 fun h => h
  have c8 : w5.cell? ⟨s, 8, none⟩ = some (.int .i64 0) := cell_of b5 8
  have f8 := free_of b5 8
  have l5 := lt_of b5
  obtain ⟨W6, hW6⟩ : ∃ W, W = w5.setCell ⟨s, 8, none⟩ (.int .i64 (-1)) := ⟨_, rfl⟩
  have b6 : W6.heap[s]? = some (.cells (stC9 pg la aa lc ac c (.func (.func 117) #[] #[.pointer (some ⟨WB, 0, none⟩)]) a'.s (-1)) 137 (0, 0)) := by rw [hW6]; exact (heap_set b5 8 _).trans (by kernel_rfl)
  have k6 : Keeps (fun j => j = s) w9 W6 := by rw [hW6]; exact (HB4.out.2.1.trans (k5.mono (T := fun j => j = s) fun _ _ e => e.elim)).setCell (p := ⟨s, 8, none⟩) (.inl rfl) _
  have kW9 : Keeps (fun _ => False) w w9 := HB.out.keeps.trans HK9.out
  have kW6 : Keeps (fun _ => False) w W6 := kW9.far k6 fun j e => by rw [e, HSS.out]; exact kW9.size
  have hz9 := HK9.out.size
  have hss := HSS.out
  have HFIN := Lib.hid (show StillS W6 s WB g pg la aa lc ac c a' M from ⟨b6, k6.at (HK9.out.at (HB.out.at 0 rfl) fun h => h) (by have := lt_of (HB.out.at 0 rfl); omega), k6.at (HK9.out.at HGR.out fun h => h) (by have := lt_of HGR.out; omega), HV9.out.1.kept k6 (fun e => by obtain ⟨_, hx, _⟩ := HV9.out.1.blk; have := lt_of hx; omega) (fun e => by have := HV9.out.1.rank.lt; omega) (fun t ht e => by obtain ⟨_, hx⟩ := HV9.out.1.task t ht; have := lt_of hx; omega), by obtain ⟨hd, hq⟩ := HV9.out.2; exact ⟨hd, hq.keeps k6 (fun e => by have := lt_of hq.head; omega) (fun i x hx => by cases i <;> cases hx)⟩, ⟨B, own_keepK HLN.out.1 kW6 fun _ _ h => h⟩, B', own_keepK HLN.out.2 kW6 fun _ _ h => h⟩)
  have HKF := Lib.hid kW6
  have HE6 := Lib.hid hW6
  clear b5 k5 b6 k6 kW9 kW6 hW6 hz9 hss
  go_wp2_with fail
  rw [← HE6.out]
  refine bodyPost_ret (v := .tuple #[.pointer (some ⟨s, 0, none⟩), .bool true]) (by simp [results, Tryz.results65, go_sem]) rfl ?_
  exact ⟨s, WB, g, a', rfl, HFIN.out, HKF.out⟩
end
end Go.Proofs.YthnmlklgbggmbaaGreat
namespace Go.Proofs.YthnmlklgbggmbaaGreat
open Go.ChangeShapes Go.WideShapes Go.ChangeAt Go.RowKit
set_option linter.unusedVariables false
set_option linter.unusedSimpArgs false
attribute [local irreducible] wpList
section
variable {w : World} {x mb q gb zb fb : Nat} {c : CfD} {p : DrP} {a : ScA} {M : ScM} {P : Nat → Prop} {pg lc ac : Nat} {la aa : Option Addr}
set_option maxRecDepth 20000 in
set_option maxHeartbeats 4000000 in
theorem quiet_zero (h : CoreS w x mb q gb zb fb c p a M P) (hg : GoodC c) (hc : firstM M = M.cur) (B B' : Nat) (hln : w.ownsRow B 148 6 (.slice la c.nL lc) c.nL (linesF (baseP c) c.lr c.nL)) (hak : w.ownsRow B' 3 1 (.slice aa c.nT ac) c.nT (asksF (tickP c + 1) c.nT)) :
    Calls Tryz.prog 64 #[.agg (plA pg la aa lc ac c), .pointer (some ⟨x, 0, none⟩)] w fun e w' => e = .returned (.int .i64 0) ∧ Keeps (fun _ => False) w w' := by
  have k0 := (Keeps.refl (fun _ => False) w).alloc (.cells (plA pg la aa lc ac c) 83)
  have HL := Lib.hid (look_any (pg := pg) (h.quiet k0) hg B B' (own_keepK hln k0 fun _ _ h => h) (own_keepK hak k0 fun _ _ h => h))
  have HK0 := Lib.hid k0
  have HG := Lib.hid (And.intro hg hc)
  clear h hg hc hln hak k0
  go_enter Tryz.func64, Tryz.ntmps64
  go_wp2_with fail
  refine HL.out.mono ?_
  rintro e1 w1 ⟨s, wb, g, a', rfl, hs, k1⟩
  have HS := Lib.hid (broken_zero hs HG.out.1 HG.out.2)
  have HK1 := Lib.hid (HK0.out.trans k1)
  clear hs k1
  go_wp2_with fail
  refine HS.out.mono ?_
  rintro e2 w2 ⟨rfl, k2⟩
  have HK2 := Lib.hid (HK1.out.trans k2)
  clear k2
  go_wp2_with fail
  go_ret
  exact ⟨rfl, HK2.out⟩
set_option maxRecDepth 20000 in
set_option maxHeartbeats 4000000 in
theorem Quiet_zero (h : CoreS w x mb q gb zb fb c p a M P) (hg : GoodC c) (hc : firstM M = M.cur) (hcf : CfIn w c) (ho : c.Ok) (hv : badOf c = (0, 0, 0)) :
    Calls Tryz.prog 25 #[.agg c.cells, .pointer (some ⟨x, 0, none⟩)] w fun e w' => e = .returned (.int .i64 0) ∧ Keeps (fun _ => False) w w' := by
  have HP := Lib.hid (fun W (k : Keeps (fun _ => False) w W) => plan_good c W (hcf.none k) ho hv)
  have HH := Lib.hid (fun W (k : Keeps (fun _ => False) w W) => h.quiet k)
  have HB := Lib.hid ((Has.start w).alloc (.cells c.cells 26))
  have HG := Lib.hid (And.intro hg hc)
  clear h hg hc hcf ho hv
  go_enter Tryz.func25, Tryz.ntmps25
  go_wp2_with fail
  refine (HP.out _ HB.out.keeps).mono ?_
  rintro e1 w1 ⟨g, la, lc, aa, ac, rfl, _, hln, hak, k1⟩
  have k2 := (Keeps.refl (fun _ => False) w1).alloc (.cells (plA g la aa lc ac c) 83)
  have HQ := Lib.hid (quiet_zero (pg := g) (HH.out _ ((HB.out.keeps.trans k1).trans k2)) HG.out.1 HG.out.2 _ _ (own_keepK hln k2 fun _ _ h => h) (own_keepK hak k2 fun _ _ h => h))
  have HK := Lib.hid ((HB.out.keeps.trans k1).trans k2)
  clear k1 k2 hln hak
  go_wp2_with fail
  refine HQ.out.mono ?_
  rintro e2 w2 ⟨rfl, k2⟩
  have HK2 := Lib.hid (HK.out.trans k2)
  clear k2
  go_wp2_with fail
  go_ret
  exact ⟨rfl, HK2.out⟩
set_option maxRecDepth 20000 in
set_option maxHeartbeats 4000000 in
theorem Holds_false (h : CoreS w x mb q gb zb fb c p a M P) (hg : GoodC c) (hcf : CfIn w c) (ho : c.Ok) (hv : badOf c = (0, 0, 0)) (t : Int) :
    Calls Tryz.prog 26 #[.agg c.cells, .pointer (some ⟨x, 0, none⟩), .int .i64 t] w fun e w' => e = .returned (.bool false) ∧ Keeps (fun _ => False) w w' := by
  have HP := Lib.hid (fun W (k : Keeps (fun _ => False) w W) => plan_good c W (hcf.none k) ho hv)
  have HH := Lib.hid (fun W (k : Keeps (fun _ => False) w W) => h.quiet k)
  have HB := Lib.hid ((Has.start w).alloc (.cells c.cells 26))
  have HG := Lib.hid hg
  clear h hg hcf ho hv
  go_enter Tryz.func26, Tryz.ntmps26
  go_wp2_with fail
  refine (HP.out _ HB.out.keeps).mono ?_
  rintro e1 w1 ⟨g, la, lc, aa, ac, rfl, _, hln, hak, k1⟩
  have k2 := (Keeps.refl (fun _ => False) w1).alloc (.cells (plA g la aa lc ac c) 83)
  have HQ := Lib.hid (look_any (pg := g) (HH.out _ ((HB.out.keeps.trans k1).trans k2)) HG.out _ _ (own_keepK hln k2 fun _ _ h => h) (own_keepK hak k2 fun _ _ h => h))
  have HK := Lib.hid ((HB.out.keeps.trans k1).trans k2)
  clear k1 k2 hln hak
  go_wp2_with fail
  refine HQ.out.mono ?_
  rintro e2 w2 ⟨s, wb, g2, a', rfl, hs, k2⟩
  have HK2 := Lib.hid (HK.out.trans k2)
  obtain ⟨hd, hq⟩ := hs.q
  have HV := Lib.hid (vwaits_zero w2 a' M hs.sv hd hq)
  have c7 : w2.cell? ⟨s, 7, none⟩ = some (.pointer (some ⟨a'.s, 0, none⟩)) := cell_of hs.blk 7
  clear k2 hs hq
  go_wp2_with fail
  refine HV.out.mono ?_
  rintro e3 w3 ⟨y, z, rfl, k3⟩
  have HK3 := Lib.hid (HK2.out.trans k3)
  clear k3 c7 HV
  go_wp2_with fail
  go_loopw [34] (fun i wr => i = .int .i64 0 ∧ Keeps (fun _ => False) w wr) (fun _ _ => 0)
  case atStart => exact ⟨rfl, HK3.out⟩
  case round =>
    obtain ⟨rfl, hk⟩ := hrel
    go_wp2_with fail
    go_ret
    exact ⟨rfl, hk⟩
end
end Go.Proofs.YthnmlklgbggmbaaGreat
