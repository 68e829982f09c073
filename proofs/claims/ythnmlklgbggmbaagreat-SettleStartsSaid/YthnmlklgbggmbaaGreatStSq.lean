import Derived.Test.YthnmlklgbggmbaaGreatStVq
import Derived.Test.YthnmlklgbggmbaaGreatStBq
import Derived.Test.YthnmlklgbggmbaaGreatStNq
import Derived.Test.YthnmlklgbggmbaaGreatConfIq
import Derived.Test.YthnmlklgbggmbaaGreatConfAq
import Derived.Test.YthnmlklgbggmbaaGreatRowq
import Derived.Test.YthnmlklgbggmbaaGreatSchVq
namespace Go.Proofs.YthnmlklgbggmbaaGreat
open Go.ChangeShapes Go.WideShapes Go.ChangeAt Go.RowKit
set_option linter.unusedVariables false
set_option linter.unusedSimpArgs false
attribute [local irreducible] wpList
theorem cD_in (T : Nat) (w : World) (h1 : w.heap[T]? = some (.cells #[.int .i64 0, .bool false, .slice none 0 0] 66 (0, 0))) : CfIn w (cD T) :=
  ⟨fun _ => ⟨T, 0, rfl, lt_of h1, fun i hi => by
    obtain rfl : i = 0 := by have : i < 1 := hi; omega
    exact ⟨cell_of h1 0, cell_of h1 1, cell_of h1 2⟩⟩, fun h => absurd h (by simp [cD]), fun h => absurd h (by simp [cD])⟩
theorem cD_ok (T : Nat) : (cD T).Ok := ⟨by show 1 ≤ maxLen; unfold maxLen; omega, by show 0 ≤ maxLen; omega, by show 0 ≤ maxLen; omega, by show -9223372036854775808 ≤ (0 : Int) ∧ (0 : Int) ≤ 9223372036854775807; omega, fun i hi => absurd hi (by simp [cD]), fun i hi => absurd hi (by simp [cD])⟩
theorem cD_codes (T : Nat) (w : World) : CodesIn w (cD T) := ⟨fun i hi => ⟨[], rfl, fun u hu => by (cases hu), .inl ⟨rfl, rfl⟩⟩, fun i hi => absurd hi (by simp [cD])⟩
set_option maxRecDepth 20000 in
set_option maxHeartbeats 8000000 in
theorem alive39_any (w : World) : Calls Tryz.prog 22 #[] w fun e w' => e = .returned (.bool true) ∧ Keeps (fun _ => False) w w' := by
  go_enter Tryz.func22, Tryz.ntmps22
  go_wp2_with fail
  have hT := heap_new w (.cells #[.int .i64 0, .bool false, .slice none 0 0] 66)
  have k0 := (Keeps.refl (fun _ => False) (w.alloc (.cells #[.int .i64 0, .bool false, .slice none 0 0] 66))).alloc (.cells (cD w.heap.size).cells 26)
  have HB := Lib.hid (((Has.start w).alloc (.cells #[.int .i64 0, .bool false, .slice none 0 0] 66)).alloc (.cells (cD w.heap.size).cells 26))
  have HCF := Lib.hid (fun W (k : Keeps (fun _ => False) ((w.alloc (.cells #[.int .i64 0, .bool false, .slice none 0 0] 66)).alloc (.cells (cD w.heap.size).cells 26)) W) => (cD_in w.heap.size _ (k0.at hT fun h => h)).none k)
  refine (core_new (cD w.heap.size) _ (HCF.out _ (Keeps.refl _ _)) (cD_ok _) (cD_bad _) (cD_codes _ _) ⟨fun i hi => by show 0 ≤ 70; omega, fun i hi => by show 0 ≤ 70; omega⟩ (fun i hi => absurd hi (by simp [cD]))).mono ?_
  rintro e1 w1 ⟨x, mb, q, gb, zb, fb, p, a, P, rfl, hcs, k1⟩
  have hcur := cD_cur w.heap.size
  have hfir := disp_first (newM ((List.range (cD w.heap.size).nT).map (cD w.heap.size).tp))
  generalize dispM (newM ((List.range (cD w.heap.size).nT).map (cD w.heap.size).tp)) = M at *
  have HCS := Lib.hid (fun W (k : Keeps (fun _ => False) w1 W) => hcs.quiet k)
  have HM := Lib.hid (And.intro hcur hfir)
  replace HB := Lib.hid ((HB.out.none k1).alloc (.cells #[.int .i64 0, .int .i64 0, .int .i64 0] 30))
  have HK1 := Lib.hid (k1.alloc (.cells #[.int .i64 0, .int .i64 0, .int .i64 0] 30))
  have HKB := Lib.hid ((Keeps.refl (fun _ => False) w1).alloc (.cells #[.int .i64 0, .int .i64 0, .int .i64 0] 30))
  clear hT k0 hcs k1 hcur hfir
  go_wp2_with fail
  refine (Due_any (HCS.out _ HKB.out)).mono ?_
  rintro e2 w2 ⟨rfl, k2⟩
  rw [HM.out.1]
  rw [show (((0 : Nat) : Int) != -1) = true from rfl]
  replace HB := Lib.hid (HB.out.none k2)
  replace HKB := Lib.hid (HKB.out.trans k2)
  replace HK1 := Lib.hid (HK1.out.trans k2)
  clear k2
  rw [show (w.alloc (.cells #[.int .i64 0, .bool false, .slice none 0 0] 66)).heap.size = w.heap.size + 1 from World.size_alloc _ _] at HB
  obtain ⟨q0, q1, q2, q3⟩ := four_cells (HB.out.at 1 rfl)
  have lq := lt_of (HB.out.at 1 rfl)
  go_wp2_with fail
  refine (Quiet_zero (HCS.out _ HKB.out) (good_of (cD_bad _)) HM.out.2 (HCF.out _ HK1.out) (cD_ok _) (cD_bad _)).mono ?_
  rintro e3 w3 ⟨rfl, k3⟩
  have HK3 := Lib.hid (HB.out.keeps.trans k3)
  clear k3
  go_wp2_with fail
  go_ret
  exact ⟨rfl, HK3.out⟩
end Go.Proofs.YthnmlklgbggmbaaGreat
namespace Go.Proofs.YthnmlklgbggmbaaGreat
open Go.ChangeShapes Go.WideShapes Go.ChangeAt Go.RowKit
set_option linter.unusedVariables false
set_option linter.unusedSimpArgs false
theorem light3_any (c : CfD) (w : World) (hc : CfIn w c) (ho : c.Ok) :
    Calls Tryz.prog 5 #[.agg c.cells] w fun e w' => ∃ b, e = .returned (.bool b) ∧ (b = true → c.nT ≤ 20 ∧ c.nL ≤ 40 ∧ (∀ i, i < c.nT → c.tl i ≤ 70) ∧ ∀ i, i < c.nL → c.ll i ≤ 70) ∧ Keeps (fun _ => False) w w' := by
  have h1 := ho.t
  have h2 := ho.l
  unfold maxLen at h1 h2
  by_cases hT : 20 < c.nT
  · have d0 : decide ((20 : Int) < (c.nT : Int)) = true := decide_eq_true (by omega)
    clear hT h1 h2 hc ho
    go_enter Tryz.func5, Tryz.ntmps5
    go_wp2
    go_ret
    exact ⟨_, rfl, (fun h => by cases h), (Keeps.refl _ _).alloc _⟩
  have d0 : decide ((20 : Int) < (c.nT : Int)) = false := decide_eq_false (by omega)
  have HT := Lib.hid (show c.nT ≤ 20 from by omega)
  have HB := Lib.hid ((Has.start w).alloc (.cells c.cells 26))
  have HC := Lib.hid (show CfIn (w.alloc (.cells c.cells 26)) c from hc.none ((Keeps.refl _ _).alloc _))
  clear hT hc ho
  by_cases hL : 40 < c.nL
  · have d1 : decide ((40 : Int) < (c.nL : Int)) = true := decide_eq_true (by omega)
    clear hL h1 h2
    go_enter Tryz.func5, Tryz.ntmps5
    go_wp2
    go_ret
    exact ⟨_, rfl, (fun h => by cases h), HB.out.keeps⟩
  have d1 : decide ((40 : Int) < (c.nL : Int)) = false := decide_eq_false (by omega)
  have HL := Lib.hid (show c.nL ≤ 40 from by omega)
  clear hL
  by_cases hO : 20 < c.nO
  · have d2 : decide ((20 : Int) < (c.nO : Int)) = true := decide_eq_true (by omega)
    clear hO h1 h2
    go_enter Tryz.func5, Tryz.ntmps5
    go_wp2
    go_ret
    exact ⟨_, rfl, (fun h => by cases h), HB.out.keeps⟩
  have d2 : decide ((20 : Int) < (c.nO : Int)) = false := decide_eq_false (by omega)
  clear hO
  go_enter Tryz.func5, Tryz.ntmps5
  go_wp2_with fail
  obtain ⟨W, hW⟩ : ∃ W : World, W = w.alloc (.cells c.cells 26) := ⟨_, rfl⟩
  rw [← hW] at HB HC ⊢
  have HWW := Lib.hid hW
  clear hW
  go_loopw [3] (fun i wr => ∃ j : Nat, j ≤ c.nT ∧ i = .int .i64 j ∧ wr = W ∧ ∀ i, i < j → c.tl i ≤ 70) (fun i _ => c.nT - (intOf i).toNat)
  case atStart => exact ⟨0, by omega, rfl, rfl, fun i hi => absurd hi (Nat.not_lt_zero i)⟩
  case round =>
    obtain ⟨j, hj, rfl, rfl, hq⟩ := hrel
    have HQ := Lib.hid hq
    clear hq
    obtain ⟨e0, e1, e2, e3⟩ := four_cells (HB.out.at 0 rfl)
    have lx := lt_of (HB.out.at 0 rfl)
    by_cases hlt : j < c.nT
    · obtain ⟨b, off, hta, hbl, hrow⟩ := HC.out.t (by omega)
      have c2 := (hrow j hlt).2.2
      rw [hta] at e0
      clear hrow hta
      rcases Nat.lt_or_ge 70 (c.tl j) with h7 | h7
      · have d7 : decide ((70 : Int) < (c.tl j : Int)) = true := decide_eq_true (by omega)
        clear h7
        go_wp2
        go_ret
        exact ⟨_, rfl, (fun h => by cases h), HB.out.keeps⟩
      · have d7 : decide ((70 : Int) < (c.tl j : Int)) = false := decide_eq_false (by omega)
        have H7 := Lib.hid h7
        clear h7
        go_wp2
        go_roundw
        case rel => exact ⟨j + 1, by omega, by go_num, by first | rfl | trivial, fun i hi => by
                rcases Nat.lt_or_eq_of_le (Nat.le_of_lt_succ hi) with h | h
                · exact HQ.out i h
                · rw [h]; exact H7.out⟩
        case measure => simp [intOf]; omega
    · obtain rfl : j = c.nT := by omega
      go_wp2_with fail
      go_loopw [4] (fun i wq => ∃ j : Nat, j ≤ c.nL ∧ i = .int .i64 j ∧ wq = wr ∧ ∀ i, i < j → c.ll i ≤ 70) (fun i _ => c.nL - (intOf i).toNat)
      case atStart => exact ⟨0, by omega, rfl, rfl, fun i hi => absurd hi (Nat.not_lt_zero i)⟩
      case round =>
        obtain ⟨j, hj2, rfl, rfl, hq⟩ := hrel
        have HR := Lib.hid hq
        clear hq
        by_cases hlt : j < c.nL
        · obtain ⟨b, off, hta, hbl, hrow⟩ := HC.out.l (by omega)
          have c2 := (hrow j hlt).2
          rw [hta] at e1
          clear hrow hta
          rcases Nat.lt_or_ge 70 (c.ll j) with h7 | h7
          · have d7 : decide ((70 : Int) < (c.ll j : Int)) = true := decide_eq_true (by omega)
            clear h7
            go_wp2
            go_ret
            exact ⟨_, rfl, (fun h => by cases h), HB.out.keeps⟩
          · have d7 : decide ((70 : Int) < (c.ll j : Int)) = false := decide_eq_false (by omega)
            have H7 := Lib.hid h7
            clear h7
            go_wp2
            go_roundw
            case rel => exact ⟨j + 1, by omega, by go_num, by first | rfl | trivial, fun i hi => by
                    rcases Nat.lt_or_eq_of_le (Nat.le_of_lt_succ hi) with h | h
                    · exact HR.out i h
                    · rw [h]; exact H7.out⟩
            case measure => simp [intOf]; omega
        · obtain rfl : j = c.nL := by omega
          go_wp2
          go_ret
          exact ⟨_, rfl, fun _ => ⟨HT.out, HL.out, HQ.out, HR.out⟩, HB.out.keeps⟩
end Go.Proofs.YthnmlklgbggmbaaGreat
namespace Go.Proofs.YthnmlklgbggmbaaGreat
open Go.ChangeShapes Go.WideShapes Go.ChangeAt Go.RowKit
set_option linter.unusedVariables false
set_option linter.unusedSimpArgs false
set_option maxHeartbeats 1000000 in
theorem light35_nil (c : CfD) (w : World) (hc : CfIn w c) (ho : c.Ok) :
    Calls Tryz.prog 20 #[.agg c.cells, .slice none 0 0] w fun e w' => ∃ b, e = .returned (.bool b) ∧ (b = true → c.nT ≤ 20 ∧ c.nL ≤ 40 ∧ (∀ i, i < c.nT → c.tl i ≤ 70) ∧ ∀ i, i < c.nL → c.ll i ≤ 70) ∧ Keeps (fun _ => False) w w' := by
  have HL := Lib.hid (fun W (k : Keeps (fun _ => False) w W) => light3_any c W (hc.none k) ho)
  have HX := Lib.hid ((Has.start w).alloc (.cells c.cells 26))
  clear hc ho
  go_enter Tryz.func20, Tryz.ntmps20
  go_wp2_with fail
  refine (HL.out _ HX.out.keeps).mono ?_
  rintro e1 w1 ⟨b, rfl, hb, k1⟩
  have HB := Lib.hid (And.intro hb k1)
  clear hb k1
  cases b
  · go_wp2_with fail
    go_ret
    exact ⟨_, rfl, HB.out.1, HX.out.keeps.trans HB.out.2⟩
  · go_wp2_with fail
    go_ret
    exact ⟨_, rfl, fun _ => HB.out.1 (by first | trivial | rfl), HX.out.keeps.trans HB.out.2⟩
end Go.Proofs.YthnmlklgbggmbaaGreat
namespace Go.Proofs.YthnmlklgbggmbaaGreat
open Go.ChangeShapes Go.WideShapes Go.ChangeAt Go.RowKit
set_option linter.unusedVariables false
set_option linter.unusedSimpArgs false
set_option maxRecDepth 100000 in
theorem call_cellsS {w : World} {cs : List Value} (h : Reads Tryz.prog w 126 cs) : ∃ (k o : Int) (v : Nat → Int) (n : Int), cs = [.int .i64 k, .int .i64 o, .int .u32 (v 0), .int .u32 (v 1), .int .u32 (v 2), .int .u32 (v 3), .int .u32 n] := by
  obtain ⟨hl, hf⟩ := h.struct Tryz.underlying126
  have hc : Tryz.prog.cellsOf 126 = 7 := by kernel_rfl
  rw [hc] at hl
  match cs, hl with
  | [v0, v1, v2, v3, v4, v5, v6], _ =>
    obtain ⟨k, e0, _⟩ := (h.field Tryz.underlying126 0 3 0 1 rfl (by kernel_rfl)).int Tryz.underlying3
    obtain ⟨o, e1, _⟩ := (h.field Tryz.underlying126 1 3 1 1 rfl (by kernel_rfl)).int Tryz.underlying3
    have hv := (h.field Tryz.underlying126 2 72 2 4 rfl (by kernel_rfl)).array Tryz.underlying72
    obtain ⟨n, e6, _⟩ := (h.field Tryz.underlying126 3 38 6 1 rfl (by kernel_rfl)).int Tryz.underlying38
    have hu : Tryz.prog.cellsOf 38 = 1 := by kernel_rfl
    obtain ⟨q0, f0, _⟩ := (hv.2 0 (by omega)).int Tryz.underlying38
    obtain ⟨q1, f1, _⟩ := (hv.2 1 (by omega)).int Tryz.underlying38
    obtain ⟨q2, f2, _⟩ := (hv.2 2 (by omega)).int Tryz.underlying38
    obtain ⟨q3, f3, _⟩ := (hv.2 3 (by omega)).int Tryz.underlying38
    rw [hu] at f0 f1 f2 f3
    simp at e0 e1 e6 f0 f1 f2 f3
    exact ⟨k, o, fun j => match j with | 0 => q0 | 1 => q1 | 2 => q2 | _ => q3, n, by simp [e0, e1, e6, f0, f1, f2, f3]⟩
def callL (x : Int × Int × (Nat → Int) × Int) : List Value := [.int .i64 x.1, .int .i64 x.2.1, .int .u32 (x.2.2.1 0), .int .u32 (x.2.2.1 1), .int .u32 (x.2.2.1 2), .int .u32 (x.2.2.1 3), .int .u32 x.2.2.2]
theorem codes_open {w : World} {cs : List Value} (h : Reads Tryz.prog w 64 cs) : ∃ (a : Option Addr) (n c : Nat), cs = [.slice a n c] ∧ SrcC w a n := by
  obtain ⟨a, n, c, e, hl, hm, r⟩ := h.rows Tryz.underlying64 (n := 7) (by kernel_rfl) (by omega)
  rcases Nat.eq_zero_or_pos n with rfl | hp
  · refine ⟨a, 0, c, e, [], rfl, (fun u hu => by cases hu), ?_⟩
    cases a with
    | none => exact .inl ⟨rfl, rfl⟩
    | some ad => exact .inr ⟨ad, rfl, fun h => absurd h (Nat.lt_irrefl _), fun j u hj => by simp at hj⟩
  · obtain ⟨b, off, rfl, hb, hr⟩ := r hp
    obtain ⟨F, hF⟩ := Deep.choose_lt (n := n) (p := fun i (x : Int × Int × (Nat → Int) × Int) => ∀ j, j < 7 → w.cell? ⟨b, off + i * 7 + j, none⟩ = (callL x)[j]?) (fun i hi => by
      obtain ⟨cs', hl7, hc, hrd⟩ := hr i hi
      obtain ⟨k, o, v, m, rfl⟩ := call_cellsS hrd
      exact ⟨(k, o, v, m), fun j hj => hc j hj⟩)
    have hf := flatm_get (fun i => callL (F i)) 7 (fun _ => rfl) n
    refine ⟨_, n, c, e, (List.range n).flatMap (fun i => callL (F i)), hf.1, fun u hu => ?_, .inr ⟨⟨b, off, none⟩, rfl, fun _ => hb, fun j u hj => ?_⟩⟩
    · obtain ⟨i, _, hi⟩ := List.mem_flatMap.1 hu
      unfold callL at hi
      simp at hi
      rcases hi with rfl | rfl | rfl | rfl | rfl | rfl | rfl <;> rfl
    · have hjl : j < n * 7 := by rw [← hf.1]; exact (List.getElem?_eq_some_iff.1 hj).1
      have hd : j = j / 7 * 7 + j % 7 := by omega
      have hq : j / 7 < n := by omega
      have h1 := hf.2 (j / 7) (j % 7) hq (by omega)
      rw [← hd, hj] at h1
      have h2 := hF (j / 7) hq (j % 7) (by omega)
      rw [Nat.add_assoc, ← hd] at h2
      rw [add_atN, h2, ← h1]
set_option maxRecDepth 100000 in
theorem task_cellsS {w : World} {cs : List Value} (h : Reads Tryz.prog w 66 cs) : ∃ (p : Int) (b : Bool) (a : Option Addr) (n c : Nat), cs = [.int .i64 p, .bool b, .slice a n c] ∧ (-9223372036854775808 ≤ p ∧ p ≤ 9223372036854775807) ∧ SrcC w a n := by
  obtain ⟨hl, hf⟩ := h.struct Tryz.underlying66
  have hc : Tryz.prog.cellsOf 66 = 3 := by kernel_rfl
  rw [hc] at hl
  match cs, hl with
  | [v0, v1, v2], _ =>
    obtain ⟨p, e0, hp⟩ := (h.field Tryz.underlying66 0 3 0 1 rfl (by kernel_rfl)).int Tryz.underlying3
    obtain ⟨b, e1⟩ := (h.field Tryz.underlying66 1 4 1 1 rfl (by kernel_rfl)).bool Tryz.underlying4
    obtain ⟨a, n, c, e2, hat⟩ := codes_open (h.field Tryz.underlying66 2 64 2 1 rfl (by kernel_rfl))
    simp at e0 e1 e2
    exact ⟨p, b, a, n, c, by simp [e0, e1, e2], bounds_i64 hp, hat⟩
set_option maxRecDepth 100000 in
theorem level_cellsS {w : World} {cs : List Value} (h : Reads Tryz.prog w 69 cs) : ∃ (p : Int) (a : Option Addr) (n c : Nat), cs = [.int .i64 p, .slice a n c] ∧ (-9223372036854775808 ≤ p ∧ p ≤ 9223372036854775807) ∧ SrcC w a n := by
  obtain ⟨hl, hf⟩ := h.struct Tryz.underlying69
  have hc : Tryz.prog.cellsOf 69 = 2 := by kernel_rfl
  rw [hc] at hl
  match cs, hl with
  | [v0, v1], _ =>
    obtain ⟨p, e0, hp⟩ := (h.field Tryz.underlying69 0 3 0 1 rfl (by kernel_rfl)).int Tryz.underlying3
    obtain ⟨a, n, c, e2, hat⟩ := codes_open (h.field Tryz.underlying69 1 64 1 1 rfl (by kernel_rfl))
    simp at e0 e2
    exact ⟨p, a, n, c, by simp [e0, e2], bounds_i64 hp, hat⟩
set_option maxRecDepth 100000 in
theorem object_cellsS {w : World} {cs : List Value} (h : Reads Tryz.prog w 74 cs) : ∃ o oi : Nat → Int, cs = [.int .i64 (o 0), .int .i64 (o 1), .int .i64 (o 2), .int .i64 (o 3), .int .i64 (o 4), .int .i64 (o 5), .int .u32 (oi 0), .int .u32 (oi 1), .int .u32 (oi 2), .int .u32 (oi 3)] ∧ (∀ j, j < 6 → -9223372036854775808 ≤ o j ∧ o j ≤ 9223372036854775807) ∧ (∀ j, j < 4 → 0 ≤ oi j ∧ oi j ≤ 4294967295) := by
  obtain ⟨hl, hf⟩ := h.struct Tryz.underlying74
  have hc : Tryz.prog.cellsOf 74 = 10 := by kernel_rfl
  rw [hc] at hl
  match cs, hl with
  | [v0, v1, v2, v3, v4, v5, v6, v7, v8, v9], _ =>
    obtain ⟨p0, e0, h0⟩ := (h.field Tryz.underlying74 0 3 0 1 rfl (by kernel_rfl)).int Tryz.underlying3
    obtain ⟨p1, e1, h1⟩ := (h.field Tryz.underlying74 1 3 1 1 rfl (by kernel_rfl)).int Tryz.underlying3
    obtain ⟨p2, e2, h2⟩ := (h.field Tryz.underlying74 2 3 2 1 rfl (by kernel_rfl)).int Tryz.underlying3
    obtain ⟨p3, e3, h3⟩ := (h.field Tryz.underlying74 3 3 3 1 rfl (by kernel_rfl)).int Tryz.underlying3
    obtain ⟨p4, e4, h4⟩ := (h.field Tryz.underlying74 4 3 4 1 rfl (by kernel_rfl)).int Tryz.underlying3
    obtain ⟨p5, e5, h5⟩ := (h.field Tryz.underlying74 5 3 5 1 rfl (by kernel_rfl)).int Tryz.underlying3
    have hv := (h.field Tryz.underlying74 6 72 6 4 rfl (by kernel_rfl)).array Tryz.underlying72
    have hu : Tryz.prog.cellsOf 38 = 1 := by kernel_rfl
    obtain ⟨q0, f0, g0⟩ := (hv.2 0 (by omega)).int Tryz.underlying38
    obtain ⟨q1, f1, g1⟩ := (hv.2 1 (by omega)).int Tryz.underlying38
    obtain ⟨q2, f2, g2⟩ := (hv.2 2 (by omega)).int Tryz.underlying38
    obtain ⟨q3, f3, g3⟩ := (hv.2 3 (by omega)).int Tryz.underlying38
    rw [hu] at f0 f1 f2 f3
    simp at e0 e1 e2 e3 e4 e5 f0 f1 f2 f3
    refine ⟨fun j => match j with | 0 => p0 | 1 => p1 | 2 => p2 | 3 => p3 | 4 => p4 | _ => p5, fun j => match j with | 0 => q0 | 1 => q1 | 2 => q2 | _ => q3, by simp [e0, e1, e2, e3, e4, e5, f0, f1, f2, f3], fun j hj => ?_, fun j hj => ?_⟩
    · rcases (by omega : j = 0 ∨ j = 1 ∨ j = 2 ∨ j = 3 ∨ j = 4 ∨ j = 5) with rfl | rfl | rfl | rfl | rfl | rfl
      · exact bounds_i64 h0
      · exact bounds_i64 h1
      · exact bounds_i64 h2
      · exact bounds_i64 h3
      · exact bounds_i64 h4
      · exact bounds_i64 h5
    · rcases (by omega : j = 0 ∨ j = 1 ∨ j = 2 ∨ j = 3) with rfl | rfl | rfl | rfl
      · exact bounds_u32 g0
      · exact bounds_u32 g1
      · exact bounds_u32 g2
      · exact bounds_u32 g3
set_option maxRecDepth 100000 in
theorem cfgc_of {w : World} {cs : List Value} (h : Reads Tryz.prog w 26 cs) : ∃ c : CfD, cs = c.cells.toList ∧ CfIn w c ∧ c.Ok ∧ (∀ i, i < c.nO → ∀ j, j < 4 → 0 ≤ c.oi i j) ∧ CodesIn w c := by
  obtain ⟨hl, hf⟩ := h.struct Tryz.underlying26
  have hc : Tryz.prog.cellsOf 26 = 4 := by kernel_rfl
  rw [hc] at hl
  match cs, hl with
  | [v0, v1, v2, v3], _ =>
    obtain ⟨ta, nT, tc, e0, lt1, lt2, rt⟩ := (h.field Tryz.underlying26 0 22 0 1 rfl (by kernel_rfl)).rows Tryz.underlying22 (n := 3) (by kernel_rfl) (by omega)
    obtain ⟨la, nL, lc, e1, ll1, ll2, rl⟩ := (h.field Tryz.underlying26 1 23 1 1 rfl (by kernel_rfl)).rows Tryz.underlying23 (n := 2) (by kernel_rfl) (by omega)
    obtain ⟨oa, nO, oc, e2, lo1, lo2, ro⟩ := (h.field Tryz.underlying26 2 24 2 1 rfl (by kernel_rfl)).rows Tryz.underlying24 (n := 10) (by kernel_rfl) (by omega)
    obtain ⟨tick, e3, ht⟩ := (h.field Tryz.underlying26 3 3 3 1 rfl (by kernel_rfl)).int Tryz.underlying3
    simp at e0 e1 e2 e3
    have hT : ∃ (tp : Nat → Int) (tb : Nat → Bool) (tl : Nat → Nat) (tca : Nat → Option Addr) (tcc : Nat → Nat) , (∀ i, i < nT → (-9223372036854775808 ≤ tp i ∧ tp i ≤ 9223372036854775807) ∧ SrcC w (tca i) (tl i)) ∧ (0 < nT → ∃ b off, ta = some ⟨b, off, none⟩ ∧ b < w.heap.size ∧ ∀ i, i < nT → w.cell? ⟨b, off + i * 3, none⟩ = some (.int .i64 (tp i)) ∧ w.cell? ⟨b, off + i * 3 + 1, none⟩ = some (.bool (tb i)) ∧ w.cell? ⟨b, off + i * 3 + 2, none⟩ = some (.slice (tca i) (tl i) (tcc i))) := by
      by_cases hn : 0 < nT
      · obtain ⟨b, off, ha, hb, hr⟩ := rt hn
        obtain ⟨F, hF⟩ := Deep.choose_lt (n := nT) (p := fun i (x : Int × Bool × Option Addr × Nat × Nat) => ((-9223372036854775808 ≤ x.1 ∧ x.1 ≤ 9223372036854775807) ∧ SrcC w x.2.2.1 x.2.2.2.1) ∧ w.cell? ⟨b, off + i * 3, none⟩ = some (.int .i64 x.1) ∧ w.cell? ⟨b, off + i * 3 + 1, none⟩ = some (.bool x.2.1) ∧ w.cell? ⟨b, off + i * 3 + 2, none⟩ = some (.slice x.2.2.1 x.2.2.2.1 x.2.2.2.2)) (fun i hi => by
          obtain ⟨cs', _, hcell, hrd⟩ := hr i hi
          obtain ⟨p, q, a, n, c, rfl, hp, hat⟩ := task_cellsS hrd
          exact ⟨(p, q, a, n, c), ⟨hp, hat⟩, hcell 0 (by omega), hcell 1 (by omega), hcell 2 (by omega)⟩)
        exact ⟨fun i => (F i).1, fun i => (F i).2.1, fun i => (F i).2.2.2.1, fun i => (F i).2.2.1, fun i => (F i).2.2.2.2, fun i hi => (hF i hi).1, fun _ => ⟨b, off, ha, hb, fun i hi => (hF i hi).2⟩⟩
      · exact ⟨fun _ => 0, fun _ => false, fun _ => 0, fun _ => none, fun _ => 0, fun i hi => by omega, fun h => absurd h hn⟩
    have hL : ∃ (lr : Nat → Int) (ll : Nat → Nat) (lca : Nat → Option Addr) (lcc : Nat → Nat) , (∀ i, i < nL → (-9223372036854775808 ≤ lr i ∧ lr i ≤ 9223372036854775807) ∧ SrcC w (lca i) (ll i)) ∧ (0 < nL → ∃ b off, la = some ⟨b, off, none⟩ ∧ b < w.heap.size ∧ ∀ i, i < nL → w.cell? ⟨b, off + i * 2, none⟩ = some (.int .i64 (lr i)) ∧ w.cell? ⟨b, off + i * 2 + 1, none⟩ = some (.slice (lca i) (ll i) (lcc i))) := by
      by_cases hn : 0 < nL
      · obtain ⟨b, off, ha, hb, hr⟩ := rl hn
        obtain ⟨F, hF⟩ := Deep.choose_lt (n := nL) (p := fun i (x : Int × Option Addr × Nat × Nat) => ((-9223372036854775808 ≤ x.1 ∧ x.1 ≤ 9223372036854775807) ∧ SrcC w x.2.1 x.2.2.1) ∧ w.cell? ⟨b, off + i * 2, none⟩ = some (.int .i64 x.1) ∧ w.cell? ⟨b, off + i * 2 + 1, none⟩ = some (.slice x.2.1 x.2.2.1 x.2.2.2)) (fun i hi => by
          obtain ⟨cs', _, hcell, hrd⟩ := hr i hi
          obtain ⟨p, a, n, c, rfl, hp, hat⟩ := level_cellsS hrd
          exact ⟨(p, a, n, c), ⟨hp, hat⟩, hcell 0 (by omega), hcell 1 (by omega)⟩)
        exact ⟨fun i => (F i).1, fun i => (F i).2.2.1, fun i => (F i).2.1, fun i => (F i).2.2.2, fun i hi => (hF i hi).1, fun _ => ⟨b, off, ha, hb, fun i hi => (hF i hi).2⟩⟩
      · exact ⟨fun _ => 0, fun _ => 0, fun _ => none, fun _ => 0, fun i hi => by omega, fun h => absurd h hn⟩
    have hO : ∃ (ob oi : Nat → Nat → Int), (∀ i, i < nO → (∀ j, j < 6 → -9223372036854775808 ≤ ob i j ∧ ob i j ≤ 9223372036854775807) ∧ ∀ j, j < 4 → 0 ≤ oi i j ∧ oi i j ≤ 4294967295) ∧ (0 < nO → ∃ b off, oa = some ⟨b, off, none⟩ ∧ b < w.heap.size ∧ ∀ i, i < nO → ∀ j, j < 10 → w.cell? ⟨b, off + i * 10 + j, none⟩ = (#[.int .i64 (ob i 0), .int .i64 (ob i 1), .int .i64 (ob i 2), .int .i64 (ob i 3), .int .i64 (ob i 4), .int .i64 (ob i 5), .int .u32 (oi i 0), .int .u32 (oi i 1), .int .u32 (oi i 2), .int .u32 (oi i 3)] : Array Value)[j]?) := by
      by_cases hn : 0 < nO
      · obtain ⟨b, off, ha, hb, hr⟩ := ro hn
        obtain ⟨F, hF⟩ := Deep.choose_lt (n := nO) (p := fun i (x : (Nat → Int) × (Nat → Int)) => ((∀ j, j < 6 → -9223372036854775808 ≤ x.1 j ∧ x.1 j ≤ 9223372036854775807) ∧ ∀ j, j < 4 → 0 ≤ x.2 j ∧ x.2 j ≤ 4294967295) ∧ ∀ j, j < 10 → w.cell? ⟨b, off + i * 10 + j, none⟩ = (#[.int .i64 (x.1 0), .int .i64 (x.1 1), .int .i64 (x.1 2), .int .i64 (x.1 3), .int .i64 (x.1 4), .int .i64 (x.1 5), .int .u32 (x.2 0), .int .u32 (x.2 1), .int .u32 (x.2 2), .int .u32 (x.2 3)] : Array Value)[j]?) (fun i hi => by
          obtain ⟨cs', _, hcell, hrd⟩ := hr i hi
          obtain ⟨o, oi, rfl, ho, ho2⟩ := object_cellsS hrd
          exact ⟨(o, oi), ⟨ho, ho2⟩, fun j hj => (hcell j hj).trans (by simp)⟩)
        exact ⟨fun i => (F i).1, fun i => (F i).2, fun i hi => (hF i hi).1, fun _ => ⟨b, off, ha, hb, fun i hi => (hF i hi).2⟩⟩
      · exact ⟨fun _ _ => 0, fun _ _ => 0, fun i hi => by omega, fun h => absurd h hn⟩
    obtain ⟨tp, tb, tl, tca, tcc, hTb, hT⟩ := hT
    obtain ⟨lr, ll, lca, lcc, hLb, hL⟩ := hL
    obtain ⟨ob, oi, hOb, hO⟩ := hO
    exact ⟨⟨nT, nL, nO, tick, ta, la, oa, tc, lc, oc, tp, tb, tl, tca, tcc, lr, ll, lca, lcc, ob, oi⟩, by simp [e0, e1, e2, e3], ⟨hT, hL, hO⟩, ⟨by show nT ≤ maxLen; omega, by show nL ≤ maxLen; omega, by show nO ≤ maxLen; omega, bounds_i64 ht, fun i hi => (hLb i hi).1, fun i hi => (hOb i hi).1⟩, fun i hi j hj => ((hOb i hi).2 j hj).1, ⟨fun i hi => (hTb i hi).2, fun i hi => (hLb i hi).2⟩⟩
end Go.Proofs.YthnmlklgbggmbaaGreat
namespace Go.Proofs.YthnmlklgbggmbaaGreat
set_option linter.unusedVariables false
set_option linter.unusedSimpArgs false
def rowsOf (F : Nat → Int) (k : Nat) : RkT := (fun p => (List.range k).filter (fun i => decide (F i = (p : Int) ∧ p < 32)), fun t => if t < k ∧ 0 ≤ F t ∧ F t < 32 then (F t).toNat + 1 else 0)
theorem rowsOf_zero (F : Nat → Int) : rowsOf F 0 = rk0 := by
  unfold rowsOf rk0
  refine Prod.ext ?_ ?_
  · funext p; simp
  · funext t; simp
theorem rowsOf_can (F : Nat → Int) (k : Nat) (hk : k < 16) : canAdd (rowsOf F k).2 (k : Int) (F k) = decide (0 ≤ F k ∧ F k < 32) := by
  unfold canAdd rowsOf
  by_cases h : 0 ≤ F k ∧ F k < 32
  · rw [decide_eq_true h]
    exact decide_eq_true ⟨⟨by omega, by omega⟩, h, by simp⟩
  · rw [decide_eq_false h]
    exact decide_eq_false fun hh => h hh.2.1
theorem rowsOf_add (F : Nat → Int) (k : Nat) (hk : k < 16) : addT (rowsOf F k) (k : Int) (F k) = rowsOf F (k + 1) := by
  unfold addT
  rw [rowsOf_can F k hk]
  by_cases h : 0 ≤ F k ∧ F k < 32
  · rw [decide_eq_true h, if_pos rfl]
    refine Prod.ext ?_ ?_
    · funext p
      show addL (fun p => (List.range k).filter (fun i => decide (F i = (p : Int) ∧ p < 32))) (F k).toNat k p = (List.range (k + 1)).filter (fun i => decide (F i = (p : Int) ∧ p < 32))
      unfold addL
      rw [List.range_succ, List.filter_append]
      by_cases e : p = (F k).toNat
      · have e2 : F k = (p : Int) ∧ p < 32 := by omega
        rw [if_pos e, ← e]
        simp [e2]
      · have e2 : ¬ (F k = (p : Int) ∧ p < 32) := by omega
        rw [if_neg e]
        rw [show [k].filter (fun i => decide (F i = (p : Int) ∧ p < 32)) = [] by simp [e2], List.append_nil]
    · funext t
      show setP (fun t => if t < k ∧ 0 ≤ F t ∧ F t < 32 then (F t).toNat + 1 else 0) k ((F k).toNat + 1) t = if t < k + 1 ∧ 0 ≤ F t ∧ F t < 32 then (F t).toNat + 1 else 0
      unfold setP
      by_cases e : t = k
      · subst e
        rw [if_pos rfl, if_pos ⟨by omega, h⟩]
      · rw [if_neg e]
        by_cases h2 : t < k ∧ 0 ≤ F t ∧ F t < 32
        · exact (if_pos h2).trans (if_pos ⟨by omega, h2.2⟩).symm
        · exact (if_neg h2).trans (if_neg fun hh => h2 ⟨by omega, hh.2⟩).symm
  · rw [decide_eq_false h, if_neg (by simp)]
    refine Prod.ext ?_ ?_
    · funext p
      show (List.range k).filter (fun i => decide (F i = (p : Int) ∧ p < 32)) = (List.range (k + 1)).filter (fun i => decide (F i = (p : Int) ∧ p < 32))
      have e2 : ¬ (F k = (p : Int) ∧ p < 32) := by omega
      rw [List.range_succ, List.filter_append, show [k].filter (fun i => decide (F i = (p : Int) ∧ p < 32)) = [] by simp [e2], List.append_nil]
    · funext t
      show (if t < k ∧ 0 ≤ F t ∧ F t < 32 then (F t).toNat + 1 else 0) = if t < k + 1 ∧ 0 ≤ F t ∧ F t < 32 then (F t).toNat + 1 else 0
      by_cases e : t = k
      · subst e
        rw [if_neg (by omega), if_neg (by omega)]
      · by_cases h2 : t < k ∧ 0 ≤ F t ∧ F t < 32
        · rw [if_pos h2, if_pos ⟨by omega, h2.2⟩]
        · rw [if_neg h2, if_neg fun hh => h2 ⟨by omega, hh.2⟩]
theorem mem_rowsOf (F : Nat → Int) (n p t : Nat) (hp : p < 32) : t ∈ (rowsOf F n).1 p ↔ t < n ∧ F t = (p : Int) := by
  show t ∈ (List.range n).filter (fun i => decide (F i = (p : Int) ∧ p < 32)) ↔ _
  rw [List.mem_filter, List.mem_range, decide_eq_true_eq]
  constructor
  · exact fun h => ⟨h.1, h.2.1⟩
  · exact fun h => ⟨h.1, h.2, hp⟩
theorem mem_list (F : Nat → Int) (n t : Nat) : t ∈ listT (rowsOf F n) ↔ t < n ∧ 0 ≤ F t ∧ F t < 32 := by
  unfold listT
  rw [mem_flat]
  constructor
  · rintro ⟨q, _, hq, ht⟩
    have := (mem_rowsOf F n q t hq).1 ht
    omega
  · rintro ⟨h1, h2, h3⟩
    exact ⟨(F t).toNat, by omega, by omega, (mem_rowsOf F n _ t (by omega)).2 ⟨h1, by omega⟩⟩
theorem list_pairwise (F : Nat → Int) (n : Nat) : (listT (rowsOf F n)).Pairwise (fun a b => F b < F a ∨ (F a = F b ∧ a < b)) := by
  unfold listT flat
  rw [List.pairwise_flatten]
  constructor
  · intro l hl
    obtain ⟨i, hi, rfl⟩ := List.mem_map.1 hl
    have hi := List.mem_range.1 hi
    have h1 : ((rowsOf F n).1 (31 - i)).Pairwise (· < ·) := (List.pairwise_lt_range (n := n)).sublist List.filter_sublist
    refine List.Pairwise.imp_of_mem ?_ h1
    intro a b ha hb hab
    have h2 := (mem_rowsOf F n (31 - i) a (by omega)).1 ha
    have h3 := (mem_rowsOf F n (31 - i) b (by omega)).1 hb
    exact .inr ⟨by omega, hab⟩
  · rw [List.pairwise_map]
    refine List.Pairwise.imp_of_mem ?_ (List.pairwise_lt_range (n := 32 - 0))
    intro i j hi hj hij a ha b hb
    have hi := List.mem_range.1 hi
    have hj := List.mem_range.1 hj
    have h2 := (mem_rowsOf F n (31 - i) a (by omega)).1 ha
    have h3 := (mem_rowsOf F n (31 - j) b (by omega)).1 hb
    exact .inl (by omega)
theorem add_rows (M : ScM) (p : Int) : (addM M p).R = addT M.R (M.many : Int) p := by
  by_cases hc : canAdd M.R.2 (M.many : Int) p = true
  · unfold addM
    rw [if_pos hc]
  · unfold addM addT
    rw [if_neg hc, if_neg hc]
    rfl
theorem adds_rows (F : Nat → Int) : ∀ n, n ≤ 16 → (((List.range n).map F).foldl addM zeroM).many = n ∧ (((List.range n).map F).foldl addM zeroM).R = rowsOf F n
  | 0, _ => ⟨rfl, (rowsOf_zero F).symm⟩
  | n + 1, h => by
    obtain ⟨h1, h2⟩ := adds_rows F n (by omega)
    rw [List.range_succ, List.map_append, List.foldl_append]
    refine ⟨?_, ?_⟩
    · show (addM _ (F n)).many = _
      rw [add_many, h1]
    · show (addM _ (F n)).R = _
      rw [add_rows, h1, h2, rowsOf_add F n (by omega)]
theorem new_rows (F : Nat → Int) (n : Nat) (hn : n ≤ 16) : (newM ((List.range n).map F)).R = rowsOf F n := by
  unfold newM
  rw [List.take_of_length_le (by simpa using hn)]
  exact (adds_rows F n hn).2
theorem new_first (F : Nat → Int) (n : Nat) (h1 : 0 < n) (hn : n ≤ 16) (hF : ∀ i, i < n → 0 ≤ F i ∧ F i < 32) : ∃ t : Nat, t < n ∧ (dispM (newM ((List.range n).map F))).cur = (t : Int) ∧ ∀ i, i < n → F i ≤ F t ∧ (F i = F t → t ≤ i) := by
  show ∃ t : Nat, t < n ∧ firstM (newM ((List.range n).map F)) = (t : Int) ∧ _
  unfold firstM
  rw [new_rows F n hn]
  have hm := mem_list F n
  have hp := list_pairwise F n
  generalize listT (rowsOf F n) = l at hm hp
  cases l with
  | nil => exact absurd ((hm 0).2 ⟨h1, (hF 0 h1).1, (hF 0 h1).2⟩) (by simp)
  | cons t l =>
    refine ⟨t, ((hm t).1 (by simp)).1, rfl, fun i hi => ?_⟩
    rcases List.mem_cons.1 ((hm i).2 ⟨hi, hF i hi⟩) with rfl | h
    · exact ⟨by omega, fun _ => Nat.le_refl _⟩
    · rcases (List.pairwise_cons.1 hp).1 i h with h | h
      · exact ⟨by omega, fun e => by omega⟩
      · exact ⟨by omega, fun _ => by omega⟩
end Go.Proofs.YthnmlklgbggmbaaGreat
