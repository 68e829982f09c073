import Derived.Test.YthnmlklgbggmbaaGreatConfGz
import Derived.Test.YthnmlklgbggmbaaGreatPlJz
import Derived.Test.YthnmlklgbggmbaaGreatBaseZ
namespace Go.Proofs.YthnmlklgbggmbaaGreat
open Go.ChangeShapes Go.WideShapes Go.ChangeAt Go.RowKit
set_option linter.unusedVariables false
set_option linter.unusedSimpArgs false
theorem light2_any (c : CfD) (w : World) (hc : CfIn w c) (ho : c.Ok) :
    Calls Tryz.prog 5 #[.agg c.cells] w fun e w' => ∃ b, e = .returned (.bool b) ∧ (b = true → c.nT ≤ 20 ∧ c.nL ≤ 40) ∧ Keeps (fun _ => False) w w' := by
  have h1 := ho.t
  have h2 := ho.l
  unfold maxLen at h1 h2
  by_cases hT : 20 < c.nT
  · have d0 : decide ((20 : Int) < (c.nT : Int)) = true := decide_eq_true (by omega)
    clear hT h1 h2 hc ho
    go_enter Tryz.func5, Tryz.ntmps5
    go_wp2
    go_ret
    exact ⟨_, rfl, (fun h => by cases h), (Keeps.refl _ _).alloc _⟩
  have d0 : decide ((20 : Int) < (c.nT : Int)) = false := decide_eq_false (by omega)
  have HT := Lib.hid (show c.nT ≤ 20 from by omega)
  have HB := Lib.hid ((Has.start w).alloc (.cells c.cells 26))
  have HC := Lib.hid (show CfIn (w.alloc (.cells c.cells 26)) c from hc.none ((Keeps.refl _ _).alloc _))
  clear hT hc ho
  by_cases hL : 40 < c.nL
  · have d1 : decide ((40 : Int) < (c.nL : Int)) = true := decide_eq_true (by omega)
    clear hL h1 h2
    go_enter Tryz.func5, Tryz.ntmps5
    go_wp2
    go_ret
    exact ⟨_, rfl, (fun h => by cases h), HB.out.keeps⟩
  have d1 : decide ((40 : Int) < (c.nL : Int)) = false := decide_eq_false (by omega)
  have HL := Lib.hid (show c.nL ≤ 40 from by omega)
  clear hL
  by_cases hO : 20 < c.nO
  · have d2 : decide ((20 : Int) < (c.nO : Int)) = true := decide_eq_true (by omega)
    clear hO h1 h2
    go_enter Tryz.func5, Tryz.ntmps5
    go_wp2
    go_ret
    exact ⟨_, rfl, (fun h => by cases h), HB.out.keeps⟩
  have d2 : decide ((20 : Int) < (c.nO : Int)) = false := decide_eq_false (by omega)
  clear hO
  go_enter Tryz.func5, Tryz.ntmps5
  go_wp2_with fail
  obtain ⟨W, hW⟩ : ∃ W : World, W = w.alloc (.cells c.cells 26) := ⟨_, rfl⟩
  rw [← hW] at HB HC ⊢
  have HWW := Lib.hid hW
  clear hW
  go_loopw [3] (fun i wr => ∃ j : Nat, j ≤ c.nT ∧ i = .int .i64 j ∧ wr = W) (fun i _ => c.nT - (intOf i).toNat)
  case atStart => exact ⟨0, by omega, rfl, rfl⟩
  case round =>
    obtain ⟨j, hj, rfl, rfl⟩ := hrel
    obtain ⟨e0, e1, e2, e3⟩ := four_cells (HB.out.at 0 rfl)
    have lx := lt_of (HB.out.at 0 rfl)
    by_cases hlt : j < c.nT
    · obtain ⟨b, off, hta, hbl, hrow⟩ := HC.out.t (by omega)
      have c2 := (hrow j hlt).2.2
      rw [hta] at e0
      clear hrow hta
      rcases Nat.lt_or_ge 70 (c.tl j) with h7 | h7
      · have d7 : decide ((70 : Int) < (c.tl j : Int)) = true := decide_eq_true (by omega)
        clear h7
        go_wp2
        go_ret
        exact ⟨_, rfl, (fun h => by cases h), HB.out.keeps⟩
      · have d7 : decide ((70 : Int) < (c.tl j : Int)) = false := decide_eq_false (by omega)
        clear h7
        go_wp2
        go_roundw
        case rel => exact ⟨j + 1, by omega, by go_num, by first | rfl | trivial⟩
        case measure => simp [intOf]; omega
    · obtain rfl : j = c.nT := by omega
      go_wp2_with fail
      go_loopw [4] (fun i wq => ∃ j : Nat, j ≤ c.nL ∧ i = .int .i64 j ∧ wq = wr) (fun i _ => c.nL - (intOf i).toNat)
      case atStart => exact ⟨0, by omega, rfl, rfl⟩
      case round =>
        obtain ⟨j, hj2, rfl, rfl⟩ := hrel
        by_cases hlt : j < c.nL
        · obtain ⟨b, off, hta, hbl, hrow⟩ := HC.out.l (by omega)
          have c2 := (hrow j hlt).2
          rw [hta] at e1
          clear hrow hta
          rcases Nat.lt_or_ge 70 (c.ll j) with h7 | h7
          · have d7 : decide ((70 : Int) < (c.ll j : Int)) = true := decide_eq_true (by omega)
            clear h7
            go_wp2
            go_ret
            exact ⟨_, rfl, (fun h => by cases h), HB.out.keeps⟩
          · have d7 : decide ((70 : Int) < (c.ll j : Int)) = false := decide_eq_false (by omega)
            clear h7
            go_wp2
            go_roundw
            case rel => exact ⟨j + 1, by omega, by go_num, by first | rfl | trivial⟩
            case measure => simp [intOf]; omega
        · obtain rfl : j = c.nL := by omega
          go_wp2
          go_ret
          exact ⟨_, rfl, fun _ => ⟨HT.out, HL.out⟩, HB.out.keeps⟩
end Go.Proofs.YthnmlklgbggmbaaGreat
namespace Go.Proofs.YthnmlklgbggmbaaGreat
open Go.ChangeShapes Go.WideShapes Go.ChangeAt Go.RowKit
set_option linter.unusedVariables false
set_option linter.unusedSimpArgs false
set_option maxRecDepth 100000 in
theorem object_cells2 {w : World} {cs : List Value} (h : Reads Tryz.prog w 74 cs) : ∃ o oi : Nat → Int, cs = [.int .i64 (o 0), .int .i64 (o 1), .int .i64 (o 2), .int .i64 (o 3), .int .i64 (o 4), .int .i64 (o 5), .int .u32 (oi 0), .int .u32 (oi 1), .int .u32 (oi 2), .int .u32 (oi 3)] ∧ (∀ j, j < 4 → 0 ≤ oi j) ∧ ∀ j, j < 6 → -9223372036854775808 ≤ o j ∧ o j ≤ 9223372036854775807 := by
  obtain ⟨hl, hf⟩ := h.struct Tryz.underlying74
  have hc : Tryz.prog.cellsOf 74 = 10 := by kernel_rfl
  rw [hc] at hl
  match cs, hl with
  | [v0, v1, v2, v3, v4, v5, v6, v7, v8, v9], _ =>
    obtain ⟨p0, e0, h0⟩ := (h.field Tryz.underlying74 0 3 0 1 rfl (by kernel_rfl)).int Tryz.underlying3
    obtain ⟨p1, e1, h1⟩ := (h.field Tryz.underlying74 1 3 1 1 rfl (by kernel_rfl)).int Tryz.underlying3
    obtain ⟨p2, e2, h2⟩ := (h.field Tryz.underlying74 2 3 2 1 rfl (by kernel_rfl)).int Tryz.underlying3
    obtain ⟨p3, e3, h3⟩ := (h.field Tryz.underlying74 3 3 3 1 rfl (by kernel_rfl)).int Tryz.underlying3
    obtain ⟨p4, e4, h4⟩ := (h.field Tryz.underlying74 4 3 4 1 rfl (by kernel_rfl)).int Tryz.underlying3
    obtain ⟨p5, e5, h5⟩ := (h.field Tryz.underlying74 5 3 5 1 rfl (by kernel_rfl)).int Tryz.underlying3
    have hv := (h.field Tryz.underlying74 6 72 6 4 rfl (by kernel_rfl)).array Tryz.underlying72
    have hu : Tryz.prog.cellsOf 38 = 1 := by kernel_rfl
    obtain ⟨q0, f0, g0⟩ := (hv.2 0 (by omega)).int Tryz.underlying38
    obtain ⟨q1, f1, g1⟩ := (hv.2 1 (by omega)).int Tryz.underlying38
    obtain ⟨q2, f2, g2⟩ := (hv.2 2 (by omega)).int Tryz.underlying38
    obtain ⟨q3, f3, g3⟩ := (hv.2 3 (by omega)).int Tryz.underlying38
    rw [hu] at f0 f1 f2 f3
    simp at e0 e1 e2 e3 e4 e5 f0 f1 f2 f3
    refine ⟨fun j => match j with | 0 => p0 | 1 => p1 | 2 => p2 | 3 => p3 | 4 => p4 | _ => p5, fun j => match j with | 0 => q0 | 1 => q1 | 2 => q2 | _ => q3, by simp [e0, e1, e2, e3, e4, e5, f0, f1, f2, f3], fun j hj => ?_, fun j hj => ?_⟩
    · have bu : ∀ q : Int, (Lit.int .u32 q).wf = true → 0 ≤ q := fun q hp => by
        have h2 : 0 ≤ q ∧ q ≤ 4294967295 := by simpa [Lit.wf, IntKind.min, IntKind.max, IntKind.signed, IntKind.bits] using hp
        exact h2.1
      rcases (by omega : j = 0 ∨ j = 1 ∨ j = 2 ∨ j = 3) with rfl | rfl | rfl | rfl
      · exact bu _ g0
      · exact bu _ g1
      · exact bu _ g2
      · exact bu _ g3
    have bd : ∀ q : Int, (Lit.int .i64 q).wf = true → -9223372036854775808 ≤ q ∧ q ≤ 9223372036854775807 := fun q hp => by simpa [Lit.wf, IntKind.min, IntKind.max, IntKind.signed, IntKind.bits] using hp
    rcases (by omega : j = 0 ∨ j = 1 ∨ j = 2 ∨ j = 3 ∨ j = 4 ∨ j = 5) with rfl | rfl | rfl | rfl | rfl | rfl
    · exact bd _ h0
    · exact bd _ h1
    · exact bd _ h2
    · exact bd _ h3
    · exact bd _ h4
    · exact bd _ h5
set_option maxRecDepth 100000 in
theorem cfg_of2 {w : World} {cs : List Value} (h : Reads Tryz.prog w 26 cs) : ∃ c : CfD, cs = c.cells.toList ∧ CfIn w c ∧ c.Ok ∧ ∀ i, i < c.nO → ∀ j, j < 4 → 0 ≤ c.oi i j := by
  obtain ⟨hl, hf⟩ := h.struct Tryz.underlying26
  have hc : Tryz.prog.cellsOf 26 = 4 := by kernel_rfl
  rw [hc] at hl
  match cs, hl with
  | [v0, v1, v2, v3], _ =>
    obtain ⟨ta, nT, tc, e0, lt1, lt2, rt⟩ := (h.field Tryz.underlying26 0 22 0 1 rfl (by kernel_rfl)).rows Tryz.underlying22 (n := 3) (by kernel_rfl) (by omega)
    obtain ⟨la, nL, lc, e1, ll1, ll2, rl⟩ := (h.field Tryz.underlying26 1 23 1 1 rfl (by kernel_rfl)).rows Tryz.underlying23 (n := 2) (by kernel_rfl) (by omega)
    obtain ⟨oa, nO, oc, e2, lo1, lo2, ro⟩ := (h.field Tryz.underlying26 2 24 2 1 rfl (by kernel_rfl)).rows Tryz.underlying24 (n := 10) (by kernel_rfl) (by omega)
    obtain ⟨tick, e3, ht⟩ := (h.field Tryz.underlying26 3 3 3 1 rfl (by kernel_rfl)).int Tryz.underlying3
    simp at e0 e1 e2 e3
    have hT : ∃ (tp : Nat → Int) (tb : Nat → Bool) (tl : Nat → Nat) (tca : Nat → Option Addr) (tcc : Nat → Nat), 0 < nT → ∃ b off, ta = some ⟨b, off, none⟩ ∧ b < w.heap.size ∧ ∀ i, i < nT → w.cell? ⟨b, off + i * 3, none⟩ = some (.int .i64 (tp i)) ∧ w.cell? ⟨b, off + i * 3 + 1, none⟩ = some (.bool (tb i)) ∧ w.cell? ⟨b, off + i * 3 + 2, none⟩ = some (.slice (tca i) (tl i) (tcc i)) := by
      by_cases hn : 0 < nT
      · obtain ⟨b, off, ha, hb, hr⟩ := rt hn
        obtain ⟨F, hF⟩ := Deep.choose_lt (n := nT) (p := fun i (x : Int × Bool × Option Addr × Nat × Nat) => w.cell? ⟨b, off + i * 3, none⟩ = some (.int .i64 x.1) ∧ w.cell? ⟨b, off + i * 3 + 1, none⟩ = some (.bool x.2.1) ∧ w.cell? ⟨b, off + i * 3 + 2, none⟩ = some (.slice x.2.2.1 x.2.2.2.1 x.2.2.2.2)) (fun i hi => by
          obtain ⟨cs', _, hcell, hrd⟩ := hr i hi
          obtain ⟨p, q, a, n, c, rfl⟩ := task_cells hrd
          exact ⟨(p, q, a, n, c), hcell 0 (by omega), hcell 1 (by omega), hcell 2 (by omega)⟩)
        exact ⟨fun i => (F i).1, fun i => (F i).2.1, fun i => (F i).2.2.2.1, fun i => (F i).2.2.1, fun i => (F i).2.2.2.2, fun _ => ⟨b, off, ha, hb, hF⟩⟩
      · exact ⟨fun _ => 0, fun _ => false, fun _ => 0, fun _ => none, fun _ => 0, fun h => absurd h hn⟩
    have hL : ∃ (lr : Nat → Int) (ll : Nat → Nat) (lca : Nat → Option Addr) (lcc : Nat → Nat), (∀ i, i < nL → -9223372036854775808 ≤ lr i ∧ lr i ≤ 9223372036854775807) ∧ (0 < nL → ∃ b off, la = some ⟨b, off, none⟩ ∧ b < w.heap.size ∧ ∀ i, i < nL → w.cell? ⟨b, off + i * 2, none⟩ = some (.int .i64 (lr i)) ∧ w.cell? ⟨b, off + i * 2 + 1, none⟩ = some (.slice (lca i) (ll i) (lcc i))) := by
      by_cases hn : 0 < nL
      · obtain ⟨b, off, ha, hb, hr⟩ := rl hn
        obtain ⟨F, hF⟩ := Deep.choose_lt (n := nL) (p := fun i (x : Int × Option Addr × Nat × Nat) => (-9223372036854775808 ≤ x.1 ∧ x.1 ≤ 9223372036854775807) ∧ w.cell? ⟨b, off + i * 2, none⟩ = some (.int .i64 x.1) ∧ w.cell? ⟨b, off + i * 2 + 1, none⟩ = some (.slice x.2.1 x.2.2.1 x.2.2.2)) (fun i hi => by
          obtain ⟨cs', _, hcell, hrd⟩ := hr i hi
          obtain ⟨p, a, n, c, rfl, hp⟩ := level_cells hrd
          exact ⟨(p, a, n, c), hp, hcell 0 (by omega), hcell 1 (by omega)⟩)
        exact ⟨fun i => (F i).1, fun i => (F i).2.2.1, fun i => (F i).2.1, fun i => (F i).2.2.2, fun i hi => (hF i hi).1, fun _ => ⟨b, off, ha, hb, fun i hi => (hF i hi).2⟩⟩
      · exact ⟨fun _ => 0, fun _ => 0, fun _ => none, fun _ => 0, fun i hi => by omega, fun h => absurd h hn⟩
    have hO : ∃ (ob oi : Nat → Nat → Int), ((∀ i, i < nO → ∀ j, j < 6 → -9223372036854775808 ≤ ob i j ∧ ob i j ≤ 9223372036854775807) ∧ (∀ i, i < nO → ∀ j, j < 4 → 0 ≤ oi i j)) ∧ (0 < nO → ∃ b off, oa = some ⟨b, off, none⟩ ∧ b < w.heap.size ∧ ∀ i, i < nO → ∀ j, j < 10 → w.cell? ⟨b, off + i * 10 + j, none⟩ = (#[.int .i64 (ob i 0), .int .i64 (ob i 1), .int .i64 (ob i 2), .int .i64 (ob i 3), .int .i64 (ob i 4), .int .i64 (ob i 5), .int .u32 (oi i 0), .int .u32 (oi i 1), .int .u32 (oi i 2), .int .u32 (oi i 3)] : Array Value)[j]?) := by
      by_cases hn : 0 < nO
      · obtain ⟨b, off, ha, hb, hr⟩ := ro hn
        obtain ⟨F, hF⟩ := Deep.choose_lt (n := nO) (p := fun i (x : (Nat → Int) × (Nat → Int)) => ((∀ j, j < 6 → -9223372036854775808 ≤ x.1 j ∧ x.1 j ≤ 9223372036854775807) ∧ ∀ j, j < 4 → 0 ≤ x.2 j) ∧ ∀ j, j < 10 → w.cell? ⟨b, off + i * 10 + j, none⟩ = (#[.int .i64 (x.1 0), .int .i64 (x.1 1), .int .i64 (x.1 2), .int .i64 (x.1 3), .int .i64 (x.1 4), .int .i64 (x.1 5), .int .u32 (x.2 0), .int .u32 (x.2 1), .int .u32 (x.2 2), .int .u32 (x.2 3)] : Array Value)[j]?) (fun i hi => by
          obtain ⟨cs', _, hcell, hrd⟩ := hr i hi
          obtain ⟨o, oi, rfl, hu, ho⟩ := object_cells2 hrd
          exact ⟨(o, oi), ⟨ho, hu⟩, fun j hj => (hcell j hj).trans (by simp)⟩)
        exact ⟨fun i => (F i).1, fun i => (F i).2, ⟨fun i hi => (hF i hi).1.1, fun i hi => (hF i hi).1.2⟩, fun _ => ⟨b, off, ha, hb, fun i hi => (hF i hi).2⟩⟩
      · exact ⟨fun _ _ => 0, fun _ _ => 0, ⟨fun i hi => by omega, fun i hi => by omega⟩, fun h => absurd h hn⟩
    obtain ⟨tp, tb, tl, tca, tcc, hT⟩ := hT
    obtain ⟨lr, ll, lca, lcc, hLb, hL⟩ := hL
    obtain ⟨ob, oi, ⟨hOb, hOu⟩, hO⟩ := hO
    refine ⟨⟨nT, nL, nO, tick, ta, la, oa, tc, lc, oc, tp, tb, tl, tca, tcc, lr, ll, lca, lcc, ob, oi⟩, by simp [e0, e1, e2, e3], ⟨hT, hL, hO⟩, ⟨by show nT ≤ maxLen; omega, by show nL ≤ maxLen; omega, by show nO ≤ maxLen; omega, ?_, hLb, hOb⟩, hOu⟩
    simpa [Lit.wf, IntKind.min, IntKind.max, IntKind.signed, IntKind.bits] using ht
def cA (T L : Nat) : CfD := ⟨1, 1, 0, 0, some ⟨T, 0, none⟩, some ⟨L, 0, none⟩, none, 1, 1, 0, fun _ => 0, fun _ => false, fun _ => 0, fun _ => none, fun _ => 0, fun _ => 1, fun _ => 0, fun _ => none, fun _ => 0, fun _ _ => 0, fun _ _ => 0⟩
theorem cA_bad (T L : Nat) : badOf (cA T L) = (0, 0, 0) := by kernel_rfl
theorem cA_plan (T L : Nat) (w : World) (h1 : w.heap[T]? = some (.cells #[.int .i64 0, .bool false, .slice none 0 0] 66 (0, 0))) (h2 : w.heap[L]? = some (.cells #[.int .i64 1, .slice none 0 0] 69 (0, 0))) :
    Calls Tryz.prog 32 #[.agg #[.slice (some ⟨T, 0, none⟩) 1 1, .slice (some ⟨L, 0, none⟩) 1 1, .slice none 0 0, .int .i64 0]] w fun e w' => ∃ g lb lc ab ac, e = .returned (.tuple #[.agg #[.slice (some ⟨g, 0, none⟩) 0 0, .slice (some ⟨lb, 0, none⟩) 1 lc, .int .i64 4, .slice (some ⟨ab, 0, none⟩) 1 ac, .int .i64 6], .bool true]) ∧ w'.cell? ⟨lb, 5, none⟩ = some (.int .i64 3) ∧ w'.cell? ⟨ab, 0, none⟩ = some (.int .i64 5) ∧ lb < w'.heap.size ∧ ab < w'.heap.size ∧ Keeps (fun _ => False) w w' := by
  have h := plan_good (cA T L) w ⟨fun _ => ⟨T, 0, rfl, lt_of h1, fun i hi => by
    obtain rfl : i = 0 := by have : i < 1 := hi; omega
    exact ⟨cell_of h1 0, cell_of h1 1, cell_of h1 2⟩⟩, fun _ => ⟨L, 0, rfl, lt_of h2, fun i hi => by
    obtain rfl : i = 0 := by have : i < 1 := hi; omega
    exact ⟨cell_of h2 0, cell_of h2 1⟩⟩, fun h => absurd h (by simp [cA])⟩ ⟨by show 1 ≤ maxLen; unfold maxLen; omega, by show 1 ≤ maxLen; unfold maxLen; omega, by show 0 ≤ maxLen; omega, by show -9223372036854775808 ≤ (0 : Int) ∧ (0 : Int) ≤ 9223372036854775807; omega, fun i hi => by show -9223372036854775808 ≤ (1 : Int) ∧ (1 : Int) ≤ 9223372036854775807; omega, fun i hi => absurd hi (by simp [cA])⟩ (cA_bad T L)
  refine h.mono ?_
  rintro e w' ⟨g, la, lc, aa, ac, rfl, _, hl, hk, k1⟩
  obtain ⟨lb, e1, hlb, hr⟩ := line_at hl (k := 0) (by show 0 < 1; omega)
  obtain ⟨ab, e2, hab, hq⟩ := ask_at hk (k := 0) (by show 0 < 1; omega)
  refine ⟨g, lb, lc, ab, ac, by rw [e1, e2]; rfl, hr 5 _ rfl, hq, hlb, hab, k1⟩
end Go.Proofs.YthnmlklgbggmbaaGreat
