import Derived.Test.YthnmlklgbggmbaaGreatRowq
import Derived.Test.YthnmlklgbggmbaaGreatObjq
import Derived.Test.YthnmlklgbggmbaaGreatRows
import Derived.WalkKit
import Derived.ProofKit
import Derived.OpenShut
import Derived.WalkLawsBesides
import Derived.WalkSpells
import Derived.Lib.Hide
import Derived.Deep.QuietTactic
import Derived.BigQuiet
import Derived.BigRegion
namespace Go.Proofs.YthnmlklgbggmbaaGreat
open Go.ChangeShapes Go.WideShapes Go.ChangeAt Go.RowKit
set_option linter.unusedVariables false
set_option linter.unusedSimpArgs false
def putW (N : Nat → Nat) (len : Nat) (a : Int) (v : Nat) : Nat → Nat := if 0 ≤ a ∧ a < (len : Int) then fun k => if k = a.toNat then v else N k else N
def inW (ob oi : Nat → Nat → Int) (len i : Nat) : Nat → (Nat → Nat) → Nat → Nat
  | 0, N => N
  | j + 1, N => putW (inW ob oi len i j N) len (firstP (placeP ob i) j) (oi i j).toNat
def stW (ob oi : Nat → Nat → Int) (len : Nat) : Nat → Nat → Nat
  | 0 => fun _ => 0
  | i + 1 => inW ob oi len i 4 (stW ob oi len i)
def startW (ob oi : Nat → Nat → Int) (n : Nat) : Nat → Nat := stW ob oi (preP ob n).toNat n
theorem oOf_place (ob : Nat → Nat → Int) (i : Nat) : rightS (oOf (placeP ob i)) = rightS (ob i) := rfl
theorem make_words (w : World) (n : Nat) (hn : n ≤ 65536) : (Instr.makeSlice 41 (.int .i64 (n : Int)) (.int .i64 (n : Int))).run Tryz.prog w = .ok (.slice (some ⟨w.heap.size, 0, none⟩) n n) (w.alloc (.cells (words (fun _ => 0) n).toArray 38)) := by
  have h := run_make_row' (P := Tryz.prog) (w := w) 41 38 (.int .u32 0) 4 Tryz.underlying41 (by kernel_rfl) rfl .i64 .i64 n (by omega) (by omega)
  rw [← made_words]
  exact h
structure StB (w W : World) (g q n tn : Nat) (ob : Nat → Nat → Int) (N : Nat → Nat) : Prop where
  keeps : Keeps (fun _ => False) w W
  pl : PlacesAt W g n (placeP ob)
  ws : W.heap[q]? = some (.cells (words N tn).toArray 38 (0, 0))
theorem StB.none {w W W' : World} {g q n tn : Nat} {ob : Nat → Nat → Int} {N : Nat → Nat} (h : StB w W g q n tn ob N) (k : Keeps (fun _ => False) W W') : StB w W' g q n tn ob N :=
  ⟨h.keeps.trans k, h.pl.keep k (fun h => h), k.at h.ws (fun h => h)⟩
theorem StB.put {w W : World} {g q n tn : Nat} {ob : Nat → Nat → Int} {N : Nat → Nat} (h : StB w W g q n tn ob N) (hg : g ≠ q) (hq : w.heap.size ≤ q) (i v : Nat) : StB w (W.setCell ⟨q, i, Option.none⟩ (.int .u32 (v : Int))) g q n tn ob (fun k => if k = i then v else N k) :=
  have hk : Keeps (fun j => j = q) W (W.setCell ⟨q, i, Option.none⟩ (.int .u32 (v : Int))) := (Keeps.refl (fun j => j = q) W).setCell (p := ⟨q, i, Option.none⟩) (.inl rfl) _
  ⟨h.keeps.far hk (fun j e => by omega), h.pl.keep hk hg, by rw [← words_set]; exact heap_set h.ws i _⟩
theorem of_words (w : World) (q n : Nat) (N : Nat → Nat) (h : w.heap[q]? = some (.cells (words N n).toArray 38 (0, 0))) (hn : n ≤ 65536) :
    Calls Tryz.prog 111 #[.slice (some ⟨q, 0, none⟩) n n] w fun e w' => ∃ b q', e = .returned (.pointer (some ⟨b, 0, none⟩)) ∧ IsMem w' b q' n N ∧ Keeps (fun _ => False) w w' := by
  by_cases hp : 0 < n
  · refine (of_some q 0 n n N w hn hp (lt_of h) (fun i hi => by rw [cell_of h]; simpa using words_get N n i hi)).mono ?_
    rintro e w' ⟨h1, h2, h3⟩
    exact ⟨_, _, h1, h2, h3⟩
  · obtain rfl : n = 0 := by omega
    refine (of_zero _ 0 N w).mono ?_
    rintro e w' ⟨h1, h2, h3⟩
    exact ⟨_, _, h1, h2, h3⟩
theorem value_ix (w : World) (a b c d : Int) (j : Nat) (hj : j < 4) (v : Int) (hv : v = (match j with | 0 => a | 1 => b | 2 => c | _ => d)) : (Instr.index 72 (.agg #[.int .u32 a, .int .u32 b, .int .u32 c, .int .u32 d]) (.int .i64 (j : Int))).run Tryz.prog w = .ok (.int .u32 v) w := by
  subst hv
  rcases (by omega : j = 0 ∨ j = 1 ∨ j = 2 ∨ j = 3) with rfl | rfl | rfl | rfl <;> kernel_rfl
theorem value_info : (Tryz.prog.info? 72).map (·.size) = some 4 := by kernel_rfl
set_option maxRecDepth 20000 in
set_option maxHeartbeats 8000000 in
theorem start_any (w : World) (a : Option Addr) (n c : Nat) (ob oi : Nat → Nat → Int) (h : ObIn w a n ob oi) (hn : n ≤ 16) (hr : ∀ i, i < n → rightS (ob i) = true) (hb : ∀ i, i < n → -9223372036854775808 ≤ ob i 1 ∧ ob i 1 ≤ 9223372036854775807) (ho : ∀ i, i < n → ∀ j, j < 4 → 0 ≤ oi i j) :
    Calls Tryz.prog 109 #[.slice a n c] w fun e w' => ∃ b q, e = .returned (.pointer (some ⟨b, 0, none⟩)) ∧ IsMem w' b q (preP ob n).toNat (startW ob oi n) ∧ Keeps (fun _ => False) w w' := by
  have HH := Lib.hid h
  have HR := Lib.hid hr
  have HO := Lib.hid ho
  have HSO := Lib.hid (sof_any w a n c ob oi h (by omega) hr hb)
  have HPB := Lib.hid (fun k (hk : k ≤ n) => pre_bound hr k hk)
  have hpb := HPB.out n (Nat.le_refl _)
  obtain ⟨tn, htn⟩ : ∃ tn : Nat, preP ob n = (tn : Int) := ⟨(preP ob n).toNat, by omega⟩
  have HTN := Lib.hid htn
  have hm1 : min (tn : Int) 65536 = (tn : Int) := by omega
  have hmk := fun W => make_words W tn (by omega)
  have HSM := Lib.hid (show startW ob oi n = stW ob oi tn n by unfold startW; rw [htn]; rfl)
  have HTL := Lib.hid (show tn ≤ 65536 by omega)
  rw [HSM.out]
  rw [htn] at HSO ⊢
  rw [Int.toNat_natCast]
  clear h hr hb ho hpb htn HSM
  go_enter Tryz.func109, Tryz.ntmps109
  go_wp2_with fail
  refine HSO.out.mono ?_
  rintro e1 w1 ⟨rfl, hpl, hk⟩
  obtain ⟨g, hg⟩ : ∃ g, g = w.heap.size := ⟨_, rfl⟩
  rw [← hg] at hpl ⊢
  have hwq : w.heap.size ≤ w1.heap.size := hk.size
  have hgq : g ≠ w1.heap.size := by have := hpl.lt; omega
  have HS0 := Lib.hid (show StB w (w1.alloc (.cells (words (fun _ => 0) tn).toArray 38)) g w1.heap.size n tn ob (stW ob oi tn 0) from ⟨hk.alloc _, hpl.keep ((Keeps.refl (fun _ => False) w1).alloc _) (fun h => h), heap_new w1 _⟩)
  have HGQ := Lib.hid (And.intro hgq hwq)
  clear hpl hk hgq hg hwq HSO
  go_wp2_with fail
  obtain ⟨q, hq⟩ : ∃ q, q = w1.heap.size := ⟨_, rfl⟩
  rw [← hq] at HS0 HGQ
  try rw [← hq]
  have HQ := Lib.hid hq
  clear hq
  go_loopw [21] (fun i W => ∃ k : Nat, k ≤ n ∧ i = .int .i64 (k : Int) ∧ StB w W g q n tn ob (stW ob oi tn k)) (fun i _ => n - (intOf i).toNat)
  case atStart => exact ⟨0, Nat.zero_le _, rfl, HS0.out⟩
  case round =>
    clear HS0
    obtain ⟨k, hk, rfl, hs⟩ := hrel
    have HS := Lib.hid hs
    clear hs
    by_cases hlt : k < n
    · obtain ⟨b, off, rfl, hbl, hc⟩ := HH.out.lies (by omega)
      have HRA := Lib.hid (HS.out.pl.range hlt)
      have HRV := Lib.hid (show wr.rangeAt b (off + k * 10 + 6) [.int .u32 (oi k 0), .int .u32 (oi k 1), .int .u32 (oi k 2), .int .u32 (oi k 3)] from fun j v hv => by
        have hj : j < 4 := (List.getElem?_eq_some_iff.1 hv).1
        rw [HS.out.keeps.none.cell (p := ⟨b, off + k * 10 + 6 + j, none⟩) hbl]
        have := hc k hlt (6 + j) (by omega)
        rw [show off + k * 10 + (6 + j) = off + k * 10 + 6 + j by omega] at this
        rw [this]
        rcases (by omega : j = 0 ∨ j = 1 ∨ j = 2 ∨ j = 3) with rfl | rfl | rfl | rfl <;> simpa using hv)
      have k1 : Keeps (fun _ => False) wr (wr.alloc (.cells (plC (placeP ob k)) 145)) := (Keeps.refl _ wr).alloc _
      have HS1 := Lib.hid (And.intro (HS.out.none k1) (heap_new wr (.cells (plC (placeP ob k)) 145)))
      have hBq : wr.heap.size ≠ q := by have := lt_of HS.out.ws; omega
      have HPB1 := Lib.hid (HPB.out k hk)
      have e0 : decide (k < n) = true := decide_eq_true hlt
      have e0' : decide ((k : Int) < (n : Int)) = true := decide_eq_true (by omega)
      have e3 : (0 : Int) ≤ (k : Int) := by omega
      have e4 : (k : Int) < (n : Int) := by omega
      have HLT := Lib.hid (And.intro hlt hBq)
      clear hc k1 hBq
      obtain ⟨B, hBe⟩ : ∃ B, B = wr.heap.size := ⟨_, rfl⟩
      rw [← hBe] at HS1 HLT
      have HBE := Lib.hid hBe
      obtain ⟨W1, hW1⟩ : ∃ W1, W1 = wr.alloc (.cells (plC (placeP ob k)) 145) := ⟨_, rfl⟩
      rw [← hW1] at HS1
      have HW1 := Lib.hid hW1
      have HRV1 := Lib.hid (show (wr.alloc (.cells (plC (placeP ob k)) 145)).rangeAt b (off + k * 10 + 6) [.int .u32 (oi k 0), .int .u32 (oi k 1), .int .u32 (oi k 2), .int .u32 (oi k 3)] from range_keeps HRV.out ((Keeps.refl _ wr).alloc _) (Nat.lt_of_lt_of_le hbl HS.out.keeps.size))
      clear hBe hW1 HRV
      go_wp2_with (first
        | (refine wpList_load_mid rfl 145 (.tmp 24) rfl g (k * 5) rfl (plC (placeP ob k)).toList _ HRA.out Tryz.underlying145 rfl place_info ?_)
        | (refine wpList_load_mid rfl 72 (.tmp 29) rfl b (off + k * 10 + 6) rfl [.int .u32 (oi k 0), .int .u32 (oi k 1), .int .u32 (oi k 2), .int .u32 (oi k 3)] _ HRV1.out Tryz.underlying72 rfl value_info ?_))
      rw [← HBE.out]
      rw [← HW1.out]
      clear HRA HRV1 HW1
      go_loopw [31] (fun x W => ∃ j : Nat, j ≤ 4 ∧ x = .int .i64 (j : Int) ∧ StB w W g q n tn ob (inW ob oi tn k j (stW ob oi tn k)) ∧ W.heap[B]? = some (.cells (plC (placeP ob k)) 145 (0, 0))) (fun x _ => 4 - (intOf x).toNat)
      case atStart => exact ⟨0, by omega, rfl, HS1.out.1, HS1.out.2⟩
      case round =>
        clear HS1
        rename World => W
        obtain ⟨j, hj, rfl, hs, hbx⟩ := hrel
        have HS := Lib.hid (And.intro hs hbx)
        clear hs
        by_cases hj4 : j < 4
        · have HF := Lib.hid (fun X => first_any (placeP ob k) j X hj4 (by show 0 ≤ preP ob k ∧ preP ob k ≤ 1000000; have := HPB1.out; omega) ((oOf_place ob k).trans (HR.out k HLT.out.1)))
          obtain ⟨vn, hvn⟩ : ∃ vn : Nat, oi k j = (vn : Int) := ⟨(oi k j).toNat, by have := HO.out k HLT.out.1 j hj4; omega⟩
          have HX := Lib.hid (fun X => value_ix X (oi k 0) (oi k 1) (oi k 2) (oi k 3) j hj4 (vn : Int) (by rw [← hvn]; rcases (by omega : j = 0 ∨ j = 1 ∨ j = 2 ∨ j = 3) with rfl | rfl | rfl | rfl <;> rfl))
          have hix := fun X => HX.out X
          have HN := Lib.hid (show inW ob oi tn k (j + 1) (stW ob oi tn k) = putW (inW ob oi tn k j (stW ob oi tn k)) tn (firstP (placeP ob k) j) vn by
            have : (oi k j).toNat = vn := by omega
            show putW _ _ _ _ = _
            rw [this])
          have f0 : decide (j < 4) = true := decide_eq_true hj4
          have f0' : decide ((j : Int) < 4) = true := decide_eq_true (by omega)
          have HJ := Lib.hid hj4
          obtain ⟨c0, c1, c2, c3, c4⟩ := five_cells hbx
          clear hbx hvn
          go_wp2_with fail
          refine (HF.out _).mono ?_
          rintro e5 w5 ⟨rfl, k5⟩
          have HS5 := Lib.hid (And.intro (HS.out.1.none k5) (k5.at HS.out.2 (fun h => h)))
          clear c0 c1 c2 c3 c4 k5 hix
          generalize firstP (placeP ob k) j = fp at *
          generalize inW ob oi tn k j (stW ob oi tn k) = N at *
          by_cases h0 : 0 ≤ fp
          · obtain ⟨m, rfl⟩ : ∃ m : Nat, fp = (m : Int) := ⟨fp.toNat, by omega⟩
            have d0 : decide ((0 : Int) ≤ (m : Int)) = true := decide_eq_true h0
            by_cases h1 : m < tn
            · have d1 : decide (m < tn) = true := decide_eq_true h1
              have d1' : decide ((m : Int) < (tn : Int)) = true := decide_eq_true (by omega)
              have d2 : (m : Int) < (tn : Int) := by omega
              have HP := Lib.hid (show putW N tn (m : Int) vn = fun k => if k = m then vn else N k by unfold putW; rw [if_pos ⟨h0, d2⟩, Int.toNat_natCast])
              have cc : w5.cell? ⟨q, m, none⟩ = some (.int .u32 (N m : Int)) := by rw [cell_of HS5.out.1.ws]; exact words_get N tn m h1
              have ff : w5.frozen? ⟨q, m, none⟩ = false := free_of HS5.out.1.ws m
              have HS6 := Lib.hid (HS5.out.1.put HGQ.out.1 HGQ.out.2 m vn)
              have HB6 := Lib.hid (show (w5.setCell ⟨q, m, none⟩ (.int .u32 (vn : Int))).heap[B]? = some (.cells (plC (placeP ob k)) 145 (0, 0)) from ((Keeps.refl (fun j => j = q) w5).setCell (p := ⟨q, m, none⟩) (.inl rfl) _).at HS5.out.2 HLT.out.2)
              go_wp2_with fail
              go_roundw
              case rel => exact ⟨j + 1, by have := HJ.out; omega, by go_num, by rw [HN.out, HP.out]; exact HS6.out, HB6.out⟩
              case measure => simp [intOf]; have := HJ.out; omega
            · have d1 : decide (m < tn) = false := decide_eq_false h1
              have d1' : decide ((m : Int) < (tn : Int)) = false := decide_eq_false (by omega)
              have HP := Lib.hid (show putW N tn (m : Int) vn = N by unfold putW; rw [if_neg (by omega)])
              go_wp2_with fail
              go_roundw
              case rel => exact ⟨j + 1, by have := HJ.out; omega, by go_num, by rw [HN.out, HP.out]; exact HS5.out.1, HS5.out.2⟩
              case measure => simp [intOf]; have := HJ.out; omega
          · have d0 : decide (0 ≤ fp) = false := decide_eq_false h0
            have HP := Lib.hid (show putW N tn fp vn = N by unfold putW; rw [if_neg (by omega)])
            go_wp2_with fail
            go_roundw
            case rel => exact ⟨j + 1, by have := HJ.out; omega, by go_num, by rw [HN.out, HP.out]; exact HS5.out.1, HS5.out.2⟩
            case measure => simp [intOf]; have := HJ.out; omega
        · obtain rfl : j = 4 := by omega
          have f0 : decide ((4 : Nat) < 4) = false := rfl
          have HE := Lib.hid (show stW ob oi tn (k + 1) = inW ob oi tn k 4 (stW ob oi tn k) from rfl)
          clear hj4 hbx
          go_wp2_with fail
          go_roundw
          case rel => exact ⟨k + 1, by have := HLT.out.1; omega, by go_num, by rw [HE.out]; exact HS.out.1⟩
          case measure => simp [intOf]; have := HLT.out.1; omega
    · obtain rfl : k = n := by omega
      have e0 : decide (k < k) = false := decide_eq_false (by omega)
      have HOF := Lib.hid (of_words wr q tn _ HS.out.ws HTL.out)
      clear hlt
      go_wp2_with fail
      refine HOF.out.mono ?_
      rintro e7 w7 ⟨b7, q7, rfl, hm7, k7⟩
      have HM := Lib.hid (And.intro hm7 (HS.out.keeps.trans k7))
      clear hm7 k7
      go_wp2_with fail
      go_ret
      exact ⟨b7, q7, rfl, HM.out.1, HM.out.2⟩
end Go.Proofs.YthnmlklgbggmbaaGreat
namespace Go.Proofs.YthnmlklgbggmbaaGreat
open Go.ChangeShapes Go.WideShapes Go.ChangeAt Go.RowKit
set_option linter.unusedVariables false
set_option linter.unusedSimpArgs false
structure CfD where
  nT : Nat
  nL : Nat
  nO : Nat
  tick : Int
  ta : Option Addr
  la : Option Addr
  oa : Option Addr
  tc : Nat
  lc : Nat
  oc : Nat
  tp : Nat → Int
  tb : Nat → Bool
  tl : Nat → Nat
  tca : Nat → Option Addr
  tcc : Nat → Nat
  lr : Nat → Int
  ll : Nat → Nat
  lca : Nat → Option Addr
  lcc : Nat → Nat
  ob : Nat → Nat → Int
  oi : Nat → Nat → Int
@[reducible] def CfD.cells (c : CfD) : Array Value := #[.slice c.ta c.nT c.tc, .slice c.la c.nL c.lc, .slice c.oa c.nO c.oc, .int .i64 c.tick]
@[reducible] def CfD.obj (c : CfD) (i : Nat) : Array Value := #[.int .i64 (c.ob i 0), .int .i64 (c.ob i 1), .int .i64 (c.ob i 2), .int .i64 (c.ob i 3), .int .i64 (c.ob i 4), .int .i64 (c.ob i 5), .int .u32 (c.oi i 0), .int .u32 (c.oi i 1), .int .u32 (c.oi i 2), .int .u32 (c.oi i 3)]
structure CfIn (w : World) (c : CfD) : Prop where
  t : 0 < c.nT → ∃ b off, c.ta = some ⟨b, off, none⟩ ∧ b < w.heap.size ∧ ∀ i, i < c.nT → w.cell? ⟨b, off + i * 3, none⟩ = some (.int .i64 (c.tp i)) ∧ w.cell? ⟨b, off + i * 3 + 1, none⟩ = some (.bool (c.tb i)) ∧ w.cell? ⟨b, off + i * 3 + 2, none⟩ = some (.slice (c.tca i) (c.tl i) (c.tcc i))
  l : 0 < c.nL → ∃ b off, c.la = some ⟨b, off, none⟩ ∧ b < w.heap.size ∧ ∀ i, i < c.nL → w.cell? ⟨b, off + i * 2, none⟩ = some (.int .i64 (c.lr i)) ∧ w.cell? ⟨b, off + i * 2 + 1, none⟩ = some (.slice (c.lca i) (c.ll i) (c.lcc i))
  o : 0 < c.nO → ∃ b off, c.oa = some ⟨b, off, none⟩ ∧ b < w.heap.size ∧ ∀ i, i < c.nO → ∀ j, j < 10 → w.cell? ⟨b, off + i * 10 + j, none⟩ = (c.obj i)[j]?
structure CfD.Ok (c : CfD) : Prop where
  t : c.nT ≤ maxLen
  l : c.nL ≤ maxLen
  o : c.nO ≤ maxLen
  tick : -9223372036854775808 ≤ c.tick ∧ c.tick ≤ 9223372036854775807
  lr : ∀ i, i < c.nL → -9223372036854775808 ≤ c.lr i ∧ c.lr i ≤ 9223372036854775807
  ob : ∀ i, i < c.nO → ∀ j, j < 6 → -9223372036854775808 ≤ c.ob i j ∧ c.ob i j ≤ 9223372036854775807
theorem CfIn.none {w w' : World} {c : CfD} (h : CfIn w c) (k : Keeps (fun _ => False) w w') : CfIn w' c := by
  have hk := k.none
  refine ⟨fun hn => ?_, fun hn => ?_, fun hn => ?_⟩
  · obtain ⟨b, off, ha, hb, hc⟩ := h.t hn
    exact ⟨b, off, ha, Nat.lt_of_lt_of_le hb k.size, fun i hi => ⟨(hk.cell (p := ⟨b, off + i * 3, Option.none⟩) hb).trans (hc i hi).1, (hk.cell (p := ⟨b, off + i * 3 + 1, Option.none⟩) hb).trans (hc i hi).2.1, (hk.cell (p := ⟨b, off + i * 3 + 2, Option.none⟩) hb).trans (hc i hi).2.2⟩⟩
  · obtain ⟨b, off, ha, hb, hc⟩ := h.l hn
    exact ⟨b, off, ha, Nat.lt_of_lt_of_le hb k.size, fun i hi => ⟨(hk.cell (p := ⟨b, off + i * 2, Option.none⟩) hb).trans (hc i hi).1, (hk.cell (p := ⟨b, off + i * 2 + 1, Option.none⟩) hb).trans (hc i hi).2⟩⟩
  · obtain ⟨b, off, ha, hb, hc⟩ := h.o hn
    exact ⟨b, off, ha, Nat.lt_of_lt_of_le hb k.size, fun i hi j hj => (hk.cell (p := ⟨b, off + i * 10 + j, Option.none⟩) hb).trans (hc i hi j hj)⟩
theorem four_cells {w : World} {g : Nat} {x y z v : Value} {E : TypeId} (h : w.heap[g]? = some (.cells #[x, y, z, v] E (0, 0))) :
    w.cell? ⟨g, 0, none⟩ = some x ∧ w.cell? ⟨g, 1, none⟩ = some y ∧ w.cell? ⟨g, 2, none⟩ = some z ∧ w.cell? ⟨g, 3, none⟩ = some v := ⟨cell_of h 0, cell_of h 1, cell_of h 2, cell_of h 3⟩
end Go.Proofs.YthnmlklgbggmbaaGreat
namespace Go.Proofs.YthnmlklgbggmbaaGreat
open Go.ChangeShapes Go.WideShapes Go.ChangeAt Go.RowKit
set_option linter.unusedVariables false
set_option linter.unusedSimpArgs false
def codeF (n : Nat) : Int := if 64 < n then 14 else 0
theorem code_any (a : Option Addr) (n c : Nat) (w : World) :
    Calls Tryz.prog 99 #[.slice a n c] w fun e w' => e = .returned (.int .i64 (codeF n)) ∧ Keeps (fun _ => False) w w' := by
  unfold codeF
  by_cases h : 64 < n
  · have d0 : decide ((64 : Int) < (n : Int)) = true := decide_eq_true (by omega)
    rw [if_pos h]
    clear h
    go_enter Tryz.func99, Tryz.ntmps99
    go_wp2
    go_ret
    exact ⟨rfl, Keeps.refl _ _⟩
  · have d0 : decide ((64 : Int) < (n : Int)) = false := decide_eq_false (by omega)
    rw [if_neg h]
    clear h
    go_enter Tryz.func99, Tryz.ntmps99
    go_wp2
    go_ret
    exact ⟨rfl, Keeps.refl _ _⟩
def taskF (p : Int) (n : Nat) : Int := if p < 0 ∨ 32 ≤ p then 2 else codeF n
theorem tasks1_any (c : CfD) (PB : Nat) (i : Nat) (w : World) (hc : CfIn w c) (ho : c.Ok) (hb : w.heap[PB]? = some (.cells c.cells 112 (0, 0))) (hi : i < c.nT) :
    Calls Tryz.prog 98 #[.int .i64 (i : Int), .pointer (some ⟨PB, 0, none⟩)] w fun e w' => e = .returned (.int .i64 (taskF (c.tp i) (c.tl i))) ∧ Keeps (fun _ => False) w w' := by
  obtain ⟨b, off, hta, hbl, hrow⟩ := hc.t (by omega)
  obtain ⟨c0, c1, c2⟩ := hrow i hi
  have hlim := ho.t
  unfold maxLen at hlim
  obtain ⟨e0, e1, e2, e3⟩ := four_cells hb
  rw [hta] at e0
  have lx := lt_of hb
  clear hrow ho hc hta hb
  unfold taskF
  generalize c.tp i = p at *
  generalize c.tl i = n at *
  generalize c.nT = nT at *
  by_cases h1 : p < 0
  · have d0 : decide (p < 0) = true := decide_eq_true h1
    rw [if_pos (.inl h1)]
    clear h1
    go_enter Tryz.func98, Tryz.ntmps98
    go_wp2
    go_ret
    exact ⟨rfl, (Keeps.refl _ _).alloc _⟩
  by_cases h2 : 32 ≤ p
  · have d0 : decide (p < 0) = false := decide_eq_false h1
    have d1 : decide (32 ≤ p) = true := decide_eq_true h2
    rw [if_pos (.inr h2)]
    clear h1 h2
    go_enter Tryz.func98, Tryz.ntmps98
    go_wp2
    go_ret
    exact ⟨rfl, (Keeps.refl _ _).alloc _⟩
  have d0 : decide (p < 0) = false := decide_eq_false h1
  have d1 : decide (32 ≤ p) = false := decide_eq_false h2
  rw [if_neg (by omega)]
  clear h1 h2
  go_enter Tryz.func98, Tryz.ntmps98
  go_wp2_with fail
  refine (code_any _ _ _ _).mono ?_
  rintro e w1 ⟨rfl, k1⟩
  go_wp2
  go_ret
  exact ⟨rfl, ((Keeps.refl _ _).alloc _).trans k1⟩
def roomB (n : Int) : Bool := pow2 n && decide (n ≤ 64)
theorem room_any (a : Int) (w : World) (h1 : -9223372036854775808 ≤ a) (h2 : a ≤ 9223372036854775807) :
    Calls Tryz.prog 101 #[.int .i64 a] w fun e w' => e = .returned (.bool (roomB a)) ∧ Keeps (fun _ => False) w w' := by
  have hp := Lib.hid (fun w => power_any a w h1 h2)
  unfold roomB
  generalize pow2 a = q at *
  clear h1 h2
  cases q
  all_goals
    go_enter Tryz.func101, Tryz.ntmps101
    go_wp2_with fail
    refine (hp.out _).mono ?_
    rintro e w1 ⟨rfl, rfl⟩
    go_wp2
    go_ret
    exact ⟨by simp, Keeps.refl _ _⟩
def levelF (r : Int) (n : Nat) : Int := if roomB r = true then codeF n else 13
theorem levels1_any (c : CfD) (PB : Nat) (i : Nat) (w : World) (hc : CfIn w c) (ho : c.Ok) (hb : w.heap[PB]? = some (.cells c.cells 112 (0, 0))) (hi : i < c.nL) :
    Calls Tryz.prog 100 #[.int .i64 (i : Int), .pointer (some ⟨PB, 0, none⟩)] w fun e w' => e = .returned (.int .i64 (levelF (c.lr i) (c.ll i))) ∧ Keeps (fun _ => False) w w' := by
  obtain ⟨b, off, hta, hbl, hrow⟩ := hc.l (by omega)
  obtain ⟨c0, c1⟩ := hrow i hi
  have hlim := ho.l
  unfold maxLen at hlim
  have hp := Lib.hid (fun w => room_any (c.lr i) w (ho.lr i hi).1 (ho.lr i hi).2)
  obtain ⟨e0, e1, e2, e3⟩ := four_cells hb
  rw [hta] at e1
  have lx := lt_of hb
  clear hrow ho hc hta hb
  unfold levelF
  generalize roomB (c.lr i) = q at *
  generalize c.lr i = p at *
  generalize c.ll i = n at *
  generalize c.nL = nL at *
  cases q
  · go_enter Tryz.func100, Tryz.ntmps100
    go_wp2_with fail
    refine (hp.out _).mono ?_
    rintro e w1 ⟨rfl, k1⟩
    go_wp2
    go_ret
    exact ⟨rfl, ((Keeps.refl _ _).alloc _).trans k1⟩
  · have HB := Lib.hid ((Has.start w).alloc (.cells #[.int .i64 p, .slice (c.lca i) n (c.lcc i)] 69))
    go_enter Tryz.func100, Tryz.ntmps100
    go_wp2_with fail
    refine (hp.out _).mono ?_
    rintro e w1 ⟨rfl, k1⟩
    replace HB := Lib.hid (HB.out.none k1)
    have g1 : w1.cell? ⟨w.heap.size, 1, none⟩ = some (.slice (c.lca i) n (c.lcc i)) := cell_of (HB.out.at 0 rfl) 1
    clear k1
    go_wp2_with fail
    refine (code_any _ _ _ _).mono ?_
    rintro e w2 ⟨rfl, k2⟩
    go_wp2
    go_ret
    exact ⟨rfl, HB.out.keeps.trans k2⟩
theorem counts1_any (B : Nat → Bool) (PB : Nat) (i : Nat) (w : World) (hb : w.heap[PB]? = some (.cells #[.bool (B 0), .bool (B 1), .bool (B 2), .bool (B 3)] 191 (0, 0))) (hi : i < 4) :
    Calls Tryz.prog 97 #[.int .i64 (i : Int), .pointer (some ⟨PB, 0, none⟩)] w fun e w' => e = .returned (.int .i64 (if B i = true then 0 else 2)) ∧ Keeps (fun _ => False) w w' := by
  have c0 : w.cell? ⟨PB, i, none⟩ = some (.bool (B i)) := by
    rw [cell_of hb i]
    rcases (by omega : i = 0 ∨ i = 1 ∨ i = 2 ∨ i = 3) with rfl | rfl | rfl | rfl <;> rfl
  have lx := lt_of hb
  clear hb
  generalize B i = q at *
  cases q
  all_goals
    go_enter Tryz.func97, Tryz.ntmps97
    go_wp2
    go_ret
    exact ⟨by simp, Keeps.refl _ _⟩
def hasF (c : CfD) (x : Int) : Bool := decide (-(c.nL : Int) ≤ x) && decide (x < (c.nT : Int))
theorem chas_any (c : CfD) (x : Int) (w : World) (ho : c.Ok) :
    Calls Tryz.prog 152 #[.agg c.cells, .int .i64 x] w fun e w' => e = .returned (.bool (hasF c x)) ∧ Keeps (fun _ => False) w w' := by
  have h1 := ho.t
  have h2 := ho.l
  unfold maxLen at h1 h2
  have W1 : IntKind.i64.wrap (-(c.nL : Int)) = -(c.nL : Int) := IntWalk.i64_in _ ⟨by omega, by omega⟩
  have W1' : wrap64 (-(c.nL : Int)) = -(c.nL : Int) := IntWalk.wrap64_in _ ⟨by omega, by omega⟩
  clear h1 h2 ho
  unfold hasF
  by_cases h : -(c.nL : Int) ≤ x
  · have d0 : decide (-(c.nL : Int) ≤ x) = true := decide_eq_true h
    clear h
    go_enter Tryz.func152, Tryz.ntmps152
    go_wp2
    go_ret
    exact ⟨ret_bool (by simp [d0]), (Keeps.refl _ _).alloc _⟩
  · have d0 : decide (-(c.nL : Int) ≤ x) = false := decide_eq_false h
    clear h
    go_enter Tryz.func152, Tryz.ntmps152
    go_wp2
    go_ret
    exact ⟨ret_bool (by simp [d0]), (Keeps.refl _ _).alloc _⟩
end Go.Proofs.YthnmlklgbggmbaaGreat
