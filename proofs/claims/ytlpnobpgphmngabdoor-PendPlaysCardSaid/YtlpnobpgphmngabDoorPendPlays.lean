import Derived.Test.YtlpnobpgphmngabDoorPendMore
import Derived.Test.YtlpnobpgphmngabDoorPendRefB
import Derived.Test.YtlpnobpgphmngabDoorPendCount
import Derived.Test.YtlpnobpgphmngabDoorWordLaid
import Derived.Deep.RegionHeld3
import Derived.Deep.Cut
import Derived.Deep.CutRange
namespace Go.Proofs.YtlpnobpgphmngabDoor
open Go.ChangeShapes Go.WideShapes Go.ChangeAt Go.RowKit
set_option linter.unusedVariables false
set_option linter.unusedSimpArgs false
/-- The program's pend in block b and the document's in block g. -/
structure PB (w wr : World) (b g k x t R m : Nat) : Prop where
  pend : IsPend wr b x t m
  ref : wr.heap[g]? = some (.cells (rp x R m) 30 (0, 0))
  below : Below w.heap.size w wr
  hb : w.heap.size ≤ b
  hg : w.heap.size ≤ g
  ne : b ≠ g
  lx : x < 4294967296
  lt : t ≤ k
  lm : m ≤ k
  cnt : R = t + popc x
section
variable {w wr w' : World} {b g k x t R m : Nat}
theorem PB.none (h : PB w wr b g k x t R m) (hk : Keeps (fun _ => False) wr w') : PB w w' b g k x t R m :=
  ⟨h.pend.keeps hk fun h => h, hk.at h.ref fun h => h, h.below.trans (hk.none.mono h.below.size), h.hb, h.hg, h.ne, h.lx, h.lt, h.lm, h.cnt⟩
/-- The program's has turned. -/
theorem PB.half (h : PB w wr b g k x t R m) (hk : Keeps (fun k => k = b) wr w') : Below w.heap.size w w' ∧ w'.heap[g]? = some (.cells (rp x R m) 30 (0, 0)) :=
  ⟨h.below.trans (hk.below h.below.size fun k _ e => by have := h.hb; omega), hk.at h.ref fun e => h.ne e.symm⟩
theorem PB.cr (h : PB w wr b g k x t R m) : wr.cell? ⟨g, 32, Option.none⟩ = some (.int .i64 (R : Int)) := (cell_of h.ref 32).trans (rp_r x R m)
theorem PB.cm (h : PB w wr b g k x t R m) : wr.cell? ⟨g, 33, Option.none⟩ = some (.int .i64 (m : Int)) := (cell_of h.ref 33).trans (rp_m x R m)
end
/-- Both have turned. -/
theorem PB.both {w w1 w2 : World} {b g k x t R m x' t' R' m' : Nat} {cs : Array Value} (hp : IsPend w1 b x' t' m') (hb1 : Below w.heap.size w w1) (hr : w1.heap[g]? = some (.cells cs 30 (0, 0))) (hs : cs.size = 34) (hk : Keeps (fun _ => False) w1 w2)
    (h : PB w w2 b g k x t R m ∨ (w.heap.size ≤ b ∧ w.heap.size ≤ g ∧ b ≠ g)) (hx : x' < 4294967296) (ht : t' ≤ k) (hm : m' ≤ k) (hc : R' = t' + popc x') :
    PB w (w2.setRow g (rp x' R' m')) b g k x' t' R' m' := by
  have hbg : w.heap.size ≤ b ∧ w.heap.size ≤ g ∧ b ≠ g := by
    rcases h with h | h
    · exact ⟨h.hb, h.hg, h.ne⟩
    · exact h
  obtain ⟨b1, b2, b3⟩ := hbg
  have h2 := hp.keeps hk fun h => h
  refine ⟨(setRow_other _ _ _ _ b3).trans h2, (setRow_heap _ _ _ _ _ _ (hk.at hr fun h => h)).trans rfl, ?_, b1, b2, b3, hx, ht, hm, hc⟩
  have k2 : Keeps (fun k => k = g) w2 (w2.setRow g (rp x' R' m')) := Keeps.setRow (S := fun k => k = g) (Keeps.refl _ _) (.inl rfl) _
  have b12 := hb1.trans (hk.none.mono hb1.size)
  exact b12.trans (k2.below b12.size fun k _ e => by omega)
def tpv (x : Nat) : Int := (Lib.bitLen x : Int) - 1
def abv (x : Nat) (l : Int) : Int := if l < (Lib.bitLen x : Int) - 1 then (Lib.bitLen x : Int) - 1 else -1
theorem pb_new (w : World) : PB w (((w.alloc (.cells #[.int .u32 0, .int .i64 0, .int .i64 0] 27)).alloc (.cells #[.bool false, .bool false, .bool false, .bool false, .bool false, .bool false, .bool false, .bool false, .bool false, .bool false, .bool false, .bool false, .bool false, .bool false, .bool false, .bool false, .bool false, .bool false, .bool false, .bool false, .bool false, .bool false, .bool false, .bool false, .bool false, .bool false, .bool false, .bool false, .bool false, .bool false, .bool false, .bool false, .int .i64 0, .int .i64 0] 30)).setRow (w.heap.size + 1) (rp 0 0 0)) w.heap.size (w.heap.size + 1) 0 0 0 0 0 := by
  have e := heap_new (w.alloc (.cells #[.int .u32 0, .int .i64 0, .int .i64 0] 27)) (.cells #[.bool false, .bool false, .bool false, .bool false, .bool false, .bool false, .bool false, .bool false, .bool false, .bool false, .bool false, .bool false, .bool false, .bool false, .bool false, .bool false, .bool false, .bool false, .bool false, .bool false, .bool false, .bool false, .bool false, .bool false, .bool false, .bool false, .bool false, .bool false, .bool false, .bool false, .bool false, .bool false, .int .i64 0, .int .i64 0] 30)
  rw [show (w.alloc (.cells #[.int .u32 0, .int .i64 0, .int .i64 0] 27)).heap.size = w.heap.size + 1 by simp] at e
  have k0 : Keeps (fun _ => False) w ((w.alloc (.cells #[.int .u32 0, .int .i64 0, .int .i64 0] 27)).alloc (.cells #[.bool false, .bool false, .bool false, .bool false, .bool false, .bool false, .bool false, .bool false, .bool false, .bool false, .bool false, .bool false, .bool false, .bool false, .bool false, .bool false, .bool false, .bool false, .bool false, .bool false, .bool false, .bool false, .bool false, .bool false, .bool false, .bool false, .bool false, .bool false, .bool false, .bool false, .bool false, .bool false, .int .i64 0, .int .i64 0] 30)) := ((Keeps.refl _ w).alloc _).alloc _
  exact PB.both (cs := #[.bool false, .bool false, .bool false, .bool false, .bool false, .bool false, .bool false, .bool false, .bool false, .bool false, .bool false, .bool false, .bool false, .bool false, .bool false, .bool false, .bool false, .bool false, .bool false, .bool false, .bool false, .bool false, .bool false, .bool false, .bool false, .bool false, .bool false, .bool false, .bool false, .bool false, .bool false, .bool false, .int .i64 0, .int .i64 0]) (x := 0) (t := 0) (R := 0) (m := 0) (heap_old (heap_new _ _) _) k0.none e rfl (Keeps.refl _ _) (.inr ⟨Nat.le_refl _, by omega, by omega⟩) (by omega) (by omega) (by omega) (by simp [popc_zero])
theorem tab_keeps {S : Nat → Prop} {g : Nat} {tab : List Nat} {w w' : World} (h : TabAt g tab w) (hg : g < w.heap.size) (hk : Keeps S w w') (hs : ¬ S g) : TabAt g tab w' := fun j hj => (World.cell?_of_block (w := w) (hk.block g hg hs)).trans (h j hj)
theorem ptop_tpv (b x t m : Nat) (w : World) (hx : x < 4294967296) (h : IsPend w b x t m) :
    Calls Tryd.prog 14 #[.pointer (some ⟨b, 0, none⟩)] w fun e w' => e = .returned (.int .i64 (tpv x)) ∧ w = w' := ptop_any b x t m w hx h
theorem rptop_tpv (x r m : Nat) (w : World) (hx : x < 4294967296) :
    Calls Tryd.prog 15 #[.agg (rp x r m)] w fun e w' => e = .returned (.int .i64 (tpv x)) ∧ Keeps (fun _ => False) w w' := rptop x r m w hx
theorem above_abv (b x t m : Nat) (l : Int) (w : World) (hx : x < 4294967296) (h : IsPend w b x t m) :
    Calls Tryd.prog 16 #[.pointer (some ⟨b, 0, none⟩), .int .i64 l] w fun e w' => e = .returned (.int .i64 (abv x l)) ∧ w = w' := above_any b x t m l w hx h
theorem rpabove_abv (x r m : Nat) (l : Int) (w : World) (hx : x < 4294967296) :
    Calls Tryd.prog 17 #[.agg (rp x r m), .int .i64 l] w fun e w' => e = .returned (.int .i64 (abv x l)) ∧ Keeps (fun _ => False) w w' := rpabove x r m l w hx
theorem yieldsIf_load_row {P : Program} {ops : Array Oper} {S : World → Prop} {op : Oper} {a : Act} (hw : Region.wanted op (yielded ops a.tmps) = true) (ty : TypeId) (x : Operand) (ho : op.op = .load ty x)
    (g : Nat) (hx : a.eval x = .pointer (some ⟨g, 0, none⟩)) (t : TypeId) (cs : Array Value) (fr : Nat × Nat) (d : TypeDesc) (hS : ∀ w, S w → w.heap[g]? = some (.cells cs t fr))
    (hu : P.underlying ty = some d) (hd : (match d with | .struct _ | .array _ _ => true | _ => false) = true) (hi : (P.info? ty).map (·.size) = some cs.size) : YieldsIf P ops S op (.agg cs) a :=
  .inl ⟨hw, fun w hw' => by
    unfold execOp
    simp only [ho, hx, Instr.loadAt, Instr.sureAddr, Sem.run_bind, Sem.run_pure, Result.andThen_ok, run_loadVar_row w g t ty cs fr d (hS w hw') hu hd hi]⟩
set_option maxRecDepth 20000 in
set_option maxHeartbeats 1000000 in
theorem pendPlays_plain (a0 : Option Addr) (n cap : Nat) (F : Nat → Int) (lv : Int) (w : World) (hn : n ≤ 100) (hr : Row w a0 n F) (hF : ∀ i, i < n → (Lit.int .i64 (F i)).wf = true)
    (hT : TabAt 0 Lib.deBruijn32tab w) (hg : 0 < w.heap.size) :
    Calls Tryd.prog 3 #[.slice a0 n cap, .int .i64 lv] w fun e w' => e = .returned (.bool true) ∧ Below w.heap.size w w' := by
  have hd : decide (100 < (n : Int)) = false := by simp; omega
  have HR := Lib.hid hr
  have HF := Lib.hid hF
  have HT := Lib.hid (And.intro hT hg)
  have HN := Lib.hid (pb_new w)
  have e0 := heap_new (w.alloc (.cells #[.int .u32 0, .int .i64 0, .int .i64 0] 27)) (.cells #[.bool false, .bool false, .bool false, .bool false, .bool false, .bool false, .bool false, .bool false, .bool false, .bool false, .bool false, .bool false, .bool false, .bool false, .bool false, .bool false, .bool false, .bool false, .bool false, .bool false, .bool false, .bool false, .bool false, .bool false, .bool false, .bool false, .bool false, .bool false, .bool false, .bool false, .bool false, .bool false, .int .i64 0, .int .i64 0] 30)
  rw [show (w.alloc (.cells #[.int .u32 0, .int .i64 0, .int .i64 0] 27)).heap.size = w.heap.size + 1 by simp] at e0
  have HE := Lib.hid e0
  clear hr hT hg hF e0
  go_enter Tryd.func3, Tryd.ntmps3
  go_wp2_with (refine wpList_store_row rfl 30 (.tmp 6) (.tmp 19) rfl (w.heap.size + 1) (rp 0 0 0) rfl rfl 30 _ HE.out (rp_info _ _ _) (by rw [rp_size]; rfl) (rp_one _ _ _) ?_)
  generalize hw0 : World.setRow _ _ _ = w0
  have P0 : Hid (PB w w0 w.heap.size (w.heap.size + 1) 0 0 0 0 0) := hw0 ▸ HN
  clear HN HE hw0
  obtain ⟨b, hb⟩ : ∃ b, b = w.heap.size := ⟨_, rfl⟩
  obtain ⟨g, hg⟩ : ∃ g, g = w.heap.size + 1 := ⟨_, rfl⟩
  rw [← hg, ← hb] at P0 ⊢
  clear hb hg
  go_loopw [7] (fun i wr => ∃ (k x t R m : Nat), k ≤ n ∧ i = .int .i64 k ∧ PB w wr b g k x t R m) (fun i _ => n - (intOf i).toNat)
  case atStart => exact ⟨0, 0, 0, 0, 0, by omega, rfl, P0.out⟩
  case round =>
    obtain ⟨k, x, t, R, m, hk, rfl, hB⟩ := hrel
    have HB := Lib.hid hB
    clear hB P0
    by_cases hlt : k < n
    · obtain ⟨bk, off, rfl, hbk, hc⟩ := (HR.out.below HB.out.below) (by omega)
      have hcell := hc k hlt
      have hwf := HF.out k hlt
      have hfb : -9223372036854775808 ≤ F k ∧ F k ≤ 9223372036854775807 := by simpa [Lit.wf, IntKind.min, IntKind.max, IntKind.signed, IntKind.bits] using hwf
      clear hc hwf
      have hx := HB.out.lx
      have htk := HB.out.lt
      have hmk := HB.out.lm
      have hpl := popc_le x
      have hRk : R ≤ k + 32 := by have := HB.out.cnt; omega
      have lg := lt_of HB.out.ref
      generalize hfk : F k = fk at *
      have HFK := Lib.hid hfk
      clear hfk
      go_upto_if 31 with (fail)
      go_cut [9, 10] from 26 to 51 (fun s9 s10 wx => ∃ (r : Bool) (x t R m : Nat), s9 = .bool r ∧ s10 = .bool r ∧ PB w wx b g (k + 1) x t R m)
      case first =>
        by_cases h0 : 0 ≤ fk
        · have hd0 : decide (0 ≤ fk) = true := by simp; exact h0
          by_cases hi : fk ≤ 31
          · obtain ⟨j, rfl⟩ := Int.eq_ofNat_of_zero_le h0
            have hj32 : j < 32 := by omega
            clear h0 hi hfb hd0
            have hd0 : decide (0 ≤ (j : Int)) = true := by simp
            cases hbit : x.testBit j
            · have HC := Lib.hid (raise_new b x t m j wr hx HB.out.pend hj32 hbit)
              have HBIT := Lib.hid hbit
              clear hbit
              go_wp2_with fail
              refine HC.out.mono ?_
              rintro e w1 ⟨rfl, p1, k1⟩
              have H1 := Lib.hid (And.intro p1 (HB.out.half k1).2)
              have B1 := Lib.hid (HB.out.half k1).1
              clear p1 k1 HC
              go_wp2_with (with_reducible refine wpList_load_row rfl 30 (.tmp 6) rfl g rfl 30 (rp x R m) (0, 0) _ H1.out.2 Tryd.underlying30 rfl (rp_info _ _ _) ?_)
              refine (rpraise_new x R m j _ hx (by omega) hj32 HBIT.out).mono ?_
              rintro e w2 ⟨rfl, k2⟩
              have H2 := Lib.hid (And.intro (k2.at H1.out.2 fun h => h) k2)
              clear k2
              go_wp2_with (refine wpList_store_row rfl 30 (.tmp 6) (.tmp 39) rfl g (rp (setB x j) (R + 1) m) rfl rfl 30 _ H2.out.1 (rp_info _ _ _) (by simp only [rp_size]) (rp_one _ _ _) ?_)
              go_meet
              exact ⟨true, setB x j, t, R + 1, m, rfl, rfl, PB.both (x := x) (t := t) (R := R) (m := m) H1.out.1 B1.out H1.out.2 (rp_size _ _ _) H2.out.2 (.inr ⟨HB.out.hb, HB.out.hg, HB.out.ne⟩) (setB_lt hx _) (by omega) (by omega) (by have := popc_set hj32 HBIT.out; have := HB.out.cnt; omega)⟩
            · have HC := Lib.hid (raise_had b x t m j wr hx (by omega) HB.out.pend hj32 hbit)
              have HBIT := Lib.hid hbit
              clear hbit
              go_wp2_with fail
              refine HC.out.mono ?_
              rintro e w1 ⟨rfl, p1, k1⟩
              have H1 := Lib.hid (And.intro p1 (HB.out.half k1).2)
              have B1 := Lib.hid (HB.out.half k1).1
              clear p1 k1 HC
              go_wp2_with (with_reducible refine wpList_load_row rfl 30 (.tmp 6) rfl g rfl 30 (rp x R m) (0, 0) _ H1.out.2 Tryd.underlying30 rfl (rp_info _ _ _) ?_)
              refine (rpraise_had x R m j _ (by omega) hj32 HBIT.out).mono ?_
              rintro e w2 ⟨rfl, k2⟩
              have H2 := Lib.hid (And.intro (k2.at H1.out.2 fun h => h) k2)
              clear k2
              go_wp2_with (refine wpList_store_row rfl 30 (.tmp 6) (.tmp 39) rfl g (rp x R (m + 1)) rfl rfl 30 _ H2.out.1 (rp_info _ _ _) (by simp only [rp_size]) (rp_one _ _ _) ?_)
              go_meet
              exact ⟨false, x, t, R, m + 1, rfl, rfl, PB.both (x := x) (t := t) (R := R) (m := m) H1.out.1 B1.out H1.out.2 (rp_size _ _ _) H2.out.2 (.inr ⟨HB.out.hb, HB.out.hg, HB.out.ne⟩) hx (by omega) (by omega) HB.out.cnt⟩
          · have hno : ¬ (0 ≤ fk ∧ fk ≤ 31) := fun h => hi h.2
            have HC := Lib.hid (raise_out b x t m (fk) wr HB.out.pend hno)
            have HNO := Lib.hid hno
            clear hno hi hfb
            go_wp2_with fail
            refine HC.out.mono ?_
            rintro e w1 ⟨rfl, rfl⟩
            have H1 := Lib.hid (And.intro HB.out.pend HB.out.ref)
            have B1 := Lib.hid HB.out.below
            clear HC
            go_wp2_with (with_reducible refine wpList_load_row rfl 30 (.tmp 6) rfl g rfl 30 (rp x R m) (0, 0) _ H1.out.2 Tryd.underlying30 rfl (rp_info _ _ _) ?_)
            refine (rpraise_out x R m _ _ HNO.out).mono ?_
            rintro e w2 ⟨rfl, k2⟩
            have H2 := Lib.hid (And.intro (k2.at H1.out.2 fun h => h) k2)
            clear k2
            go_wp2_with (refine wpList_store_row rfl 30 (.tmp 6) (.tmp 39) rfl g (rp x R m) rfl rfl 30 _ H2.out.1 (rp_info _ _ _) (by simp only [rp_size]) (rp_one _ _ _) ?_)
            go_meet
            exact ⟨false, x, t, R, m, rfl, rfl, PB.both (x := x) (t := t) (R := R) (m := m) H1.out.1 B1.out H1.out.2 (rp_size _ _ _) H2.out.2 (.inr ⟨HB.out.hb, HB.out.hg, HB.out.ne⟩) hx (by omega) (by omega) HB.out.cnt⟩
        · have hd0 : decide (0 ≤ fk) = false := by simp; omega
          by_cases hi : -32 ≤ fk
          · obtain ⟨j, hj⟩ : ∃ j : Nat, -1 - fk = (j : Int) := Int.eq_ofNat_of_zero_le (by omega)
            have hj32 : j < 32 := by omega
            have HJ := Lib.hid hj
            cases hbit : x.testBit j
            · have HBIT := Lib.hid hbit
              have HC := Lib.hid (take_no b x t m j wr hx HB.out.pend (by rw [hasB_nat hj32]; exact hbit))
              have HF1 := hj
              clear hbit h0 hi
              go_wp2_with fail
              refine HC.out.mono ?_
              rintro e w1 ⟨rfl, rfl⟩
              have H1 := Lib.hid (And.intro HB.out.pend HB.out.ref)
              have B1 := Lib.hid HB.out.below
              clear HC
              go_wp2_with (with_reducible refine wpList_load_row rfl 30 (.tmp 6) rfl g rfl 30 (rp x R m) (0, 0) _ H1.out.2 Tryd.underlying30 rfl (rp_info _ _ _) ?_)
              refine (rptake_no x R m j _ hj32 HBIT.out).mono ?_
              rintro e w2 ⟨rfl, k2⟩
              have H2 := Lib.hid (And.intro (k2.at H1.out.2 fun h => h) k2)
              clear k2
              go_wp2_with (refine wpList_store_row rfl 30 (.tmp 6) (.tmp 50) rfl g (rp x R m) rfl rfl 30 _ H2.out.1 (rp_info _ _ _) (by simp only [rp_size]) (rp_one _ _ _) ?_)
              go_meet
              exact ⟨false, x, t, R, m, rfl, rfl, PB.both (x := x) (t := t) (R := R) (m := m) H1.out.1 B1.out H1.out.2 (rp_size _ _ _) H2.out.2 (.inr ⟨HB.out.hb, HB.out.hg, HB.out.ne⟩) hx (by omega) (by omega) HB.out.cnt⟩
            · have HBIT := Lib.hid hbit
              have HC := Lib.hid (take_yes b x t m j wr hx (by omega) HB.out.pend (by rw [hasB_nat hj32]; exact hbit))
              have HF1 := hj
              clear hbit h0 hi
              go_wp2_with fail
              refine HC.out.mono ?_
              rintro e w1 ⟨rfl, p1, k1⟩
              have H1 := Lib.hid (And.intro p1 (HB.out.half k1).2)
              have B1 := Lib.hid (HB.out.half k1).1
              clear p1 k1 HC
              go_wp2_with (with_reducible refine wpList_load_row rfl 30 (.tmp 6) rfl g rfl 30 (rp x R m) (0, 0) _ H1.out.2 Tryd.underlying30 rfl (rp_info _ _ _) ?_)
              refine (rptake_yes x R m j _ hx hj32 HBIT.out).mono ?_
              rintro e w2 ⟨rfl, k2⟩
              have H2 := Lib.hid (And.intro (k2.at H1.out.2 fun h => h) k2)
              clear k2
              go_wp2_with (refine wpList_store_row rfl 30 (.tmp 6) (.tmp 50) rfl g (rp (clrB x j) R m) rfl rfl 30 _ H2.out.1 (rp_info _ _ _) (by simp only [rp_size]) (rp_one _ _ _) ?_)
              go_meet
              exact ⟨true, clrB x j, t + 1, R, m, rfl, rfl, PB.both (x := x) (t := t) (R := R) (m := m) H1.out.1 B1.out H1.out.2 (rp_size _ _ _) H2.out.2 (.inr ⟨HB.out.hb, HB.out.hg, HB.out.ne⟩) (clrB_lt hx _) (by omega) (by omega) (by have := popc_clr hx hj32 HBIT.out; have := HB.out.cnt; omega)⟩
          · obtain ⟨j, hj⟩ : ∃ j : Nat, -1 - fk = (j : Int) := Int.eq_ofNat_of_zero_le (by omega)
            have hj32 : 32 ≤ j := by omega
            have hno : ¬ ((0 : Int) ≤ (j : Int) ∧ (j : Int) ≤ 31) := by omega
            have HNO := Lib.hid hno
            have HC := Lib.hid (take_no b x t m j wr hx HB.out.pend (by unfold hasB; rw [decide_eq_false (by omega)]; rfl))
            have HF1 := hj
            clear hno h0 hi
            go_wp2_with fail
            refine HC.out.mono ?_
            rintro e w1 ⟨rfl, rfl⟩
            have H1 := Lib.hid (And.intro HB.out.pend HB.out.ref)
            have B1 := Lib.hid HB.out.below
            clear HC
            go_wp2_with (with_reducible refine wpList_load_row rfl 30 (.tmp 6) rfl g rfl 30 (rp x R m) (0, 0) _ H1.out.2 Tryd.underlying30 rfl (rp_info _ _ _) ?_)
            refine (rptake_out x R m _ _ HNO.out).mono ?_
            rintro e w2 ⟨rfl, k2⟩
            have H2 := Lib.hid (And.intro (k2.at H1.out.2 fun h => h) k2)
            clear k2
            go_wp2_with (refine wpList_store_row rfl 30 (.tmp 6) (.tmp 50) rfl g (rp x R m) rfl rfl 30 _ H2.out.1 (rp_info _ _ _) (by simp only [rp_size]) (rp_one _ _ _) ?_)
            go_meet
            exact ⟨false, x, t, R, m, rfl, rfl, PB.both (x := x) (t := t) (R := R) (m := m) H1.out.1 B1.out H1.out.2 (rp_size _ _ _) H2.out.2 (.inr ⟨HB.out.hb, HB.out.hg, HB.out.ne⟩) hx (by omega) (by omega) HB.out.cnt⟩
      case rest =>
        obtain ⟨r, x, t, R, m, rfl, rfl, hB⟩ := hcut
        have hc := pcount b x t m _ hB.lx (by have := hB.lt; omega) (lt_of hB.pend) (cell_of hB.pend 0) (cell_of hB.pend 1) (cell_of hB.pend 2) (tab_keeps HT.out.1 HT.out.2 (Keeps.ofBelow hB.below) fun h => h) (Nat.lt_of_lt_of_le HT.out.2 hB.below.size)
        rw [← hB.cnt] at hc
        have HC := Lib.hid hc
        have HB0 := Lib.hid hB
        clear hB hc HB
        go_wp2_with fail
        refine HC.out.mono ?_
        rintro e w1 ⟨rfl, k1⟩
        have HB := Lib.hid ((HB0.out.none k1).none (Keeps.refl _ _).drew)
        have hx2 := HB.out.lx
        have lg2 := lt_of (HB0.out.none k1).ref
        have x0 := HB.out.ref
        have x1 := HB.out.cr
        have x2 := HB.out.cm
        clear HB0 HC k1
        go_wp2_with fail
        refine wp_region_noPanic ?_
        refine wp_region_held_drew (S := fun w' => w'.heap[g]? = some (.cells (rp x R m) 30 (0, 0)) ∧ w'.cell? ⟨g, 32, none⟩ = some (.int .i64 (R : Int)) ∧ w'.cell? ⟨g, 33, none⟩ = some (.int .i64 (m : Int))) (by kernel_rfl) ?_ (fun hHeld => ?_)
        · exact ⟨HB.out.ref, HB.out.cr, HB.out.cm⟩
        refine wpAnyH_take (i := 0) (v := ?_) rfl (by kernel_rfl) (by kernel_rfl) (by kernel_rfl) (fun _ _ _ h => h) (Or.inl ⟨by rfl, ?_⟩) (by assumption) ?_
        rotate_left
        · (intro w hSw; (try dsimp only at hSw); go_simp; try with_reducible rfl)
        simp only [Act.put, List.getElem_toArray, List.getElem_cons_zero, List.getElem_cons_succ, List.setIfInBounds_toArray, List.set_cons_zero, List.set_cons_succ]
        refine wpAnyH_take (i := 1) (v := ?_) rfl (by kernel_rfl) (by kernel_rfl) (by kernel_rfl) (fun _ _ _ h => h) (Or.inl ⟨by rfl, ?_⟩) (by assumption) ?_
        rotate_left
        · (intro w hSw; (try dsimp only at hSw); go_simp; try with_reducible rfl)
        simp only [Act.put, List.getElem_toArray, List.getElem_cons_zero, List.getElem_cons_succ, List.setIfInBounds_toArray, List.set_cons_zero, List.set_cons_succ]
        refine wpAnyH_take (i := 2) (v := ?_) rfl (by kernel_rfl) (by kernel_rfl) (by kernel_rfl) (fun _ _ _ h => h) (Or.inl ⟨by rfl, ?_⟩) (by assumption) ?_
        rotate_left
        · (intro w hSw; (try dsimp only at hSw); go_simp; try with_reducible rfl)
        simp only [Act.put, List.getElem_toArray, List.getElem_cons_zero, List.getElem_cons_succ, List.setIfInBounds_toArray, List.set_cons_zero, List.set_cons_succ]
        refine wpAnyH_take (i := 3) (v := ?_) rfl (by kernel_rfl) (by kernel_rfl) (by kernel_rfl) (fun _ _ _ h => h) (Or.inl ⟨by rfl, ?_⟩) (by assumption) ?_
        rotate_left
        · (intro w hSw; (try dsimp only at hSw); go_simp; try with_reducible rfl)
        simp only [Act.put, List.getElem_toArray, List.getElem_cons_zero, List.getElem_cons_succ, List.setIfInBounds_toArray, List.set_cons_zero, List.set_cons_succ]
        refine wpAnyH_take (i := 4) (v := ?_) rfl (by kernel_rfl) (by kernel_rfl) (by kernel_rfl) (fun _ _ _ h => h) (Or.inl ⟨by rfl, ?_⟩) (by assumption) ?_
        rotate_left
        · (intro w hSw; (try dsimp only at hSw); go_simp; try with_reducible rfl)
        simp only [Act.put, List.getElem_toArray, List.getElem_cons_zero, List.getElem_cons_succ, List.setIfInBounds_toArray, List.set_cons_zero, List.set_cons_succ]
        refine wpAnyH_take (i := 6) (v := .agg (rp x R m)) rfl (by kernel_rfl) (by kernel_rfl) (by kernel_rfl) (fun _ _ _ h => h) (yieldsIf_load_row (by rfl) 30 _ rfl g rfl 30 (rp x R m) (0, 0) _ (fun w h => h.1) Tryd.underlying30 rfl (rp_info _ _ _)) (by assumption) ?_
        simp only [Act.put, List.getElem_toArray, List.getElem_cons_zero, List.getElem_cons_succ, List.setIfInBounds_toArray, List.set_cons_zero, List.set_cons_succ]
        refine wpAnyH_ready (rs := [5]) (by kernel_rfl) (by simp) ?_
        refine AllReadyH.cons rfl (fun K hK => ?_) AllReadyH.nil
        go_simp
        (go_at_call 12; refine (bits_of _ x t m _ HB.out.pend).mono ?_; rintro e w2 ⟨rfl, rfl⟩)
        go_wp2_with fail
        refine hK.out _ _ ?_ (fun hHeld => ?_)
        · ((try dsimp only); exact ⟨HB.out.ref, HB.out.cr, HB.out.cm⟩)
        clear hK K
        try simp only [Act.put, List.getElem_toArray, List.getElem_cons_zero, List.getElem_cons_succ, List.setIfInBounds_toArray, List.set_cons_zero, List.set_cons_succ]
        refine wpAnyH_ready (rs := [7]) (by kernel_rfl) (by simp) ?_
        refine AllReadyH.cons rfl (fun K hK => ?_) AllReadyH.nil
        go_simp
        (go_at_call 13; refine (rpbits x R m _ hx2).mono ?_; rintro e w2 ⟨rfl, k2⟩; replace HB := Lib.hid (HB.out.none k2); clear k2)
        go_wp2_with fail
        refine hK.out _ _ ?_ (fun hHeld => ?_)
        · ((try dsimp only); exact ⟨HB.out.ref, HB.out.cr, HB.out.cm⟩)
        clear hK K
        try simp only [Act.put, List.getElem_toArray, List.getElem_cons_zero, List.getElem_cons_succ, List.setIfInBounds_toArray, List.set_cons_zero, List.set_cons_succ]
        refine wpAnyH_take (i := 8) (v := ?_) rfl (by kernel_rfl) (by kernel_rfl) (by kernel_rfl) (fun _ _ _ h => h) (Or.inl ⟨by rfl, ?_⟩) (by assumption) ?_
        rotate_left
        · (intro w hSw; (try dsimp only at hSw); go_simp; try with_reducible rfl)
        simp only [Act.put, List.getElem_toArray, List.getElem_cons_zero, List.getElem_cons_succ, List.setIfInBounds_toArray, List.set_cons_zero, List.set_cons_succ]
        refine wpAnyH_take (i := 9) (v := ?_) rfl (by kernel_rfl) (by kernel_rfl) (by kernel_rfl) (fun _ _ _ h => h) (Or.inl ⟨by rfl, ?_⟩) (by assumption) ?_
        rotate_left
        · (intro w hSw; (try dsimp only at hSw); go_simp; try with_reducible rfl)
        simp only [Act.put, List.getElem_toArray, List.getElem_cons_zero, List.getElem_cons_succ, List.setIfInBounds_toArray, List.set_cons_zero, List.set_cons_succ]
        refine wpAnyH_take (i := 10) (v := ?_) rfl (by kernel_rfl) (by kernel_rfl) (by kernel_rfl) (fun _ _ _ h => h) (Or.inl ⟨by rfl, ?_⟩) (by assumption) ?_
        rotate_left
        · (intro w hSw; (try dsimp only at hSw); go_simp; try with_reducible rfl)
        simp only [Act.put, List.getElem_toArray, List.getElem_cons_zero, List.getElem_cons_succ, List.setIfInBounds_toArray, List.set_cons_zero, List.set_cons_succ]
        refine wpAnyH_take (i := 11) (v := ?_) rfl (by kernel_rfl) (by kernel_rfl) (by kernel_rfl) (fun _ _ _ h => h) (Or.inl ⟨by rfl, ?_⟩) (by assumption) ?_
        rotate_left
        · (intro w hSw; (try dsimp only at hSw); go_simp; try with_reducible rfl)
        simp only [Act.put, List.getElem_toArray, List.getElem_cons_zero, List.getElem_cons_succ, List.setIfInBounds_toArray, List.set_cons_zero, List.set_cons_succ]
        refine wpAnyH_take (i := 13) (v := .agg (rp x R m)) rfl (by kernel_rfl) (by kernel_rfl) (by kernel_rfl) (fun _ _ _ h => h) (yieldsIf_load_row (by rfl) 30 _ rfl g rfl 30 (rp x R m) (0, 0) _ (fun w h => h.1) Tryd.underlying30 rfl (rp_info _ _ _)) (by assumption) ?_
        simp only [Act.put, List.getElem_toArray, List.getElem_cons_zero, List.getElem_cons_succ, List.setIfInBounds_toArray, List.set_cons_zero, List.set_cons_succ]
        refine wpAnyH_ready (rs := [12]) (by kernel_rfl) (by simp) ?_
        refine AllReadyH.cons rfl (fun K hK => ?_) AllReadyH.nil
        go_simp
        (go_at_call 14; refine (ptop_tpv _ x t m _ hx2 HB.out.pend).mono ?_; rintro e w2 ⟨rfl, rfl⟩)
        go_wp2_with fail
        refine hK.out _ _ ?_ (fun hHeld => ?_)
        · ((try dsimp only); exact ⟨HB.out.ref, HB.out.cr, HB.out.cm⟩)
        clear hK K
        try simp only [Act.put, List.getElem_toArray, List.getElem_cons_zero, List.getElem_cons_succ, List.setIfInBounds_toArray, List.set_cons_zero, List.set_cons_succ]
        refine wpAnyH_ready (rs := [14]) (by kernel_rfl) (by simp) ?_
        refine AllReadyH.cons rfl (fun K hK => ?_) AllReadyH.nil
        go_simp
        (go_at_call 15; refine (rptop_tpv x R m _ hx2).mono ?_; rintro e w2 ⟨rfl, k2⟩; replace HB := Lib.hid (HB.out.none k2); clear k2)
        go_wp2_with fail
        refine hK.out _ _ ?_ (fun hHeld => ?_)
        · ((try dsimp only); exact ⟨HB.out.ref, HB.out.cr, HB.out.cm⟩)
        clear hK K
        try simp only [Act.put, List.getElem_toArray, List.getElem_cons_zero, List.getElem_cons_succ, List.setIfInBounds_toArray, List.set_cons_zero, List.set_cons_succ]
        refine wpAnyH_take (i := 15) (v := ?_) rfl (by kernel_rfl) (by kernel_rfl) (by kernel_rfl) (fun _ _ _ h => h) (Or.inl ⟨by rfl, ?_⟩) (by assumption) ?_
        rotate_left
        · (intro w hSw; (try dsimp only at hSw); go_simp; try with_reducible rfl)
        simp only [Act.put, List.getElem_toArray, List.getElem_cons_zero, List.getElem_cons_succ, List.setIfInBounds_toArray, List.set_cons_zero, List.set_cons_succ]
        refine wpAnyH_take (i := 16) (v := ?_) rfl (by kernel_rfl) (by kernel_rfl) (by kernel_rfl) (fun _ _ _ h => h) (Or.inl ⟨by rfl, ?_⟩) (by assumption) ?_
        rotate_left
        · (intro w hSw; (try dsimp only at hSw); go_simp; try with_reducible rfl)
        simp only [Act.put, List.getElem_toArray, List.getElem_cons_zero, List.getElem_cons_succ, List.setIfInBounds_toArray, List.set_cons_zero, List.set_cons_succ]
        refine wpAnyH_take (i := 17) (v := ?_) rfl (by kernel_rfl) (by kernel_rfl) (by kernel_rfl) (fun _ _ _ h => h) (Or.inl ⟨by rfl, ?_⟩) (by assumption) ?_
        rotate_left
        · (intro w hSw; (try dsimp only at hSw); go_simp; try with_reducible rfl)
        simp only [Act.put, List.getElem_toArray, List.getElem_cons_zero, List.getElem_cons_succ, List.setIfInBounds_toArray, List.set_cons_zero, List.set_cons_succ]
        refine wpAnyH_take (i := 18) (v := ?_) rfl (by kernel_rfl) (by kernel_rfl) (by kernel_rfl) (fun _ _ _ h => h) (Or.inl ⟨by rfl, ?_⟩) (by assumption) ?_
        rotate_left
        · (intro w hSw; (try dsimp only at hSw); go_simp; try with_reducible rfl)
        simp only [Act.put, List.getElem_toArray, List.getElem_cons_zero, List.getElem_cons_succ, List.setIfInBounds_toArray, List.set_cons_zero, List.set_cons_succ]
        refine wpAnyH_take (i := 19) (v := ?_) rfl (by kernel_rfl) (by kernel_rfl) (by kernel_rfl) (fun _ _ _ h => h) (Or.inl ⟨by rfl, ?_⟩) (by assumption) ?_
        rotate_left
        · (intro w hSw; (try dsimp only at hSw); go_simp; try with_reducible rfl)
        simp only [Act.put, List.getElem_toArray, List.getElem_cons_zero, List.getElem_cons_succ, List.setIfInBounds_toArray, List.set_cons_zero, List.set_cons_succ]
        refine wpAnyH_take (i := 21) (v := .agg (rp x R m)) rfl (by kernel_rfl) (by kernel_rfl) (by kernel_rfl) (fun _ _ _ h => h) (yieldsIf_load_row (by rfl) 30 _ rfl g rfl 30 (rp x R m) (0, 0) _ (fun w h => h.1) Tryd.underlying30 rfl (rp_info _ _ _)) (by assumption) ?_
        simp only [Act.put, List.getElem_toArray, List.getElem_cons_zero, List.getElem_cons_succ, List.setIfInBounds_toArray, List.set_cons_zero, List.set_cons_succ]
        refine wpAnyH_take (i := 22) (v := ?_) rfl (by kernel_rfl) (by kernel_rfl) (by kernel_rfl) (fun _ _ _ h => h) (Or.inl ⟨by rfl, ?_⟩) (by assumption) ?_
        rotate_left
        · (intro w hSw; (try dsimp only at hSw); go_simp; try with_reducible rfl)
        simp only [Act.put, List.getElem_toArray, List.getElem_cons_zero, List.getElem_cons_succ, List.setIfInBounds_toArray, List.set_cons_zero, List.set_cons_succ]
        refine wpAnyH_ready (rs := [20]) (by kernel_rfl) (by simp) ?_
        refine AllReadyH.cons rfl (fun K hK => ?_) AllReadyH.nil
        go_simp
        (go_at_call 16; refine (above_abv _ x t m _ _ hx2 HB.out.pend).mono ?_; rintro e w2 ⟨rfl, rfl⟩)
        go_wp2_with fail
        refine hK.out _ _ ?_ (fun hHeld => ?_)
        · ((try dsimp only); exact ⟨HB.out.ref, HB.out.cr, HB.out.cm⟩)
        clear hK K
        try simp only [Act.put, List.getElem_toArray, List.getElem_cons_zero, List.getElem_cons_succ, List.setIfInBounds_toArray, List.set_cons_zero, List.set_cons_succ]
        refine wpAnyH_ready (rs := [23]) (by kernel_rfl) (by simp) ?_
        refine AllReadyH.cons rfl (fun K hK => ?_) AllReadyH.nil
        go_simp
        (go_at_call 17; refine (rpabove_abv x R m _ _ hx2).mono ?_; rintro e w2 ⟨rfl, k2⟩; replace HB := Lib.hid (HB.out.none k2); clear k2)
        go_wp2_with fail
        refine hK.out _ _ ?_ (fun hHeld => ?_)
        · ((try dsimp only); exact ⟨HB.out.ref, HB.out.cr, HB.out.cm⟩)
        clear hK K
        try simp only [Act.put, List.getElem_toArray, List.getElem_cons_zero, List.getElem_cons_succ, List.setIfInBounds_toArray, List.set_cons_zero, List.set_cons_succ]
        refine wpAnyH_take (i := 24) (v := ?_) rfl (by kernel_rfl) (by kernel_rfl) (by kernel_rfl) (fun _ _ _ h => h) (Or.inl ⟨by rfl, ?_⟩) (by assumption) ?_
        rotate_left
        · (intro w hSw; (try dsimp only at hSw); go_simp; try with_reducible rfl)
        simp only [Act.put, List.getElem_toArray, List.getElem_cons_zero, List.getElem_cons_succ, List.setIfInBounds_toArray, List.set_cons_zero, List.set_cons_succ]
        refine wpAnyH_take (i := 25) (v := ?_) rfl (by kernel_rfl) (by kernel_rfl) (by kernel_rfl) (fun _ _ _ h => h) (Or.inl ⟨by rfl, ?_⟩) (by assumption) ?_
        rotate_left
        · (intro w hSw; (try dsimp only at hSw); go_simp; try with_reducible rfl)
        simp only [Act.put, List.getElem_toArray, List.getElem_cons_zero, List.getElem_cons_succ, List.setIfInBounds_toArray, List.set_cons_zero, List.set_cons_succ]
        refine wpAnyH_take (i := 26) (v := ?_) rfl (by kernel_rfl) (by kernel_rfl) (by kernel_rfl) (fun _ _ _ h => h) (Or.inl ⟨by rfl, ?_⟩) (by assumption) ?_
        rotate_left
        · (intro w hSw; (try dsimp only at hSw); go_simp; try with_reducible rfl)
        simp only [Act.put, List.getElem_toArray, List.getElem_cons_zero, List.getElem_cons_succ, List.setIfInBounds_toArray, List.set_cons_zero, List.set_cons_succ]
        refine wpAnyH_take (i := 27) (v := ?_) rfl (by kernel_rfl) (by kernel_rfl) (by kernel_rfl) (fun _ _ _ h => h) (Or.inl ⟨by rfl, ?_⟩) (by assumption) ?_
        rotate_left
        · (intro w hSw; (try dsimp only at hSw); go_simp; try with_reducible rfl)
        simp only [Act.put, List.getElem_toArray, List.getElem_cons_zero, List.getElem_cons_succ, List.setIfInBounds_toArray, List.set_cons_zero, List.set_cons_succ]
        refine wpAnyH_take (i := 28) (v := ?_) rfl (by kernel_rfl) (by kernel_rfl) (by kernel_rfl) (fun _ _ _ h => h) (Or.inl ⟨by rfl, ?_⟩) (by assumption) ?_
        rotate_left
        · (intro w hSw; (try dsimp only at hSw); go_simp; try with_reducible rfl)
        simp only [Act.put, List.getElem_toArray, List.getElem_cons_zero, List.getElem_cons_succ, List.setIfInBounds_toArray, List.set_cons_zero, List.set_cons_succ]
        refine wpAnyH_take (i := 29) (v := ?_) rfl (by kernel_rfl) (by kernel_rfl) (by kernel_rfl) (fun _ _ _ h => h) (Or.inl ⟨by rfl, ?_⟩) (by assumption) ?_
        rotate_left
        · (intro w hSw; (try dsimp only at hSw); go_simp; try with_reducible rfl)
        simp only [Act.put, List.getElem_toArray, List.getElem_cons_zero, List.getElem_cons_succ, List.setIfInBounds_toArray, List.set_cons_zero, List.set_cons_succ]
        refine wpAnyH_take (i := 30) (v := ?_) rfl (by kernel_rfl) (by kernel_rfl) (by kernel_rfl) (fun _ _ _ h => h) (Or.inl ⟨by rfl, ?_⟩) (by assumption) ?_
        rotate_left
        · (intro w hSw; (try dsimp only at hSw); go_simp; try with_reducible rfl)
        simp only [Act.put, List.getElem_toArray, List.getElem_cons_zero, List.getElem_cons_succ, List.setIfInBounds_toArray, List.set_cons_zero, List.set_cons_succ]
        refine wpAnyH_take (i := 31) (v := ?_) rfl (by kernel_rfl) (by kernel_rfl) (by kernel_rfl) (fun _ _ _ h => h) (Or.inl ⟨by rfl, ?_⟩) (by assumption) ?_
        rotate_left
        · (intro w hSw; (try dsimp only at hSw); go_simp; try with_reducible rfl)
        simp only [Act.put, List.getElem_toArray, List.getElem_cons_zero, List.getElem_cons_succ, List.setIfInBounds_toArray, List.set_cons_zero, List.set_cons_succ]
        refine wpAnyH_take (i := 32) (v := ?_) rfl (by kernel_rfl) (by kernel_rfl) (by kernel_rfl) (fun _ _ _ h => h) (Or.inl ⟨by rfl, ?_⟩) (by assumption) ?_
        rotate_left
        · (intro w hSw; (try dsimp only at hSw); go_simp; try with_reducible rfl)
        simp only [Act.put, List.getElem_toArray, List.getElem_cons_zero, List.getElem_cons_succ, List.setIfInBounds_toArray, List.set_cons_zero, List.set_cons_succ]
        refine wpAnyH_take (i := 33) (v := ?_) rfl (by kernel_rfl) (by kernel_rfl) (by kernel_rfl) (fun _ _ _ h => h) (Or.inl ⟨by rfl, ?_⟩) (by assumption) ?_
        rotate_left
        · (intro w hSw; (try dsimp only at hSw); go_simp; try with_reducible rfl)
        simp only [Act.put, List.getElem_toArray, List.getElem_cons_zero, List.getElem_cons_succ, List.setIfInBounds_toArray, List.set_cons_zero, List.set_cons_succ]
        refine wpAnyH_take (i := 34) (v := ?_) rfl (by kernel_rfl) (by kernel_rfl) (by kernel_rfl) (fun _ _ _ h => h) (Or.inl ⟨by rfl, ?_⟩) (by assumption) ?_
        rotate_left
        · (intro w hSw; (try dsimp only at hSw); go_simp; try with_reducible rfl)
        simp only [Act.put, List.getElem_toArray, List.getElem_cons_zero, List.getElem_cons_succ, List.setIfInBounds_toArray, List.set_cons_zero, List.set_cons_succ]
        refine wpAnyH_take (i := 35) (v := ?_) rfl (by kernel_rfl) (by kernel_rfl) (by kernel_rfl) (fun _ _ _ h => h) (Or.inl ⟨by rfl, ?_⟩) (by assumption) ?_
        rotate_left
        · (intro w hSw; (try dsimp only at hSw); go_simp; try with_reducible rfl)
        simp only [Act.put, List.getElem_toArray, List.getElem_cons_zero, List.getElem_cons_succ, List.setIfInBounds_toArray, List.set_cons_zero, List.set_cons_succ]
        refine wpAnyH_take (i := 36) (v := ?_) rfl (by kernel_rfl) (by kernel_rfl) (by kernel_rfl) (fun _ _ _ h => h) (Or.inl ⟨by rfl, ?_⟩) (by assumption) ?_
        rotate_left
        · (intro w hSw; (try dsimp only at hSw); go_simp; try with_reducible rfl)
        simp only [Act.put, List.getElem_toArray, List.getElem_cons_zero, List.getElem_cons_succ, List.setIfInBounds_toArray, List.set_cons_zero, List.set_cons_succ]
        refine wpAnyH_take (i := 37) (v := ?_) rfl (by kernel_rfl) (by kernel_rfl) (by kernel_rfl) (fun _ _ _ h => h) (Or.inl ⟨by rfl, ?_⟩) (by assumption) ?_
        rotate_left
        · (intro w hSw; (try dsimp only at hSw); go_simp; try with_reducible rfl)
        simp only [Act.put, List.getElem_toArray, List.getElem_cons_zero, List.getElem_cons_succ, List.setIfInBounds_toArray, List.set_cons_zero, List.set_cons_succ]
        refine wpAnyH_done (by kernel_rfl) ?_ _
        refine NoPanic.normal ?_
        go_wp2_with fail
        go_roundw
        case rel => exact ⟨k + 1, x, t, R, m, by omega, by go_num, HB.out⟩
        case measure => simp [intOf]; omega
    · obtain rfl : k = n := by omega
      go_wp2_with fail
      refine (alive07_any _).mono ?_
      rintro e w6 ⟨rfl, hb⟩
      go_wp2
      go_ret
      exact ⟨rfl, HB.out.below.trans (hb.mono HB.out.below.size)⟩
set_option maxRecDepth 20000 in
theorem pendPlays_large (a0 : Option Addr) (n cap : Nat) (lv : Int) (w : World) (hm : n ≤ maxLen) (hn : 100 < n) :
    Calls Tryd.prog 3 #[.slice a0 n cap, .int .i64 lv] w fun e w' => e = .returned (.bool true) ∧ Below w.heap.size w w' := by
  unfold maxLen at hm
  have hd : decide (100 < (n : Int)) = true := by simp; omega
  go_enter Tryd.func3, Tryd.ntmps3
  go_wp2_with fail
  refine (alive07_any _).mono ?_
  rintro e w13 ⟨rfl, hb⟩
  go_wp2
  go_ret
  exact ⟨rfl, hb⟩
def pendPlaysLaid := tabLaid
theorem pendPlays_walk {H : Type} {enc : TypeId × Value → H} (W : World) (base : Nat) {v0 v1 : Value} {d0 d1 : DataW H} {p0 p1 : List MemPlace}
    (k0 : Value.okWide Tryd.prog W .any base 22 v0) (h0 : DataW.Trod enc Tryd.prog W 0 (fun _ => true) true 22 v0 d0 p0)
    (k1 : Value.okWide Tryd.prog W .any base 3 v1) (h1 : DataW.Trod enc Tryd.prog W 0 (fun _ => true) true 3 v1 d1 p1)
    (hL : laidMetH Tryd.prog pendPlaysLaid W) :
    Calls Tryd.prog 3 #[v0, v1] W fun e w' => e = .returned (.bool true) ∧ Below W.heap.size W w' := by
  obtain ⟨hT, hg⟩ := tab_of hL
  obtain ⟨a, n, cap, F, rfl, hm, hr, hF⟩ := row_of k0 h0
  obtain ⟨k, rfl⟩ := okWide_int Tryd.underlying3 k1
  by_cases hn : n ≤ 100
  · exact pendPlays_plain a n cap F k W hn hr hF hT hg
  · exact pendPlays_large a n cap k W hm (by omega)
end Go.Proofs.YtlpnobpgphmngabDoor
