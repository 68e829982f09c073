import Derived.Test.YtohajfkekkelhaaDoorRows
import Derived.Test.YtohajfkekkelhaaDoorWordMath
import Derived.Test.YtohajfkekkelhaaDoorRet
import Derived.Test.YtohajfkekkelhaaDoorRow
import Derived.Test.YtohajfkekkelhaaDoorAgain
import Derived.WalkKit
import Derived.ProofKit
import Derived.OpenShut
import Derived.WalkLawsBesides
import Derived.WalkSpells
import Derived.Lib.Hide
import Derived.Lib.TrailingZeros
import Derived.Shelf.Spec.TrailingZeros
import Derived.Outline
import Derived.Laws.BitsAllLaws
import Derived.Laws.ShiftsVarLaws
import Derived.Deep.QuietTactic
import Derived.BigQuiet
import Derived.Laws.AppendOwn
import Derived.Deep.RegionLaw
import Derived.Deep.RegionWith
import Derived.Handy
import Derived.Test.YtohajfkekkelhaaDoorLinAz
import Derived.Test.YtohajfkekkelhaaDoorRowV
import Derived.Deep.AppendLies
import Derived.Laws.OwnMore
import Derived.Test.YtohajfkekkelhaaDoorHas
import Derived.Maps.AppendAt
namespace Go.Proofs.YtohajfkekkelhaaDoor
open Go.ChangeShapes Go.WideShapes Go.ChangeAt Go.RowKit
set_option linter.unusedVariables false
theorem bit_any (i : Int) (w : World) :
    Calls Tryd.prog 35 #[.int .i64 i] w fun e w' => e = .returned (.int .u32 (bitW i)) ∧ w = w' := by
  by_cases h0 : i < 0
  · go_enter Tryd.func35, Tryd.ntmps35
    go_wp2
    go_ret
    exact ⟨ret_u32 (by rw [bitW, if_neg (by omega)]; rfl), rfl⟩
  · by_cases h1 : 32 ≤ i
    · go_enter Tryd.func35, Tryd.ntmps35
      go_wp2
      go_ret
      exact ⟨ret_u32 (by rw [bitW, if_neg (by omega)]; rfl), rfl⟩
    · have h2 : 0 ≤ i := by omega
      have h3 : i < 32 := by omega
      go_enter Tryd.func35, Tryd.ntmps35
      go_wp2
      go_ret
      refine ⟨ret_u32 ?_, rfl⟩
      have hp : 2 ^ i.toNat < 2 ^ 32 := Nat.pow_lt_pow_right (by omega) (by omega)
      have e : ((2 : Int) ^ i.toNat) = ((2 ^ i.toNat : Nat) : Int) := by simp
      rw [bitW, if_pos ⟨h2, h3⟩, e]
      have e2 : (2 : Nat) ^ 32 = 4294967296 := rfl
      generalize 2 ^ i.toNat = z at *
      omega
theorem with_any (x : Nat) (i : Int) (w : World) (hx : x < 4294967296) :
    Calls Tryd.prog 19 #[.int .u32 x, .int .i64 i] w fun e w' => e = .returned (.int .u32 (setB x i)) ∧ w = w' := by
  have e : bits .or .u32 (x : Int) (bitW i : Int) = ((x ||| bitW i : Nat) : Int) := u32_or_nat _ _ hx (bitW_lt i)
  go_enter Tryd.func19, Tryd.ntmps19
  go_wp2_with fail
  refine (bit_any _ _).mono ?_
  rintro e w' ⟨rfl, rfl⟩
  go_wp2
  go_ret
  exact ⟨rfl, rfl⟩
theorem tz_core (x k idx : Nat) (w : World) (hx0 : ((x : Int) == 0) = false)
    (key : bits BinOp.and IntKind.u32 (x : Int) (-(x : Int) % 4294967296) * 125613361 % 4294967296 / 134217728 = (idx : Int))
    (hi : idx < 32) (hk : k < 32) (hcell : w.cell? ⟨0, idx, none⟩ = some (.int .u8 k)) :
    Calls Tryd.prog 61 #[.int .u32 x] w fun e w' => e = .returned (.int .i64 k) ∧ w = w' := by
  go_enter Tryd.func61, Tryd.ntmps61
  go_wp2_with (simp only [key])
  go_ret
  exact ⟨rfl, rfl⟩
theorem low_any (x : Nat) (w : World) (hx : x < 4294967296) (h0 : x ≠ 0) (hT : TabAt 0 Lib.deBruijn32tab w) :
    Calls Tryd.prog 44 #[.int .u32 x] w fun e w' => e = .returned (.int .i64 (Lib.ctz 32 x)) ∧ w = w' := by
  obtain ⟨hlow, hk⟩ := Lib.lowest_bit 32 x h0 hx
  obtain ⟨hi, htab⟩ := Lib.deBruijn32_at _ hk
  have hcell := hT _ hi
  rw [htab] at hcell
  have hz : ((x : Int) == 0) = false := by simp; omega
  have H := Lib.hid (tz_core x _ _ w hz (tz32_key x _ hx h0 hlow) hi hk hcell)
  clear hlow hi htab hcell hT
  go_enter Tryd.func44, Tryd.ntmps44
  go_wp2_with fail
  refine H.out.mono ?_
  rintro e w' ⟨rfl, rfl⟩
  go_wp2
  go_ret
  exact ⟨rfl, rfl⟩
/-- Numbers as cells. -/
def ints (l : List Nat) : List Value := l.map fun n : Nat => Value.int .i64 (n : Int)
theorem tabAt_below {B g : Nat} {tab : List Nat} {w w' : World} (h : TabAt g tab w) (hb : Below B w w') (hg : g < B) : TabAt g tab w' := fun j hj => (hb.cell (p := ⟨g, j, none⟩) hg).trans (h j hj)
theorem Tryd.info3 : (Tryd.prog.info? 3).map (fun i => (i.zero, i.size, i.bytes)) = some (some (.int .i64 0), 1, 8) := by kernel_rfl
theorem list_any (x : Nat) (w : World) (hx : x < 4294967296) (hT : TabAt 0 Lib.deBruijn32tab w) (hg : 0 < w.heap.size) :
    Calls Tryd.prog 31 #[.int .u32 x] w fun e w' => ∃ v, e = .returned v ∧ w'.ownsRow w.heap.size 3 1 v (bitsL x).length (ints (bitsL x)) ∧ Below w.heap.size w w' := by
  go_enter Tryd.func31, Tryd.ntmps31
  go_wp2
  refine wp_scope_again 0 (fun a' w' => ∃ (y : Nat) (v : Value) (done : List Nat) (u4 u5 u6 u7 u8 u9 u10 u11 u12 u13 u14 u15 : Value), a' = { tmps := #[.int .u32 y, undef, .slice none 0 0, v, u4, u5, u6, u7, u8, u9, u10, u11, u12, u13, u14, u15], defers := [] } ∧ y < 4294967296 ∧ w'.ownsRow w.heap.size 3 1 v done.length (ints done) ∧ Below w.heap.size w w' ∧ done ++ bitsL y = bitsL x)
    (fun a _ => (intOf (a.tmps.getD 0 undef)).toNat) rfl ?_ ?_
  · rintro a' w' ⟨y, v, done, u4, u5, u6, u7, u8, u9, u10, u11, u12, u13, u14, u15, rfl, hy, hown, hb, hd⟩
    by_cases h0 : y = 0
    · subst h0
      rw [bitsL_zero, List.append_nil] at hd
      go_wp2
      simp only [Exit.jump]
      go_ret
      subst hd
      exact ⟨v, rfl, hown, hb⟩
    · have hz : ((y : Int) == 0) = false := by simp; omega
      have hc := bitsL_cons hy h0
      have hand : bits .and .u32 (y : Int) ((y : Int) - 1) = ((y &&& (y - 1) : Nat) : Int) := by
        rw [show (y : Int) - 1 = ((y - 1 : Nat) : Int) by omega]
        exact u32_and_nat _ _ hy (by omega)
      have hl : done.length ≤ 32 := by
        have h1 := bitsL_len x
        rw [← hd, List.length_append] at h1
        omega
      have hle : y &&& (y - 1) < y := by
        have : y &&& (y - 1) ≤ y - 1 := Nat.and_le_right
        omega
      have y1 : 1 ≤ (y : Int) := by omega
      have HL := Lib.hid (low_any y w' hy h0 (tabAt_below hT hb hg))
      have HC := Lib.hid hc
      have HD := Lib.hid hd
      have hsz := hb.size
      obtain ⟨i0, hi, hz0, hz1, hz2⟩ := info_parts Tryd.info3
      clear hc hd
      go_wp2_with fail
      refine HL.out.mono ?_
      rintro e w1 ⟨rfl, rfl⟩
      go_wp2_with (at_builtin; refine wpList_append_own _ rfl (.tmp 7) (.tmp 10) 26 rfl w.heap.size 3 i0 (.int .i64 0) 1 8 Tryd.underlying26 hi hz0 hz1 hz2 rfl (by decide) _ _ _ rfl (hown.alloc _) ⟨w'.heap.size, 0, none⟩ 1 1 [.int .i64 (Lib.ctz 32 y)] rfl rfl ?c1 ?c2 ?c3 ?c4 ?c5 ?_)
      case c1 => exact new_one _ _ _
      case c2 => simp [Value.oneCell']
      case c3 => unfold maxLen; omega
      case c4 => omega
      case c5 => simp; omega
      intro v' w2 hown2 hgrow _
      have hb2 := (hb.alloc hb.size (.cells #[Value.int .i64 (Lib.ctz 32 y)] 3)).grown hgrow (by simp; omega) (fun k hk => (hown.lt k hk).1)
      have hown3 : w2.ownsRow w.heap.size 3 1 v' (done ++ [Lib.ctz 32 y]).length (ints (done ++ [Lib.ctz 32 y])) := by
        simpa [ints] using hown2
      have hd2 : (done ++ [Lib.ctz 32 y]) ++ bitsL (y &&& (y - 1)) = bitsL x := by
        rw [← HD.out, HC.out]; simp
      have HD2 := Lib.hid hd2
      clear hd2 hgrow hown2 hown HL HC 
      go_wp2
      go_step3
      refine ⟨rfl, ⟨y &&& (y - 1), v', done ++ [Lib.ctz 32 y], _, _, _, _, _, _, _, _, _, _, _, _, rfl, low_and_lt hy, hown3, hb2, HD2.out⟩, ?_⟩
      simp [intOf]
      omega
  · intro hpass
    go_wp2
    go_step3
    rename_i K hK
    exact hK _ _ <| hpass _ _ ⟨x, _, [], _, _, _, _, _, _, _, _, _, _, _, _, rfl, hx, World.ownsRow_nil _ _ _ _, Below.refl _ _, rfl⟩
theorem maskN (n : Nat) (hn : n ≤ 24) (w : World) :
    Calls Tryd.prog 23 #[.int .i64 (n : Int)] w fun e w' => e = .returned (.int .u32 ((2 ^ n - 1 : Nat) : Int)) ∧ w = w' := by
  have h1 : max (n : Int) 0 = (n : Int) := by omega
  have h2 : min (n : Int) 32 = (n : Int) := by omega
  have h3 : ¬ (n : Int) < 0 := by omega
  have h4 : (n : Int) < 32 := by omega
  have hp : 2 ^ n ≤ 2 ^ 24 := Nat.pow_le_pow_right (by omega) hn
  have hq : 0 < 2 ^ n := Nat.two_pow_pos _
  go_enter Tryd.func23, Tryd.ntmps23
  go_wp2
  go_ret
  refine ⟨ret_u32 ?_, rfl⟩
  have e : ((2 : Int) ^ n) = ((2 ^ n : Nat) : Int) := by simp
  rw [e]
  generalize 2 ^ n = z at *
  omega
theorem range_less {n m : Nat} (h : n ≤ m) (p : Nat → Bool) : (List.range m).filter (fun j => decide (j < n) && p j) = (List.range n).filter p := by
  obtain ⟨k, rfl⟩ : ∃ k, m = n + k := ⟨m - n, by omega⟩
  rw [List.range_add, List.filter_append]
  have h1 : (List.range n).filter (fun j => decide (j < n) && p j) = (List.range n).filter p := List.filter_congr fun j hj => by
    have := List.mem_range.1 hj
    simp [this]
  have h2 : ((List.range k).map (n + ·)).filter (fun j => decide (j < n) && p j) = [] := List.filter_eq_nil_iff.2 fun j hj => by
    obtain ⟨i, _, rfl⟩ := List.mem_map.1 hj
    rw [show decide (n + i < n) = false from decide_eq_false (by omega)]
    simp
  rw [h1, h2, List.append_nil]
/-- The bits of the calls that were not used. -/
theorem bits_free (n used : Nat) (hn : n ≤ 24) (hu : used < 4294967296) : bitsL ((2 ^ n - 1) &&& (4294967295 - used)) = (List.range n).filter fun i => !used.testBit i := by
  unfold bitsL
  rw [← range_less (m := 32) (by omega) (fun i => !used.testBit i)]
  refine List.filter_congr fun j hj => ?_
  have hj32 : j < 32 := List.mem_range.1 hj
  rw [Nat.testBit_and, Nat.testBit_two_pow_sub_one]
  congr 1
  have := Nat.testBit_two_pow_sub_succ (x := used) (n := 32) hu j
  rw [show 2 ^ 32 - (used + 1) = 4294967295 - used by omega] at this
  rw [this]
  simp [hj32]
end Go.Proofs.YtohajfkekkelhaaDoor
namespace Go.Proofs.YtohajfkekkelhaaDoor
open Go.ChangeShapes Go.WideShapes Go.ChangeAt Go.RowKit
set_option linter.unusedVariables false
set_option linter.unusedSimpArgs false
theorem slice_own {w : World} {base : Nat} {e : TypeId} {size n : Nat} {v : Value} {xs : List Value} (h : w.ownsRow base e size v n xs) : ∃ a c, v = .slice a n c := by
  rcases h.2 with ⟨rfl, rfl⟩ | ⟨g', cap, cur, rfl, _⟩
  · exact ⟨_, _, rfl⟩
  · exact ⟨_, _, rfl⟩
theorem owns_mono {w : World} {B B' : Nat} {e : TypeId} {size : Nat} {v : Value} {n : Nat} {xs : List Value} (h : w.ownsRow B e size v n xs) (hb : B' ≤ B) : w.ownsRow B' e size v n xs :=
  ⟨h.1, h.2.imp id fun ⟨g, cap, cur, hv, hB, r⟩ => ⟨g, cap, cur, hv, Nat.le_trans hb hB, r⟩⟩
set_option maxRecDepth 100000 in
set_option maxHeartbeats 16000000 in
theorem next_any (w : World) (a : Option Addr) (n c : Nat) (Lo : List OpX) (h : OpsArg w a n Lo) (hn : n ≤ 24) (used : Nat) (hu : used < 4294967296) (hT : TabAt 0 Lib.deBruijn32tab w) (hg : 0 < w.heap.size) :
    Calls Tryd.prog 17 #[.slice a n c, .int .u32 (used : Int)] w fun e w' => ∃ v, e = .returned v ∧ w'.ownsRow w.heap.size 3 1 v (firstL Lo used).length (ints (firstL Lo used)) ∧ Below w.heap.size w w' := by
  have HH := Lib.hid h
  have hlen := h.len
  have e := u32_andNot_nat (2 ^ n - 1) used (by have : 2 ^ n ≤ 2 ^ 24 := Nat.pow_le_pow_right (by omega) hn; omega) hu
  have hlt32 : (2 ^ n - 1) &&& (4294967295 - used) < 4294967296 := Nat.lt_of_le_of_lt Nat.and_le_left (by have : 2 ^ n ≤ 2 ^ 24 := Nat.pow_le_pow_right (by omega) hn; omega)
  have hbf := bits_free n used hn hu
  have HF := Lib.hid (show freeL n used = (List.range n).filter fun i => !used.testBit i from rfl)
  have HFL := Lib.hid (show firstL Lo used = (freeL n used).filter fun i => !(behindL Lo (freeL n used) i) by unfold firstL; rw [hlen])
  have HMF := Lib.hid (fun i => (mem_free (n := n) (used := used) (i := i)).1)
  rw [← HF.out] at hbf
  have d1 : decide (24 < n) = false := decide_eq_false (by omega)
  have d2 : decide ((24 : Int) < (n : Int)) = false := decide_eq_false (by omega)
  have HM := Lib.hid (fun w => maskN n hn w)
  have HLS := Lib.hid (list_any ((2 ^ n - 1) &&& (4294967295 - used)) w hlt32 hT hg)
  rw [hbf] at HLS
  have hm24 : (freeL n used).length ≤ 24 := by
    rw [HF.out]
    exact Nat.le_trans (List.length_filter_le _ _) (by simpa using hn)
  generalize hfl : freeL n used = fl at *
  generalize firstL Lo used = res at *
  clear h hT hbf hlt32
  go_enter Tryd.func17, Tryd.ntmps17
  go_wp2_with fail
  go_step3
  go_wp2_with fail
  refine (HM.out _).mono ?_
  rintro e1 w1 ⟨rfl, hw1⟩
  subst hw1
  go_wp2_with fail
  refine HLS.out.mono ?_
  rintro e1 w1 ⟨v, rfl, hown, hb⟩
  obtain ⟨m, hm⟩ : ∃ m, fl.length = m := ⟨_, rfl⟩
  have HML := Lib.hid hm
  rw [hm] at hown hm24
  obtain ⟨va, vc, rfl⟩ := slice_own hown
  have HO1 := Lib.hid hown
  have HB1 := Lib.hid hb
  clear hown hb hm e d1 d2
  obtain ⟨i0, hi0, hz0, hz1, hz2⟩ := info_parts Tryd.info3
  go_wp2_with fail
  go_step3
  go_wp2_with fail
  go_loopw [6, 22] (fun s t wr => ∃ (k : Nat) (sv : Value) (acc : List Nat), k ≤ m ∧ t = .int .i64 (k : Int) ∧ s = sv ∧ acc = (fl.take k).filter (fun i => !(behindL Lo fl i)) ∧ wr.ownsRow w1.heap.size 3 1 sv acc.length (ints acc) ∧ wr.ownsRow w.heap.size 3 1 (.slice va m vc) m (ints fl) ∧ Below w.heap.size w wr ∧ w1.heap.size ≤ wr.heap.size) (fun _ t _ => m - (intOf t).toNat)
  case atStart => exact ⟨0, _, [], by omega, rfl, rfl, rfl, World.ownsRow_nil _ _ _ _, HO1.out, HB1.out, Nat.le_refl _⟩
  case round =>
    obtain ⟨k, sv, acc, hk, rfl, hsv, hacc, hso, hfo, hB, hws⟩ := hrel
    obtain rfl := hsv.symm
    have HS := Lib.hid (And.intro hacc (And.intro hso (And.intro hfo (And.intro hB hws))))
    clear hacc hso hfo hB hws
    by_cases hlt : k < m
    · obtain ⟨i, hi⟩ : ∃ i, fl[k]? = some i := ⟨_, List.getElem?_eq_getElem (by rw [HML.out]; exact hlt)⟩
      have hin : i < n := (HMF.out i (List.mem_of_getElem? hi)).1
      obtain ⟨lb, loff, rfl, hlb, hlc⟩ := HH.out.lies (by omega)
      obtain ⟨x, hx⟩ : ∃ x, Lo[i]? = some x := ⟨_, List.getElem?_eq_getElem (by rw [hlen]; exact hin)⟩
      have gx : getX Lo i = x := by unfold getX; rw [hx]; rfl
      obtain ⟨fg, fcap, hv1, hfg1, hfg2⟩ := HS.out.2.2.1.form (by omega)
      obtain ⟨hva, -, -⟩ := Value.slice.inj hv1
      subst hva
      have ck : wr.cell? ⟨fg, k, none⟩ = some (.int .i64 (i : Int)) := by
        have := HS.out.2.2.1.cellAt k (by omega)
        rw [this]
        unfold ints
        rw [List.getElem?_map, hi]; rfl
      have d1 : decide (k < m) = true := decide_eq_true hlt
      have d2 : decide ((k : Int) < (m : Int)) = true := decide_eq_true (by omega)
      have HX0 := Lib.hid (And.intro hx (And.intro gx hlc))
      have HI := Lib.hid hi
      have HFX := Lib.hid (show ∀ q jj : Nat, fl[q]? = some jj → wr.cell? ⟨fg, q, none⟩ = some (.int .i64 (jj : Int)) from fun q jj hq => by
        have hql : q < m := by
          have := (List.getElem?_eq_some_iff.1 hq).1
          rw [HML.out] at this; exact this
        rw [HS.out.2.2.1.cellAt q (by omega)]
        unfold ints
        rw [List.getElem?_map, hq]; rfl)
      clear hv1 hx hlc hi
      go_wp2_with fail
      go_loopw [28] (fun t W => ∃ q : Nat, q ≤ m ∧ t = .int .i64 (q : Int) ∧ behindL Lo (fl.take q) i = false ∧ Keeps (fun _ => False) wr W) (fun t _ => m - (intOf t).toNat)
      case atStart => exact ⟨0, by omega, rfl, rfl, Keeps.refl _ _⟩
      case round =>
        rename World => W
        obtain ⟨q, hq, rfl, hno, hkw⟩ := hrel
        have HK := Lib.hid hkw
        have HNO := Lib.hid hno
        have hls : lb < W.heap.size := Nat.lt_of_lt_of_le (Nat.lt_of_lt_of_le hlb HS.out.2.2.2.1.size) hkw.size
        have HX := Lib.hid (range_keeps (range_below (HX0.out.2.2 i x HX0.out.1) HS.out.2.2.2.1 hlb) hkw (Nat.lt_of_lt_of_le hlb HS.out.2.2.2.1.size))
        clear hkw hno
        by_cases hqlt : q < m
        · obtain ⟨j, hj⟩ : ∃ j, fl[q]? = some j := ⟨_, List.getElem?_eq_getElem (by rw [HML.out]; exact hqlt)⟩
          have hjn : j < n := (HMF.out j (List.mem_of_getElem? hj)).1
          obtain ⟨y, hy⟩ : ∃ y, Lo[j]? = some y := ⟨_, List.getElem?_eq_getElem (by rw [hlen]; exact hjn)⟩
          have gy : getX Lo j = y := by unfold getX; rw [hy]; rfl
          have HY := Lib.hid (range_keeps (range_below (HX0.out.2.2 j y hy) HS.out.2.2.2.1 hlb) HK.out (Nat.lt_of_lt_of_le hlb HS.out.2.2.2.1.size))
          have cq : W.cell? ⟨fg, q, none⟩ = some (.int .i64 (j : Int)) := (World.cell?_of_block (a := ⟨fg, q, none⟩) (HK.out.block fg hfg2 fun h => h)).trans (HFX.out q j hj)
          have HSTEP := Lib.hid (show behindL Lo (fl.take (q + 1)) i = ((i != j) && befP y x) by
            unfold behindL at HNO ⊢
            rw [List.take_add_one, hj, List.any_append, HNO.out, HX0.out.2.1]
            simp [gy])
          have HWHO := Lib.hid (show behindL Lo (fl.take (q + 1)) i = true → behindL Lo fl i = true from fun h => by
            unfold behindL at h ⊢
            obtain ⟨z, hz, hz2⟩ := List.any_eq_true.1 h
            exact List.any_eq_true.2 ⟨z, List.mem_of_mem_take hz, hz2⟩)
          have HBF := Lib.hid (fun W => before_any W y x)
          have f1 : decide (q < m) = true := decide_eq_true hqlt
          have f2 : decide ((q : Int) < (m : Int)) = true := decide_eq_true (by omega)
          have f3 : decide (j < n) = true := decide_eq_true hjn
          have f4 : decide (i < n) = true := decide_eq_true hin
          have f5 : decide ((j : Int) < 0) = false := decide_eq_false (by omega)
          have f6 : decide ((i : Int) < 0) = false := decide_eq_false (by omega)
          have f7 : decide ((n : Int) ≤ (j : Int)) = false := decide_eq_false (by omega)
          have f8 : decide ((n : Int) ≤ (i : Int)) = false := decide_eq_false (by omega)
          have f9 : decide (n ≤ j) = false := decide_eq_false (by omega)
          have f10 : decide (n ≤ i) = false := decide_eq_false (by omega)
          clear hj hy gy ck
          by_cases hij : i = j
          · subst hij
            have e1 : ((i : Int) != (i : Int)) = false := by simp
            go_wp2_with fail
            refine wp_region_noPanic ?_
            refine wp_region_held_drew (S := fun _ => True) (by kernel_rfl) ?_ (fun hHeld => ?_)
            · exact trivial
            refine wpAnyH_take (i := 0) (v := ?_) rfl (by kernel_rfl) (by kernel_rfl) (by kernel_rfl) (fun _ _ _ h => h) (Or.inl ⟨by rfl, ?_⟩) (by assumption) ?_
            rotate_left
            · (intro w hSw; (try dsimp only at hSw); go_simp; try with_reducible rfl)
            simp only [Act.put, List.getElem_toArray, List.getElem_cons_zero, List.getElem_cons_succ, List.setIfInBounds_toArray, List.set_cons_zero, List.set_cons_succ]
            refine wpAnyH_take (i := 1) (v := ?_) rfl (by kernel_rfl) (by kernel_rfl) (by kernel_rfl) (fun _ _ _ h => h) (Or.inl ⟨by rfl, ?_⟩) (by assumption) ?_
            rotate_left
            · (intro w hSw; (try dsimp only at hSw); go_simp; try with_reducible rfl)
            simp only [Act.put, List.getElem_toArray, List.getElem_cons_zero, List.getElem_cons_succ, List.setIfInBounds_toArray, List.set_cons_zero, List.set_cons_succ]
            refine wpAnyH_take (i := 2) (v := ?_) rfl (by kernel_rfl) (by kernel_rfl) (by kernel_rfl) (fun _ _ _ h => h) (Or.inl ⟨by rfl, ?_⟩) (by assumption) ?_
            rotate_left
            · (intro w hSw; (try dsimp only at hSw); go_simp; try with_reducible rfl)
            simp only [Act.put, List.getElem_toArray, List.getElem_cons_zero, List.getElem_cons_succ, List.setIfInBounds_toArray, List.set_cons_zero, List.set_cons_succ]
            refine wpAnyH_take (i := 3) (v := ?_) rfl (by kernel_rfl) (by kernel_rfl) (by kernel_rfl) (fun _ _ _ h => h) (Or.inl ⟨by rfl, ?_⟩) (by assumption) ?_
            rotate_left
            · (intro w hSw; (try dsimp only at hSw); go_simp; try with_reducible rfl)
            simp only [Act.put, List.getElem_toArray, List.getElem_cons_zero, List.getElem_cons_succ, List.setIfInBounds_toArray, List.set_cons_zero, List.set_cons_succ]
            refine wpAnyH_take (i := 4) (v := undef) rfl (by kernel_rfl) (by kernel_rfl) (by kernel_rfl) (fun _ _ _ h => h) (Or.inr ⟨by rfl, rfl⟩) (by assumption) ?_
            simp only [Act.put, List.getElem_toArray, List.getElem_cons_zero, List.getElem_cons_succ, List.setIfInBounds_toArray, List.set_cons_zero, List.set_cons_succ]
            refine wpAnyH_take (i := 5) (v := undef) rfl (by kernel_rfl) (by kernel_rfl) (by kernel_rfl) (fun _ _ _ h => h) (Or.inr ⟨by rfl, rfl⟩) (by assumption) ?_
            simp only [Act.put, List.getElem_toArray, List.getElem_cons_zero, List.getElem_cons_succ, List.setIfInBounds_toArray, List.set_cons_zero, List.set_cons_succ]
            refine wpAnyH_take (i := 6) (v := undef) rfl (by kernel_rfl) (by kernel_rfl) (by kernel_rfl) (fun _ _ _ h => h) (Or.inr ⟨by rfl, rfl⟩) (by assumption) ?_
            simp only [Act.put, List.getElem_toArray, List.getElem_cons_zero, List.getElem_cons_succ, List.setIfInBounds_toArray, List.set_cons_zero, List.set_cons_succ]
            refine wpAnyH_take (i := 7) (v := undef) rfl (by kernel_rfl) (by kernel_rfl) (by kernel_rfl) (fun _ _ _ h => h) (Or.inr ⟨by rfl, rfl⟩) (by assumption) ?_
            simp only [Act.put, List.getElem_toArray, List.getElem_cons_zero, List.getElem_cons_succ, List.setIfInBounds_toArray, List.set_cons_zero, List.set_cons_succ]
            refine wpAnyH_take (i := 8) (v := undef) rfl (by kernel_rfl) (by kernel_rfl) (by kernel_rfl) (fun _ _ _ h => h) (Or.inr ⟨by rfl, rfl⟩) (by assumption) ?_
            simp only [Act.put, List.getElem_toArray, List.getElem_cons_zero, List.getElem_cons_succ, List.setIfInBounds_toArray, List.set_cons_zero, List.set_cons_succ]
            refine wpAnyH_take (i := 9) (v := undef) rfl (by kernel_rfl) (by kernel_rfl) (by kernel_rfl) (fun _ _ _ h => h) (Or.inr ⟨by rfl, rfl⟩) (by assumption) ?_
            simp only [Act.put, List.getElem_toArray, List.getElem_cons_zero, List.getElem_cons_succ, List.setIfInBounds_toArray, List.set_cons_zero, List.set_cons_succ]
            refine wpAnyH_take (i := 10) (v := undef) rfl (by kernel_rfl) (by kernel_rfl) (by kernel_rfl) (fun _ _ _ h => h) (Or.inr ⟨by rfl, rfl⟩) (by assumption) ?_
            simp only [Act.put, List.getElem_toArray, List.getElem_cons_zero, List.getElem_cons_succ, List.setIfInBounds_toArray, List.set_cons_zero, List.set_cons_succ]
            refine wpAnyH_take (i := 11) (v := undef) rfl (by kernel_rfl) (by kernel_rfl) (by kernel_rfl) (fun _ _ _ h => h) (Or.inr ⟨by rfl, rfl⟩) (by assumption) ?_
            simp only [Act.put, List.getElem_toArray, List.getElem_cons_zero, List.getElem_cons_succ, List.setIfInBounds_toArray, List.set_cons_zero, List.set_cons_succ]
            refine wpAnyH_ready (rs := [12]) (by kernel_rfl) (by simp) ?_
            refine AllReadyH.cons rfl (fun K hK => ?_) AllReadyH.nil
            go_simp
            refine hK.out _ _ ?_ (fun hHeld => ?_)
            · ((try dsimp only); try exact trivial)
            clear hK K
            try simp only [Act.put, List.getElem_toArray, List.getElem_cons_zero, List.getElem_cons_succ, List.setIfInBounds_toArray, List.set_cons_zero, List.set_cons_succ]
            refine wpAnyH_take (i := 13) (v := ?_) rfl (by kernel_rfl) (by kernel_rfl) (by kernel_rfl) (fun _ _ _ h => h) (Or.inl ⟨by rfl, ?_⟩) (by assumption) ?_
            rotate_left
            · (intro w hSw; (try dsimp only at hSw); go_simp; try with_reducible rfl)
            simp only [Act.put, List.getElem_toArray, List.getElem_cons_zero, List.getElem_cons_succ, List.setIfInBounds_toArray, List.set_cons_zero, List.set_cons_succ]
            refine wpAnyH_done (by kernel_rfl) ?_ _
            refine NoPanic.normal ?_
            go_wp2_with fail
            go_roundw
            case rel => exact ⟨q + 1, by omega, by go_num, by rw [HSTEP.out]; simp, HK.out.drew⟩
            case measure => simp [intOf]; omega
          · have e1 : ((i : Int) != (j : Int)) = true := by simp; omega
            have e2 : (i != j) = true := by simpa using hij
            rw [e2, Bool.true_and] at HSTEP
            generalize befP y x = bf at *
            go_wp2_with fail
            refine wp_region_noPanic ?_
            refine wp_region_held_drew (S := (fun W => W.rangeAt lb (loff + j * 17) (opL y) ∧ W.rangeAt lb (loff + i * 17) (opL x))) (by kernel_rfl) ?_ (fun hHeld => ?_)
            · exact ⟨HY.out, HX.out⟩
            refine wpAnyH_take (i := 0) (v := ?_) rfl (by kernel_rfl) (by kernel_rfl) (by kernel_rfl) (fun _ _ _ h => h) (Or.inl ⟨by rfl, ?_⟩) (by assumption) ?_
            rotate_left
            · (intro w hSw; (try dsimp only at hSw); go_simp; try with_reducible rfl)
            simp only [Act.put, List.getElem_toArray, List.getElem_cons_zero, List.getElem_cons_succ, List.setIfInBounds_toArray, List.set_cons_zero, List.set_cons_succ]
            refine wpAnyH_take (i := 1) (v := ?_) rfl (by kernel_rfl) (by kernel_rfl) (by kernel_rfl) (fun _ _ _ h => h) (Or.inl ⟨by rfl, ?_⟩) (by assumption) ?_
            rotate_left
            · (intro w hSw; (try dsimp only at hSw); go_simp; try with_reducible rfl)
            simp only [Act.put, List.getElem_toArray, List.getElem_cons_zero, List.getElem_cons_succ, List.setIfInBounds_toArray, List.set_cons_zero, List.set_cons_succ]
            refine wpAnyH_take (i := 2) (v := ?_) rfl (by kernel_rfl) (by kernel_rfl) (by kernel_rfl) (fun _ _ _ h => h) (Or.inl ⟨by rfl, ?_⟩) (by assumption) ?_
            rotate_left
            · (intro w hSw; (try dsimp only at hSw); go_simp; try with_reducible rfl)
            simp only [Act.put, List.getElem_toArray, List.getElem_cons_zero, List.getElem_cons_succ, List.setIfInBounds_toArray, List.set_cons_zero, List.set_cons_succ]
            refine wpAnyH_take (i := 3) (v := ?_) rfl (by kernel_rfl) (by kernel_rfl) (by kernel_rfl) (fun _ _ _ h => h) (Or.inl ⟨by rfl, ?_⟩) (by assumption) ?_
            rotate_left
            · (intro w hSw; (try dsimp only at hSw); go_simp; try with_reducible rfl)
            simp only [Act.put, List.getElem_toArray, List.getElem_cons_zero, List.getElem_cons_succ, List.setIfInBounds_toArray, List.set_cons_zero, List.set_cons_succ]
            refine wpAnyH_take (i := 4) (v := ?_) rfl (by kernel_rfl) (by kernel_rfl) (by kernel_rfl) (fun _ _ _ h => h) (Or.inl ⟨by rfl, ?_⟩) (by assumption) ?_
            rotate_left
            · (intro w hSw; (try dsimp only at hSw); go_simp; try with_reducible rfl)
            simp only [Act.put, List.getElem_toArray, List.getElem_cons_zero, List.getElem_cons_succ, List.setIfInBounds_toArray, List.set_cons_zero, List.set_cons_succ]
            refine wpAnyH_take (i := 5) (v := ?_) rfl (by kernel_rfl) (by kernel_rfl) (by kernel_rfl) (fun _ _ _ h => h) (Or.inl ⟨by rfl, ?_⟩) (by assumption) ?_
            rotate_left
            · (intro w hSw; (try dsimp only at hSw); go_simp; try with_reducible rfl)
            simp only [Act.put, List.getElem_toArray, List.getElem_cons_zero, List.getElem_cons_succ, List.setIfInBounds_toArray, List.set_cons_zero, List.set_cons_succ]
            refine wpAnyH_take (i := 6) (v := ?_) rfl (by kernel_rfl) (by kernel_rfl) (by kernel_rfl) (fun _ _ _ h => h) (Or.inl ⟨by rfl, ?_⟩) (by assumption) ?_
            rotate_left
            · (intro w hSw; (try dsimp only at hSw); go_simp; try with_reducible rfl)
            simp only [Act.put, List.getElem_toArray, List.getElem_cons_zero, List.getElem_cons_succ, List.setIfInBounds_toArray, List.set_cons_zero, List.set_cons_succ]
            refine wpAnyH_take (i := 7) (v := .agg (opL y).toArray) rfl (by kernel_rfl) (by kernel_rfl) (by kernel_rfl) (fun _ _ _ h => h) (yieldsIf_load_mid (by rfl) 47 _ rfl lb (loff + j * 17) rfl (opL y) _ (fun w h => h.1) Tryd.underlying47 rfl op_info) (by assumption) ?_
            simp only [Act.put, List.getElem_toArray, List.getElem_cons_zero, List.getElem_cons_succ, List.setIfInBounds_toArray, List.set_cons_zero, List.set_cons_succ]
            refine wpAnyH_take (i := 8) (v := ?_) rfl (by kernel_rfl) (by kernel_rfl) (by kernel_rfl) (fun _ _ _ h => h) (Or.inl ⟨by rfl, ?_⟩) (by assumption) ?_
            rotate_left
            · (intro w hSw; (try dsimp only at hSw); go_simp; try with_reducible rfl)
            simp only [Act.put, List.getElem_toArray, List.getElem_cons_zero, List.getElem_cons_succ, List.setIfInBounds_toArray, List.set_cons_zero, List.set_cons_succ]
            refine wpAnyH_take (i := 9) (v := ?_) rfl (by kernel_rfl) (by kernel_rfl) (by kernel_rfl) (fun _ _ _ h => h) (Or.inl ⟨by rfl, ?_⟩) (by assumption) ?_
            rotate_left
            · (intro w hSw; (try dsimp only at hSw); go_simp; try with_reducible rfl)
            simp only [Act.put, List.getElem_toArray, List.getElem_cons_zero, List.getElem_cons_succ, List.setIfInBounds_toArray, List.set_cons_zero, List.set_cons_succ]
            refine wpAnyH_take (i := 10) (v := ?_) rfl (by kernel_rfl) (by kernel_rfl) (by kernel_rfl) (fun _ _ _ h => h) (Or.inl ⟨by rfl, ?_⟩) (by assumption) ?_
            rotate_left
            · (intro w hSw; (try dsimp only at hSw); go_simp; try with_reducible rfl)
            simp only [Act.put, List.getElem_toArray, List.getElem_cons_zero, List.getElem_cons_succ, List.setIfInBounds_toArray, List.set_cons_zero, List.set_cons_succ]
            refine wpAnyH_take (i := 11) (v := .agg (opL x).toArray) rfl (by kernel_rfl) (by kernel_rfl) (by kernel_rfl) (fun _ _ _ h => h) (yieldsIf_load_mid (by rfl) 47 _ rfl lb (loff + i * 17) rfl (opL x) _ (fun w h => h.2) Tryd.underlying47 rfl op_info) (by assumption) ?_
            simp only [Act.put, List.getElem_toArray, List.getElem_cons_zero, List.getElem_cons_succ, List.setIfInBounds_toArray, List.set_cons_zero, List.set_cons_succ]
            refine wpAnyH_ready (rs := [12]) (by kernel_rfl) (by simp) ?_
            refine AllReadyH.cons rfl (fun K hK => ?_) AllReadyH.nil
            go_simp
            (go_at_call 32; refine (HBF.out _).mono ?_; rintro e9 w9 ⟨rfl, k9⟩; have HK9 := Lib.hid (show Keeps (fun _ => False) W w9 from ((Keeps.refl _ W).drew).trans k9); clear k9)
            go_wp2_with fail
            refine hK.out _ _ ?_ (fun hHeld => ?_)
            · ((try dsimp only); exact ⟨range_keeps HY.out HK9.out hls, range_keeps HX.out HK9.out hls⟩)
            clear hK K
            try simp only [Act.put, List.getElem_toArray, List.getElem_cons_zero, List.getElem_cons_succ, List.setIfInBounds_toArray, List.set_cons_zero, List.set_cons_succ]
            refine wpAnyH_take (i := 13) (v := ?_) rfl (by kernel_rfl) (by kernel_rfl) (by kernel_rfl) (fun _ _ _ h => h) (Or.inl ⟨by rfl, ?_⟩) (by assumption) ?_
            rotate_left
            · (intro w hSw; (try dsimp only at hSw); go_simp; try with_reducible rfl)
            simp only [Act.put, List.getElem_toArray, List.getElem_cons_zero, List.getElem_cons_succ, List.setIfInBounds_toArray, List.set_cons_zero, List.set_cons_succ]
            refine wpAnyH_done (by kernel_rfl) ?_ _
            refine NoPanic.normal ?_
            cases bf with
            | true =>
              go_wp2_with fail
              go_roundw
              case rel => exact ⟨k + 1, _, acc, by omega, by go_num, rfl, by rw [List.take_add_one, HI.out, List.filter_append, ← HS.out.1]; simp [HWHO.out HSTEP.out], (HS.out.2.1.kept ((HK.out.trans HK9.out).grown0 none) (by cases sv.ownBlock <;> simp)), (HS.out.2.2.1.kept ((HK.out.trans HK9.out).grown0 none) (by simp [Value.ownBlock])), HS.out.2.2.2.1.trans ((HK.out.trans HK9.out).none.mono HS.out.2.2.2.1.size), Nat.le_trans HS.out.2.2.2.2 (HK.out.trans HK9.out).size⟩
              case measure => simp [intOf]; omega
            | false =>
              go_wp2_with fail
              go_roundw
              case rel => exact ⟨q + 1, by omega, by go_num, HSTEP.out, HK.out.trans HK9.out⟩
              case measure => simp [intOf]; omega
        · obtain rfl : q = m := by omega
          have f1 : decide (q < q) = false := decide_eq_false (by omega)
          have hno := HNO.out
          rw [List.take_of_length_le (by rw [HML.out]; exact Nat.le_refl _)] at hno
          have HNA := Lib.hid hno
          clear hno ck
          have HSO := Lib.hid (HS.out.2.1.kept (HK.out.grown0 none) (by cases sv.ownBlock <;> simp))
          have hlenacc : acc.length ≤ 24 := by rw [HS.out.1]; exact Nat.le_trans (List.length_filter_le _ _) (by simp; omega)
          have hwz : w1.heap.size ≤ W.heap.size := Nat.le_trans HS.out.2.2.2.2 HK.out.size
          have HKA := Lib.hid ((HK.out).alloc (.cells #[.int .i64 (i : Int)] 3))
          have HSA := Lib.hid (HSO.out.alloc (.cells #[.int .i64 (i : Int)] 3))
          go_wp2_with (at_builtin; refine wpList_append_own _ rfl (.tmp 47) (.tmp 49) 26 rfl w1.heap.size 3 i0 (.int .i64 0) 1 8 Tryd.underlying26 hi0 hz0 hz1 hz2 rfl (by decide) _ _ _ rfl HSA.out ⟨W.heap.size, 0, none⟩ 1 1 [.int .i64 (i : Int)] rfl rfl ?c1 ?c2 ?c3 ?c4 ?c5 ?_)
          case c1 => exact new_one _ _ _
          case c2 => simp [Value.oneCell']
          case c3 => unfold maxLen; omega
          case c4 => omega
          case c5 => simp; omega
          intro v' w2 hown2 hgrow _
          have HB2 := Lib.hid ((HS.out.2.2.2.1.trans (HKA.out.none.mono HS.out.2.2.2.1.size)).grown hgrow (by have := HS.out.2.2.2.1.size; have := HKA.out.size; omega) (fun z hz => Nat.le_trans HB1.out.size (HSA.out.lt z hz).1))
          have HF2 := Lib.hid ((HS.out.2.2.1.kept (HKA.out.grown0 none) (by simp [Value.ownBlock])).kept hgrow (.inr (fun e => by have h1 := (HSA.out.lt fg (by rw [← e]; rfl)).1; have h2 := (HO1.out.lt fg rfl).2; omega)))
          have hown3 : w2.ownsRow w1.heap.size 3 1 v' (acc ++ [i]).length (ints (acc ++ [i])) := by simpa [ints] using hown2
          have HO3 := Lib.hid hown3
          have HZ := Lib.hid (Nat.le_trans hwz (Nat.le_trans (by simp) hgrow.size))
          clear hown3 hown2 hgrow
          go_wp2_with fail
          go_roundw
          case rel => exact ⟨k + 1, v', acc ++ [i], by omega, by go_num, rfl, by rw [List.take_add_one, HI.out, List.filter_append, ← HS.out.1]; simp [HNA.out], HO3.out, HF2.out, HB2.out, HZ.out⟩
          case measure => simp [intOf]; omega
    · obtain rfl : k = m := by omega
      have f1 : decide (k < k) = false := decide_eq_false (by omega)
      go_wp2_with fail
      go_ret
      refine ⟨sv, rfl, ?_, HS.out.2.2.2.1⟩
      have e := HFL.out.trans (show _ = acc from by rw [HS.out.1, List.take_of_length_le (by rw [HML.out]; exact Nat.le_refl _)])
      rw [e]
      exact owns_mono HS.out.2.1 HB1.out.size
end Go.Proofs.YtohajfkekkelhaaDoor
namespace Go.Proofs.YtohajfkekkelhaaDoor
open Go.ChangeShapes Go.WideShapes Go.ChangeAt Go.RowKit
set_option linter.unusedVariables false
set_option linter.unusedSimpArgs false
/-- An order of the run's own: whatever stands in its block is a number. -/
structure OwnI (w : World) (B : Nat) (v : Value) (t : List Nat) : Prop where
  own : w.ownsRow B 3 1 v t.length (ints t)
  all : ∀ g, v.ownBlock = some g → ∀ j u, w.cell? ⟨g, j, none⟩ = some u → ∃ z, u = .int .i64 z
theorem OwnI.nil (w : World) (B : Nat) : OwnI w B (.slice none 0 0) [] := ⟨World.ownsRow_nil _ _ _ _, fun g h => by simp [Value.ownBlock] at h⟩
theorem zero_ints (n : Nat) : ∀ u ∈ (Builtin.zeroCells #[.int .i64 0] n).toList, ∃ z, u = .int .i64 z := by
  intro u hu
  unfold Builtin.zeroCells at hu
  simp at hu
  obtain ⟨x, hx, h⟩ := hu
  refine ⟨0, ?_⟩
  rw [← h]
  simp [Nat.mod_one]
theorem ints_all (t : List Nat) : ∀ u ∈ ints t, ∃ z, u = .int .i64 z := by
  intro u hu
  obtain ⟨n, _, rfl⟩ := List.mem_map.1 hu
  exact ⟨_, rfl⟩
theorem cell_mem {w : World} {g j : Nat} {cs : Array Value} {T : TypeId} {u : Value} (h : w.heap[g]? = some (.cells cs T (0, 0))) (hu : w.cell? ⟨g, j, none⟩ = some u) : u ∈ cs.toList := by
  rw [cell_of h] at hu
  exact List.mem_of_getElem? (by simpa using hu)
theorem run_append_int (w : World) (ty : TypeId) {B : Nat} {v : Value} {t : List Nat} (h : OwnI w B v t) (hB : B ≤ w.heap.size) (ht : t.length ≤ 1000) (b c i : Nat) (hb : w.heap[b]? = some (.cells #[.int .i64 (i : Int)] 3 (0, 0))) :
    ∃ v' w', (Builtin.append_ #[26, 26] ty #[v, .slice (some ⟨b, 0, none⟩) 1 c]).run Tryd.prog w = .ok v' w' ∧ OwnI w' B v' (t ++ [i]) ∧ w.grownBy w' v.ownBlock ∧ (v'.ownBlock = v.ownBlock ∨ v'.ownBlock = some w.heap.size) := by
  obtain ⟨i0, hi0, hz0, hz1, hz2⟩ := info_parts Tryd.info3
  have hnews : ∀ j u, [Value.int .i64 (i : Int)][j]? = some u → w.cell? ((⟨b, 0, none⟩ : Addr).add j) = some u := fun j u hu => by
    rcases j with _ | j
    · simp at hu
      subst hu
      rw [Addr.add_mid]
      exact cell_of hb 0
    · simp at hu
  have h1 : ∀ u ∈ [Value.int .i64 (i : Int)], u.oneCell' = true := by simp [Value.oneCell']
  obtain ⟨v', w', hr, hown, hgrow, _, hat⟩ := run_append_own_at (P := Tryd.prog) w B 26 ty 3 i0 (.int .i64 0) 1 8 Tryd.underlying26 hi0 hz0 hz1 hz2 rfl (by decide) v t.length (ints t) h.own ⟨b, 0, none⟩ 1 c [.int .i64 (i : Int)] rfl hnews h1 (by unfold maxLen; omega) (by omega) hB
  refine ⟨v', w', hr, ⟨by simpa [ints] using hown, fun g hg j u hu => ?_⟩, hgrow, hat⟩
  rcases h.own.2 with ⟨rfl, h0⟩ | ⟨g0, cap, cur, rfl, hbg, hcur, hnc, hcm, hcs, htake⟩
  · have hr2 := run_append_nil (P := Tryd.prog) w 26 ty 3 i0 (.int .i64 0) Tryd.underlying26 hi0 hz0 ⟨b, 0, none⟩ 1 c [.int .i64 (i : Int)] (by rw [hz1]; rfl) hnews (by omega) (by omega) (by rw [hz2]; omega)
    have e := hr.symm.trans hr2
    injection e with e1 e2
    subst e1 e2
    have eg : g = w.heap.size := by simpa [Value.ownBlock] using hg.symm
    subst eg
    have hm := cell_mem (heap_new w.drew _) hu
    simp only [Array.toList_append, List.mem_append] at hm
    rcases hm with hm | hm
    · simp at hm; exact ⟨_, hm⟩
    · exact zero_ints _ u hm
  · by_cases hroom : t.length + 1 ≤ cap
    · have hfit : t.length * i0.size + [Value.int .i64 (i : Int)].length ≤ cur.size := by rw [hz1, hcs]; simp; omega
      have hr2 := run_append_room (P := Tryd.prog) w 26 ty 3 i0 Tryd.underlying26 hi0 g0 t.length cap cur hcur ⟨b, 0, none⟩ 1 c [.int .i64 (i : Int)] (by rw [hz1]; rfl) hnews h1 hroom hfit
      have e := hr.symm.trans hr2
      injection e with e1 e2
      subst e1 e2
      have eg : g = g0 := by simpa [Value.ownBlock] using hg.symm
      subst eg
      have hm := cell_mem (setRow_heap w g cur _ 3 _ hcur) hu
      have hold : ∀ u, u ∈ cur.toList → ∃ z, u = .int .i64 z := fun u hu => by
        obtain ⟨j, hj, e⟩ := List.getElem_of_mem hu
        exact h.all g rfl j u (by rw [cell_of hcur, ← Array.getElem?_toList, List.getElem?_eq_getElem hj, e])
      simp only [List.mem_append] at hm
      rcases hm with (hm | hm) | hm
      · exact hold u (List.mem_of_mem_take hm)
      · simp at hm; exact ⟨_, hm⟩
      · exact hold u (List.mem_of_mem_drop hm)
    · have holds : ∀ j u, (ints t)[j]? = some u → w.cell? ((⟨g0, 0, none⟩ : Addr).add j) = some u := h.own.cells (g := g0) rfl
      have hr2 := run_append_grow (P := Tryd.prog) w 26 ty 3 i0 (.int .i64 0) Tryd.underlying26 hi0 hz0 ⟨g0, 0, none⟩ t.length cap (ints t) (by rw [hz1]; simp [ints]) holds ⟨b, 0, none⟩ 1 c [.int .i64 (i : Int)] (by rw [hz1]; rfl) hnews (by omega) (by omega) (growslice_fits (by omega) (by rw [hz2]; omega))
      have e := hr.symm.trans hr2
      injection e with e1 e2
      subst e1 e2
      have eg : g = w.heap.size := by simpa [Value.ownBlock] using hg.symm
      subst eg
      have hm := cell_mem (heap_new w.drew _) hu
      simp only [Array.toList_append, List.mem_append] at hm
      rcases hm with (hm | hm) | hm
      · exact ints_all t u (by simpa using hm)
      · simp at hm; exact ⟨_, hm⟩
      · exact zero_ints _ u hm
/-- At the operation. -/
theorem wpList_append_int (w : World) {ops : Array Oper} {rest : List Oper} {o : Oper} {a : Act} {Q : Exit → Act → World → Prop} (hgd : o.guard = none) (s x : Operand)
    (ho : o.op = .call { callee := .builtin .append, args := #[s, x], argTypes := #[26, 26] }) {B : Nat} {v : Value} {t : List Nat} (hs : a.eval s = v) (h : OwnI w B v t) (hB : B ≤ w.heap.size) (ht : t.length ≤ 1000) (b c i : Nat) (hx : a.eval x = .slice (some ⟨b, 0, none⟩) 1 c)
    (hb : w.heap[b]? = some (.cells #[.int .i64 (i : Int)] 3 (0, 0)))
    (hK : ∀ v' w', OwnI w' B v' (t ++ [i]) → w.grownBy w' v.ownBlock → (v'.ownBlock = v.ownBlock ∨ v'.ownBlock = some w.heap.size) → wpList Tryd.prog ops Q rest (a.put o.dst v') w') : wpList Tryd.prog ops Q (o :: rest) a w := by
  refine wpList_plain hgd fun K hK' => ?_
  obtain ⟨v', w', hr, h2, h3, h4⟩ := run_append_int w o.type h hB ht b c i hb
  unfold Oper.wp execOp
  simp only [ho, resolve, invoke, builtin, Sem.run_bind, Sem.run_pure, Result.andThen_ok, List.map_toArray, List.map_cons, List.map_nil, hs, hx, hr]
  exact hK' _ _ (hK v' w' h2 h3 h4)
end Go.Proofs.YtohajfkekkelhaaDoor
