import Derived.Test.YtdjfelabdofaaaaRows
import Derived.Test.YtdjfelabdofaaaaKerAz
import Derived.ProofKit
import Derived.OpenShut
import Derived.WalkLawsBesides
import Derived.WalkSpells
import Derived.Lib.Hide
import Derived.Deep.QuietTactic
import Derived.BigQuiet
import Derived.Deep.RegionWith
import Derived.Laws.Concat
import Derived.Lib.SlBytesRow
import Derived.Deep.RegionLaw
import Derived.Handy
import Derived.Laws.Strings3
namespace Go.Proofs.Ytdjfelabdofaaaa
open Go.ChangeShapes Go.WideShapes Go.ChangeAt Go.RowKit
set_option linter.unusedVariables false
set_option linter.unusedSimpArgs false
def u8s (l : List UInt8) : List Value := l.map fun x => Value.int .u8 (x.toNat : Int)
theorem buf_zeros : ∃ zs : List Value, (∀ w, (zeroValue 94).run Try.prog w = .ok (.agg zs.toArray) w) ∧ zs.length = 20 ∧ zs.toArray.all (·.oneCell') = true := by
  refine ⟨List.replicate 20 (.int .u8 0), fun w => by kernel_rfl, by kernel_rfl, by kernel_rfl⟩
theorem wrap_neg {n : Int} (h : n < 0) (hn : -9223372036854775808 ≤ n) : IntKind.u64.wrap n = 18446744073709551616 + n := by
  simp only [IntKind.wrap, IntKind.signed, IntKind.bits]; simp; omega
theorem buf_slice (b k : Nat) (hk : k < 20) (w : World) :
    (Instr.sliceAt 94 (.pointer (some ⟨b, 0, none⟩)) (some (.int .i64 (k : Int))) none none).run Try.prog w = .ok (.slice (some ⟨b, k, none⟩) (20 - k) (20 - k)) w := by
  have ha : Try.prog.arrayLen 94 = 20 := by kernel_rfl
  have hs : (sizeOf (Try.prog.elem 94)).run Try.prog w = .ok 1 w := by kernel_rfl
  rw [run_sliceAt_array_l w 94 ⟨b, 0, none⟩ (by kernel_rfl) .i64 k (by omega) (by rw [ha]; omega), hs]
  have h20 : 20 ≠ k := by omega
  by_cases h0 : k = 0
  · subst h0; simp [Result.andThen, slicedAt, Addr.add, ha]
  · simp [Result.andThen, slicedAt, Addr.add, ha, h20, h0]
theorem u8s_set (pre : List Value) (k : Nat) (L : List UInt8) (x : UInt8) (h : pre.length = k + 1) :
    (pre ++ u8s L).toArray.setIfInBounds k (.int .u8 (x.toNat : Int)) = (pre.take k ++ u8s (x :: L)).toArray := by
  apply Array.ext'
  rw [Array.toList_setIfInBounds]
  show (pre ++ u8s L).set k _ = pre.take k ++ u8s (x :: L)
  apply List.ext_getElem?
  intro j
  have hl : (pre.take k).length = k := by rw [List.length_take]; omega
  rw [List.getElem?_set]
  by_cases h1 : k = j
  · subst h1
    rw [if_pos rfl, if_pos (by rw [List.length_append]; omega), List.getElem?_append_right (by omega), hl, Nat.sub_self]
    rfl
  · rw [if_neg h1]
    rcases Nat.lt_or_ge j k with h2 | h2
    · rw [List.getElem?_append_left (by omega), List.getElem?_append_left (by omega), List.getElem?_take_of_lt h2]
    · rw [List.getElem?_append_right (by omega), List.getElem?_append_right (by omega), hl, h]
      obtain ⟨q, rfl⟩ : ∃ q, j = k + 1 + q := ⟨j - (k + 1), by omega⟩
      rw [show k + 1 + q - (k + 1) = q by omega, show k + 1 + q - k = q + 1 by omega]
      rfl
theorem u8s_get (L : List UInt8) (i : Nat) (h : i < L.length) : (u8s L)[i]? = some (.int .u8 (L[i].toNat : Int)) := by
  simp [u8s, List.getElem?_map, List.getElem?_eq_getElem h]
theorem buf_string {w : World} {b k : Nat} {L : List UInt8} {pre : List Value} {E : TypeId} (hp : pre.length = k) (hb : w.heap[b]? = some (.cells (pre ++ u8s L).toArray E (0, 0))) (n : Nat) (hn : n = L.length) (cap : Nat) :
    (convert 46 9 (.slice (some ⟨b, k, none⟩) n cap)).run Try.prog w = .ok (.string ⟨L.toArray⟩) w := by
  subst hn
  refine Lib.run_convert_whole (P := Try.prog) w _ 5 _ (by kernel_rfl) (by kernel_rfl) (by kernel_rfl) b k ⟨L.toArray⟩ ?_ cap
  intro i hi
  have hi' : i < L.length := hi
  rw [cell_of hb (k + i), List.getElem?_toArray, List.getElem?_append_right (by omega), show k + i - pre.length = i by omega, u8s_get L i hi']
  rfl
set_option maxRecDepth 20000 in
set_option maxHeartbeats 1000000 in
theorem print_any (w : World) (n : Int) (hn : -9223372036854775808 ≤ n ∧ n ≤ 9223372036854775807) :
    Calls Try.prog 31 #[.int .i64 n] w fun e w' => e = .returned (.string (prnB n)) ∧ Keeps (fun _ => False) w w' := by
  obtain ⟨zs, hz, hzl, hz1⟩ := buf_zeros
  have HZ := Lib.hid (And.intro hzl hz1)
  have hw1 : IntKind.u64.wrap n = if n < 0 then 18446744073709551616 + n else n := by
    by_cases h : n < 0
    · rw [if_pos h, wrap_neg h hn.1]
    · rw [if_neg h]; simp only [IntKind.wrap, IntKind.signed, IntKind.bits]; simp; omega
  have hw2 : n < 0 → IntKind.u64.wrap (-(18446744073709551616 + n)) = (n.natAbs : Int) := by
    intro h; simp only [IntKind.wrap, IntKind.signed, IntKind.bits]; simp; omega
  have HW := Lib.hid (And.intro hw1 hw2)
  clear hzl hz1 hw1 hw2
  go_enter Try.func31, Try.ntmps31
  go_wp2_with fail
  refine wp_scope_again 0 (fun a' w' => ∃ (m at0 : Nat) (L : List UInt8) (pre : List Value) (u1 u6 u7 u8 u9 u10 u11 u12 u13 u14 u15 u16 u17 u18 u19 u20 u21 u22 u23 u24 u25 u26 u27 u28 u29 u30 u31 u32 : Value), a' = { tmps := #[.int .i64 n, u1, .string { data := #[] }, .pointer (some ⟨w.heap.size, 0, none⟩), .int .i64 (at0 : Int), .int .u64 (m : Int), u6, u7, u8, u9, u10, u11, u12, u13, u14, u15, u16, u17, u18, u19, u20, u21, u22, u23, u24, u25, u26, u27, u28, u29, u30, u31, u32], defers := [] } ∧ m < 18446744073709551616 ∧ at0 + L.length = 20 ∧ 0 < at0 ∧ digL n.natAbs = digL m ++ L ∧ pre.length = at0 ∧ w'.heap[w.heap.size]? = some (.cells (pre ++ u8s L).toArray 94 (0, 0)) ∧ Keeps (fun _ => False) w w')
    (fun a _ => (intOf (a.tmps.getD 5 undef)).toNat) rfl ?_ ?_
  · rintro a' w' ⟨m, at0, L, pre, u1, u6, u7, u8, u9, u10, u11, u12, u13, u14, u15, u16, u17, u18, u19, u20, u21, u22, u23, u24, u25, u26, u27, u28, u29, u30, u31, u32, rfl, hm, hat, h0, hd, hpl, hb, hK⟩
    obtain ⟨k, rfl⟩ : ∃ k, at0 = k + 1 := ⟨at0 - 1, by omega⟩
    have lb := lt_of hb
    have HK := Lib.hid hK
    have HB := Lib.hid hb
    have HD := Lib.hid (And.intro hd hpl)
    have hcc : w'.cell? ⟨w.heap.size, k, none⟩ = (pre ++ u8s L).toArray[k]? := cell_of hb k
    have hff : w'.frozen? ⟨w.heap.size, k, none⟩ = false := free_of hb k
    have hk : k < 20 := by omega
    have z1 : ((k + 1 : Nat) : Int) - 1 = (k : Int) := by omega
    obtain ⟨c0, hc0⟩ : ∃ c0, (pre ++ u8s L).toArray[k]? = some c0 := by
      rw [List.getElem?_toArray]
      exact ⟨_, List.getElem?_eq_getElem (by rw [List.length_append]; omega)⟩
    rw [hc0] at hcc
    have HA := Lib.hid hat
    clear hK hb hd hpl hc0 hat
    have hb1 : (48 + (m : Int) % 10) = ((UInt8.ofNat (48 + m % 10)).toNat : Int) := by rw [byte_of (m % 10) (by omega)]; omega
    have HB2 := Lib.hid (show (w'.setCell ⟨w.heap.size, k, none⟩ (.int .u8 (48 + (m : Int) % 10))).heap[w.heap.size]? = some (.cells (pre.take k ++ u8s (UInt8.ofNat (48 + m % 10) :: L)).toArray 94 (0, 0)) from by
      rw [hb1, ← u8s_set pre k L _ HD.out.2]; exact heap_set HB.out k _)
    have HK2 := Lib.hid (show Keeps (fun _ => False) w (w'.setCell ⟨w.heap.size, k, none⟩ (.int .u8 (48 + (m : Int) % 10))) from HK.out.setCell (Or.inr (Nat.le_refl _)) _)
    have hpt : (pre.take k).length = k := by rw [List.length_take, HD.out.2]; omega
    have HPT := Lib.hid hpt
    clear hb1 hpt
    by_cases h10 : m < 10
    · have e10 : (m : Int) / 10 = 0 := by omega
      have hdl : digL n.natAbs = UInt8.ofNat (48 + m % 10) :: L := by rw [HD.out.1, digL_small h10, show m % 10 = m by omega]; rfl
      obtain ⟨q, hq⟩ : ∃ q, 20 - k = q := ⟨_, rfl⟩
      have hql : q = (UInt8.ofNat (48 + m % 10) :: L).length := by have := HA.out; rw [List.length_cons]; omega
      have hsl := fun wr => buf_slice w.heap.size k hk wr
      rw [hq] at hsl
      have hcv := buf_string (HPT.out) HB2.out q hql q
      have HP := Lib.hid (show prnB n = if n < 0 then ({ data := #[45] } : ByteArray) ++ ⟨(UInt8.ofNat (48 + m % 10) :: L).toArray⟩ else ⟨(UInt8.ofNat (48 + m % 10) :: L).toArray⟩ from by
        unfold prnB prnL
        rw [hdl]
        split
        · exact (ByteArray.mk_append_mk [45] _).symm
        · rfl)
      have hsz : (1 + (UInt8.ofNat (48 + m % 10) :: L).length) ≤ 9223372036854775807 := by have := HA.out; rw [List.length_cons]; omega
      clear hdl hq hql
      generalize hS : (⟨(UInt8.ofNat (48 + m % 10) :: L).toArray⟩ : ByteArray) = S at hcv HP
      have hSz : S.size ≤ 20 := by rw [← hS]; have := HA.out; show (UInt8.ofNat (48 + m % 10) :: L).length ≤ 20; rw [List.length_cons]; omega
      clear hS hsz
      by_cases hneg : n < 0
      · have d1 : decide (n < 0) = true := decide_eq_true hneg
        have hS1 := run_string_add_sum (P := Try.prog) (w'.setCell ⟨w.heap.size, k, none⟩ (.int .u8 (48 + (m : Int) % 10))) { data := #[45] } S (by show 1 + S.size ≤ _; omega)
        go_wp2
        try simp only [Exit.jump]
        go_ret
        exact ⟨by have h := HP.out; rw [if_pos (by omega)] at h; rw [h]; rfl, HK2.out⟩
      · have d1 : decide (n < 0) = false := decide_eq_false hneg
        go_wp2
        try simp only [Exit.jump]
        go_ret
        exact ⟨by have h := HP.out; rw [if_neg (by omega)] at h; rw [h]; rfl, HK2.out⟩
    · have e10 : decide (0 < (m : Int) / 10) = true := decide_eq_true (by omega)
      go_wp2_with fail
      go_step3
      refine ⟨rfl, ⟨m / 10, k, UInt8.ofNat (48 + m % 10) :: L, pre.take k, u1, _, _, _, _, _, _, _, _, _, _, _, _, _, _, _, _, _, _, _, _, _, _, _, _, _, _, _, rfl, by omega, ?_, ?_, ?_, HPT.out, HB2.out, HK2.out⟩, ?_⟩
      · have := HA.out; rw [List.length_cons]; omega
      · have h1 := HD.out.1
        rw [digL_big h10] at h1
        have h2 := digL_len20 (m := n.natAbs) (by omega)
        have h3 := digL_pos (m / 10)
        have := HA.out
        rw [h1, List.length_append, List.length_append, List.length_singleton] at h2
        omega
      · rw [HD.out.1, digL_big h10, List.append_assoc]; rfl
      · simp [intOf]; omega
  · intro hpass
    have hzb : w.heap.size < w.heap.size + 1 := by omega
    by_cases hneg : n < 0
    · have d1 : decide (n < 0) = true := decide_eq_true hneg
      have hw1 := HW.out.1
      have hw2 := HW.out.2 hneg
      rw [if_pos hneg] at hw1
      go_wp2_with fail
      go_step3
      rename_i K hK
      exact hK _ _ <| hpass _ _ ⟨n.natAbs, 20, [], zs, undef, _, _, _, _, _, _, _, _, _, _, _, _, _, _, _, _, _, _, _, _, _, _, _, _, _, _, _, rfl, by omega, rfl, by omega, by rw [List.append_nil], HZ.out.1, by rw [show u8s [] = [] from rfl, List.append_nil]; exact heap_new _ _, (Keeps.refl _ w).alloc _⟩
    · have d1 : decide (n < 0) = false := decide_eq_false hneg
      have hw1 : IntKind.u64.wrap n = (n.natAbs : Int) := by rw [HW.out.1, if_neg hneg]; omega
      go_wp2_with fail
      go_step3
      rename_i K hK
      exact hK _ _ <| hpass _ _ ⟨n.natAbs, 20, [], zs, undef, _, _, _, _, _, _, _, _, _, _, _, _, _, _, _, _, _, _, _, _, _, _, _, _, _, _, _, rfl, by omega, rfl, by omega, by rw [List.append_nil], HZ.out.1, by rw [show u8s [] = [] from rfl, List.append_nil]; exact heap_new _ _, (Keeps.refl _ w).alloc _⟩
end Go.Proofs.Ytdjfelabdofaaaa
namespace Go.Proofs.Ytdjfelabdofaaaa
open Go.ChangeShapes Go.WideShapes Go.ChangeAt Go.RowKit
set_option linter.unusedVariables false
set_option linter.unusedSimpArgs false
/-- One digit out of the ten. -/
theorem digit_slice (d : Nat) (hd : d < 10) (w : World) :
    (Instr.slice 9 (.string { data := #[48, 49, 50, 51, 52, 53, 54, 55, 56, 57] }) (some (.int .i64 (d : Int))) (some (.int .i64 ((d : Int) + 1))) none).run Try.prog w = .ok (.string ⟨#[UInt8.ofNat (48 + d)]⟩) w := by
  have h : ∀ d : Fin 10, (ByteArray.mk #[48, 49, 50, 51, 52, 53, 54, 55, 56, 57]).extract d.val (d.val + 1) = ⟨#[UInt8.ofNat (48 + d.val)]⟩ := by decide
  rw [run_slice_string w 9 _ .i64 .i64 d ((d : Int) + 1) (by kernel_rfl) (by omega) (by omega) (by show (d : Int) + 1 ≤ (10 : Nat); omega)]
  have := h ⟨d, hd⟩
  simp only [Int.toNat_natCast] at this ⊢
  rw [show ((d : Int) + 1).toNat = d + 1 by omega, this]
set_option maxRecDepth 20000 in
set_option maxHeartbeats 1000000 in
theorem rprint_any (w : World) (n : Int) (hn : -9223372036854775808 ≤ n ∧ n ≤ 9223372036854775807) :
    Calls Try.prog 22 #[.int .i64 n] w fun e w' => e = .returned (.string (prnB n)) ∧ w' = w := by
  by_cases h0 : n = 0
  · subst h0
    go_enter Try.func22, Try.ntmps22
    go_wp2_with fail
    go_ret
    exact ⟨by rw [show prnB 0 = { data := #[48] } from by unfold prnB prnL; rw [if_neg (by decide), digL_small (by decide)]; rfl]; rfl, rfl⟩ -- fixed0
  have f0 : (n == 0) = false := by simp; omega
  have HN := Lib.hid (And.intro hn h0)
  clear h0
  by_cases hneg : n < 0
  · have d1 : decide (n < 0) = true := decide_eq_true hneg
    have hnn : n ≤ 0 := by omega
    go_enter Try.func22, Try.ntmps22
    go_wp2_with fail
    go_loop [0, 3] (fun v0 v3 => ∃ (m : Nat) (L : List UInt8), v0 = .int .i64 (-(m : Int)) ∧ v3 = .string ⟨L.toArray⟩ ∧ digL n.natAbs = tailL m ++ L ∧ m ≤ 9223372036854775808) (fun v0 _ => (intOf v0).natAbs)
    case atStart => exact ⟨n.natAbs, [], by congr 1; omega, rfl, by rw [tailL_pos (by have := HN.out.2; omega), List.append_nil], by have := HN.out.1; omega⟩
    case round =>
      obtain ⟨m, L, rfl, rfl, hd, hm⟩ := hrel
      have hL : L.length ≤ 20 := by
        have h2 := digL_len20 (m := n.natAbs) (by have := HN.out.1; omega)
        rw [hd, List.length_append] at h2
        omega
      have HL := Lib.hid hL
      clear hL
      by_cases hz : m = 0
      · subst hz
        have HP := Lib.hid (show prnB n = ({ data := #[45] } : ByteArray) ++ ⟨L.toArray⟩ from by
          unfold prnB prnL
          rw [hd, tailL_zero, List.nil_append]
          rw [if_pos hneg]
          exact (ByteArray.mk_append_mk [45] _).symm)
        clear hd
        generalize hS : (⟨L.toArray⟩ : ByteArray) = S at HP ⊢
        have hSz : S.size ≤ 20 := by rw [← hS]; exact HL.out
        clear hS
        have hS1 := run_string_add_sum (P := Try.prog) w { data := #[45] } S (by show 1 + S.size ≤ _; omega)
        go_wp2_with fail
        go_ret
        exact ⟨by have h := HP.out; rw [h]; rfl, rfl⟩
      · have hd2 : digL n.natAbs = tailL (m / 10) ++ (UInt8.ofNat (48 + m % 10) :: L) := by rw [hd, tailL_step hz, List.append_assoc]; rfl
        obtain ⟨h, d, rfl, hd10⟩ : ∃ h d, m = 10 * h + d ∧ d < 10 := ⟨m / 10, m % 10, by omega, by omega⟩
        rw [show (10 * h + d) / 10 = h by omega, show (10 * h + d) % 10 = d by omega] at hd2
        have HD := Lib.hid hd2
        have hds := digit_slice d hd10 w
        have HB := Lib.hid (show (⟨#[UInt8.ofNat (48 + d)]⟩ : ByteArray) ++ ⟨L.toArray⟩ = ⟨(UInt8.ofNat (48 + d) :: L).toArray⟩ from ByteArray.mk_append_mk [_] _)
        clear hd hd2
        generalize hS : (⟨L.toArray⟩ : ByteArray) = S at HB ⊢
        have hSz : S.size ≤ 20 := by rw [← hS]; exact HL.out
        clear hS
        generalize hX : (⟨#[UInt8.ofNat (48 + d)]⟩ : ByteArray) = X at HB hds
        have hXz : X.size = 1 := by rw [← hX]; rfl
        clear hX
        have hS1 := run_string_add_sum (P := Try.prog) w X S (by omega)
        obtain ⟨m, hmm⟩ : ∃ m, m = 10 * h + d := ⟨_, rfl⟩
        rw [← hmm] at hz hm ⊢
        have e1 : (m : Int) % 10 = (d : Int) := by omega
        have e2 : (m : Int) / 10 = (h : Int) := by omega
        have HM := Lib.hid hmm
        clear hmm
        by_cases hd0 : d = 0
        · subst hd0
          have hds0 : (Instr.slice 9 (.string { data := #[48, 49, 50, 51, 52, 53, 54, 55, 56, 57] }) (some (.int .i64 0)) (some (.int .i64 1)) none).run Try.prog w = .ok (.string X) w := by simpa using hds
          go_wp2_with fail
          go_round
          case rel => exact ⟨h, _ :: L, rfl, congrArg Value.string HB.out, HD.out, by have := HM.out; omega⟩
          case measure => simp [intOf]; omega
        · have hdp : 0 < d := by omega
          go_wp2_with fail
          go_round
          case rel => exact ⟨h, _ :: L, rfl, congrArg Value.string HB.out, HD.out, by have := HM.out; omega⟩
          case measure => simp [intOf]; omega
  · have d1 : decide (n < 0) = false := decide_eq_false hneg
    go_enter Try.func22, Try.ntmps22
    go_wp2_with fail
    go_loop [0, 3] (fun v0 v3 => ∃ (m : Nat) (L : List UInt8), v0 = .int .i64 (m : Int) ∧ v3 = .string ⟨L.toArray⟩ ∧ digL n.natAbs = tailL m ++ L ∧ m ≤ 9223372036854775807) (fun v0 _ => (intOf v0).natAbs)
    case atStart => exact ⟨n.natAbs, [], by congr 1; omega, rfl, by rw [tailL_pos (by have := HN.out.2; omega), List.append_nil], by have := HN.out.1; omega⟩
    case round =>
      obtain ⟨m, L, rfl, rfl, hd, hm⟩ := hrel
      have hL : L.length ≤ 20 := by
        have h2 := digL_len20 (m := n.natAbs) (by have := HN.out.1; omega)
        rw [hd, List.length_append] at h2
        omega
      have HL := Lib.hid hL
      clear hL
      by_cases hz : m = 0
      · subst hz
        have HP := Lib.hid (show prnB n = ({ data := #[] } : ByteArray) ++ ⟨L.toArray⟩ from by
          unfold prnB prnL
          rw [hd, tailL_zero, List.nil_append]
          rw [if_neg (by omega)]
          exact (ByteArray.mk_append_mk [] _).symm)
        clear hd
        generalize hS : (⟨L.toArray⟩ : ByteArray) = S at HP ⊢
        have hSz : S.size ≤ 20 := by rw [← hS]; exact HL.out
        clear hS
        have hS1 := run_string_add_sum (P := Try.prog) w { data := #[] } S (by show 0 + S.size ≤ _; omega)
        go_wp2_with fail
        go_ret
        exact ⟨by have h := HP.out; rw [h]; rfl, rfl⟩
      · have hd2 : digL n.natAbs = tailL (m / 10) ++ (UInt8.ofNat (48 + m % 10) :: L) := by rw [hd, tailL_step hz, List.append_assoc]; rfl
        obtain ⟨h, d, rfl, hd10⟩ : ∃ h d, m = 10 * h + d ∧ d < 10 := ⟨m / 10, m % 10, by omega, by omega⟩
        rw [show (10 * h + d) / 10 = h by omega, show (10 * h + d) % 10 = d by omega] at hd2
        have HD := Lib.hid hd2
        have hds := digit_slice d hd10 w
        have HB := Lib.hid (show (⟨#[UInt8.ofNat (48 + d)]⟩ : ByteArray) ++ ⟨L.toArray⟩ = ⟨(UInt8.ofNat (48 + d) :: L).toArray⟩ from ByteArray.mk_append_mk [_] _)
        clear hd hd2
        generalize hS : (⟨L.toArray⟩ : ByteArray) = S at HB ⊢
        have hSz : S.size ≤ 20 := by rw [← hS]; exact HL.out
        clear hS
        generalize hX : (⟨#[UInt8.ofNat (48 + d)]⟩ : ByteArray) = X at HB hds
        have hXz : X.size = 1 := by rw [← hX]; rfl
        clear hX
        have hS1 := run_string_add_sum (P := Try.prog) w X S (by omega)
        obtain ⟨m, hmm⟩ : ∃ m, m = 10 * h + d := ⟨_, rfl⟩
        rw [← hmm] at hz hm ⊢
        have e1 : (m : Int) % 10 = (d : Int) := by omega
        have e2 : (m : Int) / 10 = (h : Int) := by omega
        have HM := Lib.hid hmm
        clear hmm
        by_cases hd0 : d = 0
        · subst hd0
          have hds0 : (Instr.slice 9 (.string { data := #[48, 49, 50, 51, 52, 53, 54, 55, 56, 57] }) (some (.int .i64 0)) (some (.int .i64 1)) none).run Try.prog w = .ok (.string X) w := by simpa using hds
          go_wp2_with fail
          go_round
          case rel => exact ⟨h, _ :: L, rfl, congrArg Value.string HB.out, HD.out, by have := HM.out; omega⟩
          case measure => simp [intOf]; omega
        · have hdp : 0 < d := by omega
          go_wp2_with fail
          go_round
          case rel => exact ⟨h, _ :: L, rfl, congrArg Value.string HB.out, HD.out, by have := HM.out; omega⟩
          case measure => simp [intOf]; omega
end Go.Proofs.Ytdjfelabdofaaaa
namespace Go.Proofs.Ytdjfelabdofaaaa
open Go.ChangeShapes Go.WideShapes Go.ChangeAt Go.RowKit
set_option linter.unusedVariables false
set_option linter.unusedSimpArgs false
/-- A text's bytes behind one minus. -/
def dig : List UInt8 → List UInt8
  | [] => []
  | x :: t => if x.toNat = 45 then t else x :: t
def negL : List UInt8 → Bool
  | [] => false
  | x :: t => decide (x.toNat = 45)
def isD (x : UInt8) : Bool := decide (48 ≤ x.toNat) && decide (x.toNat ≤ 57)
def val : List UInt8 → Nat → Nat
  | [], n => n
  | x :: t, n => val t (n * 10 + (x.toNat - 48))
theorem val_snoc : ∀ (l : List UInt8) (x : UInt8) (n : Nat), val (l ++ [x]) n = val l n * 10 + (x.toNat - 48)
  | [], x, n => rfl
  | y :: t, x, n => by show val (t ++ [x]) _ = _; rw [val_snoc t x]; rfl
theorem val_lt : ∀ (l : List UInt8) (n k : Nat), l.all isD = true → n < 10 ^ k → val l n < 10 ^ (k + l.length)
  | [], n, k, _, h => h
  | x :: t, n, k, hl, h => by
    rw [List.all_cons, Bool.and_eq_true] at hl
    have h1 := hl.1
    unfold isD at h1
    rw [Bool.and_eq_true, decide_eq_true_eq, decide_eq_true_eq] at h1
    have := val_lt t (n * 10 + (x.toNat - 48)) (k + 1) hl.2 (by rw [Nat.pow_succ]; omega)
    rw [List.length_cons, show k + (t.length + 1) = k + 1 + t.length by omega]
    exact this
/-- The number that a text is the spelling of. -/
def sgn (l : List UInt8) : Int := if negL l then -((val (dig l) 0 : Nat) : Int) else ((val (dig l) 0 : Nat) : Int)
def okL (l : List UInt8) : Bool := decide (0 < (dig l).length) && decide ((dig l).length ≤ 18) && (dig l).all isD && (prnL (sgn l) == l)
def valP (l : List UInt8) : Option Int := if okL l then some (sgn l) else none
/-- What parsing gives: the number and the fault. -/
def parP (l : List UInt8) (a b : Int) : Int × Int := match valP l with
  | none => (0, 3)
  | some n => if n < a ∨ b < n then (0, 2) else (n, 0)
theorem dig_cons (x : UInt8) (t : List UInt8) : dig (x :: t) = if x.toNat = 45 then t else x :: t := rfl
theorem dig_len (l : List UInt8) : (dig l).length ≤ l.length := by
  cases l with
  | nil => simp [dig]
  | cons x t => rw [dig_cons]; split <;> simp
theorem dig_short (l : List UInt8) : decide ((dig l).length < l.length) = negL l := by
  cases l with
  | nil => simp [dig, negL]
  | cons x t =>
    rw [dig_cons]
    show _ = decide (x.toNat = 45)
    by_cases h : x.toNat = 45
    · rw [if_pos h, decide_eq_true h, decide_eq_true]; simp
    · rw [if_neg h, decide_eq_false h, decide_eq_false]; simp
theorem str_size (l : List UInt8) : (ByteArray.mk l.toArray).size = l.length := by rw [ByteArray.size_mk']; simp
/-- One byte of a text. -/
theorem str_index (w : World) (l : List UInt8) (k : Nat) (x : UInt8) (h : l[k]? = some x) :
    (Instr.index 9 (.string ⟨l.toArray⟩) (.int .i64 (k : Int))).run Try.prog w = .ok (.int .u8 (x.toNat : Int)) w := by
  have hk : k < l.length := by
    rcases Nat.lt_or_ge k l.length with h1 | h1
    · exact h1
    · rw [List.getElem?_eq_none h1] at h; cases h
  have hx : l[k] = x := by rw [List.getElem?_eq_getElem hk] at h; exact Option.some.inj h
  rw [run_index_string w 9 _ .i64 k (by kernel_rfl), dif_pos ⟨by omega, by rw [str_size]; omega⟩]
  congr 3
  show ((ByteArray.mk l.toArray)[(k : Int).toNat]'_).toNat = x.toNat
  rw [← hx]
  simp only [Int.toNat_natCast]
  rfl
theorem str_from (w : World) (x : UInt8) (t : List UInt8) :
    (Instr.slice 9 (.string ⟨(x :: t).toArray⟩) (some (.int .i64 1)) none none).run Try.prog w = .ok (.string ⟨t.toArray⟩) w := by
  rw [run_slice_string_from_if w 9 _ .i64 1 (by kernel_rfl), if_pos ⟨by omega, by rw [str_size, List.length_cons]; omega⟩, ByteArray.extract_mk]
  congr 3
  rw [str_size, List.length_cons]
  simp
theorem str_to (w : World) (x : UInt8) (t : List UInt8) :
    (Instr.slice 9 (.string ⟨(x :: t).toArray⟩) none (some (.int .i64 1)) none).run Try.prog w = .ok (.string ⟨#[x]⟩) w := by
  rw [run_slice_string_to_if w 9 _ .i64 1 (by kernel_rfl), if_pos ⟨by omega, by rw [str_size, List.length_cons]; omega⟩, ByteArray.extract_mk]
  rfl
set_option maxRecDepth 20000 in
theorem prefix_any (w : World) (l : List UInt8) (hl : l.length ≤ 9223372036854775807) :
    Calls Try.prog 73 #[.string ⟨l.toArray⟩, .string { data := #[45] }] w fun e w' => e = .returned (.bool (negL l)) ∧ w' = w := by
  cases l with
  | nil =>
    go_enter Try.func73, Try.ntmps73
    go_wp2_with fail
    go_ret
    exact ⟨rfl, rfl⟩
  | cons x t =>
    have h1 := str_to w x t
    have h2 : negL (x :: t) = (x == (45 : UInt8)) := by
      unfold negL
      rw [Bool.eq_iff_iff, decide_eq_true_eq]
      simp [← UInt8.toNat_inj]
    rw [h2]
    have hs := str_size (x :: t)
    rw [List.length_cons] at hs hl
    generalize (⟨(x :: t).toArray⟩ : ByteArray) = B at h1 hs ⊢
    clear h2
    go_enter Try.func73, Try.ntmps73
    go_wp2_with fail
    go_ret
    exact ⟨rfl, rfl⟩
set_option maxRecDepth 20000 in
theorem trims_any (w : World) (l : List UInt8) (hl : l.length ≤ 9223372036854775807) :
    Calls Try.prog 77 #[.string ⟨l.toArray⟩, .string { data := #[45] }] w fun e w' => e = .returned (.string ⟨(dig l).toArray⟩) ∧ w' = w := by
  have HC := Lib.hid (prefix_any w l hl)
  by_cases hq : negL l = true
  · obtain ⟨x, t, rfl⟩ : ∃ x t, l = x :: t := by
      cases l with
      | nil => cases hq
      | cons x t => exact ⟨x, t, rfl⟩
    have e : dig (x :: t) = t := by rw [dig_cons, if_pos (of_decide_eq_true hq)]
    have h1 := str_from w x t
    rw [e]
    rw [hq] at HC
    generalize (⟨(x :: t).toArray⟩ : ByteArray) = B at h1 HC ⊢
    generalize (⟨t.toArray⟩ : ByteArray) = D at h1 ⊢
    go_enter Try.func77, Try.ntmps77
    go_wp2_with fail
    refine HC.out.mono ?_
    rintro e1 w1 ⟨rfl, rfl⟩
    go_wp2_with fail
    go_ret
    exact ⟨rfl, rfl⟩
  · have hq' : negL l = false := by simpa using hq
    have e : dig l = l := by
      cases l with
      | nil => rfl
      | cons x t => rw [dig_cons, if_neg (of_decide_eq_false hq')]
    rw [e]
    rw [hq'] at HC
    generalize (⟨l.toArray⟩ : ByteArray) = B at HC ⊢
    go_enter Try.func77, Try.ntmps77
    go_wp2_with fail
    refine HC.out.mono ?_
    rintro e1 w1 ⟨rfl, rfl⟩
    go_wp2_with fail
    go_ret
    exact ⟨rfl, rfl⟩
set_option maxRecDepth 20000 in
theorem trim_any (w : World) (l : List UInt8) (hl : l.length ≤ 9223372036854775807) :
    Calls Try.prog 74 #[.string ⟨l.toArray⟩, .string { data := #[45] }] w fun e w' => e = .returned (.string ⟨(dig l).toArray⟩) ∧ w' = w := by
  have HC := Lib.hid (trims_any w l hl)
  generalize (⟨(dig l).toArray⟩ : ByteArray) = D at HC ⊢
  generalize (⟨l.toArray⟩ : ByteArray) = B at HC ⊢
  go_enter Try.func74, Try.ntmps74
  go_wp2_with fail
  refine HC.out.mono ?_
  rintro e1 w1 ⟨rfl, rfl⟩
  go_wp2_with fail
  go_ret
  exact ⟨rfl, rfl⟩
end Go.Proofs.Ytdjfelabdofaaaa
namespace Go.Proofs.Ytdjfelabdofaaaa
open Go.ChangeShapes Go.WideShapes Go.ChangeAt Go.RowKit
set_option linter.unusedVariables false
set_option linter.unusedSimpArgs false
theorem all_take {l : List UInt8} {k : Nat} {x : UInt8} (h : l[k]? = some x) (ha : (l.take k).all isD = true) (hx : isD x = true) : (l.take (k + 1)).all isD = true := by
  rw [List.take_add_one, h, List.all_append, ha]
  simp [hx]
theorem val_take {l : List UInt8} {k : Nat} {x : UInt8} (h : l[k]? = some x) : val (l.take (k + 1)) 0 = val (l.take k) 0 * 10 + (x.toNat - 48) := by
  rw [List.take_add_one, h]
  exact val_snoc _ _ _
theorem not_all {l : List UInt8} {k : Nat} {x : UInt8} (h : l[k]? = some x) (hx : isD x = false) : l.all isD = false := by
  rw [List.all_eq_false]
  exact ⟨x, List.mem_of_getElem? h, by simp [hx]⟩
theorem val_max {l : List UInt8} {k : Nat} (h : (l.take k).all isD = true) (hk : k < 18) (hl : k ≤ l.length) : val (l.take k) 0 ≤ 99999999999999999 := by
  have h1 := val_lt (l.take k) 0 0 h (by decide)
  rw [List.length_take, Nat.zero_add, Nat.min_eq_left hl] at h1
  have h2 : 10 ^ k ≤ 10 ^ 17 := Nat.pow_le_pow_right (by omega) (by omega)
  have h3 : (10 : Nat) ^ 17 = 100000000000000000 := by decide
  omega
theorem val_max' {l : List UInt8} (h : l.all isD = true) (hl : l.length ≤ 18) : val l 0 ≤ 999999999999999999 := by
  have h1 := val_lt l 0 0 h (by decide)
  rw [Nat.zero_add] at h1
  have h2 : 10 ^ l.length ≤ 10 ^ 18 := Nat.pow_le_pow_right (by omega) hl
  have h3 : (10 : Nat) ^ 18 = 1000000000000000000 := by decide
  omega
set_option maxRecDepth 20000 in
set_option maxHeartbeats 1000000 in
theorem value_any (w : World) (l : List UInt8) (hl : l.length ≤ 9223372036854775807) :
    Calls Try.prog 68 #[.string ⟨l.toArray⟩] w fun e w' => ∃ v : Int, e = .returned (.tuple #[.int .i64 v, .bool (okL l)]) ∧ (okL l = true → v = sgn l) ∧ Keeps (fun _ => False) w w' := by
  have HT := Lib.hid (trim_any w l hl)
  have HOk := Lib.hid (show okL l = (decide (0 < (dig l).length) && decide ((dig l).length ≤ 18) && (dig l).all isD && (prnL (sgn l) == l)) from rfl)
  have hdl := dig_len l
  have HSg := Lib.hid (And.intro (dig_short l) (show sgn l = if negL l then -((val (dig l) 0 : Nat) : Int) else ((val (dig l) 0 : Nat) : Int) from rfl))
  have HIx := Lib.hid (fun w => str_index w (dig l))
  have hBs := str_size l
  have hDs := str_size (dig l)
  generalize hD : (⟨(dig l).toArray⟩ : ByteArray) = D at HT HIx hDs
  generalize hB : (⟨l.toArray⟩ : ByteArray) = B at HT hBs ⊢
  have HB := Lib.hid hB
  clear hD hB
  generalize hd : dig l = d at HOk hdl HSg HIx hDs
  clear hd
  by_cases c0 : d.length = 0
  · have HF := Lib.hid (show okL l = false from by rw [HOk.out, decide_eq_false (by omega : ¬ 0 < d.length)]; simp)
    go_enter Try.func68, Try.ntmps68
    go_wp2_with fail
    refine HT.out.mono ?_
    rintro e1 w1 ⟨rfl, rfl⟩
    go_wp2_with fail
    refine bodyPost_ret (v := .tuple #[.int .i64 0, .bool false]) (by simp [results, Try.results68, go_sem]) rfl ?_
    exact ⟨0, by rw [HF.out], (fun h => by rw [HF.out] at h; cases h), Keeps.refl _ _⟩
  by_cases c1 : 18 < d.length
  · have HF := Lib.hid (show okL l = false from by rw [HOk.out, decide_eq_false (by omega : ¬ d.length ≤ 18)]; simp)
    go_enter Try.func68, Try.ntmps68
    go_wp2_with fail
    refine HT.out.mono ?_
    rintro e1 w1 ⟨rfl, rfl⟩
    go_wp2_with fail
    refine bodyPost_ret (v := .tuple #[.int .i64 0, .bool false]) (by simp [results, Try.results68, go_sem]) rfl ?_
    exact ⟨0, by rw [HF.out], (fun h => by rw [HF.out] at h; cases h), Keeps.refl _ _⟩
  have f0 : ((d.length : Int) == 0) = false := by simp; intro h; exact c0 (by rw [h]; rfl)
  have f1 : decide (18 < (d.length : Int)) = false := decide_eq_false (by omega)
  go_enter Try.func68, Try.ntmps68
  go_wp2_with fail
  refine HT.out.mono ?_
  rintro e1 w1 ⟨rfl, rfl⟩
  go_wp2_with fail
  go_loop [5, 19] (fun v5 v19 => ∃ k : Nat, k ≤ d.length ∧ v5 = .int .i64 ((val (d.take k) 0 : Nat) : Int) ∧ v19 = .int .i64 (k : Int) ∧ (d.take k).all isD = true) (fun _ v19 => d.length - (intOf v19).toNat)
  case atStart => exact ⟨0, by omega, rfl, rfl, rfl⟩
  case round =>
    obtain ⟨k, hk, rfl, rfl, ha⟩ := hrel
    by_cases hlt : k < d.length
    · obtain ⟨x, hx⟩ : ∃ x, d[k]? = some x := ⟨_, List.getElem?_eq_getElem hlt⟩
      have hix := HIx.out w1 k x hx
      have hm := val_max ha (by omega) hk
      have hr := val_take hx
      have hxx := x.toNat_lt
      have HA := Lib.hid (And.intro ha hx)
      generalize hv : val (d.take k) 0 = v at hm hr ⊢
      have HR := Lib.hid hr
      clear hv hr ha hx
      by_cases x1 : x.toNat < 48
      · have HF := Lib.hid (show okL l = false from by rw [HOk.out, not_all HA.out.2 (by unfold isD; rw [decide_eq_false (by omega : ¬ 48 ≤ x.toNat)]; rfl)]; simp)
        generalize x.toNat = xn at hix hxx x1
        have g1 : decide ((xn : Int) < 48) = true := decide_eq_true (by omega)
        go_wp2_with fail
        refine bodyPost_ret (v := .tuple #[.int .i64 0, .bool false]) (by simp [results, Try.results68, go_sem]) rfl ?_
        exact ⟨0, by rw [HF.out], (fun h => by rw [HF.out] at h; cases h), Keeps.refl _ _⟩
      by_cases x2 : 57 < x.toNat
      · have HF := Lib.hid (show okL l = false from by rw [HOk.out, not_all HA.out.2 (by unfold isD; rw [decide_eq_false (by omega : ¬ x.toNat ≤ 57)]; simp)]; simp)
        generalize x.toNat = xn at hix hxx x1 x2
        have g1 : decide ((xn : Int) < 48) = false := decide_eq_false (by omega)
        have g2 : decide (57 < (xn : Int)) = true := decide_eq_true (by omega)
        go_wp2_with fail
        refine bodyPost_ret (v := .tuple #[.int .i64 0, .bool false]) (by simp [results, Try.results68, go_sem]) rfl ?_
        exact ⟨0, by rw [HF.out], (fun h => by rw [HF.out] at h; cases h), Keeps.refl _ _⟩
      have HD2 := Lib.hid (all_take HA.out.2 HA.out.1 (by unfold isD; rw [decide_eq_true (by omega : 48 ≤ x.toNat), decide_eq_true (by omega : x.toNat ≤ 57)]; rfl))
      generalize x.toNat = xn at hix hxx x1 x2 HR
      have g1 : decide ((xn : Int) < 48) = false := decide_eq_false (by omega)
      have g2 : decide (57 < (xn : Int)) = false := decide_eq_false (by omega)
      go_wp2_with fail
      go_round
      case rel => exact ⟨k + 1, by omega, by rw [HR.out]; congr 1; omega, by congr 1, HD2.out⟩
      case measure => simp [intOf]; omega
    · obtain rfl : k = d.length := by omega
      rw [List.take_length] at ha ⊢
      have hm := val_max' ha (by omega)
      have HO2 := Lib.hid (show okL l = (prnL (sgn l) == l) from by rw [HOk.out, ha, decide_eq_true (by omega : 0 < d.length), decide_eq_true (by omega : d.length ≤ 18)]; rfl)
      generalize hv : val d 0 = v at hm HSg ⊢
      clear hv ha
      have hBl : B.toList = l := by rw [← HB.out]; exact ByteArray.toList_mk _
      have hlq : decide (d.length < l.length) = negL l := HSg.out.1
      cases hq : negL l with
      | true =>
        have hs : sgn l = (-(v : Int)) := by rw [HSg.out.2, hq]; rfl
        have HP := Lib.hid (print_any w1 (-(v : Int)) (by omega))
        have hPl : (prnB (-(v : Int))).toList = prnL (-(v : Int)) := ByteArray.toList_mk _
        rw [hq] at hlq
        have HO3 := Lib.hid (And.intro (show okL l = (prnL (-(v : Int)) == l) from by rw [HO2.out, hs]) hs)
        clear hs hq
        have hlt := of_decide_eq_true hlq
        generalize prnB (-(v : Int)) = PB at HP hPl
        generalize prnL (-(v : Int)) = PL at hPl HO3
        go_wp2_with fail
        refine HP.out.mono ?_
        rintro e2 w2 ⟨rfl, k2⟩
        have HK := Lib.hid k2
        clear k2
        go_wp2_with fail
        refine bodyPost_ret (v := .tuple #[.int .i64 (-(v : Int)), .bool (PL == l)]) (by simp [results, Try.results68, go_sem]) rfl ?_
        exact ⟨(-(v : Int)), by rw [HO3.out.1], fun _ => HO3.out.2.symm, HK.out⟩
      | false =>
        have hs : sgn l = (v : Int) := by rw [HSg.out.2, hq]; rfl
        have HP := Lib.hid (print_any w1 (v : Int) (by omega))
        have hPl : (prnB (v : Int)).toList = prnL (v : Int) := ByteArray.toList_mk _
        rw [hq] at hlq
        have HO3 := Lib.hid (And.intro (show okL l = (prnL (v : Int) == l) from by rw [HO2.out, hs]) hs)
        clear hs hq
        have hlt : ¬ d.length < l.length := of_decide_eq_false hlq
        generalize prnB (v : Int) = PB at HP hPl
        generalize prnL (v : Int) = PL at hPl HO3
        go_wp2_with fail
        refine HP.out.mono ?_
        rintro e2 w2 ⟨rfl, k2⟩
        have HK := Lib.hid k2
        clear k2
        go_wp2_with fail
        refine bodyPost_ret (v := .tuple #[.int .i64 (v : Int), .bool (PL == l)]) (by simp [results, Try.results68, go_sem]) rfl ?_
        exact ⟨(v : Int), by rw [HO3.out.1], fun _ => HO3.out.2.symm, HK.out⟩
end Go.Proofs.Ytdjfelabdofaaaa
namespace Go.Proofs.Ytdjfelabdofaaaa
open Go.ChangeShapes Go.WideShapes Go.ChangeAt Go.RowKit
set_option linter.unusedVariables false
set_option linter.unusedSimpArgs false
theorem outside_any (w : World) (n a b : Int) (p q : Nat) (hp : w.cell? ⟨p, 0, none⟩ = some (.int .i64 a)) (hq : w.cell? ⟨q, 0, none⟩ = some (.int .i64 b)) :
    Calls Try.prog 67 #[.int .i64 n, .pointer (some ⟨p, 0, none⟩), .pointer (some ⟨q, 0, none⟩)] w fun e w' => e = .returned (.bool (decide (n < a ∨ b < n))) ∧ w' = w := by
  by_cases h1 : n < a
  · have g1 : decide (n < a) = true := decide_eq_true h1
    go_enter Try.func67, Try.ntmps67
    go_wp2_with fail
    go_ret
    exact ⟨by first | rfl | (rw [decide_eq_true (Or.inl h1)]; rfl), rfl⟩
  · have g1 : decide (n < a) = false := decide_eq_false h1
    by_cases h2 : b < n
    · have g2 : decide (b < n) = true := decide_eq_true h2
      go_enter Try.func67, Try.ntmps67
      go_wp2_with fail
      go_ret
      exact ⟨by first | rfl | (rw [decide_eq_true (Or.inr h2)]; rfl), rfl⟩
    · have g2 : decide (b < n) = false := decide_eq_false h2
      go_enter Try.func67, Try.ntmps67
      go_wp2_with fail
      go_ret
      exact ⟨by first | rfl | (rw [decide_eq_false (by omega : ¬ (n < a ∨ b < n))]; rfl), rfl⟩
set_option maxRecDepth 20000 in
theorem parse_big (w : World) (l : List UInt8) (hl : l.length ≤ 9223372036854775807) (a b : Int) (ha : -9223372036854775808 ≤ a ∧ a ≤ 9223372036854775807) (hb : -9223372036854775808 ≤ b ∧ b ≤ 9223372036854775807) :
    Calls Try.prog 61 #[.string ⟨l.toArray⟩, .int .i64 a, .int .i64 b] w fun e w' => e = .returned (.tuple #[.int .i64 (parP l a b).1, .int .i64 (parP l a b).2]) ∧ Keeps (fun _ => False) w w' := by
  have HV := Lib.hid (fun w => value_any w l hl)
  have HP := Lib.hid (show parP l a b = match valP l with
    | none => (0, 3)
    | some n => if n < a ∨ b < n then (0, 2) else (n, 0) from rfl)
  have HQ := Lib.hid (show valP l = if okL l then some (sgn l) else none from rfl)
  generalize (⟨l.toArray⟩ : ByteArray) = B at HV ⊢
  go_enter Try.func61, Try.ntmps61
  go_wp2_with fail
  refine (HV.out _).mono ?_
  rintro e2 w2 ⟨v, rfl, hv, k2⟩
  have b1 := k2.at (heap_old (heap_new w (Obj.cells #[Value.int IntKind.i64 a] 3)) (Obj.cells #[Value.int IntKind.i64 b] 3)) (fun h => h)
  have b2 := k2.at (heap_new (w.alloc (Obj.cells #[Value.int IntKind.i64 a] 3)) (Obj.cells #[Value.int IntKind.i64 b] 3)) (fun h => h)
  have hz : (w.alloc (Obj.cells #[Value.int IntKind.i64 a] 3)).heap.size = w.heap.size + 1 := by simp
  rw [hz] at b2
  have HK := Lib.hid ((((Keeps.refl (fun _ => False) w).alloc (Obj.cells #[Value.int IntKind.i64 a] 3)).alloc (Obj.cells #[Value.int IntKind.i64 b] 3)).trans k2)
  have HC := Lib.hid (And.intro b1 b2)
  clear b1 b2 hz k2
  cases ho : okL l with
  | false =>
    have HE := Lib.hid (show parP l a b = (0, 3) from by rw [HP.out, HQ.out, ho]; rfl)
    clear ho hv
    go_wp2_with fail
    refine bodyPost_ret (v := .tuple #[.int .i64 0, .int .i64 3]) (by simp [results, Try.results61, go_sem]) rfl ?_
    exact ⟨by rw [HE.out], HK.out⟩
  | true =>
    have HE := Lib.hid (show parP l a b = if v < a ∨ b < v then (0, 2) else (v, 0) from by rw [HP.out, HQ.out, ho, hv ho]; rfl)
    clear ho hv
    go_wp2_with fail
    refine (outside_any w2 v a b _ _ (cell_of HC.out.1 0) (cell_of HC.out.2 0)).mono ?_
    rintro e3 w3 ⟨rfl, rfl⟩
    by_cases hc : v < a ∨ b < v
    · have HE2 := Lib.hid (show parP l a b = (0, 2) from by rw [HE.out, if_pos hc])
      rw [decide_eq_true hc]
      clear hc
      go_wp2_with fail
      refine bodyPost_ret (v := .tuple #[.int .i64 0, .int .i64 2]) (by simp [results, Try.results61, go_sem]) rfl ?_
      exact ⟨by rw [HE2.out], HK.out⟩
    · have HE2 := Lib.hid (show parP l a b = (v, 0) from by rw [HE.out, if_neg hc])
      rw [decide_eq_false hc]
      clear hc
      go_wp2_with fail
      refine bodyPost_ret (v := .tuple #[.int .i64 v, .int .i64 0]) (by simp [results, Try.results61, go_sem]) rfl ?_
      exact ⟨by rw [HE2.out], HK.out⟩
theorem parse_any (w : World) (l : List UInt8) (hl : l.length < 1000000) (a b : Int) (ha : -9223372036854775808 ≤ a ∧ a ≤ 9223372036854775807) (hb : -9223372036854775808 ≤ b ∧ b ≤ 9223372036854775807) :
    Calls Try.prog 61 #[.string ⟨l.toArray⟩, .int .i64 a, .int .i64 b] w fun e w' => e = .returned (.tuple #[.int .i64 (parP l a b).1, .int .i64 (parP l a b).2]) ∧ Keeps (fun _ => False) w w' := parse_big w l (by omega) a b ha hb
end Go.Proofs.Ytdjfelabdofaaaa
