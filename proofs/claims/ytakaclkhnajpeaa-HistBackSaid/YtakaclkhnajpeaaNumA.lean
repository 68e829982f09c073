import Derived.Test.YtakaclkhnajpeaaRows
import Derived.Test.YtakaclkhnajpeaaDig
import Derived.Test.YtakaclkhnajpeaaKeep
import Derived.Test.YtakaclkhnajpeaaRet
import Derived.Test.YtakaclkhnajpeaaAgain
import Derived.ProofKit
import Derived.OpenShut
import Derived.WalkLawsBesides
import Derived.WalkSpells
import Derived.Lib.Hide
import Derived.Deep.QuietTactic
import Derived.BigQuiet
import Derived.Deep.RegionWith
import Derived.Laws.Concat
import Derived.Lib.SlBytesRow
import Derived.Deep.RegionLaw
import Derived.Handy
namespace Go.Proofs.Ytakaclkhnajpeaa
open Go.ChangeShapes Go.WideShapes Go.ChangeAt Go.RowKit
set_option linter.unusedVariables false
set_option linter.unusedSimpArgs false
def u8s (l : List UInt8) : List Value := l.map fun x => Value.int .u8 (x.toNat : Int)
theorem buf_zeros : ∃ zs : List Value, (∀ w, (zeroValue 87).run Try.prog w = .ok (.agg zs.toArray) w) ∧ zs.length = 20 ∧ zs.toArray.all (·.oneCell') = true := by
  refine ⟨List.replicate 20 (.int .u8 0), fun w => by kernel_rfl, by kernel_rfl, by kernel_rfl⟩
theorem wrap_neg {n : Int} (h : n < 0) (hn : -9223372036854775808 ≤ n) : IntKind.u64.wrap n = 18446744073709551616 + n := by
  simp only [IntKind.wrap, IntKind.signed, IntKind.bits]; simp; omega
theorem buf_slice (b k : Nat) (hk : k < 20) (w : World) :
    (Instr.sliceAt 87 (.pointer (some ⟨b, 0, none⟩)) (some (.int .i64 (k : Int))) none none).run Try.prog w = .ok (.slice (some ⟨b, k, none⟩) (20 - k) (20 - k)) w := by
  have ha : Try.prog.arrayLen 87 = 20 := by kernel_rfl
  have hs : (sizeOf (Try.prog.elem 87)).run Try.prog w = .ok 1 w := by kernel_rfl
  rw [run_sliceAt_array_l w 87 ⟨b, 0, none⟩ (by kernel_rfl) .i64 k (by omega) (by rw [ha]; omega), hs]
  have h20 : 20 ≠ k := by omega
  by_cases h0 : k = 0
  · subst h0; simp [Result.andThen, slicedAt, Addr.add, ha]
  · simp [Result.andThen, slicedAt, Addr.add, ha, h20, h0]
theorem u8s_set (pre : List Value) (k : Nat) (L : List UInt8) (x : UInt8) (h : pre.length = k + 1) :
    (pre ++ u8s L).toArray.setIfInBounds k (.int .u8 (x.toNat : Int)) = (pre.take k ++ u8s (x :: L)).toArray := by
  apply Array.ext'
  rw [Array.toList_setIfInBounds]
  show (pre ++ u8s L).set k _ = pre.take k ++ u8s (x :: L)
  apply List.ext_getElem?
  intro j
  have hl : (pre.take k).length = k := by rw [List.length_take]; omega
  rw [List.getElem?_set]
  by_cases h1 : k = j
  · subst h1
    rw [if_pos rfl, if_pos (by rw [List.length_append]; omega), List.getElem?_append_right (by omega), hl, Nat.sub_self]
    rfl
  · rw [if_neg h1]
    rcases Nat.lt_or_ge j k with h2 | h2
    · rw [List.getElem?_append_left (by omega), List.getElem?_append_left (by omega), List.getElem?_take_of_lt h2]
    · rw [List.getElem?_append_right (by omega), List.getElem?_append_right (by omega), hl, h]
      obtain ⟨q, rfl⟩ : ∃ q, j = k + 1 + q := ⟨j - (k + 1), by omega⟩
      rw [show k + 1 + q - (k + 1) = q by omega, show k + 1 + q - k = q + 1 by omega]
      rfl
theorem u8s_get (L : List UInt8) (i : Nat) (h : i < L.length) : (u8s L)[i]? = some (.int .u8 (L[i].toNat : Int)) := by
  simp [u8s, List.getElem?_map, List.getElem?_eq_getElem h]
theorem buf_string {w : World} {b k : Nat} {L : List UInt8} {pre : List Value} {E : TypeId} (hp : pre.length = k) (hb : w.heap[b]? = some (.cells (pre ++ u8s L).toArray E (0, 0))) (n : Nat) (hn : n = L.length) (cap : Nat) :
    (convert 71 9 (.slice (some ⟨b, k, none⟩) n cap)).run Try.prog w = .ok (.string ⟨L.toArray⟩) w := by
  subst hn
  refine Lib.run_convert_whole (P := Try.prog) w _ 5 _ (by kernel_rfl) (by kernel_rfl) (by kernel_rfl) b k ⟨L.toArray⟩ ?_ cap
  intro i hi
  have hi' : i < L.length := hi
  rw [cell_of hb (k + i), List.getElem?_toArray, List.getElem?_append_right (by omega), show k + i - pre.length = i by omega, u8s_get L i hi']
  rfl
set_option maxRecDepth 20000 in
set_option maxHeartbeats 1000000 in
theorem print_any (w : World) (n : Int) (hn : -9223372036854775808 ≤ n ∧ n ≤ 9223372036854775807) :
    Calls Try.prog 22 #[.int .i64 n] w fun e w' => e = .returned (.string (prnB n)) ∧ Keeps (fun _ => False) w w' := by
  obtain ⟨zs, hz, hzl, hz1⟩ := buf_zeros
  have HZ := Lib.hid (And.intro hzl hz1)
  have hw1 : IntKind.u64.wrap n = if n < 0 then 18446744073709551616 + n else n := by
    by_cases h : n < 0
    · rw [if_pos h, wrap_neg h hn.1]
    · rw [if_neg h]; simp only [IntKind.wrap, IntKind.signed, IntKind.bits]; simp; omega
  have hw2 : n < 0 → IntKind.u64.wrap (-(18446744073709551616 + n)) = (n.natAbs : Int) := by
    intro h; simp only [IntKind.wrap, IntKind.signed, IntKind.bits]; simp; omega
  have HW := Lib.hid (And.intro hw1 hw2)
  clear hzl hz1 hw1 hw2
  go_enter Try.func22, Try.ntmps22
  go_wp2_with fail
  refine wp_scope_again 0 (fun a' w' => ∃ (m at0 : Nat) (L : List UInt8) (pre : List Value) (u1 u6 u7 u8 u9 u10 u11 u12 u13 u14 u15 u16 u17 u18 u19 u20 u21 u22 u23 u24 u25 u26 u27 u28 u29 u30 u31 u32 : Value), a' = { tmps := #[.int .i64 n, u1, .string { data := #[] }, .pointer (some ⟨w.heap.size, 0, none⟩), .int .i64 (at0 : Int), .int .u64 (m : Int), u6, u7, u8, u9, u10, u11, u12, u13, u14, u15, u16, u17, u18, u19, u20, u21, u22, u23, u24, u25, u26, u27, u28, u29, u30, u31, u32], defers := [] } ∧ m < 18446744073709551616 ∧ at0 + L.length = 20 ∧ 0 < at0 ∧ digL n.natAbs = digL m ++ L ∧ pre.length = at0 ∧ w'.heap[w.heap.size]? = some (.cells (pre ++ u8s L).toArray 87 (0, 0)) ∧ Keeps (fun _ => False) w w')
    (fun a _ => (intOf (a.tmps.getD 5 undef)).toNat) rfl ?_ ?_
  · rintro a' w' ⟨m, at0, L, pre, u1, u6, u7, u8, u9, u10, u11, u12, u13, u14, u15, u16, u17, u18, u19, u20, u21, u22, u23, u24, u25, u26, u27, u28, u29, u30, u31, u32, rfl, hm, hat, h0, hd, hpl, hb, hK⟩
    obtain ⟨k, rfl⟩ : ∃ k, at0 = k + 1 := ⟨at0 - 1, by omega⟩
    have lb := lt_of hb
    have HK := Lib.hid hK
    have HB := Lib.hid hb
    have HD := Lib.hid (And.intro hd hpl)
    have hcc : w'.cell? ⟨w.heap.size, k, none⟩ = (pre ++ u8s L).toArray[k]? := cell_of hb k
    have hff : w'.frozen? ⟨w.heap.size, k, none⟩ = false := free_of hb k
    have hk : k < 20 := by omega
    have z1 : ((k + 1 : Nat) : Int) - 1 = (k : Int) := by omega
    obtain ⟨c0, hc0⟩ : ∃ c0, (pre ++ u8s L).toArray[k]? = some c0 := by
      rw [List.getElem?_toArray]
      exact ⟨_, List.getElem?_eq_getElem (by rw [List.length_append]; omega)⟩
    rw [hc0] at hcc
    have HA := Lib.hid hat
    clear hK hb hd hpl hc0 hat
    have hb1 : (48 + (m : Int) % 10) = ((UInt8.ofNat (48 + m % 10)).toNat : Int) := by rw [byte_of (m % 10) (by omega)]; omega
    have HB2 := Lib.hid (show (w'.setCell ⟨w.heap.size, k, none⟩ (.int .u8 (48 + (m : Int) % 10))).heap[w.heap.size]? = some (.cells (pre.take k ++ u8s (UInt8.ofNat (48 + m % 10) :: L)).toArray 87 (0, 0)) from by
      rw [hb1, ← u8s_set pre k L _ HD.out.2]; exact heap_set HB.out k _)
    have HK2 := Lib.hid (show Keeps (fun _ => False) w (w'.setCell ⟨w.heap.size, k, none⟩ (.int .u8 (48 + (m : Int) % 10))) from HK.out.setCell (Or.inr (Nat.le_refl _)) _)
    have hpt : (pre.take k).length = k := by rw [List.length_take, HD.out.2]; omega
    have HPT := Lib.hid hpt
    clear hb1 hpt
    by_cases h10 : m < 10
    · have e10 : (m : Int) / 10 = 0 := by omega
      have hdl : digL n.natAbs = UInt8.ofNat (48 + m % 10) :: L := by rw [HD.out.1, digL_small h10, show m % 10 = m by omega]; rfl
      obtain ⟨q, hq⟩ : ∃ q, 20 - k = q := ⟨_, rfl⟩
      have hql : q = (UInt8.ofNat (48 + m % 10) :: L).length := by have := HA.out; rw [List.length_cons]; omega
      have hsl := fun wr => buf_slice w.heap.size k hk wr
      rw [hq] at hsl
      have hcv := buf_string (HPT.out) HB2.out q hql q
      have HP := Lib.hid (show prnB n = if n < 0 then ({ data := #[45] } : ByteArray) ++ ⟨(UInt8.ofNat (48 + m % 10) :: L).toArray⟩ else ⟨(UInt8.ofNat (48 + m % 10) :: L).toArray⟩ from by
        unfold prnB prnL
        rw [hdl]
        split
        · exact (ByteArray.mk_append_mk [45] _).symm
        · rfl)
      have hsz : (1 + (UInt8.ofNat (48 + m % 10) :: L).length) ≤ 9223372036854775807 := by have := HA.out; rw [List.length_cons]; omega
      clear hdl hq hql
      generalize hS : (⟨(UInt8.ofNat (48 + m % 10) :: L).toArray⟩ : ByteArray) = S at hcv HP
      have hSz : S.size ≤ 20 := by rw [← hS]; have := HA.out; show (UInt8.ofNat (48 + m % 10) :: L).length ≤ 20; rw [List.length_cons]; omega
      clear hS hsz
      by_cases hneg : n < 0
      · have d1 : decide (n < 0) = true := decide_eq_true hneg
        have hS1 := run_string_add_sum (P := Try.prog) (w'.setCell ⟨w.heap.size, k, none⟩ (.int .u8 (48 + (m : Int) % 10))) { data := #[45] } S (by show 1 + S.size ≤ _; omega)
        go_wp2
        try simp only [Exit.jump]
        go_ret
        exact ⟨by have h := HP.out; rw [if_pos (by omega)] at h; rw [h]; rfl, HK2.out⟩
      · have d1 : decide (n < 0) = false := decide_eq_false hneg
        go_wp2
        try simp only [Exit.jump]
        go_ret
        exact ⟨by have h := HP.out; rw [if_neg (by omega)] at h; rw [h]; rfl, HK2.out⟩
    · have e10 : decide (0 < (m : Int) / 10) = true := decide_eq_true (by omega)
      go_wp2_with fail
      go_step3
      refine ⟨rfl, ⟨m / 10, k, UInt8.ofNat (48 + m % 10) :: L, pre.take k, u1, _, _, _, _, _, _, _, _, _, _, _, _, _, _, _, _, _, _, _, _, _, _, _, _, _, _, _, rfl, by omega, ?_, ?_, ?_, HPT.out, HB2.out, HK2.out⟩, ?_⟩
      · have := HA.out; rw [List.length_cons]; omega
      · have h1 := HD.out.1
        rw [digL_big h10] at h1
        have h2 := digL_len20 (m := n.natAbs) (by omega)
        have h3 := digL_pos (m / 10)
        have := HA.out
        rw [h1, List.length_append, List.length_append, List.length_singleton] at h2
        omega
      · rw [HD.out.1, digL_big h10, List.append_assoc]; rfl
      · simp [intOf]; omega
  · intro hpass
    have hzb : w.heap.size < w.heap.size + 1 := by omega
    by_cases hneg : n < 0
    · have d1 : decide (n < 0) = true := decide_eq_true hneg
      have hw1 := HW.out.1
      have hw2 := HW.out.2 hneg
      rw [if_pos hneg] at hw1
      go_wp2_with fail
      go_step3
      rename_i K hK
      exact hK _ _ <| hpass _ _ ⟨n.natAbs, 20, [], zs, undef, _, _, _, _, _, _, _, _, _, _, _, _, _, _, _, _, _, _, _, _, _, _, _, _, _, _, _, rfl, by omega, rfl, by omega, by rw [List.append_nil], HZ.out.1, by rw [show u8s [] = [] from rfl, List.append_nil]; exact heap_new _ _, (Keeps.refl _ w).alloc _⟩
    · have d1 : decide (n < 0) = false := decide_eq_false hneg
      have hw1 : IntKind.u64.wrap n = (n.natAbs : Int) := by rw [HW.out.1, if_neg hneg]; omega
      go_wp2_with fail
      go_step3
      rename_i K hK
      exact hK _ _ <| hpass _ _ ⟨n.natAbs, 20, [], zs, undef, _, _, _, _, _, _, _, _, _, _, _, _, _, _, _, _, _, _, _, _, _, _, _, _, _, _, _, rfl, by omega, rfl, by omega, by rw [List.append_nil], HZ.out.1, by rw [show u8s [] = [] from rfl, List.append_nil]; exact heap_new _ _, (Keeps.refl _ w).alloc _⟩
end Go.Proofs.Ytakaclkhnajpeaa
