import Derived.Test.YtlpnobpgphmngaaCellC
import Derived.Test.YtlpnobpgphmngaaWordRef
import Derived.Test.YtlpnobpgphmngaaPop
import Derived.Test.YtlpnobpgphmngaaRow
import Derived.Laws.AppendOwnNone
namespace Go.Proofs.Ytlpnobpgphmngaa
open Go.ChangeShapes Go.WideShapes Go.ChangeAt Go.RowKit
set_option linter.unusedVariables false
set_option linter.unusedSimpArgs false
/-- A slice of n words, of which N tells; it lies in a block from B on. -/
def RowB (w : World) (B : Nat) (a : Option Addr) (n : Nat) (N : Nat → Nat) : Prop := 0 < n → ∃ g, a = some ⟨g, 0, none⟩ ∧ B ≤ g ∧ g < w.heap.size ∧ ∀ i, i < n → w.cell? ⟨g, i, none⟩ = some (.int .u32 (N i))
theorem RowB.keeps {S : Nat → Prop} {w w' : World} {B n : Nat} {a : Option Addr} {N : Nat → Nat} (h : RowB w B a n N) (hk : Keeps S w w') (hs : ∀ k, B ≤ k → ¬ S k) : RowB w' B a n N := by
  intro hn
  obtain ⟨g, ha, hB, hl, hc⟩ := h hn
  exact ⟨g, ha, hB, Nat.lt_of_lt_of_le hl hk.size, fun i hi => (World.cell?_of_block (w := w) (hk.block g hl (hs g hB))).trans (hc i hi)⟩
theorem RowB.none {w w' : World} {B n : Nat} {a : Option Addr} {N : Nat → Nat} (h : RowB w B a n N) (hk : Keeps (fun _ => False) w w') : RowB w' B a n N := h.keeps hk fun _ _ h => h
theorem RowB.more {w : World} {B B' n : Nat} {a : Option Addr} {N : Nat → Nat} (h : RowB w B a n N) (hB : B' ≤ B) : RowB w B' a n N := fun hn => by
  obtain ⟨g, ha, hb, h2⟩ := h hn
  exact ⟨g, ha, Nat.le_trans hB hb, h2⟩
theorem rowB_own {w : World} {B n : Nat} {v : Value} {N : Nat → Nat} (h : w.ownsRow B 26 1 v n (words N n)) : ∃ a cap, v = .slice a n cap ∧ RowB w B a n N ∧
    (0 < n → ∃ g cur, a = some ⟨g, 0, Option.none⟩ ∧ B ≤ g ∧ w.heap[g]? = some (.cells cur 26 (0, 0)) ∧ n ≤ cur.size ∧ ∀ i, i < n → cur[i]? = some (.int .u32 (N i))) := by
  obtain ⟨h1, h | ⟨g, cap, cur, rfl, hg, hb, hc1, hc2, hs, ht⟩⟩ := h
  · refine ⟨Option.none, 0, by rw [h.1, h.2], ?_, ?_⟩ <;> intro hp <;> (rw [h.2] at hp; exact absurd hp (by omega))
  · have hcur : ∀ i, i < n → cur[i]? = some (.int .u32 (N i)) := by
      intro i hi
      have e2 : (cur.toList.take (n * 1))[i]? = (words N n)[i]? := by rw [ht]
      rw [List.getElem?_take, if_pos (by omega)] at e2
      have e3 : (words N n)[i]? = some (.int .u32 (N i)) := by simp [words, hi]
      rw [e3] at e2
      simpa using e2
    refine ⟨_, cap, rfl, fun hp => ⟨g, rfl, hg, lt_of hb, fun i hi => ?_⟩, fun hp => ⟨g, cur, rfl, hg, hb, by omega, hcur⟩⟩
    have e : w.cell? ⟨g, i, Option.none⟩ = cur[i]? := by simp [World.cell?, hb]
    rw [e, hcur i hi]
theorem Try.infoU : (Try.prog.info? 26).map (fun i => (i.zero, i.size, i.bytes)) = some (some (.int .u32 0), 1, 4) := by kernel_rfl
theorem words_len (N : Nat → Nat) (n : Nat) : (words N n).length = n := by simp [words]
theorem words_cells {w : World} {b off n : Nat} {N : Nat → Nat} (hc : ∀ i, i < n → w.cell? ⟨b, off + i, none⟩ = some (.int .u32 (N i))) : ∀ (j : Nat) (u : Value), (words N n)[j]? = some u → w.cell? ((⟨b, off, none⟩ : Addr).add j) = some u := by
  intro j u hj
  have hjn : j < n := by
    rcases Nat.lt_or_ge j n with h1 | h1
    · exact h1
    · rw [List.getElem?_eq_none (by simpa [words] using h1)] at hj; cases hj
  have hv : u = .int .u32 (N j) := by simpa [words, hjn] using hj.symm
  have e : ((⟨b, off, none⟩ : Addr).add j) = ⟨b, off + j, none⟩ := by
    simp only [Addr.add]
    by_cases h : j = 0 <;> simp [h]
  rw [e, hv, hc j hjn]
/-- What stands in Of behind its append. -/
theorem rof_close {w w2 : World} {n : Nat} {v : Value} {N : Nat → Nat} {o : Obj} (hb : Below (w.heap.size + 1) ((w.alloc (.cells #[.slice none 0 0, .int .i64 0, .int .i64 0] 81)).alloc o) w2) (hown : w2.ownsRow (w.heap.size + 1) 26 1 v n (words N n)) :
    w2.heap[w.heap.size]? = some (.cells #[.slice none 0 0, .int .i64 0, .int .i64 0] 81 (0, 0)) ∧ Keeps (fun _ => False) w w2 ∧ ∃ a cap, v = .slice a n cap ∧ RowB w2 (w.heap.size + 1) a n N := by
  have k0 : Keeps (fun _ => False) w ((w.alloc (.cells #[.slice none 0 0, .int .i64 0, .int .i64 0] 81)).alloc o) := ((Keeps.refl _ w).alloc _).alloc _
  obtain ⟨a, cap, e, h, _⟩ := rowB_own hown
  exact ⟨Below.at hb (heap_old (heap_new _ _) _) (by omega), Keeps.ofBelow (k0.none.trans (hb.mono (by omega))), a, cap, e, h⟩
theorem rof_fin {w w2 : World} {n : Nat} {a : Option Addr} {N : Nat → Nat} (hk : Keeps (fun _ => False) w w2) (hr : RowB w2 (w.heap.size + 1) a n N) (x y z : Value) :
    RowB (((w2.setCell ⟨w.heap.size, 0, none⟩ x).setCell ⟨w.heap.size, 1, none⟩ y).setCell ⟨w.heap.size, 2, none⟩ z) w.heap.size a n N ∧ Keeps (fun _ => False) w (((w2.setCell ⟨w.heap.size, 0, none⟩ x).setCell ⟨w.heap.size, 1, none⟩ y).setCell ⟨w.heap.size, 2, none⟩ z) := by
  have k2 : Keeps (fun k => k = w.heap.size) w2 (((w2.setCell ⟨w.heap.size, 0, none⟩ x).setCell ⟨w.heap.size, 1, none⟩ y).setCell ⟨w.heap.size, 2, none⟩ z) :=
    (((Keeps.refl (fun k => k = w.heap.size) w2).setCell (p := ⟨w.heap.size, 0, none⟩) (.inl rfl) x).setCell (p := ⟨w.heap.size, 1, none⟩) (.inl rfl) y).setCell (p := ⟨w.heap.size, 2, none⟩) (.inl rfl) z
  exact ⟨(hr.keeps k2 fun k hk e => by omega).more (by omega), ((hk.setCell (p := ⟨w.heap.size, 0, none⟩) (.inr (Nat.le_refl _)) x).setCell (p := ⟨w.heap.size, 1, none⟩) (.inr (Nat.le_refl _)) y).setCell (p := ⟨w.heap.size, 2, none⟩) (.inr (Nat.le_refl _)) z⟩
set_option maxHeartbeats 400000 in
theorem rof_some (ad : Addr) (n cap : Nat) (N : Nat → Nat) (w : World) (hn : n ≤ 65536) (hc : ∀ (j : Nat) (u : Value), (words N n)[j]? = some u → ((w.alloc (.cells #[.slice none 0 0, .int .i64 0, .int .i64 0] 81)).alloc (.cells #[] 26)).cell? (ad.add j) = some u) :
    Calls Try.prog 51 #[.slice (some ad) n cap] w fun e w' => ∃ a cap', e = .returned (.agg #[.slice a n cap', .int .i64 0, .int .i64 0]) ∧ RowB w' w.heap.size a n N ∧ Keeps (fun _ => False) w w' := by
  obtain ⟨i0, hi, hz0, hz1, hz2⟩ := info_parts Try.infoU
  have hmk0 := made_none (w.alloc (.cells #[.slice none 0 0, .int .i64 0, .int .i64 0] 81)) (w.heap.size + 1) 26 (by simp)
  have hmk : ((w.alloc (.cells #[.slice none 0 0, .int .i64 0, .int .i64 0] 81)).alloc (.cells #[] 26)).ownsRow (w.heap.size + 1) 26 1 (.slice (some ⟨w.heap.size + 1, 0, none⟩) 0 0) 0 [] := by simpa using hmk0
  have HMK := Lib.hid hmk
  clear hmk hmk0
  have HC := Lib.hid hc
  clear hc
  go_enter Try.func51, Try.ntmps51
  go_wp2_with (at_builtin; refine wpList_append_own _ rfl (.tmp 3) (.tmp 4) 46 rfl (w.heap.size + 1) 26 i0 (.int .u32 0) 1 4 Try.underlying46 hi hz0 hz1 hz2 rfl (by decide) _ 0 [] rfl HMK.out ad n cap (words N n) rfl (by rw [words_len]; omega) HC.out (by simp [words, Value.oneCell']) (by unfold maxLen; omega) (by omega) (by simp) ?_; intro v' w2 hown2 hgrow _; have hb2 := (Below.refl (w.heap.size + 1) _).grown hgrow (by simp) (fun k hk => (HMK.out.lt k hk).1); obtain ⟨hres, hkk, a, cap', rfl, hrow⟩ := rof_close (N := N) hb2 (by simpa using hown2); have r0 := cell_of hres 0; have r1 := cell_of hres 1; have r2 := cell_of hres 2; have f0 := free_of hres 0; have f1 := free_of hres 1; have f2 := free_of hres 2; have lr := lt_of hres; have FIN := Lib.hid (rof_fin hkk hrow); clear hown2 hgrow hb2 hres hkk hrow)
  exact bodyPost_ret (v := .agg #[.slice a n cap', .int .i64 0, .int .i64 0]) (by simp [results, Try.results51, go_sem, *]) rfl ⟨a, cap', rfl, (FIN.out _ _ _).1, (FIN.out _ _ _).2⟩
set_option maxHeartbeats 400000 in
theorem rof_nil (N : Nat → Nat) (w : World) :
    Calls Try.prog 51 #[.slice none 0 0] w fun e w' => ∃ a cap', e = .returned (.agg #[.slice a 0 cap', .int .i64 0, .int .i64 0]) ∧ RowB w' w.heap.size a 0 N ∧ Keeps (fun _ => False) w w' := by
  obtain ⟨i0, hi, hz0, hz1, hz2⟩ := info_parts Try.infoU
  have hmk0 := made_none (w.alloc (.cells #[.slice none 0 0, .int .i64 0, .int .i64 0] 81)) (w.heap.size + 1) 26 (by simp)
  have hmk : ((w.alloc (.cells #[.slice none 0 0, .int .i64 0, .int .i64 0] 81)).alloc (.cells #[] 26)).ownsRow (w.heap.size + 1) 26 1 (.slice (some ⟨w.heap.size + 1, 0, none⟩) 0 0) 0 [] := by simpa using hmk0
  have HMK := Lib.hid hmk
  have hkk : Keeps (fun _ => False) w ((w.alloc (.cells #[.slice none 0 0, .int .i64 0, .int .i64 0] 81)).alloc (.cells #[] 26)) := ((Keeps.refl _ w).alloc _).alloc _
  have HK := Lib.hid hkk
  clear hmk hmk0 hkk
  go_enter Try.func51, Try.ntmps51
  go_wp2_with (at_builtin; refine wpList_append_own_none rfl (.tmp 3) (.tmp 4) 46 rfl (w.heap.size + 1) 26 i0 1 Try.underlying46 hi _ 0 [] rfl HMK.out rfl ?_)
  refine bodyPost_ret (v := .agg #[.slice (some ⟨w.heap.size + 1, 0, none⟩) 0 0, .int .i64 0, .int .i64 0]) (by simp [results, Try.results51, go_sem, *]) rfl ⟨_, _, rfl, fun h => absurd h (by omega), ?_⟩
  first
    | exact ((Keeps.refl _ w).alloc _).alloc _
    | exact ((HK.out.setCell (p := ⟨w.heap.size, 0, none⟩) (.inr (Nat.le_refl _)) _).setCell (p := ⟨w.heap.size, 1, none⟩) (.inr (Nat.le_refl _)) _).setCell (p := ⟨w.heap.size, 2, none⟩) (.inr (Nat.le_refl _)) _
/-- The bits of both words, as Or and And have them. -/
def opW (o : Bool) (x y : Nat) : Nat := if o then x ||| y else x &&& y
theorem opW_lt {o : Bool} {x y : Nat} (hx : x < 4294967296) (hy : y < 4294967296) : opW o x y < 4294967296 := by
  unfold opW
  cases o
  · exact Nat.lt_of_le_of_lt Nat.and_le_left hx
  · exact Nat.or_lt_two_pow (n := 32) hx hy
theorem opW_bit (o : Bool) (x y k : Nat) : (opW o x y).testBit k = (if o then (x.testBit k || y.testBit k) else (x.testBit k && y.testBit k)) := by
  unfold opW
  cases o
  · simp
  · simp
set_option maxRecDepth 20000 in
theorem rbits06 (x y : Nat) (o : Bool) (w : World) (hx : x < 4294967296) (hy : y < 4294967296) :
    Calls Try.prog 97 #[.int .u32 x, .int .u32 y, .bool o] w fun e w' => e = .returned (.int .u32 (opW o x y : Nat)) ∧ Keeps (fun _ => False) w w' := by
  have hz := opW_lt (o := o) hx hy
  go_enter Try.func97, Try.ntmps97
  go_wp2_with fail
  obtain ⟨wo, rfl⟩ : ∃ wo : World, wo = w := ⟨_, rfl⟩
  go_loopw [7, 8] (fun z i wr => ∃ k : Nat, k ≤ 32 ∧ i = .int .i64 k ∧ z = .int .u32 ((opW o x y % 2 ^ k : Nat) : Int) ∧ Keeps (fun _ => False) wo wr) (fun _ i _ => 32 - (intOf i).toNat)
  case atStart => exact ⟨0, by omega, rfl, by simp [Nat.mod_one], Keeps.refl _ _⟩
  case round =>
    obtain ⟨k, hk, rfl, rfl, hK⟩ := hrel
    by_cases hk32 : k < 32
    · have hpm := put_mod (opW o x y) k hk32
      rw [opW_bit] at hpm
      have hlt : opW o x y % 2 ^ k < 4294967296 := Nat.lt_of_le_of_lt (Nat.mod_le _ _) hz
      have HK := Lib.hid hK
      have e1 := hasB_nat (w := x) hk32
      have e2 := hasB_nat (w := y) hk32
      generalize opW o x y % 2 ^ k = z at *
      have HE := Lib.hid (And.intro e1 e2)
      have HPM := Lib.hid hpm
      clear hK hpm e1 e2
      go_wp2_with fail
      refine (rhas_any x k _ hx).mono ?_
      rintro e w1 ⟨rfl, k1⟩
      rw [HE.out.1]
      have HK1 := Lib.hid (HK.out.trans k1)
      clear k1 HK
      go_wp2_with fail
      refine (rhas_any y k _ hy).mono ?_
      rintro e w2 ⟨rfl, k2⟩
      rw [HE.out.2]
      have HK2 := Lib.hid (HK1.out.trans k2)
      clear k2 HK1
      generalize x.testBit k = b1 at *
      generalize y.testBit k = b2 at *
      cases o <;> cases b1 <;> cases b2
      all_goals
        go_wp2_with fail
        refine (rput_any z k _ _ hlt).mono ?_
        rintro e w3 ⟨rfl, k3⟩
        go_wp2
        go_roundw
        case rel => exact ⟨k + 1, by omega, by go_num, by rw [← HPM.out]; rfl, HK2.out.trans k3⟩
        case measure => simp [intOf]; omega
    · obtain rfl : k = 32 := by omega
      have hm : opW o x y % 2 ^ 32 = opW o x y := Nat.mod_eq_of_lt hz
      rw [hm]
      clear hm
      go_wp2
      go_ret
      exact ⟨rfl, hK⟩
theorem ror06 (x y : Nat) (w : World) (hx : x < 4294967296) (hy : y < 4294967296) :
    Calls Try.prog 79 #[.int .u32 x, .int .u32 y] w fun e w' => e = .returned (.int .u32 (opW true x y : Nat)) ∧ Keeps (fun _ => False) w w' := by
  go_enter Try.func79, Try.ntmps79
  go_wp2_with fail
  refine (rbits06 x y true _ hx hy).mono ?_
  rintro e w1 ⟨rfl, k1⟩
  go_wp2
  go_ret
  exact ⟨rfl, k1⟩
theorem rand06 (x y : Nat) (w : World) (hx : x < 4294967296) (hy : y < 4294967296) :
    Calls Try.prog 80 #[.int .u32 x, .int .u32 y] w fun e w' => e = .returned (.int .u32 (opW false x y : Nat)) ∧ Keeps (fun _ => False) w w' := by
  go_enter Try.func80, Try.ntmps80
  go_wp2_with fail
  refine (rbits06 x y false _ hx hy).mono ?_
  rintro e w1 ⟨rfl, k1⟩
  go_wp2
  go_ret
  exact ⟨rfl, k1⟩
end Go.Proofs.Ytlpnobpgphmngaa
