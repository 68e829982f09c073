import Derived.Test.YthnmlklgbggmbaaGreatRankBq
import Derived.WalkKit
import Derived.ScopeJumps
import Derived.WalkMore
import Derived.Test.YthnmlklgbggmbaaGreatRowq
import Derived.Laws.AppendOwn
import Derived.Deep.RegionLaw
import Derived.Deep.RegionWith
import Derived.Handy
import Derived.Laws.CopyOwn
import Derived.Deep.OwnRows
import Derived.Deep.WholeRow
import Derived.Great.BuildSlice
namespace Go.Proofs.YthnmlklgbggmbaaGreat
set_option linter.unusedVariables false
set_option linter.unusedSimpArgs false
theorem nodup_le : ∀ (n : Nat) (l : List Nat), l.Nodup → (∀ x, x ∈ l → x < n) → l.length ≤ n
  | 0, [], _, _ => Nat.le_refl _
  | 0, x :: l, _, h => absurd (h x (by simp)) (by omega)
  | n + 1, l, hn, h => by
    have h1 := nodup_le n (l.filter (fun x => x != n)) (hn.filter _) (fun x hx => by
      have := List.mem_filter.1 hx
      have h2 := h x this.1
      have h3 : x ≠ n := by simpa using this.2
      omega)
    have h2 : l.length ≤ (l.filter (fun x => x != n)).length + 1 := by
      clear h h1
      induction l with
      | nil => simp
      | cons a l ih =>
        have hn' := List.nodup_cons.1 hn
        by_cases e : a = n
        · subst e
          have : l.filter (fun x => x != a) = l := List.filter_eq_self.2 (fun x hx => by
            have : x ≠ a := fun e => hn'.1 (e ▸ hx)
            simpa using this)
          simp [this]
        · have h3 : (a :: l).filter (fun x => x != n) = a :: l.filter (fun x => x != n) := by simp [e]
          rw [h3]
          have := ih hn'.2
          simp only [List.length_cons]
          omega
    omega
structure RkOk (X : Nat → Nat → Int) (m pr : Nat → Nat) (bs : Nat) (L : Nat → List Nat) : Prop where
  len : ∀ p, p < 32 → m p = (L p).length
  row : ∀ p i t : Nat, p < 32 → (L p)[i]? = some t → X p i = (t : Int)
  nd : ∀ p, p < 32 → (L p).Nodup
  mem : ∀ p t, p < 32 → (t ∈ L p ↔ t < 16 ∧ pr t = p + 1)
  small : ∀ t, t < 16 → pr t ≤ 32
  lt : bs < 4294967296
  bit : ∀ p, p < 32 → bs.testBit p = !(L p).isEmpty
section
variable {X : Nat → Nat → Int} {m pr : Nat → Nat} {bs : Nat} {L : Nat → List Nat}
theorem RkOk.le (h : RkOk X m pr bs L) (p : Nat) (hp : p < 32) : (L p).length ≤ 16 :=
  nodup_le 16 _ (h.nd p hp) fun x hx => ((h.mem p x hp).1 hx).1
theorem RkOk.less (h : RkOk X m pr bs L) (p t : Nat) (hp : p < 32) (ht : t < 16) (h0 : pr t = 0) : (L p).length < 16 := by
  have hm : t ∉ L p := fun hm => by have := ((h.mem p t hp).1 hm).2; omega
  have := nodup_le 16 (t :: L p) (List.nodup_cons.2 ⟨hm, h.nd p hp⟩) fun x hx => by
    rcases List.mem_cons.1 hx with rfl | hx
    · exact ht
    · exact ((h.mem p x hp).1 hx).1
  simp at this; omega
theorem RkOk.add (h : RkOk X m pr bs L) (p t : Nat) (hp : p < 32) (ht : t < 16) (h0 : pr t = 0) :
    RkOk (fun q j => if q = p ∧ j = m p then (t : Int) else X q j) (fun q => if q = p then m p + 1 else m q) (fun q => if q = t then p + 1 else pr q) (setB bs (p : Int)) (fun q => if q = p then L p ++ [t] else L q) := by
  have hm : ∀ q, q < 32 → t ∉ L q := fun q hq hm => by have := ((h.mem q t hq).1 hm).2; omega
  have hl := h.len p hp
  refine ⟨fun q hq => ?_, fun q i u hq hi => ?_, fun q hq => ?_, fun q u hq => ?_, fun u hu => ?_, setB_lt h.lt _, fun q hq => ?_⟩
  · by_cases e : q = p
    · subst e
      simp [hl]
    · simp only [if_neg e]; exact h.len q hq
  · by_cases e : q = p
    · subst e
      simp only [if_pos] at hi
      by_cases e2 : i = m q
      · simp only [e2, and_self, if_pos]
        rw [e2, hl, List.getElem?_append_right (Nat.le_refl _)] at hi
        simp at hi
        rw [hi]
      · simp only [e2, and_false, if_false]
        rcases Nat.lt_or_ge i (L q).length with h1 | h1
        · rw [List.getElem?_append_left h1] at hi
          exact h.row q i u hq hi
        · rw [List.getElem?_eq_none (by simp; omega)] at hi; cases hi
    · simp only [if_neg e] at hi
      simp only [e, false_and, if_false]
      exact h.row q i u hq hi
  · by_cases e : q = p
    · subst e
      simp only [if_pos]
      exact List.nodup_append.2 ⟨h.nd q hq, by simp, fun a ha b hb => by
        have : b = t := by simpa using hb
        rintro rfl
        exact hm q hq (this ▸ ha)⟩
    · simp only [if_neg e]; exact h.nd q hq
  · by_cases e : q = p
    · subst e
      simp only [if_pos, List.mem_append, List.mem_singleton]
      by_cases e2 : u = t
      · subst e2; simp [ht]
      · simp only [e2, or_false, if_neg e2]; exact h.mem q u hq
    · simp only [if_neg e]
      by_cases e2 : u = t
      · subst e2
        simp only [if_pos]
        exact ⟨fun hh => absurd hh (hm q hq), fun hh => by omega⟩
      · simp only [if_neg e2]; exact h.mem q u hq
  · by_cases e2 : u = t
    · simp only [if_pos e2]; omega
    · simp only [if_neg e2]; exact h.small u hu
  · rw [setB_testBit]
    by_cases e : q = p
    · subst e
      simp [hq]
    · have : ¬ ((q : Int) = (p : Int) ∧ q < 32) := by omega
      simp only [if_neg e, decide_eq_false this, Bool.or_false]
      exact h.bit q hq
def flat (L : Nat → List Nat) (p : Nat) : List Nat := ((List.range (32 - p)).map fun i => L (31 - i)).flatten
theorem flat_top (L : Nat → List Nat) : flat L 32 = [] := by simp [flat]
theorem flat_down (L : Nat → List Nat) (p : Nat) (hp : p < 32) : flat L p = flat L (p + 1) ++ L p := by
  unfold flat
  rw [show 32 - p = (32 - (p + 1)) + 1 by omega, List.range_succ, List.map_append, List.flatten_append]
  rw [show List.map (fun i => L (31 - i)) [32 - (p + 1)] = [L p] by simp only [List.map_cons, List.map_nil]; rw [show 31 - (32 - (p + 1)) = p by omega]]
  simp
theorem flat_same (L : Nat → List Nat) (p : Nat) : ∀ n, p + n ≤ 32 → (∀ q, p ≤ q → q < p + n → L q = []) → flat L p = flat L (p + n)
  | 0, _, _ => rfl
  | n + 1, h, he => by
    rw [flat_down L p (by omega), he p (Nat.le_refl _) (by omega), List.append_nil]
    have := flat_same L (p + 1) n (by omega) fun q h1 h2 => he q (by omega) (by omega)
    rw [this]
    congr 1
    omega
theorem mem_flat (L : Nat → List Nat) (p t : Nat) : t ∈ flat L p ↔ ∃ q, p ≤ q ∧ q < 32 ∧ t ∈ L q := by
  unfold flat
  simp only [List.mem_flatten, List.mem_map, List.mem_range]
  constructor
  · rintro ⟨l, ⟨i, hi, rfl⟩, ht⟩
    exact ⟨31 - i, by omega, by omega, ht⟩
  · rintro ⟨q, h1, h2, ht⟩
    exact ⟨L q, ⟨31 - q, by omega, by rw [show 31 - (31 - q) = q by omega]⟩, ht⟩
theorem flat_len (L : Nat → List Nat) (h : ∀ p, p < 32 → (L p).length ≤ 16) : ∀ n p, p + n = 32 → (flat L p).length ≤ n * 16
  | 0, p, hp => by
    obtain rfl : p = 32 := by omega
    simp [flat_top]
  | n + 1, p, hp => by
    rw [flat_down L p (by omega), List.length_append]
    have := flat_len L h n (p + 1) (by omega)
    have := h p (by omega)
    omega
end
theorem flat_pre (L : Nat → List Nat) : ∀ n q, q + n ≤ 32 → ∃ s, flat L q = flat L (q + n) ++ s
  | 0, q, _ => ⟨[], by simp⟩
  | n + 1, q, h => by
    obtain ⟨s, hs⟩ := flat_pre L n (q + 1) (by omega)
    refine ⟨s ++ L q, ?_⟩
    rw [flat_down L q (by omega), hs, List.append_assoc]
    congr 2
    omega
theorem RkOk.empty {X : Nat → Nat → Int} {m pr : Nat → Nat} {L : Nat → List Nat} (h : RkOk X m pr 0 L) : flat L 0 = [] := by
  have := flat_same L 0 32 (by omega) fun q _ hq => by
    have := h.bit q (by omega)
    simpa using this
  rw [this, flat_top]
theorem RkOk.next {X : Nat → Nat → Int} {m pr : Nat → Nat} {bs : Nat} {L : Nat → List Nat} (h : RkOk X m pr bs L) (rest q : Nat) (hq : q ≤ 32) (hr : rest < 4294967296) (h0 : rest ≠ 0) (hs : ∀ j, rest.testBit j = (bs.testBit j && decide (j < q))) :
    ∃ p, Lib.bitLen rest = p + 1 ∧ p < q ∧ L p ≠ [] ∧ flat L q = flat L (p + 1) ∧ (∀ j, (clrB rest (p : Int)).testBit j = (bs.testBit j && decide (j < p))) ∧ clrB rest (p : Int) < rest := by
  obtain ⟨h1, h2, h3, h4⟩ := high_spec hr h0
  obtain ⟨p, hp⟩ : ∃ p, Lib.bitLen rest = p + 1 := ⟨Lib.bitLen rest - 1, by omega⟩
  rw [hp] at h3 h4 h2
  have h5 : rest.testBit p = true := h3
  have h6 := hs p
  rw [h5] at h6
  have h7 : bs.testBit p = true ∧ p < q := by simpa using h6.symm
  refine ⟨p, hp, h7.2, ?_, ?_, fun j => ?_, ?_⟩
  · have := h.bit p (by omega)
    rw [h7.1] at this
    intro e
    rw [e] at this
    simp at this
  · have := flat_same L (p + 1) (q - (p + 1)) (by omega) fun j h8 h9 => by
      have h10 := h4 j (by omega)
      rw [hs j, decide_eq_true (by omega : j < q), Bool.and_true] at h10
      have := h.bit j (by omega)
      rw [h10] at this
      simpa using this.symm
    rw [this]
    congr 1
    omega
  · rw [clrB_testBit hr, hs j]
    by_cases h8 : j < p
    · have : ¬ ((j : Int) = (p : Int)) := by omega
      simp [h8, this]
      omega
    · by_cases h9 : j = p
      · subst h9; simp
      · have := h4 j (by omega)
        rw [hs j] at this
        rw [this]
        simp [h8]
  · have h8 : clrB rest (p : Int) ≤ rest := Nat.and_le_left
    have h9 : clrB rest (p : Int) ≠ rest := fun e => by
      have h10 := clrB_testBit hr (p : Int) p
      rw [e, h5] at h10
      simp at h10
    omega
theorem RkOk.first {X : Nat → Nat → Int} {m pr : Nat → Nat} {bs : Nat} {L : Nat → List Nat} (h : RkOk X m pr bs L) (h0 : bs ≠ 0) :
    ∃ p t, Lib.bitLen bs = p + 1 ∧ p < 32 ∧ X p 0 = ((t : Nat) : Int) ∧ t < 16 ∧ (flat L 0).head? = some t := by
  obtain ⟨p, hp, hlt, hne, hf, _, _⟩ := h.next bs 32 (Nat.le_refl _) h.lt h0 fun j => by
    by_cases hj : j < 32
    · simp [hj]
    · rw [testBit_ge h.lt (by omega)]; simp
  obtain ⟨s, hs⟩ := flat_pre L p 0 (by omega)
  rw [flat_top] at hf
  rw [Nat.zero_add, flat_down L p hlt, ← hf, List.nil_append] at hs
  cases hL : L p with
  | nil => exact absurd hL hne
  | cons t l =>
    refine ⟨p, t, hp, hlt, h.row p 0 t hlt (by rw [hL]; rfl), ((h.mem p t hlt).1 (by rw [hL]; simp)).1, ?_⟩
    rw [hs, hL]
    rfl
end Go.Proofs.YthnmlklgbggmbaaGreat
namespace Go
section
variable {P : Program} {a : Act} {w : World} {Q : Exit → Act → World → Prop}
theorem Exit.jump_mono {l : Nat} {J J' : Act → World → Prop} {e : Exit} {a : Act} {w : World} (h : ∀ a w, J a w → J' a w) (hj : Exit.jump l J Q e a w) : Exit.jump l J' Q e a w := by
  cases e with
  | goto l' => exact ⟨hj.1, h _ _ hj.2⟩
  | _ => exact hj
theorem wp_scope_again {c rest : Code} (l : Nat) (J : Act → World → Prop) (μ : Act → World → Nat) (hf : findLabel c l = some (Code.skip.seq rest))
    (pass : ∀ a w, J a w → rest.wp P (Exit.jump l (fun a' w' => J a' w' ∧ μ a' w' < μ a w) Q) a w)
    (first : (∀ a w, J a w → rest.wp P (Exit.jump l J Q) a w) → c.wp P (Exit.jump l J Q) a w) : (Code.scope c).wp P Q a w :=
  wp_scope_jumps l J μ hf (first fun a w h => wp_mono (pass a w h) fun _ _ _ hq => Exit.jump_mono (fun _ _ h => h.1) hq) fun a w h => wp_seq (wp_skip (pass a w h))
end
end Go
namespace Go.Proofs.YthnmlklgbggmbaaGreat
open Go.ChangeShapes Go.WideShapes Go.ChangeAt Go.RowKit
set_option linter.unusedVariables false
set_option linter.unusedSimpArgs false
def ints (l : List Nat) : List Value := l.map fun n : Nat => Value.int .i64 (n : Int)
theorem Tryz.infoR : (Tryz.prog.info? 3).map (fun i => (i.zero, i.size, i.bytes)) = some (some (.int .i64 0), 1, 8) := by kernel_rfl
theorem rk_slice (b p n : Nat) (hn : n ≤ 16) (w : World) :
    (Instr.sliceAt 150 (.pointer (some ⟨b, p * 16, none⟩)) none (some (.int .i64 (n : Int))) none).run Tryz.prog w = .ok (.slice (some ⟨b, p * 16, none⟩) n 16) w := by
  have ha : Tryz.prog.arrayLen 150 = 16 := by kernel_rfl
  have hs : (sizeOf (Tryz.prog.elem 150)).run Tryz.prog w = .ok 1 w := by kernel_rfl
  rw [run_sliceAt_array_h w 150 ⟨b, p * 16, none⟩ (by kernel_rfl) .i64 n (by omega) (by rw [ha]; omega), hs]
  simp [Result.andThen, slicedAt, Addr.add, ha]
set_option maxRecDepth 20000 in
set_option maxHeartbeats 1000000 in
theorem rklist_any (w : World) (b : Nat) (X : Nat → Nat → Int) (m pr : Nat → Nat) (bs : Nat) (L : Nat → List Nat) (h : RkM w b X m pr bs) (ho : RkOk X m pr bs L) :
    Calls Tryz.prog 53 #[.pointer (some ⟨b, 0, none⟩)] w fun e w' => ∃ v, e = .returned v ∧ w'.ownsRow w.heap.size 3 1 v (flat L 0).length (ints (flat L 0)) ∧ Keeps (fun _ => False) w w' := by
  have H := Lib.hid h
  have HO := Lib.hid ho
  have HBi := Lib.hid (rkbits_any w b X m pr bs h)
  clear h ho
  go_enter Tryz.func53, Tryz.ntmps53
  go_wp2_with fail
  refine wp_scope_again 0 (fun a' w' => ∃ (q rest : Nat) (v u5 u6 u7 u8 u9 u10 u11 u12 u13 u14 u15 u16 u17 u18 u19 u20 u21 u22 u23 u24 u25 u26 u27 u28 u29 u30 u31 u32 u33 u34 u35 u36 u37 u38 u39 u40 : Value), a' = { tmps := #[.pointer (some ⟨b, 0, none⟩), undef, .slice none 0 0, v, .int .u32 (rest : Int), u5, u6, u7, u8, u9, u10, u11, u12, u13, u14, u15, u16, u17, u18, u19, u20, u21, u22, u23, u24, u25, u26, u27, u28, u29, u30, u31, u32, u33, u34, u35, u36, u37, u38, u39, u40], defers := [] } ∧ q ≤ 32 ∧ rest < 4294967296 ∧ (∀ j, rest.testBit j = (bs.testBit j && decide (j < q))) ∧ w'.ownsRow w.heap.size 3 1 v (flat L q).length (ints (flat L q)) ∧ Keeps (fun _ => False) w w')
    (fun a _ => (intOf (a.tmps.getD 4 undef)).toNat) rfl ?_ ?_
  · rintro a' w' ⟨q, rest, v, u5, u6, u7, u8, u9, u10, u11, u12, u13, u14, u15, u16, u17, u18, u19, u20, u21, u22, u23, u24, u25, u26, u27, u28, u29, u30, u31, u32, u33, u34, u35, u36, u37, u38, u39, u40, rfl, hq, hr, hs, hown, hK⟩
    by_cases h0 : rest = 0
    · subst h0
      have e : flat L q = flat L 0 := by
        have := flat_same L 0 q (by omega) fun j _ hj => by
          have h1 := hs j
          rw [decide_eq_true (by omega : j < q), Bool.and_true] at h1
          have := HO.out.bit j (by omega)
          rw [← h1] at this
          simpa using this
        rw [Nat.zero_add] at this
        exact this.symm
      rw [e] at hown
      have HF := Lib.hid (And.intro hown hK)
      clear hs e hown hK
      go_wp2
      try simp only [Exit.jump]
      go_ret
      exact ⟨v, rfl, HF.out⟩
    · have hz : ((rest : Int) == 0) = false := by simp; omega
      obtain ⟨p, hp, hpq, hne, hfl, hbits, hlt⟩ := HO.out.next rest q hq hr h0 hs
      have hp32 : p < 32 := by omega
      have hM := H.out.keeps hK (fun h => h)
      have lb := hM.lt
      have c1 := hM.many p hp32
      have hml : m p ≤ 16 := by rw [HO.out.len p hp32]; exact HO.out.le p hp32
      have HHi := Lib.hid (high_any rest w' hr)
      rw [hp] at HHi
      have z1 : (((p + 1 : Nat) : Int) - 1) = (p : Int) := by omega
      have z2 : ((p : Int) + 1 - 1) = (p : Int) := by omega
      have hsl := fun w => rk_slice b p (m p) hml w
      rw [hfl] at hown
      have HM := Lib.hid hM
      have HW := Lib.hid (And.intro hown hK)
      have HP := Lib.hid (And.intro (And.intro hpq hbits) hlt)
      clear hM hown hK hs hbits hlt hfl hne hp
      go_wp2_with fail
      refine HHi.out.mono ?_
      rintro e w1 ⟨rfl, rfl⟩
      try rw [z1]
      go_wp2_with fail
      go_quiet (fail)
      go_wp2_with fail
      go_loopw [3, 28] (fun v3 i wr => ∃ k : Nat, k ≤ m p ∧ i = .int .i64 (k : Int) ∧ wr.ownsRow w.heap.size 3 1 v3 (flat L (p + 1) ++ (L p).take k).length (ints (flat L (p + 1) ++ (L p).take k)) ∧ Keeps (fun _ => False) w wr) (fun _ i _ => m p - (intOf i).toNat)
      case atStart => exact ⟨0, by omega, rfl, by rw [List.take_zero, List.append_nil]; exact HW.out.1, HW.out.2.drewN _⟩
      case round =>
        obtain ⟨k, hk, rfl, hown, hK⟩ := hrel
        by_cases hlt : k < m p
        · have hkl : k < (L p).length := by rw [← HO.out.len p hp32]; exact hlt
          obtain ⟨t, ht⟩ : ∃ t, (L p)[k]? = some t := ⟨_, List.getElem?_eq_getElem hkl⟩
          have hx := HO.out.row p k t hp32 ht
          have ht16 := ((HO.out.mem p t hp32).1 (List.mem_of_getElem? ht)).1
          have hMr := H.out.keeps hK (fun h => h)
          have c2 := hMr.row p k hp32 (by omega)
          rw [hx] at c2
          have lbr := hMr.lt
          have W8 : IntKind.i64.wrap (t : Int) = (t : Int) := IntWalk.i64_in _ ⟨by omega, by omega⟩
          have hlen : (flat L (p + 1) ++ (L p).take k).length ≤ 1000 := by
            have h1 := flat_len L HO.out.le (32 - (p + 1)) (p + 1) (by omega)
            rw [List.length_append, List.length_take]
            omega
          have HR := Lib.hid (And.intro hown hK)
          have hsz := hK.size
          obtain ⟨i0, hi0, hz0, hz1, hz2⟩ := info_parts Tryz.infoR
          have HT := Lib.hid ht
          clear hown hK hMr hx ht
          go_wp2_with (at_builtin; refine wpList_append_own _ rfl (.tmp 32) (.tmp 35) 53 rfl w.heap.size 3 i0 (.int .i64 0) 1 8 Tryz.underlying53 hi0 hz0 hz1 hz2 rfl (by decide) _ _ _ rfl (HR.out.1.alloc _) ⟨wr.heap.size, 0, none⟩ 1 1 [.int .i64 (t : Int)] rfl rfl (new_one _ _ _) (by simp [Value.oneCell']) (by unfold maxLen; omega) (by omega) (by simp; omega) ?_; intro v2 w2 hown2 hgrow _; have hb2 := (HR.out.2.none.alloc hsz (.cells #[Value.int .i64 (t : Int)] 3)).grown hgrow (by simp; omega) (fun k hk => (HR.out.1.lt k hk).1); have H2 := Lib.hid (And.intro hown2 (Keeps.ofBelow hb2)); clear hown2 hgrow hb2)
          go_roundw
          case rel =>
            refine ⟨k + 1, by omega, by go_num, ?_, H2.out.2⟩
            have e : flat L (p + 1) ++ (L p).take (k + 1) = (flat L (p + 1) ++ (L p).take k) ++ [t] := by
              rw [List.append_assoc, List.take_add_one, HT.out]; rfl
            rw [e]
            have := H2.out.1
            simpa [ints, Nat.add_assoc] using this
          case measure => simp [intOf]; omega
        · obtain rfl : k = m p := by omega
          have e : flat L (p + 1) ++ (L p).take (m p) = flat L p := by
            rw [flat_down L p hp32, HO.out.len p hp32, List.take_length]
          rw [e] at hown
          have HR := Lib.hid (And.intro hown hK)
          clear hown hK e
          go_wp2_with fail
          refine (without_any rest (p : Int) _ hr).mono ?_
          rintro e w3 ⟨rfl, rfl⟩
          go_wp2_with fail
          go_step3
          refine ⟨rfl, ⟨p, clrB rest (p : Int), _, _, _, _, _, _, _, _, _, _, _, _, _, _, _, _, _, _, _, _, _, _, _, _, _, _, _, _, _, _, _, _, _, _, _, _, _, rfl, by omega, clrB_lt hr _, HP.out.1.2, HR.out.1, HR.out.2⟩, ?_⟩
          have := HP.out.2
          simp [intOf]
          omega
  · intro hpass
    go_wp2_with fail
    refine HBi.out.mono ?_
    rintro e w2 ⟨rfl, rfl⟩
    go_wp2_with fail
    go_step3
    rename_i K hK
    exact hK _ _ <| hpass _ _ ⟨32, bs, _, _, _, _, _, _, _, _, _, _, _, _, _, _, _, _, _, _, _, _, _, _, _, _, _, _, _, _, _, _, _, _, _, _, _, _, _, rfl, Nat.le_refl _, HO.out.lt, fun j => by
      by_cases hj : j < 32
      · simp [hj]
      · rw [testBit_ge HO.out.lt (by omega)]; simp, by rw [flat_top]; exact World.ownsRow_nil _ _ _ _, Keeps.refl _ _⟩
end Go.Proofs.YthnmlklgbggmbaaGreat
namespace Go.Proofs.YthnmlklgbggmbaaGreat
open Go.ChangeShapes Go.WideShapes Go.ChangeAt Go.RowKit
set_option linter.unusedVariables false
set_option linter.unusedSimpArgs false
abbrev RkT : Type := (Nat → List Nat) × (Nat → Nat)
structure RkS (w : World) (b : Nat) (s : RkT) : Prop where
  one : ∃ X m bs, RkM w b X m s.2 bs ∧ RkOk X m s.2 bs s.1
section
variable {w wr : World} {b : Nat} {s : RkT}
theorem RkS.keeps {S : Nat → Prop} (h : RkS w b s) (k : Keeps S w wr) (hs : ¬ S b) : RkS wr b s := by
  obtain ⟨X, m, bs, h1, h2⟩ := h.one
  exact ⟨X, m, bs, h1.keeps k hs, h2⟩
theorem RkS.lt (h : RkS w b s) : b < w.heap.size := by
  obtain ⟨X, m, bs, h1, h2⟩ := h.one
  exact h1.lt
theorem RkS.small (h : RkS w b s) : ∀ t, t < 16 → s.2 t ≤ 32 := by
  obtain ⟨X, m, bs, h1, h2⟩ := h.one
  exact h2.small
theorem RkS.mem (h : RkS w b s) : ∀ p t, p < 32 → (t ∈ s.1 p ↔ t < 16 ∧ s.2 t = p + 1) := by
  obtain ⟨X, m, bs, h1, h2⟩ := h.one
  exact h2.mem
theorem RkS.nd (h : RkS w b s) : ∀ p, p < 32 → (s.1 p).Nodup := by
  obtain ⟨X, m, bs, h1, h2⟩ := h.one
  exact h2.nd
theorem RkS.le (h : RkS w b s) : ∀ p, p < 32 → (s.1 p).length ≤ 16 := by
  obtain ⟨X, m, bs, h1, h2⟩ := h.one
  exact h2.le
end
def canAdd (pr : Nat → Nat) (t p : Int) : Bool := decide ((0 ≤ t ∧ t < 16) ∧ (0 ≤ p ∧ p < 32) ∧ pr t.toNat = 0)
def canRem (pr : Nat → Nat) (t : Int) : Bool := decide ((0 ≤ t ∧ t < 16) ∧ pr t.toNat ≠ 0)
def addL (L : Nat → List Nat) (p t : Nat) : Nat → List Nat := fun q => if q = p then L p ++ [t] else L q
def remL (L : Nat → List Nat) (t : Nat) : Nat → List Nat := fun q => (L q).filter (fun x => x != t)
def setP (pr : Nat → Nat) (t u : Nat) : Nat → Nat := fun q => if q = t then u else pr q
def addT (s : RkT) (t p : Int) : RkT := if canAdd s.2 t p then (addL s.1 p.toNat t.toNat, setP s.2 t.toNat (p.toNat + 1)) else s
def remT (s : RkT) (t : Int) : RkT := if canRem s.2 t then (remL s.1 t.toNat, setP s.2 t.toNat 0) else s
def prioT (s : RkT) (t : Int) : Nat := if canRem s.2 t then s.2 t.toNat - 1 else 0
def turnT (s : RkT) (t : Int) : RkT := if canRem s.2 t then addT (remT s t) t (prioT s t : Int) else s
def listT (s : RkT) : List Nat := flat s.1 0
theorem rks_add (w : World) (b : Nat) (s : RkT) (h : RkS w b s) (t p : Int) :
    Calls Tryz.prog 74 #[.pointer (some ⟨b, 0, none⟩), .int .i64 t, .int .i64 p] w fun e w' => e = .returned (.bool (canAdd s.2 t p)) ∧ RkS w' b (addT s t p) ∧ Keeps (fun k => k = b) w w' := by
  by_cases hc : (0 ≤ t ∧ t < 16) ∧ (0 ≤ p ∧ p < 32) ∧ s.2 t.toNat = 0
  · have e : canAdd s.2 t p = true := decide_eq_true hc
    unfold addT
    rw [if_pos e, e]
    obtain ⟨⟨h1, h2⟩, ⟨h3, h4⟩, h5⟩ := hc
    obtain ⟨T, rfl⟩ := Int.eq_ofNat_of_zero_le h1
    obtain ⟨P, rfl⟩ := Int.eq_ofNat_of_zero_le h3
    simp only [Int.toNat_natCast] at h5 ⊢
    obtain ⟨X, m, bs, hm, ho⟩ := h.one
    have hT : T < 16 := by omega
    have hP : P < 32 := by omega
    have hl : m P < 16 := by rw [ho.len P hP]; exact ho.less P T hP hT h5
    refine (rkadd_yes w b X m s.2 bs hm T P hT hP h5 hl ho.lt).mono ?_
    rintro e w' ⟨rfl, hm', hk⟩
    exact ⟨rfl, ⟨_, _, _, hm', ho.add P T hP hT h5⟩, hk⟩
  · have e : canAdd s.2 t p = false := decide_eq_false hc
    unfold addT
    rw [e]
    have hout : ∀ {e : Ending} {w' : World}, (e = .returned (.bool false) ∧ w = w') → (e = .returned (.bool false) ∧ RkS w' b (if false = true then (addL s.1 p.toNat t.toNat, setP s.2 t.toNat (p.toNat + 1)) else s) ∧ Keeps (fun k => k = b) w w') := by
      rintro e w' ⟨rfl, rfl⟩
      exact ⟨rfl, h, Keeps.refl _ _⟩
    by_cases h1 : 0 ≤ t ∧ t < 16
    · by_cases h2 : p < 0
      · exact (rkadd_p_low w b t p ⟨h1, h2⟩).mono fun e w' hh => hout hh
      · by_cases h3 : 32 ≤ p
        · exact (rkadd_p_high w b t p ⟨h1, h3⟩).mono fun e w' hh => hout hh
        · obtain ⟨T, rfl⟩ := Int.eq_ofNat_of_zero_le h1.1
          have h5 : 0 < s.2 T := by
            rcases Nat.eq_zero_or_pos (s.2 T) with h5 | h5
            · exact absurd ⟨h1, ⟨by omega, by omega⟩, by simpa using h5⟩ hc
            · exact h5
          obtain ⟨X, m, bs, hm, ho⟩ := h.one
          exact (rkadd_there w b X m s.2 bs hm T p (by omega) ⟨by omega, by omega⟩ h5).mono fun e w' hh => hout hh
    · exact (rkadd_t_out w b t p h1).mono fun e w' hh => hout hh
theorem RkOk.at {X : Nat → Nat → Int} {m pr : Nat → Nat} {bs : Nat} {L : Nat → List Nat} (h : RkOk X m pr bs L) (p t k : Nat) (hp : p < 32) (hk : (L p)[k]? = some t) :
    ∀ j, j < (L p).length → ∃ u : Nat, u < 16 ∧ X p j = (u : Int) ∧ (u = t ↔ j = k) := by
  intro j hj
  have hg : (L p)[j]? = some (L p)[j] := List.getElem?_eq_getElem hj
  refine ⟨(L p)[j], ((h.mem p _ hp).1 (List.getElem_mem hj)).1, h.row p j _ hp hg, fun e => ?_, fun e => ?_⟩
  · rw [e, ← hk] at hg
    exact (List.getElem?_inj hj (h.nd p hp)).1 hg
  · subst e
    rw [hg] at hk
    injection hk
theorem rks_list (w : World) (b : Nat) (s : RkT) (h : RkS w b s) :
    Calls Tryz.prog 53 #[.pointer (some ⟨b, 0, none⟩)] w fun e w' => ∃ v, e = .returned v ∧ w'.ownsRow w.heap.size 3 1 v (listT s).length (ints (listT s)) ∧ Keeps (fun _ => False) w w' := by
  obtain ⟨X, m, bs, hm, ho⟩ := h.one
  exact rklist_any w b X m s.2 bs s.1 hm ho
theorem rks_first (w : World) (b : Nat) (s : RkT) (h : RkS w b s) :
    Calls Tryz.prog 127 #[.pointer (some ⟨b, 0, none⟩)] w fun e w' => e = .returned (.tuple #[.int .i64 ((listT s).headD 0 : Int), .bool (!(listT s).isEmpty)]) ∧ w = w' := by
  obtain ⟨X, m, bs, hm, ho⟩ := h.one
  by_cases h0 : bs = 0
  · subst h0
    refine (rkfirst_any w b X m s.2 0 hm ho.lt (fun h => absurd rfl h)).mono ?_
    rintro e w' ⟨rfl, rfl⟩
    have : listT s = [] := ho.empty
    rw [this]
    exact ⟨rfl, rfl⟩
  · obtain ⟨p, t, hp, hp32, hX, ht, hh⟩ := ho.first h0
    refine (rkfirst_any w b X m s.2 bs hm ho.lt (fun _ => ?_)).mono ?_
    · rw [hp, Nat.add_sub_cancel, hX]
      omega
    · rintro e w' ⟨rfl, rfl⟩
      have hh' : (listT s).head? = some t := hh
      rw [hp, Nat.add_sub_cancel, hX, if_neg h0]
      cases hl : listT s with
      | nil => rw [hl] at hh'; cases hh'
      | cons a l =>
        rw [hl] at hh'
        injection hh' with e
        subst e
        simp [h0]
end Go.Proofs.YthnmlklgbggmbaaGreat
namespace Go.Proofs.YthnmlklgbggmbaaGreat
open Go.ChangeShapes Go.WideShapes Go.ChangeAt Go.RowKit
set_option linter.unusedVariables false
set_option linter.unusedSimpArgs false
theorem RkM.ones {w : World} {b : Nat} {X : Nat → Nat → Int} {m pr : Nat → Nat} {bs : Nat} {cs : Array Value} (hs : cs.size = 561) (h3 : ∀ p i, p < 32 → i < 16 → cs[p * 16 + i]? = some (.int .i8 (X p i))) (h4 : ∀ p, p < 32 → cs[512 + p]? = some (.int .i64 (m p : Int))) (h5 : ∀ t, t < 16 → cs[544 + t]? = some (.int .i64 (pr t : Int))) (h6 : cs[560]? = some (.int .u32 (bs : Int))) : cs.all (·.oneCell') = true := by
  rw [Array.all_eq_true]
  intro i hi
  have hx : cs[i]? = some cs[i] := Array.getElem?_eq_getElem hi
  by_cases h1 : i < 512
  · have := h3 (i / 16) (i % 16) (by omega) (by omega)
    rw [show i / 16 * 16 + i % 16 = i by omega, hx] at this
    rw [Option.some.inj this]; rfl
  · by_cases h2 : i < 544
    · have := h4 (i - 512) (by omega)
      rw [show 512 + (i - 512) = i by omega, hx] at this
      rw [Option.some.inj this]; rfl
    · by_cases h2 : i < 560
      · have := h5 (i - 544) (by omega)
        rw [show 544 + (i - 544) = i by omega, hx] at this
        rw [Option.some.inj this]; rfl
      · obtain rfl : i = 560 := by omega
        rw [h6] at hx; rw [← Option.some.inj hx]; rfl
def zAt (k : IntKind) (v : Option Value) : Bool := match v with | some (.int k' 0) => k' == k | _ => false
theorem zAt_eq {k : IntKind} {v : Option Value} (h : zAt k v = true) : v = some (.int k 0) := by
  unfold zAt at h
  split at h
  · rw [beq_iff_eq.1 h]
  · cases h
theorem rk_zeros : ∃ zs : Array Value, Tryz.prog.built 154 [] = some zs ∧ (∀ w, (zeroValue 154).run Tryz.prog w = .ok (.agg zs) w) ∧ zs.size = 561 ∧ (∀ p i, p < 32 → i < 16 → zs[p * 16 + i]? = some (.int .i8 0)) ∧ (∀ p, p < 32 → zs[512 + p]? = some (.int .i64 0)) ∧ (∀ t, t < 16 → zs[544 + t]? = some (.int .i64 0)) ∧ zs[560]? = some (.int .u32 0) := by
  refine ⟨(Tryz.prog.built 154 []).getD #[], by kernel_rfl, fun w => by kernel_rfl, by kernel_rfl, fun p i hp hi => ?_, fun p hp => ?_, fun t ht => ?_, ?_⟩
  · have h : (List.range 512).all (fun i => zAt .i8 ((Tryz.prog.built 154 []).getD #[])[i]?) = true := by kernel_rfl
    exact zAt_eq (List.all_eq_true.1 h (p * 16 + i) (List.mem_range.2 (by omega)))
  · have h : (List.range 32).all (fun i => zAt .i64 ((Tryz.prog.built 154 []).getD #[])[512 + i]?) = true := by kernel_rfl
    exact zAt_eq (List.all_eq_true.1 h p (List.mem_range.2 hp))
  · have h : (List.range 16).all (fun i => zAt .i64 ((Tryz.prog.built 154 []).getD #[])[544 + i]?) = true := by kernel_rfl
    exact zAt_eq (List.all_eq_true.1 h t (List.mem_range.2 ht))
  · have h : zAt .u32 ((Tryz.prog.built 154 []).getD #[])[560]? = true := by kernel_rfl
    exact zAt_eq h
theorem rks_copy (w : World) (b : Nat) (s : RkT) (h : RkS w b s) :
    Calls Tryz.prog 35 #[.pointer (some ⟨b, 0, none⟩)] w fun e w' => e = .returned (.pointer (some ⟨w.heap.size, 0, none⟩)) ∧ RkS w' w.heap.size s ∧ Keeps (fun _ => False) w w' := by
  obtain ⟨X, m, bs, hm, ho⟩ := h.one
  obtain ⟨cs, hb, hs, h3, h4, h5, h6⟩ := hm.one
  have l1 := lt_of hb
  obtain ⟨zs, _, hz, hzs, _⟩ := rk_zeros
  have HZS := Lib.hid hzs
  clear hzs
  have hi : (Tryz.prog.info? 154).map (·.size) = some cs.size := by rw [hs]; kernel_rfl
  have h1 : cs.all (·.oneCell') = true := RkM.ones (w := w) (b := b) hs h3 h4 h5 h6
  have HB := Lib.hid (And.intro hb (And.intro hs (And.intro h3 (And.intro h4 (And.intro h5 h6)))))
  have HI := Lib.hid hi
  have H1 := Lib.hid h1
  have HO := Lib.hid ho
  clear hb hs h3 h4 h5 h6 hi h1 hm ho h
  go_enter Tryz.func35, Tryz.ntmps35
  go_wp2_with (first
    | (with_reducible refine wpList_load_row rfl 154 (.tmp 7) rfl b rfl 154 cs (0, 0) _ HB.out.1 Tryz.underlying154 rfl HI.out ?_)
    | (refine wpList_store_row rfl 154 (.tmp 3) (.tmp 8) rfl w.heap.size cs rfl rfl 154 _ (heap_new _ _) HI.out (by rw [HB.out.2.1]; exact HZS.out) H1.out ?_; rw [World.setRow_alloc_new]))
  go_ret
  exact ⟨rfl, ⟨X, m, bs, ⟨cs, heap_new _ _, HB.out.2⟩, HO.out⟩, (Keeps.refl _ _).alloc _⟩
end Go.Proofs.YthnmlklgbggmbaaGreat
namespace Go
section
variable {P : Program} {a : Act} {w : World} {Q : Exit → Act → World → Prop}
theorem least_of {p : Nat → Prop} (h : ∃ m, p m) : ∃ m, p m ∧ ∀ k, p k → m ≤ k := by
  obtain ⟨m, hm⟩ := h
  induction m using Nat.strongRecOn with
  | _ m ih =>
    by_cases h : ∃ k, k < m ∧ p k
    · obtain ⟨k, hk, hp⟩ := h
      exact ih k hk hp
    · exact ⟨m, hm, fun k hk => by
        rcases Nat.lt_or_ge k m with h1 | h1
        · exact absurd ⟨k, h1, hk⟩ h
        · exact h1⟩
open Classical in
theorem wp_scope_ghost {c rest : Code} (l : Nat) (J : Nat → Act → World → Prop) (hf : findLabel c l = some (Code.skip.seq rest))
    (pass : ∀ m a w, J m a w → rest.wp P (Exit.jump l (fun a' w' => ∃ m', m' < m ∧ J m' a' w') Q) a w)
    (first : (∀ m a w, J m a w → rest.wp P (Exit.jump l (fun a' w' => ∃ m', J m' a' w') Q) a w) → c.wp P (Exit.jump l (fun a' w' => ∃ m', J m' a' w') Q) a w) : (Code.scope c).wp P Q a w := by
  refine wp_scope_again l (fun a w => ∃ m, J m a w) (fun a w => if h : ∃ m, J m a w then Classical.choose (least_of h) else 0) hf ?_ ?_
  · intro a w h
    have hs := Classical.choose_spec (least_of h)
    have e : (if h : ∃ m, J m a w then Classical.choose (least_of h) else 0) = Classical.choose (least_of h) := dif_pos h
    refine wp_mono (pass _ a w hs.1) fun x a' w' hq => Exit.jump_mono (fun a' w' hj => ?_) hq
    obtain ⟨m', hm', hJ⟩ := hj
    refine ⟨⟨m', hJ⟩, ?_⟩
    show (if h : ∃ m, J m a' w' then Classical.choose (least_of h) else 0) < (if h : ∃ m, J m a w then Classical.choose (least_of h) else 0)
    rw [e, dif_pos ⟨m', hJ⟩]
    have := (Classical.choose_spec (least_of (p := fun m => J m a' w') ⟨m', hJ⟩)).2 m' hJ
    omega
  · intro h
    exact first fun m a w hJ => wp_mono (pass_all pass m a w hJ) fun _ _ _ hq => hq
where
  pass_all {rest : Code} {l : Nat} {J : Nat → Act → World → Prop} (pass : ∀ m a w, J m a w → rest.wp P (Exit.jump l (fun a' w' => ∃ m', m' < m ∧ J m' a' w') Q) a w) (m : Nat) (a : Act) (w : World) (h : J m a w) :
      rest.wp P (Exit.jump l (fun a' w' => ∃ m', J m' a' w') Q) a w :=
    wp_mono (pass m a w h) fun _ _ _ hq => Exit.jump_mono (fun _ _ ⟨m', _, hJ⟩ => ⟨m', hJ⟩) hq
end
end Go
