import Derived.Test.YtfniicgfnlklbaaRankB
import Derived.Test.YtfniicgfnlklbaaRankM
import Derived.Test.YtfniicgfnlklbaaRow
import Derived.Test.YtfniicgfnlklbaaAgain
import Derived.Laws.AppendOwn
import Derived.Deep.RegionLaw
import Derived.Deep.RegionWith
import Derived.Handy
namespace Go.Proofs.Ytfniicgfnlklbaa
open Go.ChangeShapes Go.WideShapes Go.ChangeAt Go.RowKit
set_option linter.unusedVariables false
set_option linter.unusedSimpArgs false
/-- Numbers as cells. -/
def ints (l : List Nat) : List Value := l.map fun n : Nat => Value.int .i64 (n : Int)
theorem ints_len (l : List Nat) : (ints l).length = l.length := by simp [ints]
theorem ints_nums (l : List Nat) : ints l = nums (fun i => ((l.getD i 0 : Nat) : Int)) l.length := by
  apply List.ext_getElem?
  intro i
  rcases Nat.lt_or_ge i l.length with h | h
  · rw [nums_get _ _ _ h]
    simp [ints, h]
  · rw [List.getElem?_eq_none (by rw [ints_len]; exact h), List.getElem?_eq_none (by rw [nums_len]; exact h)]
theorem Try.infoR : (Try.prog.info? 3).map (fun i => (i.zero, i.size, i.bytes)) = some (some (.int .i64 0), 1, 8) := by kernel_rfl
theorem rk_slice (b p n : Nat) (hn : n ≤ 16) (w : World) :
    (Instr.sliceAt 26 (.pointer (some ⟨b, p * 16, none⟩)) none (some (.int .i64 (n : Int))) none).run Try.prog w = .ok (.slice (some ⟨b, p * 16, none⟩) n 16) w := by
  have ha : Try.prog.arrayLen 26 = 16 := by kernel_rfl
  have hs : (sizeOf (Try.prog.elem 26)).run Try.prog w = .ok 1 w := by kernel_rfl
  rw [run_sliceAt_array_h w 26 ⟨b, p * 16, none⟩ (by kernel_rfl) .i64 n (by omega) (by rw [ha]; omega), hs]
  simp [Result.andThen, slicedAt, Addr.add, ha]
set_option maxRecDepth 20000 in
set_option maxHeartbeats 1000000 in
theorem rklist_any (w : World) (b : Nat) (X : Nat → Nat → Int) (m pr : Nat → Nat) (bs : Nat) (L : Nat → List Nat) (h : RkM w b X m pr bs) (ho : RkOk X m pr bs L) :
    Calls Try.prog 21 #[.pointer (some ⟨b, 0, none⟩)] w fun e w' => ∃ v, e = .returned v ∧ w'.ownsRow w.heap.size 3 1 v (flat L 0).length (ints (flat L 0)) ∧ Keeps (fun _ => False) w w' := by
  have H := Lib.hid h
  have HO := Lib.hid ho
  have HBi := Lib.hid (rkbits_any w b X m pr bs h)
  clear h ho
  go_enter Try.func21, Try.ntmps21
  go_wp2_with fail
  refine wp_scope_again 0 (fun a' w' => ∃ (q rest : Nat) (v u5 u6 u7 u8 u9 u10 u11 u12 u13 u14 u15 u16 u17 u18 u19 u20 u21 u22 u23 u24 u25 u26 u27 u28 u29 u30 u31 u32 u33 u34 u35 u36 u37 u38 u39 u40 : Value), a' = { tmps := #[.pointer (some ⟨b, 0, none⟩), undef, .slice none 0 0, v, .int .u32 (rest : Int), u5, u6, u7, u8, u9, u10, u11, u12, u13, u14, u15, u16, u17, u18, u19, u20, u21, u22, u23, u24, u25, u26, u27, u28, u29, u30, u31, u32, u33, u34, u35, u36, u37, u38, u39, u40], defers := [] } ∧ q ≤ 32 ∧ rest < 4294967296 ∧ (∀ j, rest.testBit j = (bs.testBit j && decide (j < q))) ∧ w'.ownsRow w.heap.size 3 1 v (flat L q).length (ints (flat L q)) ∧ Keeps (fun _ => False) w w')
    (fun a _ => (intOf (a.tmps.getD 4 undef)).toNat) rfl ?_ ?_
  · rintro a' w' ⟨q, rest, v, u5, u6, u7, u8, u9, u10, u11, u12, u13, u14, u15, u16, u17, u18, u19, u20, u21, u22, u23, u24, u25, u26, u27, u28, u29, u30, u31, u32, u33, u34, u35, u36, u37, u38, u39, u40, rfl, hq, hr, hs, hown, hK⟩
    by_cases h0 : rest = 0
    · subst h0
      have e : flat L q = flat L 0 := by
        have := flat_same L 0 q (by omega) fun j _ hj => by
          have h1 := hs j
          rw [decide_eq_true (by omega : j < q), Bool.and_true] at h1
          have := HO.out.bit j (by omega)
          rw [← h1] at this
          simpa using this
        rw [Nat.zero_add] at this
        exact this.symm
      rw [e] at hown
      have HF := Lib.hid (And.intro hown hK)
      clear hs e hown hK
      go_wp2
      try simp only [Exit.jump]
      go_ret
      exact ⟨v, rfl, HF.out⟩
    · have hz : ((rest : Int) == 0) = false := by simp; omega
      obtain ⟨p, hp, hpq, hne, hfl, hbits, hlt⟩ := HO.out.next rest q hq hr h0 hs
      have hp32 : p < 32 := by omega
      have hM := H.out.keeps hK (fun h => h)
      have lb := hM.lt
      have c1 := hM.many p hp32
      have hml : m p ≤ 16 := by rw [HO.out.len p hp32]; exact HO.out.le p hp32
      have HHi := Lib.hid (high_any rest w' hr)
      rw [hp] at HHi
      have z1 : (((p + 1 : Nat) : Int) - 1) = (p : Int) := by omega
      have z2 : ((p : Int) + 1 - 1) = (p : Int) := by omega
      have hsl := fun w => rk_slice b p (m p) hml w
      rw [hfl] at hown
      have HM := Lib.hid hM
      have HW := Lib.hid (And.intro hown hK)
      have HP := Lib.hid (And.intro (And.intro hpq hbits) hlt)
      clear hM hown hK hs hbits hlt hfl hne hp
      go_wp2_with fail
      refine HHi.out.mono ?_
      rintro e w1 ⟨rfl, rfl⟩
      try rw [z1]
      go_wp2_with fail
      go_quiet (fail)
      go_wp2_with fail
      go_loopw [3, 28] (fun v3 i wr => ∃ k : Nat, k ≤ m p ∧ i = .int .i64 (k : Int) ∧ wr.ownsRow w.heap.size 3 1 v3 (flat L (p + 1) ++ (L p).take k).length (ints (flat L (p + 1) ++ (L p).take k)) ∧ Keeps (fun _ => False) w wr) (fun _ i _ => m p - (intOf i).toNat)
      case atStart => exact ⟨0, by omega, rfl, by rw [List.take_zero, List.append_nil]; exact HW.out.1, HW.out.2.drewN _⟩
      case round =>
        obtain ⟨k, hk, rfl, hown, hK⟩ := hrel
        by_cases hlt : k < m p
        · have hkl : k < (L p).length := by rw [← HO.out.len p hp32]; exact hlt
          obtain ⟨t, ht⟩ : ∃ t, (L p)[k]? = some t := ⟨_, List.getElem?_eq_getElem hkl⟩
          have hx := HO.out.row p k t hp32 ht
          have ht16 := ((HO.out.mem p t hp32).1 (List.mem_of_getElem? ht)).1
          have hMr := H.out.keeps hK (fun h => h)
          have c2 := hMr.row p k hp32 (by omega)
          rw [hx] at c2
          have lbr := hMr.lt
          have W8 : IntKind.i64.wrap (t : Int) = (t : Int) := IntWalk.i64_in _ ⟨by omega, by omega⟩
          have hlen : (flat L (p + 1) ++ (L p).take k).length ≤ 1000 := by
            have h1 := flat_len L HO.out.le (32 - (p + 1)) (p + 1) (by omega)
            rw [List.length_append, List.length_take]
            omega
          have HR := Lib.hid (And.intro hown hK)
          have hsz := hK.size
          obtain ⟨i0, hi0, hz0, hz1, hz2⟩ := info_parts Try.infoR
          have HT := Lib.hid ht
          clear hown hK hMr hx ht
          go_wp2_with (at_builtin; refine wpList_append_own _ rfl (.tmp 32) (.tmp 35) 49 rfl w.heap.size 3 i0 (.int .i64 0) 1 8 Try.underlying49 hi0 hz0 hz1 hz2 rfl (by decide) _ _ _ rfl (HR.out.1.alloc _) ⟨wr.heap.size, 0, none⟩ 1 1 [.int .i64 (t : Int)] rfl rfl (new_one _ _ _) (by simp [Value.oneCell']) (by unfold maxLen; omega) (by omega) (by simp; omega) ?_; intro v2 w2 hown2 hgrow _; have hb2 := (HR.out.2.none.alloc hsz (.cells #[Value.int .i64 (t : Int)] 3)).grown hgrow (by simp; omega) (fun k hk => (HR.out.1.lt k hk).1); have H2 := Lib.hid (And.intro hown2 (Keeps.ofBelow hb2)); clear hown2 hgrow hb2)
          go_roundw
          case rel =>
            refine ⟨k + 1, by omega, by go_num, ?_, H2.out.2⟩
            have e : flat L (p + 1) ++ (L p).take (k + 1) = (flat L (p + 1) ++ (L p).take k) ++ [t] := by
              rw [List.append_assoc, List.take_add_one, HT.out]; rfl
            rw [e]
            have := H2.out.1
            simpa [ints, Nat.add_assoc] using this
          case measure => simp [intOf]; omega
        · obtain rfl : k = m p := by omega
          have e : flat L (p + 1) ++ (L p).take (m p) = flat L p := by
            rw [flat_down L p hp32, HO.out.len p hp32, List.take_length]
          rw [e] at hown
          have HR := Lib.hid (And.intro hown hK)
          clear hown hK e
          go_wp2_with fail
          refine (without_any rest (p : Int) _ hr).mono ?_
          rintro e w3 ⟨rfl, rfl⟩
          go_wp2_with fail
          go_step3
          refine ⟨rfl, ⟨p, clrB rest (p : Int), _, _, _, _, _, _, _, _, _, _, _, _, _, _, _, _, _, _, _, _, _, _, _, _, _, _, _, _, _, _, _, _, _, _, _, _, _, rfl, by omega, clrB_lt hr _, HP.out.1.2, HR.out.1, HR.out.2⟩, ?_⟩
          have := HP.out.2
          simp [intOf]
          omega
  · intro hpass
    go_wp2_with fail
    refine HBi.out.mono ?_
    rintro e w2 ⟨rfl, rfl⟩
    go_wp2_with fail
    go_step3
    rename_i K hK
    exact hK _ _ <| hpass _ _ ⟨32, bs, _, _, _, _, _, _, _, _, _, _, _, _, _, _, _, _, _, _, _, _, _, _, _, _, _, _, _, _, _, _, _, _, _, _, _, _, _, rfl, Nat.le_refl _, HO.out.lt, fun j => by
      by_cases hj : j < 32
      · simp [hj]
      · rw [testBit_ge HO.out.lt (by omega)]; simp, by rw [flat_top]; exact World.ownsRow_nil _ _ _ _, Keeps.refl _ _⟩
theorem rklen_any (w : World) (b : Nat) (X : Nat → Nat → Int) (m pr : Nat → Nat) (bs : Nat) (L : Nat → List Nat) (h : RkM w b X m pr bs) (ho : RkOk X m pr bs L) :
    Calls Try.prog 19 #[.pointer (some ⟨b, 0, none⟩)] w fun e w' => e = .returned (.int .i64 ((flat L 0).length : Int)) ∧ Keeps (fun _ => False) w w' := by
  have H := Lib.hid (rklist_any w b X m pr bs L h ho)
  clear h ho
  go_enter Try.func19, Try.ntmps19
  go_wp2_with fail
  refine H.out.mono ?_
  rintro e w' ⟨v, rfl, ho, hk⟩
  rw [ints_nums] at ho
  obtain ⟨a, c, rfl, _⟩ := Row.ofOwn ho
  clear ho
  go_wp2
  go_ret
  exact ⟨rfl, hk⟩
end Go.Proofs.Ytfniicgfnlklbaa
