import Derived.Test.YtdjfelabdofaaaaCodAz
import Derived.Test.YtdjfelabdofaaaaNumO
namespace Go.Proofs.Ytdjfelabdofaaaa
open Go.ChangeShapes Go.WideShapes Go.ChangeAt Go.RowKit
set_option linter.unusedVariables false
set_option linter.unusedSimpArgs false
/-- A call. -/
structure CallD where
  k : Int
  o : Int
  v0 : Int
  v1 : Int
  v2 : Int
  v3 : Int
  n : Int
def callC (c : CallD) : Array Value := #[.int .i64 c.k, .int .i64 c.o, .int .u32 c.v0, .int .u32 c.v1, .int .u32 c.v2, .int .u32 c.v3, .int .u32 c.n]
structure CallD.Ok (c : CallD) : Prop where
  k : -9223372036854775808 ≤ c.k ∧ c.k ≤ 9223372036854775807
  o : -9223372036854775808 ≤ c.o ∧ c.o ≤ 9223372036854775807
  v0 : 0 ≤ c.v0 ∧ c.v0 ≤ 4294967295
  v1 : 0 ≤ c.v1 ∧ c.v1 ≤ 4294967295
  v2 : 0 ≤ c.v2 ∧ c.v2 ≤ 4294967295
  v3 : 0 ≤ c.v3 ∧ c.v3 ≤ 4294967295
  n : 0 ≤ c.n ∧ c.n ≤ 4294967295
def numsC (c : CallD) : List Int := [c.o, c.v0, c.v1, c.v2, c.v3, c.n]
def numC (c : CallD) (i : Nat) : Int := (numsC c).getD i 0
theorem numC_ok {c : CallD} (h : c.Ok) (i : Nat) : -9223372036854775808 ≤ numC c i ∧ numC c i ≤ 9223372036854775807 := by
  obtain ⟨h0, h1, h2, h3, h4, h5, h6⟩ := h
  match i with
  | 0 => exact h1
  | 1 => exact ⟨by show _ ≤ c.v0; omega, by show c.v0 ≤ _; omega⟩
  | 2 => exact ⟨by show _ ≤ c.v1; omega, by show c.v1 ≤ _; omega⟩
  | 3 => exact ⟨by show _ ≤ c.v2; omega, by show c.v2 ≤ _; omega⟩
  | 4 => exact ⟨by show _ ≤ c.v3; omega, by show c.v3 ≤ _; omega⟩
  | 5 => exact ⟨by show _ ≤ c.n; omega, by show c.n ≤ _; omega⟩
  | i + 6 => exact ⟨by show _ ≤ (0 : Int); omega, by show (0 : Int) ≤ _; omega⟩
/-- How many of the first m numbers stay where zeros at the end are left out. -/
def keepN (F : Nat → Int) : Nat → Nat
  | 0 => 0
  | m + 1 => if F m = 0 then keepN F m else m + 1
theorem keepN_le (F : Nat → Int) : ∀ m, keepN F m ≤ m
  | 0 => Nat.le_refl _
  | m + 1 => by
    show (if F m = 0 then keepN F m else m + 1) ≤ _
    have := keepN_le F m
    split <;> omega
/-- The text of a call. -/
def printC (c : CallD) : List UInt8 := if keepN (numC c) 6 = 0 then wordK c.k else wordK c.k ++ [32] ++ joinN [32] (numC c) (keepN (numC c) 6)
theorem own_one (w : World) (B : Nat) (e : TypeId) (x : Value) (hB : B ≤ w.heap.size) : (w.alloc (.cells #[x] e)).ownsRow B e 1 (.slice (some ⟨w.heap.size, 0, none⟩) 1 1) 1 [x] :=
  ⟨rfl, .inr ⟨w.heap.size, 1, #[x], rfl, hB, heap_new _ _, Nat.le_refl _, by unfold maxLen; omega, rfl, rfl⟩⟩
def vC (c : CallD) (i : Nat) : Int := [c.v0, c.v1, c.v2, c.v3].getD i 0
theorem index_v (w : World) (c : CallD) : ∀ k : Nat, k < 4 → (Instr.index 57 (.agg #[.int .u32 c.v0, .int .u32 c.v1, .int .u32 c.v2, .int .u32 c.v3]) (.int .i64 (k : Int))).run Try.prog w = .ok (.int .u32 (vC c k)) w
  | 0, _ => by kernel_rfl
  | 1, _ => by kernel_rfl
  | 2, _ => by kernel_rfl
  | 3, _ => by kernel_rfl
  | k + 4, h => by omega
def lenOf : Value → Nat
  | .slice _ n _ => n
  | _ => 0
theorem own_cap {w : World} {B n m : Nat} {e : TypeId} {g c : Nat} {xs : List Value} (h : w.ownsRow B e 1 (.slice (some ⟨g, 0, none⟩) m c) n xs) : m ≤ c ∧ c ≤ 9223372036854775807 := by
  rcases h.2 with ⟨h, _⟩ | ⟨g', cap, cur, h, _, _, h1, h2, _⟩
  · cases h
  · cases h
    unfold maxLen at h2
    exact ⟨h1, by omega⟩
theorem addr_add (g i : Nat) : ((⟨g, 0, none⟩ : Addr).add i) = ⟨g, i, none⟩ := by unfold Addr.add; split <;> simp_all
set_option maxRecDepth 100000 in
set_option maxHeartbeats 2000000 in
theorem print_call (w : World) (c : CallD) (hc : c.Ok) :
    Calls Try.prog 32 #[.agg (callC c)] w fun e w' => e = .returned (.string ⟨(printC c).toArray⟩) ∧ Below w.heap.size w w' := by
  obtain ⟨i0, hi, hz0, hz1, hz2⟩ := info_parts info_int
  have HI := Lib.hid (And.intro hi (And.intro hz0 (And.intro hz1 hz2)))
  clear hi hz0 hz1 hz2
  have HIX := Lib.hid (fun w => index_v w c)
  have HOk := Lib.hid hc
  have HW := Lib.hid (fun w => word_of w c.k hc.k)
  have HWl := Lib.hid (wordK_len c.k hc.k)
  have HPr := Lib.hid (show printC c = if keepN (numC c) 6 = 0 then wordK c.k else wordK c.k ++ [32] ++ joinN [32] (numC c) (keepN (numC c) 6) from rfl)
  have b0 := hc.v0; have b1 := hc.v1; have b2 := hc.v2; have b3 := hc.v3; have b4 := hc.n
  clear hc
  unfold callC
  go_enter Try.func32, Try.ntmps32
  go_wp2_with fail
  refine wp_scope_again 0 (fun a' w' => ∃ (g m cap : Nat) (u4 u5 u6 u7 u8 u9 u10 u11 u12 u13 u14 u15 u16 u17 u18 u19 u20 u21 u22 u23 u24 u25 u26 u27 u28 u29 u30 u31 u32 u33 u34 u35 u36 u37 u38 u39 u40 u41 u42 u43 u44 u45 u46 u47 u48 u49 u50 u51 u52 u53 u54 u55 : Value), a' = { tmps := #[.agg #[.int .i64 c.k, .int .i64 c.o, .int .u32 c.v0, .int .u32 c.v1, .int .u32 c.v2, .int .u32 c.v3, .int .u32 c.n], .pointer (some ⟨w.heap.size, 0, none⟩), .string ⟨#[]⟩, .slice (some ⟨g, 0, none⟩) m cap, u4, u5, u6, u7, u8, u9, u10, u11, u12, u13, u14, u15, u16, u17, u18, u19, u20, u21, u22, u23, u24, u25, u26, u27, u28, u29, u30, u31, u32, u33, u34, u35, u36, u37, u38, u39, u40, u41, u42, u43, u44, u45, u46, u47, u48, u49, u50, u51, u52, u53, u54, u55], defers := [] } ∧ m ≤ 6 ∧ m ≤ cap ∧ cap ≤ 9223372036854775807 ∧ keepN (numC c) 6 = keepN (numC c) m ∧ (∀ i, i < 6 → w'.cell? ⟨g, i, none⟩ = some (.int .i64 (numC c i))) ∧ g < w'.heap.size ∧ w'.cell? ⟨w.heap.size, 0, none⟩ = some (.int .i64 c.k) ∧ Below w.heap.size w w')
    (fun a _ => lenOf (a.tmps.getD 3 undef)) rfl ?_ ?_
  · rintro a' w' ⟨g, m, cap, u4, u5, u6, u7, u8, u9, u10, u11, u12, u13, u14, u15, u16, u17, u18, u19, u20, u21, u22, u23, u24, u25, u26, u27, u28, u29, u30, u31, u32, u33, u34, u35, u36, u37, u38, u39, u40, u41, u42, u43, u44, u45, u46, u47, u48, u49, u50, u51, u52, u53, u54, u55, rfl, hm, hmc, hcap, hkeep, hcell, hg, hbox, hB⟩
    have HK := Lib.hid hB
    have HC := Lib.hid hcell
    have HKP := Lib.hid hkeep
    have HG := Lib.hid hg
    clear hB hcell hkeep hg b0 b1 b2 b3 b4
    have FIN : ∀ (q : Nat), q ≤ 6 → keepN (numC c) 6 = q → q ≠ 0 → True := fun _ _ _ _ => trivial
    clear FIN
    have e0 : (ByteArray.mk #[]).toList = [] := ByteArray.toList_mk []
    cases m with
    | zero =>
      have HF := Lib.hid (show printC c = wordK c.k by rw [HPr.out, HKP.out]; exact if_pos rfl)
      go_wp2_with fail
      refine (HW.out _).mono ?_
      rintro e1 w1 ⟨rfl, k1⟩
      have HB1 := Lib.hid (HK.out.trans (k1.none.mono HK.out.size))
      clear k1
      go_wp2_with fail
      try simp only [Exit.jump]
      go_ret
      exact ⟨by rw [HF.out]; rfl, HB1.out⟩
    | succ j =>
      have hkj : keepN (numC c) (j + 1) = if numC c j = 0 then keepN (numC c) j else j + 1 := rfl
      have c0 := HC.out j (by omega)
      by_cases hz : numC c j = 0
      · have g0 : (numC c j == 0) = true := by rw [hz]; rfl
        rw [if_pos hz] at hkj
        have HKJ := Lib.hid (HKP.out.trans hkj)
        rw [hz] at c0
        clear hkj hz g0
        go_wp2_with fail
        go_step3
        refine ⟨rfl, ⟨g, j, cap, _, _, _, _, _, _, _, _, _, _, _, _, _, _, _, _, _, _, _, _, _, _, _, _, _, _, _, _, _, _, _, _, _, _, _, _, _, _, _, _, _, _, _, _, _, _, _, _, _, _, _, _, rfl, by omega, by omega, hcap, HKJ.out, HC.out, HG.out, hbox, HK.out⟩, ?_⟩
        show j < j + 1
        omega
      · have g0 : (numC c j == 0) = false := by simpa using hz
        rw [if_neg hz] at hkj
        have HKJ := Lib.hid (HKP.out.trans hkj)
        have HF := Lib.hid (show printC c = wordK c.k ++ [32] ++ joinN [32] (numC c) (j + 1) by rw [HPr.out, HKJ.out]; exact if_neg (by omega))
        clear hkj hz
        generalize hnj : numC c j = nj at c0 g0
        clear hnj
        go_wp2_with fail
        refine (HW.out _).mono ?_
        rintro e1 w1 ⟨rfl, k1⟩
        have HB1 := Lib.hid (HK.out.trans (k1.none.mono HK.out.size))
        have HC1 := Lib.hid (fun i (hi : i < j + 1) => (show w1.cell? ⟨g, 0 + i, none⟩ = some (.int .i64 (numC c i)) by rw [Nat.zero_add]; exact (k1.none.cell (p := ⟨g, i, none⟩) HG.out).trans (HC.out i (by omega))))
        have HG1 := Lib.hid (Nat.lt_of_lt_of_le HG.out k1.size)
        clear k1
        have hwl := HWl.out
        have hSz := str_size (wordK c.k)
        have hS1 := run_string_add_sum (P := Try.prog) w1 ⟨(wordK c.k).toArray⟩ ⟨#[32]⟩ (by rw [hSz]; show _ + 1 ≤ _; omega)
        rw [show (ByteArray.mk (wordK c.k).toArray) ++ (ByteArray.mk #[32]) = ByteArray.mk (wordK c.k ++ [32]).toArray from ByteArray.mk_append_mk (wordK c.k) [32]] at hS1
        have hTz := str_size (wordK c.k ++ [32])
        rw [List.length_append, List.length_singleton] at hTz
        have hA2 := ByteArray.mk_append_mk (wordK c.k ++ [32]) (joinN [32] (numC c) (j + 1))
        have hJl := joinN_len [32] (numC c) 1000 (by simp) (j + 1) fun i _ => numC_ok HOk.out i
        have hJz := str_size (joinN [32] (numC c) (j + 1))
        have HJ := Lib.hid (join_some w1 g 0 (j + 1) cap (numC c) [32] (by omega) (by simp) (fun i _ => numC_ok HOk.out i) HG1.out HC1.out)
        generalize (⟨(wordK c.k).toArray⟩ : ByteArray) = X at *
        generalize (⟨(wordK c.k ++ [32]).toArray⟩ : ByteArray) = Y at *
        generalize (⟨(joinN [32] (numC c) (j + 1)).toArray⟩ : ByteArray) = Z at *
        have hjz : Z.size ≤ 7000 := by rw [hJz]; have : (j + 1) * (1000 + 21) ≤ 6 * 1021 := Nat.mul_le_mul_right _ hm; omega
        have HR := Lib.hid (show (ByteArray.mk (printC c).toArray) = Y ++ Z from by rw [HF.out]; exact hA2.symm)
        have hYz : Y.size ≤ 23 := by omega
        clear hA2 hJl hJz hSz hwl hTz
        go_wp2_with fail
        refine HJ.out.mono ?_
        rintro e2 w2 ⟨rfl, k2⟩
        have HB2 := Lib.hid (HB1.out.trans (k2.mono HB1.out.size))
        clear k2
        have hS2 := run_string_add_sum (P := Try.prog) w2 Y Z (by omega)
        go_wp2_with fail
        try simp only [Exit.jump]
        go_ret
        exact ⟨by rw [HR.out]; rfl, HB2.out⟩
  · intro hpass
    have HPASS := Lib.hid hpass
    clear hpass
    go_wp2_with fail
    obtain ⟨wo, hwo⟩ : ∃ wo : World, wo = w.alloc (.cells #[.int .i64 c.k, .int .i64 c.o, .int .u32 c.v0, .int .u32 c.v1, .int .u32 c.v2, .int .u32 c.v3, .int .u32 c.n] 81) := ⟨_, rfl⟩
    have hzo : wo.heap.size = w.heap.size + 1 := by rw [hwo, World.size_alloc]
    have HB0 := Lib.hid (show wo.heap[w.heap.size]? = some (.cells #[.int .i64 c.k, .int .i64 c.o, .int .u32 c.v0, .int .u32 c.v1, .int .u32 c.v2, .int .u32 c.v3, .int .u32 c.n] 81 (0, 0)) by rw [hwo]; exact heap_new w _)
    have HBo := Lib.hid (show Below w.heap.size w wo by rw [hwo]; exact (Below.refl _ w).alloc (Nat.le_refl _) _)
    have HO1 := Lib.hid (own_one wo (w.heap.size + 1) 3 (.int .i64 c.o) (by omega))
    rw [hzo] at HO1
    rw [← hwo]
    have HZO := Lib.hid hzo
    have HB1 := Lib.hid ((Below.refl (w.heap.size + 1) wo).alloc (by omega) (.cells #[.int .i64 c.o] 3))
    clear hwo hzo
    go_loopw [3, 12] (fun v i wr => ∃ k : Nat, k ≤ 4 ∧ i = .int .i64 (k : Int) ∧ wr.ownsRow (w.heap.size + 1) 3 1 v (1 + k) (cellsI ((numsC c).take (1 + k))) ∧ Below (w.heap.size + 1) wo wr) (fun _ i _ => 4 - (intOf i).toNat)
    case atStart => exact ⟨0, by omega, rfl, HO1.out, HB1.out⟩
    case round =>
      obtain ⟨k, hk, rfl, hown, hB⟩ := hrel
      rename_i wr
      have hwz : w.heap.size + 1 ≤ wr.heap.size := by have := hB.size; have := HZO.out; omega
      have HJ := Lib.hid (And.intro hown hB)
      by_cases hlt : k < 4
      · have hix := HIX.out wr k hlt
        have hx : 0 ≤ vC c k ∧ vC c k ≤ 4294967295 := by
          rcases (show k = 0 ∨ k = 1 ∨ k = 2 ∨ k = 3 by omega) with rfl | rfl | rfl | rfl
          · exact b0
          · exact b1
          · exact b2
          · exact b3
        have HT := Lib.hid (show (numsC c).take (1 + (k + 1)) = (numsC c).take (1 + k) ++ [vC c k] by
          rcases (show k = 0 ∨ k = 1 ∨ k = 2 ∨ k = 3 by omega) with rfl | rfl | rfl | rfl <;> rfl)
        generalize vC c k = x at hix hx HT
        obtain ⟨hi, hz0, hz1, hz2⟩ := HI.out
        clear hB
        go_wp2_with (at_builtin; refine wpList_append_own _ rfl _ _ 27 rfl (w.heap.size + 1) 3 i0 (.int .i64 0) 1 8 Try.underlying27 hi hz0 hz1 hz2 rfl (by decide) _ _ _ rfl (hown.alloc _) ⟨wr.heap.size, 0, none⟩ 1 1 [.int .i64 x] rfl rfl ?c1 ?c2 ?c3 ?c4 ?c5 ?_)
        case c1 => exact cell_one_new _ _ _
        case c2 => simp [Value.oneCell']
        case c3 => unfold maxLen; omega
        case c4 => omega
        case c5 => simp; omega
        intro v' w4 hown' hgrow _
        obtain ⟨g', cap', rfl⟩ := ownsRow_succ hown'
        have HWW := Lib.hid (And.intro hown' ((HJ.out.2.alloc (by have := HZO.out; omega) _).grown hgrow (by simp; have := HZO.out; omega) (fun j hj => (hown.lt j hj).1)))
        clear hown hown' hgrow hi hz0 hz1 hz2 hix
        go_wp2_with fail
        go_roundw
        case rel =>
          refine ⟨k + 1, by omega, by go_num, ?_, HWW.out.2⟩
          have h := HWW.out.1
          rw [HT.out, cellsI_snoc]
          exact h
        case measure => simp [intOf]; omega
      · obtain rfl : k = 4 := by omega
        have c6 : wr.cell? ⟨w.heap.size, 6, none⟩ = some (.int .u32 c.n) := by
          rw [hB.cell (p := ⟨w.heap.size, 6, none⟩) (by show w.heap.size < w.heap.size + 1; omega), cell_of HB0.out 6]; rfl
        have c00 : wr.cell? ⟨w.heap.size, 0, none⟩ = some (.int .i64 c.k) := by
          rw [hB.cell (p := ⟨w.heap.size, 0, none⟩) (by show w.heap.size < w.heap.size + 1; omega), cell_of HB0.out 0]; rfl
        have HC00 := Lib.hid c00
        clear c00
        obtain ⟨x, hxe⟩ : ∃ x, x = c.n := ⟨_, rfl⟩
        rw [← hxe] at c6 b4
        have HX := Lib.hid hxe
        obtain ⟨hi, hz0, hz1, hz2⟩ := HI.out
        clear hB hxe
        go_wp2_with (at_builtin; refine wpList_append_own _ rfl _ _ 27 rfl (w.heap.size + 1) 3 i0 (.int .i64 0) 1 8 Try.underlying27 hi hz0 hz1 hz2 rfl (by decide) _ _ _ rfl (hown.alloc _) ⟨wr.heap.size, 0, none⟩ 1 1 [.int .i64 x] rfl rfl ?d1 ?d2 ?d3 ?d4 ?d5 ?_)
        case d1 => exact cell_one_new _ _ _
        case d2 => simp [Value.oneCell']
        case d3 => unfold maxLen; omega
        case d4 => omega
        case d5 => simp; omega
        intro v' w4 hown' hgrow _
        obtain ⟨g', cap', rfl⟩ := ownsRow_succ (k := 5) hown'
        have hBB : Below (w.heap.size + 1) wr w4 := ((Below.refl (w.heap.size + 1) wr).alloc hwz (.cells #[.int .i64 x] 3)).grown hgrow (by simp; omega) (fun j hj => (hown.lt j hj).1)
        have hn6 : cellsI ((numsC c).take (1 + 4)) ++ [.int .i64 x] = cellsI (numsC c) := by rw [HX.out, ← cellsI_snoc]; rfl
        rw [hn6] at hown'
        have HWW := Lib.hid (And.intro hown' (And.intro ((HBo.out.trans (HJ.out.2.mono (Nat.le_succ _))).trans (hBB.mono (Nat.le_succ _))) ((hBB.cell (p := ⟨w.heap.size, 0, none⟩) (by show w.heap.size < w.heap.size + 1; omega)).trans HC00.out)))
        have HCP := Lib.hid (own_cap hown')
        clear hown hown' hgrow hi hz0 hz1 hz2 hBB hn6
        go_wp2_with fail
        go_step3
        rename_i K hK
        refine hK _ _ <| HPASS.out _ _ ⟨g', 6, cap', _, _, _, _, _, _, _, _, _, _, _, _, _, _, _, _, _, _, _, _, _, _, _, _, _, _, _, _, _, _, _, _, _, _, _, _, _, _, _, _, _, _, _, _, _, _, _, _, _, _, _, _, rfl, by omega, HCP.out.1, HCP.out.2, rfl, fun i hi => ?_, (HWW.out.1.lt g' rfl).2, HWW.out.2.2, HWW.out.2.1⟩
        have h := HWW.out.1.cells (g := g') rfl i (.int .i64 (numC c i)) (by
          rcases (show i = 0 ∨ i = 1 ∨ i = 2 ∨ i = 3 ∨ i = 4 ∨ i = 5 by omega) with rfl | rfl | rfl | rfl | rfl | rfl <;> rfl)
        rw [addr_add] at h
        exact h
end Go.Proofs.Ytdjfelabdofaaaa
