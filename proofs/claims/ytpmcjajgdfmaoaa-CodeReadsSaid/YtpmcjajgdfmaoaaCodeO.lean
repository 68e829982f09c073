import Derived.Test.YtpmcjajgdfmaoaaCodeN
import Derived.Test.YtpmcjajgdfmaoaaCodeM
namespace Go.Proofs.Ytpmcjajgdfmaoaa
open Go.ChangeShapes Go.WideShapes Go.ChangeAt Go.RowKit
set_option linter.unusedVariables false
set_option linter.unusedSimpArgs false
set_option maxRecDepth 20000 in
theorem rread_none (w : World) (a : Option Addr) (c : Nat) : Calls Try.prog 15 #[.slice a 0 c] w (ReadSays w ([], 0, 0)) := by
  go_enter Try.func15, Try.ntmps15
  go_wp2_with fail
  go_loop [5, 6] (fun v i => v = .slice none 0 0 ∧ i = .int .i64 0) (fun _ _ => 0)
  case atStart => exact ⟨rfl, rfl⟩
  case round =>
    obtain ⟨rfl, rfl⟩ := hrel
    go_wp2_with fail
    refine bodyPost_ret (v := .tuple #[.slice none 0 0, .int .i64 0, .int .i64 0]) (by simp [results, Try.results15, go_sem]) rfl ?_
    exact ⟨_, rfl, World.ownsRow_nil _ _ _ _, Below.refl _ _⟩
set_option maxRecDepth 100000 in
set_option maxHeartbeats 2000000 in
theorem rread_some (w : World) (g o n c : Nat) (L : List RowI) (hL : L.length = n) (hn : n ≤ 1000000) (hg : g < w.heap.size)
    (hcell : ∀ i r, L[i]? = some r → w.cell? ⟨g, o + i * 2, none⟩ = some (.int .i64 r.N) ∧ w.cell? ⟨g, o + i * 2 + 1, none⟩ = some (.slice r.A r.n r.c)) (hok : ∀ r, r ∈ L → r.Ok w) :
    Calls Try.prog 15 #[.slice (some ⟨g, o, none⟩) n c] w (ReadSays w (readL L [])) := by
  obtain ⟨i0, hi, hz0, hz1, hz2⟩ := info_parts info_call
  have HI := Lib.hid (And.intro hi (And.intro hz0 (And.intro hz1 hz2)))
  have HC := Lib.hid hcell
  have HOK := Lib.hid hok
  have HL := Lib.hid hL
  clear hi hz0 hz1 hz2 hcell hok hL
  go_enter Try.func15, Try.ntmps15
  go_wp2_with fail
  obtain ⟨wo, rfl⟩ : ∃ wo : World, wo = w := ⟨_, rfl⟩
  go_loopw [5, 6] (fun v i wr => ∃ (k : Nat) (acc : List CallD), k ≤ n ∧ i = .int .i64 (k : Int) ∧ acc.length = k ∧ readL L [] = readL (L.drop k) acc ∧ wr.ownsRow wo.heap.size 26 7 v k (flatC acc) ∧ Below wo.heap.size wo wr) (fun _ i _ => n - (intOf i).toNat)
  case atStart => exact ⟨0, [], by omega, rfl, rfl, rfl, World.ownsRow_nil _ _ _ _, Below.refl _ _⟩
  case round =>
    obtain ⟨k, acc, hk, rfl, hak, hrd, hown, hB⟩ := hrel
    have hbz := hB.size
    have HJ := Lib.hid (And.intro hak (And.intro hrd (And.intro hown hB)))
    clear hak hrd hB
    by_cases hlt : k < n
    · obtain ⟨r, hr⟩ : ∃ r, L[k]? = some r := ⟨_, List.getElem?_eq_getElem (by rw [HL.out]; exact hlt)⟩
      have hrm : r ∈ L := List.mem_of_getElem? hr
      have hdrop : L.drop k = r :: L.drop (k + 1) := by
        rw [List.drop_eq_getElem_cons (by rw [HL.out]; exact hlt)]
        congr 1
        rw [List.getElem?_eq_getElem (by rw [HL.out]; exact hlt)] at hr
        exact Option.some.inj hr
      have hcc := HC.out k r hr
      have c0 : wr.cell? ⟨g, o + k * 2, none⟩ = some (.int .i64 r.N) := (HJ.out.2.2.2.cell (p := ⟨g, o + k * 2, none⟩) hg).trans hcc.1
      have c1 : wr.cell? ⟨g, o + k * 2 + 1, none⟩ = some (.slice r.A r.n r.c) := (HJ.out.2.2.2.cell (p := ⟨g, o + k * 2 + 1, none⟩) hg).trans hcc.2
      have hro := (HOK.out r hrm).below HJ.out.2.2.2
      have HP := Lib.hid (fun w1 (hb : Below wr.heap.size wr w1) => rparse_call w1 r.N r.A r.n r.c r.F hro.n (hro.lies.below hb) hro.len)
      have HD := Lib.hid (show readL L [] = if (parseC r.n r.F).2 = 0 then readL (L.drop (k + 1)) (acc ++ [(parseC r.n r.F).1]) else ([], r.N, (parseC r.n r.F).2) by rw [HJ.out.2.1, hdrop]; rfl)
      obtain ⟨C, hC⟩ : ∃ C, C = (parseC r.n r.F).1 := ⟨_, rfl⟩
      obtain ⟨f, hf⟩ : ∃ f, f = (parseC r.n r.F).2 := ⟨_, rfl⟩
      rw [← hC, ← hf] at HP HD
      clear hC hf hr hrm hdrop hcc hro
      obtain ⟨rN, rA, rn, rc, rF⟩ := r
      dsimp only at c0 c1 HP HD
      obtain ⟨a0, a1, a2, a3, a4, a5, a6⟩ := C
      unfold callC at HP
      dsimp only at HP
      go_wp2_with fail
      refine (HP.out _ (Below.refl _ _)).mono ?_
      rintro e1 w1 ⟨rfl, hb1⟩
      have hbx : Below wr.heap.size wr w1 := hb1
      have hgr : g < wr.heap.size := Nat.lt_of_lt_of_le hg hbz
      have hgw : g < w1.heap.size := Nat.lt_of_lt_of_le hgr hb1.size
      have c2 : w1.cell? ⟨g, o + k * 2, none⟩ = some (.int .i64 rN) := (hb1.cell (p := ⟨g, o + k * 2, none⟩) hgr).trans c0
      have HX := Lib.hid (And.intro (row_on hown hbx) (HJ.out.2.2.2.trans (hbx.mono hbz)))
      have hz1 := hbx.size
      clear hb1 hbx c0 c1 hown
      by_cases hf0 : f = 0
      · subst hf0
        have hown := HX.out.1
        have hka := HJ.out.1
        obtain ⟨hi, hz0, hz1', hz2⟩ := HI.out
        go_wp2_with (at_builtin; refine wpList_append_own _ rfl _ _ 37 rfl wo.heap.size 26 i0 _ 7 40 Try.underlying37 hi hz0 hz1' hz2 rfl (by decide) _ _ _ rfl ((hown.alloc _).alloc _) ⟨w1.heap.size + 1, 0, none⟩ 1 1 (cellsC ⟨a0, a1, a2, a3, a4, a5, a6⟩) rfl rfl ?c1 ?c2 ?c3 ?c4 ?c5 ?_)
        case c1 =>
          have h := cell_call_new (w1.alloc (.cells (callC ⟨a0, a1, a2, a3, a4, a5, a6⟩) 26)) ⟨a0, a1, a2, a3, a4, a5, a6⟩ 26
          rw [World.size_alloc] at h
          exact h
        case c2 => exact cellsC_one _
        case c3 => unfold maxLen; omega
        case c4 => omega
        case c5 => simp; omega
        intro v' w4 hown' hgrow _
        obtain ⟨g', cap', rfl⟩ := ownsRow_succ hown'
        have HWW := Lib.hid (And.intro hown' (((HX.out.2.alloc (by omega) _).alloc (by simp; omega) _).grown hgrow (by simp; omega) (fun j hj => (hown.lt j hj).1)))
        have HD2 := Lib.hid (show readL L [] = readL (L.drop (k + 1)) (acc ++ [⟨a0, a1, a2, a3, a4, a5, a6⟩]) by have h := HD.out; simpa using h)
        clear hown hown' hgrow hi hz0 hz1' hz2 c2 hka hgr
        go_wp2_with fail
        go_roundw
        case rel => exact ⟨k + 1, acc ++ [⟨a0, a1, a2, a3, a4, a5, a6⟩], by omega, by go_num, by rw [List.length_append, HJ.out.1]; rfl, HD2.out, by rw [flatC_snoc]; exact HWW.out.1, HWW.out.2⟩
        case measure => simp [intOf]; omega
      · have HD2 := Lib.hid (HD.out.trans (if_neg hf0))
        have hf1 : (f == 0) = false := by simpa using hf0
        have hf2 : (f != 0) = true := by simp only [bne, hf1]; rfl
        have c3 : (w1.alloc (.cells #[.int .i64 a0, .int .i64 a1, .int .u32 a2, .int .u32 a3, .int .u32 a4, .int .u32 a5, .int .u32 a6] 26)).cell? ⟨g, o + k * 2, none⟩ = some (.int .i64 rN) := by
          unfold World.cell? at c2 ⊢
          rw [Below.heap_alloc _ _ _ hgw]
          exact c2
        have HXA := Lib.hid (HX.out.2.alloc (show wo.heap.size ≤ w1.heap.size by omega) (.cells #[.int .i64 a0, .int .i64 a1, .int .u32 a2, .int .u32 a3, .int .u32 a4, .int .u32 a5, .int .u32 a6] 26))
        have hza : wo.heap.size ≤ (w1.alloc (.cells #[.int .i64 a0, .int .i64 a1, .int .u32 a2, .int .u32 a3, .int .u32 a4, .int .u32 a5, .int .u32 a6] 26)).heap.size := by simp; omega
        clear hf0 hgr c2
        go_wp2_with fail
        generalize (w1.alloc (.cells #[.int .i64 a0, .int .i64 a1, .int .u32 a2, .int .u32 a3, .int .u32 a4, .int .u32 a5, .int .u32 a6] 26)) = w5 at *
        go_quiet (fail)
        go_wp2_with fail
        refine bodyPost_ret (v := .tuple #[.slice none 0 0, .int .i64 rN, .int .i64 f]) (by simp [results, Try.results15, go_sem]) rfl ?_
        rw [HD2.out]
        refine ⟨_, rfl, World.ownsRow_nil _ _ _ _, ?_⟩
        exact HXA.out.trans (((Keeps.refl (fun _ => False) w5).drewN _).none.mono hza)
    · obtain rfl : k = n := by omega
      have HF := Lib.hid (show readL L [] = (acc, 0, 0) by rw [HJ.out.2.1, List.drop_of_length_le (by rw [HL.out]; exact Nat.le_refl _)]; rfl)
      clear hown
      go_wp2_with fail
      refine bodyPost_ret (v := .tuple #[_, .int .i64 0, .int .i64 0]) (by simp [results, Try.results15, go_sem]; rfl) rfl ?_
      rw [HF.out]
      exact ⟨_, rfl, by rw [HJ.out.1]; exact HJ.out.2.2.1, HJ.out.2.2.2⟩

/-- The cells of rows. -/
def flatI (L : List RowI) : List Value := L.flatMap fun r => [.int .i64 r.N, .slice r.A r.n r.c]
theorem flatI_snoc (L : List RowI) (r : RowI) : flatI (L ++ [r]) = flatI L ++ [.int .i64 r.N, .slice r.A r.n r.c] := by simp [flatI]
theorem flatI_at : ∀ (R : List RowI) (i : Nat) (r : RowI), R[i]? = some r → (flatI R)[i * 2]? = some (.int .i64 r.N) ∧ (flatI R)[i * 2 + 1]? = some (.slice r.A r.n r.c)
  | [], i, r, h => by simp at h
  | x :: t, 0, r, h => by
    simp at h
    subst h
    exact ⟨rfl, rfl⟩
  | x :: t, i + 1, r, h => by
    have h' := flatI_at t i r (by simpa using h)
    rw [show (i + 1) * 2 = i * 2 + 2 by omega, show i * 2 + 2 + 1 = i * 2 + 1 + 2 by omega]
    exact h'
theorem own_none (w : World) (a : Option Addr) (c : Nat) : Calls Try.prog 14 #[.slice a 0 c] w fun e w' => ∃ v, e = .returned v ∧ w'.ownsRow w.heap.size 57 2 v 0 (flatI []) ∧ Below w.heap.size w w' := by
  go_enter Try.func14, Try.ntmps14
  go_wp2_with fail
  go_loop [3, 4] (fun v i => v = .slice none 0 0 ∧ i = .int .i64 0) (fun _ _ => 0)
  case atStart => exact ⟨rfl, rfl⟩
  case round =>
    obtain ⟨rfl, rfl⟩ := hrel
    go_wp2_with fail
    go_ret
    exact ⟨_, rfl, World.ownsRow_nil _ _ _ _, Below.refl _ _⟩
set_option maxRecDepth 100000 in
set_option maxHeartbeats 2000000 in
theorem own_some (w : World) (g o n c : Nat) (L : List RowI) (hL : L.length = n) (hn : n ≤ 1000000) (hg : g < w.heap.size)
    (hcell : ∀ i r, L[i]? = some r → w.cell? ⟨g, o + i * 2, none⟩ = some (.int .i64 r.N) ∧ w.cell? ⟨g, o + i * 2 + 1, none⟩ = some (.slice r.A r.n r.c)) :
    Calls Try.prog 14 #[.slice (some ⟨g, o, none⟩) n c] w fun e w' => ∃ v, e = .returned v ∧ w'.ownsRow w.heap.size 57 2 v n (flatI L) ∧ Below w.heap.size w w' := by
  obtain ⟨i0, hi, hz0, hz1, hz2⟩ := info_parts info_row
  have HI := Lib.hid (And.intro hi (And.intro hz0 (And.intro hz1 hz2)))
  have HC := Lib.hid hcell
  have HL := Lib.hid hL
  clear hi hz0 hz1 hz2 hcell hL
  go_enter Try.func14, Try.ntmps14
  go_wp2_with fail
  obtain ⟨wo, rfl⟩ : ∃ wo : World, wo = w := ⟨_, rfl⟩
  go_loopw [3, 4] (fun v i wr => ∃ (k : Nat), k ≤ n ∧ i = .int .i64 (k : Int) ∧ wr.ownsRow wo.heap.size 57 2 v k (flatI (L.take k)) ∧ Below wo.heap.size wo wr) (fun _ i _ => n - (intOf i).toNat)
  case atStart => exact ⟨0, by omega, rfl, World.ownsRow_nil _ _ _ _, Below.refl _ _⟩
  case round =>
    obtain ⟨k, hk, rfl, hown, hB⟩ := hrel
    have hbz := hB.size
    have HB := Lib.hid hB
    clear hB
    by_cases hlt : k < n
    · obtain ⟨r, hr⟩ : ∃ r, L[k]? = some r := ⟨_, List.getElem?_eq_getElem (by rw [HL.out]; exact hlt)⟩
      have HT := Lib.hid (show flatI (L.take (k + 1)) = flatI (L.take k) ++ [.int .i64 r.N, .slice r.A r.n r.c] by rw [List.take_add_one, hr]; exact flatI_snoc _ _)
      have hcc := HC.out k r hr
      have c0 : wr.cell? ⟨g, o + k * 2, none⟩ = some (.int .i64 r.N) := (HB.out.cell (p := ⟨g, o + k * 2, none⟩) hg).trans hcc.1
      have c1 : wr.cell? ⟨g, o + k * 2 + 1, none⟩ = some (.slice r.A r.n r.c) := (HB.out.cell (p := ⟨g, o + k * 2 + 1, none⟩) hg).trans hcc.2
      clear hr hcc
      obtain ⟨rN, rA, rn, rc, rF⟩ := r
      dsimp only at c0 c1 HT
      obtain ⟨hi, hz0, hz1', hz2⟩ := HI.out
      go_wp2_with (at_builtin; refine wpList_append_own _ rfl _ _ 41 rfl wo.heap.size 57 i0 _ 2 32 Try.underlying41 hi hz0 hz1' hz2 rfl (by decide) _ _ _ rfl (hown.alloc _) ⟨wr.heap.size, 0, none⟩ 1 1 [.int .i64 rN, .slice rA rn rc] rfl rfl ?c1 ?c2 ?c3 ?c4 ?c5 ?_)
      case c1 => exact cell_two_new _ _ _ _
      case c2 =>
        intro u hu
        simp at hu
        rcases hu with rfl | rfl <;> rfl
      case c3 => unfold maxLen; omega
      case c4 => omega
      case c5 => simp; omega
      intro v' w4 hown' hgrow _
      obtain ⟨g', cap', rfl⟩ := ownsRow_succ hown'
      have HWW := Lib.hid (And.intro hown' ((HB.out.alloc hbz _).grown hgrow (by simp; omega) (fun j hj => (hown.lt j hj).1)))
      clear hown hown' hgrow hi hz0 hz1' hz2 c0 c1
      go_wp2_with fail
      go_roundw
      case rel => exact ⟨k + 1, by omega, by go_num, by rw [HT.out]; exact HWW.out.1, HWW.out.2⟩
      case measure => simp [intOf]; omega
    · obtain rfl : k = n := by omega
      have HF := Lib.hid (show L.take k = L by rw [List.take_of_length_le (by rw [HL.out]; exact Nat.le_refl _)])
      rw [HF.out] at hown
      have HO := Lib.hid hown
      clear hown
      go_wp2_with fail
      go_ret
      exact ⟨_, rfl, HO.out, HB.out⟩
end Go.Proofs.Ytpmcjajgdfmaoaa
