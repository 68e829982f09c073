import Derived.Test.YtpmcjajgdfmaoaaCodeI
namespace Go.Proofs.Ytpmcjajgdfmaoaa
open Go.ChangeShapes Go.WideShapes Go.ChangeAt Go.RowKit
set_option linter.unusedVariables false
set_option linter.unusedSimpArgs false
/-- A row of words as an argument. -/
structure RowI where
  N : Int
  A : Option Addr
  n : Nat
  c : Nat
  F : Nat → List UInt8
structure RowI.Ok (r : RowI) (w : World) : Prop where
  n : r.n ≤ maxLen
  lies : StrRow w r.A r.n r.F
  len : ∀ i, i < r.n → (r.F i).length ≤ 9223372036854775807
theorem RowI.Ok.below {r : RowI} {w w' : World} (h : r.Ok w) (hb : Below w.heap.size w w') : r.Ok w' := ⟨h.n, h.lies.below hb, h.len⟩
/-- What Read gives of rows: the calls, the number of the first bad row, the fault. -/
def readL : List RowI → List CallD → List CallD × Int × Int
  | [], acc => (acc, 0, 0)
  | r :: t, acc => if (parseC r.n r.F).2 = 0 then readL t (acc ++ [(parseC r.n r.F).1]) else ([], r.N, (parseC r.n r.F).2)
def ReadSays (w : World) (p : List CallD × Int × Int) (e : Ending) (w' : World) : Prop :=
  ∃ v, e = .returned (.tuple #[v, .int .i64 p.2.1, .int .i64 p.2.2]) ∧ w'.ownsRow w.heap.size 26 7 v p.1.length (flatC p.1) ∧ Below w.heap.size w w'
theorem cell_call_new (w : World) (C : CallD) (t : TypeId) : ∀ (j : Nat) u, (cellsC C)[j]? = some u → (w.alloc (.cells (callC C) t)).cell? ((⟨w.heap.size, 0, none⟩ : Addr).add j) = some u := by
  intro j u hj
  rw [addr_add, cell_of (heap_new w _) j]
  have e : callC C = (cellsC C).toArray := rfl
  rw [e, List.getElem?_toArray]
  exact hj
set_option maxRecDepth 20000 in
theorem read_none (w : World) (a : Option Addr) (c : Nat) : Calls Try.prog 13 #[.slice a 0 c] w (ReadSays w ([], 0, 0)) := by
  go_enter Try.func13, Try.ntmps13
  go_wp2_with fail
  go_loop [5, 12] (fun v i => v = .slice none 0 0 ∧ i = .int .i64 0) (fun _ _ => 0)
  case atStart => exact ⟨rfl, rfl⟩
  case round =>
    obtain ⟨rfl, rfl⟩ := hrel
    go_wp2_with fail
    refine bodyPost_ret (v := .tuple #[.slice none 0 0, .int .i64 0, .int .i64 0]) (by simp [results, Try.results13, go_sem]) rfl ?_
    exact ⟨_, rfl, World.ownsRow_nil _ _ _ _, Below.refl _ _⟩
set_option maxRecDepth 100000 in
set_option maxHeartbeats 2000000 in
theorem read_some (w : World) (g o n c : Nat) (L : List RowI) (hL : L.length = n) (hn : n ≤ 1000000) (hg : g < w.heap.size)
    (hcell : ∀ i r, L[i]? = some r → w.cell? ⟨g, o + i * 2, none⟩ = some (.int .i64 r.N) ∧ w.cell? ⟨g, o + i * 2 + 1, none⟩ = some (.slice r.A r.n r.c)) (hok : ∀ r, r ∈ L → r.Ok w) :
    Calls Try.prog 13 #[.slice (some ⟨g, o, none⟩) n c] w (ReadSays w (readL L [])) := by
  obtain ⟨i0, hi, hz0, hz1, hz2⟩ := info_parts info_call
  have HI := Lib.hid (And.intro hi (And.intro hz0 (And.intro hz1 hz2)))
  have HC := Lib.hid hcell
  have HOK := Lib.hid hok
  have HL := Lib.hid hL
  clear hi hz0 hz1 hz2 hcell hok hL
  go_enter Try.func13, Try.ntmps13
  go_wp2_with fail
  obtain ⟨wo, rfl⟩ : ∃ wo : World, wo = w := ⟨_, rfl⟩
  go_loopw [5, 12] (fun v i wr => ∃ (k : Nat) (acc : List CallD), k ≤ n ∧ i = .int .i64 (k : Int) ∧ acc.length = k ∧ readL L [] = readL (L.drop k) acc ∧ wr.ownsRow wo.heap.size 26 7 v k (flatC acc) ∧ Below wo.heap.size wo wr) (fun _ i _ => n - (intOf i).toNat)
  case atStart => exact ⟨0, [], by omega, rfl, rfl, rfl, World.ownsRow_nil _ _ _ _, Below.refl _ _⟩
  case round =>
    obtain ⟨k, acc, hk, rfl, hak, hrd, hown, hB⟩ := hrel
    have hbz := hB.size
    have HJ := Lib.hid (And.intro hak (And.intro hrd (And.intro hown hB)))
    clear hak hrd hB
    by_cases hlt : k < n
    · obtain ⟨r, hr⟩ : ∃ r, L[k]? = some r := ⟨_, List.getElem?_eq_getElem (by rw [HL.out]; exact hlt)⟩
      have hrm : r ∈ L := List.mem_of_getElem? hr
      have hdrop : L.drop k = r :: L.drop (k + 1) := by
        rw [List.drop_eq_getElem_cons (by rw [HL.out]; exact hlt)]
        congr 1
        rw [List.getElem?_eq_getElem (by rw [HL.out]; exact hlt)] at hr
        exact Option.some.inj hr
      have hcc := HC.out k r hr
      have c0 : wr.cell? ⟨g, o + k * 2, none⟩ = some (.int .i64 r.N) := (HJ.out.2.2.2.cell (p := ⟨g, o + k * 2, none⟩) hg).trans hcc.1
      have c1 : wr.cell? ⟨g, o + k * 2 + 1, none⟩ = some (.slice r.A r.n r.c) := (HJ.out.2.2.2.cell (p := ⟨g, o + k * 2 + 1, none⟩) hg).trans hcc.2
      have hro := (HOK.out r hrm).below HJ.out.2.2.2
      have HP := Lib.hid (fun w1 (hb : Below wr.heap.size wr w1) => parse_call w1 r.N r.A r.n r.c r.F hro.n (hro.lies.below hb) hro.len)
      have HD := Lib.hid (show readL L [] = if (parseC r.n r.F).2 = 0 then readL (L.drop (k + 1)) (acc ++ [(parseC r.n r.F).1]) else ([], r.N, (parseC r.n r.F).2) by rw [HJ.out.2.1, hdrop]; rfl)
      obtain ⟨C, hC⟩ : ∃ C, C = (parseC r.n r.F).1 := ⟨_, rfl⟩
      obtain ⟨f, hf⟩ : ∃ f, f = (parseC r.n r.F).2 := ⟨_, rfl⟩
      rw [← hC, ← hf] at HP HD
      clear hC hf hr hrm hdrop hcc hro
      obtain ⟨rN, rA, rn, rc, rF⟩ := r
      dsimp only at c0 c1 HP HD
      obtain ⟨a0, a1, a2, a3, a4, a5, a6⟩ := C
      unfold callC at HP
      dsimp only at HP
      go_wp2_with fail
      refine (HP.out _ ((Below.refl _ _).alloc (Nat.le_refl _) _)).mono ?_
      rintro e1 w1 ⟨rfl, hb1⟩
      have hbx : Below wr.heap.size wr w1 := ((Below.refl _ wr).alloc (Nat.le_refl _) (.cells #[.int .i64 rN, .slice rA rn rc] 57)).trans (hb1.mono (by rw [World.size_alloc]; omega))
      have hrow : w1.heap[wr.heap.size]? = some (.cells #[.int .i64 rN, .slice rA rn rc] 57 (0, 0)) := (hb1.block _ (by rw [World.size_alloc]; omega)).trans (heap_new wr _)
      have c2 : w1.cell? ⟨wr.heap.size, 0, none⟩ = some (.int .i64 rN) := cell_of hrow 0
      have HX := Lib.hid (And.intro (row_on hown hbx) (HJ.out.2.2.2.trans (hbx.mono hbz)))
      have hz1 := hbx.size
      clear hb1 hbx c0 c1 hown
      by_cases hf0 : f = 0
      · subst hf0
        have hown := HX.out.1
        have hka := HJ.out.1
        obtain ⟨hi, hz0, hz1', hz2⟩ := HI.out
        go_wp2_with (at_builtin; refine wpList_append_own _ rfl _ _ 37 rfl wo.heap.size 26 i0 _ 7 40 Try.underlying37 hi hz0 hz1' hz2 rfl (by decide) _ _ _ rfl ((hown.alloc _).alloc _) ⟨w1.heap.size + 1, 0, none⟩ 1 1 (cellsC ⟨a0, a1, a2, a3, a4, a5, a6⟩) rfl rfl ?c1 ?c2 ?c3 ?c4 ?c5 ?_)
        case c1 =>
          have h := cell_call_new (w1.alloc (.cells (callC ⟨a0, a1, a2, a3, a4, a5, a6⟩) 26)) ⟨a0, a1, a2, a3, a4, a5, a6⟩ 26
          rw [World.size_alloc] at h
          exact h
        case c2 => exact cellsC_one _
        case c3 => unfold maxLen; omega
        case c4 => omega
        case c5 => simp; omega
        intro v' w4 hown' hgrow _
        obtain ⟨g', cap', rfl⟩ := ownsRow_succ hown'
        have HWW := Lib.hid (And.intro hown' (((HX.out.2.alloc (by omega) _).alloc (by simp; omega) _).grown hgrow (by simp; omega) (fun j hj => (hown.lt j hj).1)))
        have HD2 := Lib.hid (show readL L [] = readL (L.drop (k + 1)) (acc ++ [⟨a0, a1, a2, a3, a4, a5, a6⟩]) by have h := HD.out; simpa using h)
        clear hown hown' hgrow hi hz0 hz1' hz2 c2 hka hrow
        go_wp2_with fail
        go_roundw
        case rel => exact ⟨k + 1, acc ++ [⟨a0, a1, a2, a3, a4, a5, a6⟩], by omega, by go_num, by rw [List.length_append, HJ.out.1]; rfl, HD2.out, by rw [flatC_snoc]; exact HWW.out.1, HWW.out.2⟩
        case measure => simp [intOf]; omega
      · have HD2 := Lib.hid (HD.out.trans (if_neg hf0))
        have hf1 : (f == 0) = false := by simpa using hf0
        have hf2 : (f != 0) = true := by simp only [bne, hf1]; rfl
        have c3 : (w1.alloc (.cells #[.int .i64 a0, .int .i64 a1, .int .u32 a2, .int .u32 a3, .int .u32 a4, .int .u32 a5, .int .u32 a6] 26)).cell? ⟨wr.heap.size, 0, none⟩ = some (.int .i64 rN) := by
          unfold World.cell? at c2 ⊢
          rw [Below.heap_alloc _ _ _ (lt_of hrow)]
          exact c2
        have HXA := Lib.hid (HX.out.2.alloc (show wo.heap.size ≤ w1.heap.size by omega) (.cells #[.int .i64 a0, .int .i64 a1, .int .u32 a2, .int .u32 a3, .int .u32 a4, .int .u32 a5, .int .u32 a6] 26))
        have hza : wo.heap.size ≤ (w1.alloc (.cells #[.int .i64 a0, .int .i64 a1, .int .u32 a2, .int .u32 a3, .int .u32 a4, .int .u32 a5, .int .u32 a6] 26)).heap.size := by simp; omega
        clear hf0 hrow c2
        go_wp2_with fail
        generalize (w1.alloc (.cells #[.int .i64 a0, .int .i64 a1, .int .u32 a2, .int .u32 a3, .int .u32 a4, .int .u32 a5, .int .u32 a6] 26)) = w5 at *
        go_quiet (fail)
        go_wp2_with fail
        refine bodyPost_ret (v := .tuple #[.slice none 0 0, .int .i64 rN, .int .i64 f]) (by simp [results, Try.results13, go_sem]) rfl ?_
        rw [HD2.out]
        refine ⟨_, rfl, World.ownsRow_nil _ _ _ _, ?_⟩
        exact HXA.out.trans (((Keeps.refl (fun _ => False) w5).drewN _).none.mono hza)
    · obtain rfl : k = n := by omega
      have HF := Lib.hid (show readL L [] = (acc, 0, 0) by rw [HJ.out.2.1, List.drop_of_length_le (by rw [HL.out]; exact Nat.le_refl _)]; rfl)
      clear hown
      go_wp2_with fail
      refine bodyPost_ret (v := .tuple #[_, .int .i64 0, .int .i64 0]) (by simp [results, Try.results13, go_sem]; rfl) rfl ?_
      rw [HF.out]
      exact ⟨_, rfl, by rw [HJ.out.1]; exact HJ.out.2.2.1, HJ.out.2.2.2⟩
end Go.Proofs.Ytpmcjajgdfmaoaa
