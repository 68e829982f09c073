import Derived.Test.YtohajfkekkelhaaDoorLinMz
import Derived.Test.YtohajfkekkelhaaDoorSpecQz
import Derived.Laws.EntriesVeiled
import Derived.Test.YtohajfkekkelhaaDoorRows
import Derived.Test.YtohajfkekkelhaaDoorKeep
import Derived.WalkKit
import Derived.ProofKit
import Derived.OpenShut
import Derived.WalkLawsBesides
import Derived.WalkSpells
import Derived.Lib.Hide
import Derived.Deep.QuietTactic
import Derived.BigQuiet
import Derived.Test.YtohajfkekkelhaaDoorLinNz
import Derived.LaidMore
import Derived.LaidHandle
import Derived.Stop.Joined
namespace Go.Proofs.YtohajfkekkelhaaDoor
open Go.ChangeShapes Go.WideShapes Go.ChangeAt Go.RowKit Go.Maps
set_option linter.unusedVariables false
set_option linter.unusedSimpArgs false
theorem search_any (W0 : World) (c : Cap) (B : Nat) (la : Option Addr) (n lc ans : Nat) (ha : ans < 4294967296) (Lo : List OpX) (hops : OpsArg W0 la n Lo) (hn : n ≤ 24) (hT : TabAt 0 Lib.deBruijn32tab W0) (hg : 0 < W0.heap.size) : ∀ (m : Nat)
    (W : World) (used : Nat) (hu : used < 4294967296) (L : List ItemD) (g cap : Nat) (ov : Value) (t : List Nat) (D : DataW Unit) (nm : Nat) (F : Fail), SrW W0 W c B la n lc ans ov t D nm F → B ≤ W.heap.size → StateAt W g L → (∀ x, x ∈ L → x.Ok) → L.length ≤ 1000 → (freeL n used).length < m → t.length + m ≤ 100 → nm + callsT m ≤ 100000000 →
      Calls Tryd.prog 15 #[.int .u32 (used : Int), .slice (some ⟨g, 0, none⟩) L.length cap, .pointer (some ⟨c.bA, 0, none⟩), .pointer (some ⟨c.bF, 0, none⟩), .pointer (some ⟨c.bL, 0, none⟩), .pointer (some ⟨c.bO, 0, none⟩), .pointer (some ⟨c.bS, 0, none⟩)] W (SrOut W0 W c B la n lc ans ov t nm m (searchP Lo ans m used L F))
  | 0, W, used, hu, L, g, cap, ov, t, D, nm, F, h, hB, hs, ok, hl, hf, ht, hnm => absurd hf (Nat.not_lt_zero _)
  | m + 1, W, used, hu, L, g, cap, ov, t, D, nm, F, h, hB, hs, ok, hl, hf, ht, hnm => search_step W0 c B la n lc ans ha Lo hops hn hT hg m (search_any W0 c B la n lc ans ha Lo hops hn hT hg m) W used hu L g cap ov t D nm F h hB hs ok hl hf ht hnm
set_option maxRecDepth 100000 in
set_option maxHeartbeats 16000000 in
theorem find_any (w : World) (oa : Option Addr) (n0 oc : Nat) (Os : List ObjX) (h0 : ObjsArg w oa n0 Os) (l0 : n0 ≤ 1000) (la : Option Addr) (n lc : Nat) (Lo : List OpX) (h : OpsArg w la n Lo) (hn : n ≤ 9) (hT : TabAt 0 Lib.deBruijn32tab w) (hg : 0 < w.heap.size) :
    Calls Tryd.prog 8 #[.slice oa n0 oc, .slice la n lc] w fun e w' => Below w.heap.size w w' ∧ ∃ v, e = .returned (.tuple #[v, .bool (findP Os Lo).isSome]) ∧ w'.ownsRow w.heap.size 3 1 v ((findP Os Lo).getD []).length (ints ((findP Os Lo).getD [])) := by
  have HH := Lib.hid (And.intro h0 (And.intro h (And.intro hT hg)))
  have hlo := h.len
  have hmm := @run_makeMap Tryd.prog
  have d1 : decide (24 < n) = false := decide_eq_false (by omega)
  have d2 : decide ((24 : Int) < (n : Int)) = false := decide_eq_false (by omega)
  have HB0 := Lib.hid (show Below w.heap.size w (w.alloc (.cells #[.slice la n lc] 23)) from (Below.refl _ w).alloc (Nat.le_refl _) _)
  have HL0 := Lib.hid (heap_new w (.cells #[.slice la n lc] 23))
  have HDN := Lib.hid (done_any (w.alloc (.cells #[.slice la n lc] 23)) la n lc Lo (h.below HB0.out) (by omega))
  clear h0 h hT hg
  go_enter Tryd.func8, Tryd.ntmps8
  go_wp2_with fail
  refine HDN.out.mono ?_
  rintro e1 w1 ⟨rfl, k1⟩
  have HK1 := Lib.hid k1
  have hs1 : w.heap.size + 1 ≤ w1.heap.size := by have := k1.size; rwa [World.size_alloc] at this
  clear k1 HDN
  obtain ⟨X4, hX4⟩ : ∃ X4, X4 = ((((w1.alloc (.cells #[.int .u32 (doneW Lo n : Int)] 39)).alloc (.map #[] 0)).alloc (.cells #[.map (some (w1.heap.size + 1))] 51)).alloc (.cells #[.slice none 0 0] 26)) := ⟨_, rfl⟩
  have hz4 : X4.heap.size = w1.heap.size + 1 + 1 + 1 + 1 := by rw [hX4]; simp only [World.size_alloc]
  have y4 : (((((w1.alloc (.cells #[.int .u32 (doneW Lo n : Int)] 39)).alloc (.map #[] 0)).alloc (.cells #[.map (some (w1.heap.size + 1))] 51)).alloc (.cells #[.slice none 0 0] 26)).alloc (.cells #[.nilFunc] 52)).cell? ⟨w1.heap.size + 1 + 1 + 1 + 1, 0, none⟩ = some .nilFunc := by rw [← hX4, ← hz4]; exact cell_of (heap_new X4 _) 0
  have z4 : (((((w1.alloc (.cells #[.int .u32 (doneW Lo n : Int)] 39)).alloc (.map #[] 0)).alloc (.cells #[.map (some (w1.heap.size + 1))] 51)).alloc (.cells #[.slice none 0 0] 26)).alloc (.cells #[.nilFunc] 52)).frozen? ⟨w1.heap.size + 1 + 1 + 1 + 1, 0, none⟩ = false := by rw [← hX4, ← hz4]; exact free_of (heap_new X4 _) 0
  have HX4 := Lib.hid (And.intro hX4 hz4)
  clear hX4 hz4
  go_wp2_with fail
  obtain ⟨c, hc⟩ : ∃ c : Cap, c = ⟨w1.heap.size, w1.heap.size + 1 + 1, w.heap.size, w1.heap.size + 1 + 1 + 1, w1.heap.size + 1 + 1 + 1 + 1, w1.heap.size + 1⟩ := ⟨_, rfl⟩
  have HX5 := Lib.hid (show Has w1 (((((w1.alloc (.cells #[.int .u32 (doneW Lo n : Int)] 39)).alloc (.map #[] 0)).alloc (.cells #[.map (some (w1.heap.size + 1))] 51)).alloc (.cells #[.slice none 0 0] 26)).alloc (.cells #[(.func (.func 15) #[] #[.pointer (some ⟨w1.heap.size, 0, none⟩), .pointer (some ⟨w1.heap.size + 1 + 1, 0, none⟩), .pointer (some ⟨w.heap.size, 0, none⟩), .pointer (some ⟨w1.heap.size + 1 + 1 + 1, 0, none⟩), .pointer (some ⟨w1.heap.size + 1 + 1 + 1 + 1, 0, none⟩)])] 52)) [(w1.heap.size + 1 + 1 + 1 + 1, .cells #[(.func (.func 15) #[] #[.pointer (some ⟨w1.heap.size, 0, none⟩), .pointer (some ⟨w1.heap.size + 1 + 1, 0, none⟩), .pointer (some ⟨w.heap.size, 0, none⟩), .pointer (some ⟨w1.heap.size + 1 + 1 + 1, 0, none⟩), .pointer (some ⟨w1.heap.size + 1 + 1 + 1 + 1, 0, none⟩)])] 52 (0, 0)), (w1.heap.size + 1 + 1 + 1, .cells #[.slice none 0 0] 26 (0, 0)), (w1.heap.size + 1 + 1, .cells #[.map (some (w1.heap.size + 1))] 51 (0, 0)), (w1.heap.size + 1, .map #[] 0), (w1.heap.size, .cells #[.int .u32 (doneW Lo n : Int)] 39 (0, 0))] from (((((Has.start w1).alloc _).alloc _).alloc _).alloc _ |>.alloc _).eq (by simp))
  have HM5 := Lib.hid (show (((((w1.alloc (.cells #[.int .u32 (doneW Lo n : Int)] 39)).alloc (.map #[] 0)).alloc (.cells #[.map (some (w1.heap.size + 1))] 51)).alloc (.cells #[.slice none 0 0] 26)).alloc (.cells #[(.func (.func 15) #[] #[.pointer (some ⟨w1.heap.size, 0, none⟩), .pointer (some ⟨w1.heap.size + 1 + 1, 0, none⟩), .pointer (some ⟨w.heap.size, 0, none⟩), .pointer (some ⟨w1.heap.size + 1 + 1 + 1, 0, none⟩), .pointer (some ⟨w1.heap.size + 1 + 1 + 1 + 1, 0, none⟩)])] 52)).ownsMap Tryd.prog 56 unitElem (w1.heap.size + 1) 0 (.map []) from by
    have h1 := World.ownsMap_made (H := Unit) (w1.alloc (.cells #[.int .u32 (doneW Lo n : Int)] 39)) Tryd.prog 56 unitElem
    rw [World.size_alloc] at h1
    exact ((h1.alloc _).alloc _).alloc _)
  have HB5 := Lib.hid (show Below w.heap.size w (((((w1.alloc (.cells #[.int .u32 (doneW Lo n : Int)] 39)).alloc (.map #[] 0)).alloc (.cells #[.map (some (w1.heap.size + 1))] 51)).alloc (.cells #[.slice none 0 0] 26)).alloc (.cells #[(.func (.func 15) #[] #[.pointer (some ⟨w1.heap.size, 0, none⟩), .pointer (some ⟨w1.heap.size + 1 + 1, 0, none⟩), .pointer (some ⟨w.heap.size, 0, none⟩), .pointer (some ⟨w1.heap.size + 1 + 1 + 1, 0, none⟩), .pointer (some ⟨w1.heap.size + 1 + 1 + 1 + 1, 0, none⟩)])] 52)) from (HB0.out.trans (HK1.out.none.mono HB0.out.size)).trans (HX5.out.keeps.none.mono (by have := HK1.out.size; rw [World.size_alloc] at this; omega)))
  have HL5 := Lib.hid (HX5.out.keeps.at (HK1.out.at HL0.out fun h => h) fun h => h)
  have HZ5 := Lib.hid (show (((((w1.alloc (.cells #[.int .u32 (doneW Lo n : Int)] 39)).alloc (.map #[] 0)).alloc (.cells #[.map (some (w1.heap.size + 1))] 51)).alloc (.cells #[.slice none 0 0] 26)).alloc (.cells #[(.func (.func 15) #[] #[.pointer (some ⟨w1.heap.size, 0, none⟩), .pointer (some ⟨w1.heap.size + 1 + 1, 0, none⟩), .pointer (some ⟨w.heap.size, 0, none⟩), .pointer (some ⟨w1.heap.size + 1 + 1 + 1, 0, none⟩), .pointer (some ⟨w1.heap.size + 1 + 1 + 1 + 1, 0, none⟩)])] 52)).heap.size = w1.heap.size + 5 by simp only [World.size_alloc])
  clear y4 z4 hmm HX4
  generalize (((((w1.alloc (.cells #[.int .u32 (doneW Lo n : Int)] 39)).alloc (.map #[] 0)).alloc (.cells #[.map (some (w1.heap.size + 1))] 51)).alloc (.cells #[.slice none 0 0] 26)).alloc (.cells #[(.func (.func 15) #[] #[.pointer (some ⟨w1.heap.size, 0, none⟩), .pointer (some ⟨w1.heap.size + 1 + 1, 0, none⟩), .pointer (some ⟨w.heap.size, 0, none⟩), .pointer (some ⟨w1.heap.size + 1 + 1 + 1, 0, none⟩), .pointer (some ⟨w1.heap.size + 1 + 1 + 1 + 1, 0, none⟩)])] 52)) = x5 at *
  have HS5 := Lib.hid (show SrW w x5.drew c (w1.heap.size + 5) la n lc (doneW Lo n) (.slice none 0 0) [] (.map []) 0 [] from SrW.keep (by
    rw [hc]
    exact ⟨HX5.out.at 4 rfl, HX5.out.at 2 rfl, HL5.out, HX5.out.at 1 rfl, HX5.out.at 0 rfl, OwnI.nil _ _, HM5.out, FailR.nil, HB5.out, ⟨by show _ ≤ w1.heap.size + 1 + 1 + 1; omega, by show _ ≤ w1.heap.size + 1; omega, by omega⟩, ⟨by show w1.heap.size < _; omega, by show w1.heap.size + 1 + 1 < _; omega, by show w.heap.size < _; omega, by show w1.heap.size + 1 + 1 + 1 < _; omega, by show w1.heap.size + 1 + 1 + 1 + 1 < _; omega, by show w1.heap.size + 1 < _; omega⟩, ⟨by show w1.heap.size + 1 + 1 + 1 ≠ w1.heap.size; omega, by show w1.heap.size + 1 + 1 + 1 ≠ w1.heap.size + 1 + 1; omega, by show w1.heap.size + 1 + 1 + 1 ≠ w.heap.size; omega, by show w1.heap.size + 1 + 1 + 1 ≠ w1.heap.size + 1 + 1 + 1 + 1; omega, by show w1.heap.size + 1 + 1 + 1 ≠ w1.heap.size + 1; omega⟩, ⟨by show w1.heap.size + 1 ≠ w1.heap.size; omega, by show w1.heap.size + 1 ≠ w1.heap.size + 1 + 1; omega, by show w1.heap.size + 1 ≠ w.heap.size; omega, by show w1.heap.size + 1 ≠ w1.heap.size + 1 + 1 + 1 + 1; omega⟩⟩) ((Keeps.refl _ x5).drew))
  have HSTA := Lib.hid (start_any x5.drew oa n0 oc Os (HH.out.1.below HS5.out.below) l0)
  have HZD := Lib.hid (show x5.drew.heap.size = w1.heap.size + 5 from HZ5.out)
  have hlen0 : (startP Os).length = n0 := by unfold startP; rw [List.length_map]; exact HH.out.1.len
  have hcT : callsT (n + 1) ≤ 100000000 := by rcases (by omega : n = 0 ∨ n = 1 ∨ n = 2 ∨ n = 3 ∨ n = 4 ∨ n = 5 ∨ n = 6 ∨ n = 7 ∨ n = 8 ∨ n = 9) with rfl | rfl | rfl | rfl | rfl | rfl | rfl | rfl | rfl | rfl <;> decide
  have hfr : (freeL n 0).length < n + 1 := by unfold freeL; exact Nat.lt_succ_of_le (Nat.le_trans (List.length_filter_le _ _) (by simp))
  have hdl : doneW Lo n < 4294967296 := done_lt Lo n (by omega)
  have HSE := Lib.hid (fun W g cap ov D nm h1 h2 h3 h4 => search_any w c (w1.heap.size + 5) la n lc (doneW Lo n) hdl Lo HH.out.2.1 (by omega) HH.out.2.2.1 HH.out.2.2.2 (n + 1) W 0 (by omega) (startP Os) g cap ov [] D nm [] h1 h2 h3 (startP_ok HH.out.1.ok) (by omega) hfr (by simp; omega) h4)
  rw [hlen0] at HSE
  have HFP := Lib.hid (show findP Os Lo = if (searchP Lo (doneW Lo n) (n + 1) 0 (startP Os) []).1 = true then some (searchP Lo (doneW Lo n) (n + 1) 0 (startP Os) []).2.1 else none by unfold findP; rw [hlo, if_neg (by omega)])
  generalize searchP Lo (doneW Lo n) (n + 1) 0 (startP Os) [] = R at *
  obtain ⟨b9, o9, F9⟩ := R
  have hptr : (.func (.func 15) #[] #[.pointer (some ⟨w1.heap.size, 0, none⟩), .pointer (some ⟨w1.heap.size + 1 + 1, 0, none⟩), .pointer (some ⟨w.heap.size, 0, none⟩), .pointer (some ⟨w1.heap.size + 1 + 1 + 1, 0, none⟩), .pointer (some ⟨w1.heap.size + 1 + 1 + 1 + 1, 0, none⟩)]) = (.func (.func 15) #[] c.ptrs : Value) := by rw [hc]
  have HPT := Lib.hid hptr
  clear hptr
  have HEC := Lib.hid (show c.bS = w1.heap.size + 1 + 1 + 1 + 1 ∧ c.bO = w1.heap.size + 1 + 1 + 1 from ⟨by rw [hc], by rw [hc]⟩)
  have HC := Lib.hid hc
  clear hc
  refine wp_region_noPanic ?_
  refine wp_region_held_drew (S := (fun W => W.cell? ⟨w1.heap.size + 1 + 1 + 1 + 1, 0, none⟩ = some (.func (.func 15) #[] #[.pointer (some ⟨w1.heap.size, 0, none⟩), .pointer (some ⟨w1.heap.size + 1 + 1, 0, none⟩), .pointer (some ⟨w.heap.size, 0, none⟩), .pointer (some ⟨w1.heap.size + 1 + 1 + 1, 0, none⟩), .pointer (some ⟨w1.heap.size + 1 + 1 + 1 + 1, 0, none⟩)]))) (by kernel_rfl) ?_ (fun hHeld => ?_)
  · rw [HPT.out, ← HEC.out.1]; exact cell_of HS5.out.cS 0
  refine wpAnyH_take (i := 0) (v := ?_) rfl (by kernel_rfl) (by kernel_rfl) (by kernel_rfl) (fun _ _ _ h => h) (Or.inl ⟨by rfl, ?_⟩) (by assumption) ?_
  rotate_left
  · (intro w hSw; (try dsimp only at hSw); go_simp; try with_reducible rfl)
  simp only [Act.put, List.getElem_toArray, List.getElem_cons_zero, List.getElem_cons_succ, List.setIfInBounds_toArray, List.set_cons_zero, List.set_cons_succ]
  refine wpAnyH_take (i := 1) (v := ?_) rfl (by kernel_rfl) (by kernel_rfl) (by kernel_rfl) (fun _ _ _ h => h) (Or.inl ⟨by rfl, ?_⟩) (by assumption) ?_
  rotate_left
  · (intro w hSw; (try dsimp only at hSw); go_simp; try with_reducible rfl)
  simp only [Act.put, List.getElem_toArray, List.getElem_cons_zero, List.getElem_cons_succ, List.setIfInBounds_toArray, List.set_cons_zero, List.set_cons_succ]
  refine wpAnyH_ready (rs := [2]) (by kernel_rfl) (by simp) ?_
  refine AllReadyH.cons rfl (fun K hK => ?_) AllReadyH.nil
  go_simp
  go_at_call 20
  refine HSTA.out.mono ?_
  rintro e2 w2 ⟨b2, g2, rfl, hs2⟩
  have HB2 := Lib.hid b2
  have HS2 := Lib.hid (HS5.out.keep (Keeps.ofBelow b2))
  have HT2 := Lib.hid hs2
  clear b2 hs2
  dsimp only
  refine hK.out _ _ ?_ (fun hHeld => ?_)
  · ((try dsimp only); rw [HPT.out, ← HEC.out.1]; exact cell_of HS2.out.cS 0)
  clear hK K
  try simp only [Act.put, List.getElem_toArray, List.getElem_cons_zero, List.getElem_cons_succ, List.setIfInBounds_toArray, List.set_cons_zero, List.set_cons_succ]
  have hB2 : w1.heap.size + 5 ≤ w2.heap.size := by have := HB2.out.size; rw [HZD.out] at this; exact this
  have HCL := Lib.hid (HSE.out w2 g2 n0 _ _ _ HS2.out hB2 HT2.out (by simpa using hcT))
  clear HSE
  rw [HC.out] at HCL
  refine wpAnyH_ready (rs := [3]) (by kernel_rfl) (by simp) ?_
  refine AllReadyH.cons rfl (fun K hK => ?_) AllReadyH.nil
  go_simp
  go_at_call 15
  refine HCL.out.mono ?_
  rintro e3 w3 ⟨rfl, ov3, D3, nm3, hs3, hk3, hb3, hn3⟩
  rw [← HC.out] at hs3
  have HS3 := Lib.hid hs3
  clear hs3 hk3 hb3 hn3
  dsimp only
  refine hK.out _ _ ?_ (fun hHeld => ?_)
  · ((try dsimp only); rw [HPT.out, ← HEC.out.1]; exact cell_of HS3.out.cS 0)
  clear hK K
  try simp only [Act.put, List.getElem_toArray, List.getElem_cons_zero, List.getElem_cons_succ, List.setIfInBounds_toArray, List.set_cons_zero, List.set_cons_succ]
  refine wpAnyH_take (i := 4) (v := ?_) rfl (by kernel_rfl) (by kernel_rfl) (by kernel_rfl) (fun _ _ _ h => h) (Or.inl ⟨by rfl, ?_⟩) (by assumption) ?_
  rotate_left
  · (intro w hSw; (try dsimp only at hSw); go_simp; try with_reducible rfl)
  simp only [Act.put, List.getElem_toArray, List.getElem_cons_zero, List.getElem_cons_succ, List.setIfInBounds_toArray, List.set_cons_zero, List.set_cons_succ]
  refine wpAnyH_done (by kernel_rfl) ?_ _
  refine NoPanic.normal ?_
  have hco : w3.cell? ⟨w1.heap.size + 1 + 1 + 1, 0, none⟩ = some ov3 := by rw [← HEC.out.2]; exact cell_of HS3.out.cO 0
  cases b9 with
  | false =>
    go_wp2_with fail
    have hf := HFP.out
    simp at hf
    refine bodyPost_ret (v := .tuple #[.slice none 0 0, .bool false]) (by simp [results, Tryd.results8, go_sem]) rfl ?_
    exact ⟨HS3.out.below, _, by rw [hf]; rfl, by rw [hf]; exact World.ownsRow_nil _ _ _ _⟩
  | true =>
    go_wp2_with fail
    have hf := HFP.out
    simp at hf
    refine bodyPost_ret (v := .tuple #[ov3, .bool true]) (by simp [results, Tryd.results8, go_sem]) rfl ?_
    exact ⟨HS3.out.below, ov3, by rw [hf]; rfl, by rw [hf]; exact owns_mono (by simpa using HS3.out.own.own) HS3.out.lo.2.2⟩
end Go.Proofs.YtohajfkekkelhaaDoor
namespace Go.Proofs.YtohajfkekkelhaaDoor
open Go.ChangeShapes Go.WideShapes Go.ChangeAt Go.RowKit
set_option linter.unusedVariables false
theorem rsame_zero (a b : Option Addr) (c0 c1 : Nat) (w : World) : Calls Tryd.prog 10 #[.slice a 0 c0, .slice b 0 c1] w fun e w' => e = .returned (.bool true) ∧ Keeps (fun _ => False) w w' := by
  go_enter Tryd.func10, Tryd.ntmps10
  go_wp2_with fail
  obtain ⟨wo, rfl⟩ : ∃ wo : World, wo = w := ⟨_, rfl⟩
  go_loopw [5] (fun i wr => i = .int .i64 0 ∧ wr = wo) (fun _ _ => 0)
  case atStart => exact ⟨rfl, rfl⟩
  case round =>
    obtain ⟨rfl, rfl⟩ := hrel
    go_wp2
    go_ret
    exact ⟨rfl, Keeps.refl _ _⟩
theorem rsame_some (g0 o0 g1 o1 n c0 c1 : Nat) (F : Nat → Int) (w : World) (hn : n ≤ maxLen) (h0 : ∀ i, i < n → w.cell? ⟨g0, o0 + i, none⟩ = some (.int .i64 (F i))) (h1 : ∀ i, i < n → w.cell? ⟨g1, o1 + i, none⟩ = some (.int .i64 (F i))) :
    Calls Tryd.prog 10 #[.slice (some ⟨g0, o0, none⟩) n c0, .slice (some ⟨g1, o1, none⟩) n c1] w fun e w' => e = .returned (.bool true) ∧ Keeps (fun _ => False) w w' := by
  unfold maxLen at hn
  have H0 := Lib.hid h0
  have H1 := Lib.hid h1
  clear h0 h1
  go_enter Tryd.func10, Tryd.ntmps10
  go_wp2_with fail
  obtain ⟨wo, rfl⟩ : ∃ wo : World, wo = w := ⟨_, rfl⟩
  go_loopw [5] (fun i wr => ∃ k m : Nat, k ≤ n ∧ i = .int .i64 k ∧ wr = wo.drewN m) (fun i _ => n - (intOf i).toNat)
  case atStart => exact ⟨0, 0, by omega, rfl, rfl⟩
  case round =>
    obtain ⟨k, m, hk, rfl, rfl⟩ := hrel
    by_cases hlt : k < n
    · have c0 : wo.cell? ⟨g0, o0 + k, none⟩ = some (.int .i64 (F k)) := H0.out k hlt
      have c1 : wo.cell? ⟨g1, o1 + k, none⟩ = some (.int .i64 (F k)) := H1.out k hlt
      go_wp2_with fail
      go_quiet (fail)
      go_wp2
      go_roundw
      case rel => exact ⟨k + 1, m + nq, by omega, by go_num, rfl⟩
      case measure => simp [intOf]; omega
    · obtain rfl : k = n := by omega
      go_wp2
      go_ret
      exact ⟨rfl, (Keeps.refl _ _).drewN m⟩
end Go.Proofs.YtohajfkekkelhaaDoor
namespace Go.Proofs.YtohajfkekkelhaaDoor
open Go.ChangeShapes Go.WideShapes Go.ChangeAt Go.RowKit
set_option linter.unusedVariables false
set_option linter.unusedSimpArgs false
def exO : ObjX := (fun j => [1, 1, 1, 0, 0, 0].getD j 0, fun _ => 0)
def exA : OpX := fun j => [0, 0, 1, 0, 5, 0, 0, 0, 0, 0, 0, 0, 0, 0, 1, 0, 3].getD j 0
def exB : OpX := fun j => [1, 0, 2, 0, 0, 0, 0, 0, 0, 0, 5, 0, 0, 0, 1, 1, 4].getD j 0
theorem ex_objs {W : World} {b : Nat} (h : W.heap[b]? = some (.cells #[.int .i64 1, .int .i64 1, .int .i64 1, .int .i64 0, .int .i64 0, .int .i64 0, .int .u32 0, .int .u32 0, .int .u32 0, .int .u32 0] 49 (0, 0))) : ObjsArg W (some ⟨b, 0, none⟩) 1 [exO] :=
  ⟨rfl, fun p hp => by
    rw [List.mem_singleton.1 hp]
    refine ⟨fun j hj => ?_, fun j hj => ⟨Int.le_refl 0, by show (0 : Int) ≤ 4294967295; decide⟩⟩
    rcases (by omega : j = 0 ∨ j = 1 ∨ j = 2 ∨ j = 3 ∨ j = 4 ∨ j = 5) with rfl | rfl | rfl | rfl | rfl | rfl <;> exact ⟨by decide, by decide⟩, fun _ => ⟨b, 0, rfl, lt_of h, fun k p hk => by
    have hk0 : k = 0 := by have := (List.getElem?_eq_some_iff.1 hk).1; simp at this; exact this
    subst hk0
    cases hk
    intro j v hv
    have hj : j < 10 := (List.getElem?_eq_some_iff.1 hv).1
    rw [cell_of h]
    rcases (by omega : j = 0 ∨ j = 1 ∨ j = 2 ∨ j = 3 ∨ j = 4 ∨ j = 5 ∨ j = 6 ∨ j = 7 ∨ j = 8 ∨ j = 9) with rfl | rfl | rfl | rfl | rfl | rfl | rfl | rfl | rfl | rfl <;> exact hv⟩⟩
theorem ex_ok (x : OpX) (h : x = exA ∨ x = exB) : OpOk x := by
  rcases h with rfl | rfl
  all_goals
    refine ⟨fun j h1 h2 => ?_, fun j h1 h2 h3 => ?_, .inr rfl⟩
    · rcases (show j = 0 ∨ j = 1 ∨ j = 2 ∨ j = 3 ∨ j = 9 ∨ j = 15 ∨ j = 16 by omega) with rfl | rfl | rfl | rfl | rfl | rfl | rfl <;> exact ⟨by decide, by decide⟩
    · rcases (show j = 4 ∨ j = 5 ∨ j = 6 ∨ j = 7 ∨ j = 8 ∨ j = 10 ∨ j = 11 ∨ j = 12 ∨ j = 13 by omega) with rfl | rfl | rfl | rfl | rfl | rfl | rfl | rfl | rfl <;> exact ⟨by decide, by decide⟩
theorem ex_ops {W : World} {b : Nat} (h : W.heap[b]? = some (.cells #[.int .i64 0, .int .i64 0, .int .i64 1, .int .i64 0, .int .u32 5, .int .u32 0, .int .u32 0, .int .u32 0, .int .u32 0, .int .i64 0, .int .u32 0, .int .u32 0, .int .u32 0, .int .u32 0, .bool true, .int .i64 0, .int .i64 3, .int .i64 1, .int .i64 0, .int .i64 2, .int .i64 0, .int .u32 0, .int .u32 0, .int .u32 0, .int .u32 0, .int .u32 0, .int .i64 0, .int .u32 5, .int .u32 0, .int .u32 0, .int .u32 0, .bool true, .int .i64 1, .int .i64 4] 47 (0, 0))) : OpsArg W (some ⟨b, 0, none⟩) 2 [exA, exB] :=
  ⟨rfl, fun x hx => ex_ok x (by simpa using hx), fun _ => ⟨b, 0, rfl, lt_of h, fun k x hk => by
    have hk0 : k = 0 ∨ k = 1 := by have := (List.getElem?_eq_some_iff.1 hk).1; simp at this; omega
    rcases hk0 with rfl | rfl
    all_goals
      cases hk
      intro j v hv
      have hj : j < 17 := (List.getElem?_eq_some_iff.1 hv).1
      rw [cell_of h]
      rcases (by omega : j = 0 ∨ j = 1 ∨ j = 2 ∨ j = 3 ∨ j = 4 ∨ j = 5 ∨ j = 6 ∨ j = 7 ∨ j = 8 ∨ j = 9 ∨ j = 10 ∨ j = 11 ∨ j = 12 ∨ j = 13 ∨ j = 14 ∨ j = 15 ∨ j = 16) with rfl | rfl | rfl | rfl | rfl | rfl | rfl | rfl | rfl | rfl | rfl | rfl | rfl | rfl | rfl | rfl | rfl <;> exact hv⟩⟩
theorem ex_ints {W : World} {b : Nat} {x y : Int} (h : W.heap[b]? = some (.cells #[.int .i64 x, .int .i64 y] 3 (0, 0))) : IntsArg W (some ⟨b, 0, none⟩) 2 [x, y] :=
  ⟨rfl, fun _ => ⟨b, 0, rfl, lt_of h, fun k z hk => by
    have hk0 : k = 0 ∨ k = 1 := by have := (List.getElem?_eq_some_iff.1 hk).1; simp at this; omega
    rw [cell_of h]
    rcases hk0 with rfl | rfl <;> (cases hk; rfl)⟩⟩
theorem try_len {Lo : List OpX} {go : Nat → List ItemD → Fail → Bool × List Nat × Fail} {m : Nat} (hgo : ∀ u L F, (go u L F).2.1.length ≤ m) (used : Nat) (L : List ItemD) : ∀ (cs : List Nat) (F : Fail), (tryP Lo go used L cs F).2.1.length ≤ m + 1
  | [], F => by unfold tryP; simp
  | i :: r, F => by
    unfold tryP
    split
    · split
      · have := hgo (used ||| 2 ^ i) (followP L (getX Lo i)).1 F
        simp
        omega
      · exact try_len hgo used L r _
    · exact try_len hgo used L r _
theorem search_len {Lo : List OpX} {ans : Nat} : ∀ (m used : Nat) (L : List ItemD) (F : Fail), (searchP Lo ans m used L F).2.1.length ≤ m
  | 0, _, _, _ => by unfold searchP; simp
  | m + 1, used, L, F => by
    unfold searchP
    split
    · simp
    · split
      · simp
      · exact try_len (fun u L F => search_len m u L F) used L _ _
theorem find_len {Os : List ObjX} {Lo : List OpX} : ((findP Os Lo).getD []).length ≤ Lo.length + 1 := by
  unfold findP
  split
  · simp
  · split
    · exact search_len _ _ _ _
    · simp
theorem ex_find : findP [exO] [exA, exB] = some [0, 1] := by kernel_rfl
theorem own_arg {w : World} {B : Nat} {v : Value} {t : List Nat} (h : w.ownsRow B 3 1 v t.length (ints t)) : ∃ a c, v = .slice a t.length c ∧ IntsArg w a t.length (t.map Int.ofNat) := by
  rcases h.2 with ⟨rfl, h0⟩ | ⟨g, cap, cur, rfl, _, hb, _, _, _, htk⟩
  · rw [h0]
    exact ⟨none, 0, rfl, ⟨by rw [List.length_map, h0], fun hm => absurd hm (Nat.lt_irrefl 0)⟩⟩
  · refine ⟨_, cap, rfl, ⟨by simp, fun hm => ⟨g, 0, rfl, lt_of hb, fun k x hk => ?_⟩⟩⟩
    rw [List.getElem?_map] at hk
    obtain ⟨y, hy, rfl⟩ := Option.map_eq_some_iff.1 hk
    have hkl : k < t.length := (List.getElem?_eq_some_iff.1 hy).1
    rw [cell_of hb, Nat.zero_add, ← Array.getElem?_toList]
    have h1 : (cur.toList.take (t.length * 1))[k]? = (ints t)[k]? := by rw [htk]
    rw [List.getElem?_take_of_lt (by omega)] at h1
    rw [h1]
    unfold ints
    rw [List.getElem?_map, hy]
    rfl
set_option maxRecDepth 100000 in
set_option maxHeartbeats 8000000 in
theorem alive21_any (w : World) (hT : TabAt 0 Lib.deBruijn32tab w) (hg : 0 < w.heap.size) : Calls Tryd.prog 7 #[] w fun e w' => e = .returned (.bool true) ∧ Below w.heap.size w w' := by
  obtain ⟨W, hW⟩ : ∃ W, W = (w.alloc (.cells #[.int .i64 0, .int .i64 0, .int .i64 1, .int .i64 0, .int .u32 5, .int .u32 0, .int .u32 0, .int .u32 0, .int .u32 0, .int .i64 0, .int .u32 0, .int .u32 0, .int .u32 0, .int .u32 0, .bool true, .int .i64 0, .int .i64 3, .int .i64 1, .int .i64 0, .int .i64 2, .int .i64 0, .int .u32 0, .int .u32 0, .int .u32 0, .int .u32 0, .int .u32 0, .int .i64 0, .int .u32 5, .int .u32 0, .int .u32 0, .int .u32 0, .bool true, .int .i64 1, .int .i64 4] 47)).alloc (.cells #[.int .i64 1, .int .i64 1, .int .i64 1, .int .i64 0, .int .i64 0, .int .i64 0, .int .u32 0, .int .u32 0, .int .u32 0, .int .u32 0] 49) := ⟨_, rfl⟩
  have hH : Has w W [(w.heap.size + 1, .cells #[.int .i64 1, .int .i64 1, .int .i64 1, .int .i64 0, .int .i64 0, .int .i64 0, .int .u32 0, .int .u32 0, .int .u32 0, .int .u32 0] 49 (0, 0)), (w.heap.size, .cells #[.int .i64 0, .int .i64 0, .int .i64 1, .int .i64 0, .int .u32 5, .int .u32 0, .int .u32 0, .int .u32 0, .int .u32 0, .int .i64 0, .int .u32 0, .int .u32 0, .int .u32 0, .int .u32 0, .bool true, .int .i64 0, .int .i64 3, .int .i64 1, .int .i64 0, .int .i64 2, .int .i64 0, .int .u32 0, .int .u32 0, .int .u32 0, .int .u32 0, .int .u32 0, .int .i64 0, .int .u32 5, .int .u32 0, .int .u32 0, .int .u32 0, .bool true, .int .i64 1, .int .i64 4] 47 (0, 0))] := by
    rw [hW]
    exact (((Has.start w).alloc _).alloc _).eq (by simp)
  have hB0 : Below w.heap.size w W := by rw [hW]; exact ((Below.refl _ w).alloc (Nat.le_refl _) _).alloc (by simp) _
  have hc := fun cap1 cap2 => find_any W (some ⟨w.heap.size + 1, 0, none⟩) 1 cap1 [exO] (ex_objs (hH.at 0 rfl)) (by omega) (some ⟨w.heap.size, 0, none⟩) 2 cap2 [exA, exB] (ex_ops (hH.at 1 rfl)) (by omega) (tabAt_below hT hB0 hg) (Nat.lt_of_lt_of_le hg hB0.size)
  simp only [ex_find] at hc
  rw [hW] at hc
  have HC := Lib.hid hc
  have HB0 := Lib.hid hB0
  have HWS := Lib.hid hW
  clear hc hH hW hB0 hT hg
  go_enter Tryd.func7, Tryd.ntmps7
  go_wp2_with fail
  refine (HC.out _ _).mono ?_
  rintro e1 w1 ⟨b1, v, rfl, hown⟩
  rw [← HWS.out] at b1
  obtain ⟨a, cc, rfl, hia⟩ := own_arg (t := [0, 1]) hown
  obtain ⟨b, off, rfl, hb, hcell⟩ := hia.lies (by decide)
  have HB1 := Lib.hid (HB0.out.trans (b1.mono HB0.out.size))
  have HSA := Lib.hid (rsame_some b off w1.heap.size 0 2 cc 2 (fun i => ([0, 1].getD i 0 : Int)) (w1.alloc (.cells #[.int .i64 0, .int .i64 1] 3)) (by decide) (fun i hi => by
      rw [((Below.refl w1.heap.size w1).alloc (Nat.le_refl _) _).cell (p := ⟨b, off + i, none⟩) hb]
      rcases (by omega : i = 0 ∨ i = 1) with rfl | rfl
      · exact hcell 0 0 rfl
      · exact hcell 1 1 rfl) (fun i hi => by
      rw [cell_of (heap_new w1 _)]
      rcases (by omega : i = 0 ∨ i = 1) with rfl | rfl <;> rfl))
  clear hown hia hcell b1
  go_wp2_with fail
  refine HSA.out.mono ?_
  rintro e2 w2 ⟨rfl, b2⟩
  have HB2 := Lib.hid (HB1.out.trans (((Below.refl w1.heap.size w1).alloc (Nat.le_refl _) (.cells #[.int .i64 0, .int .i64 1] 3)).trans (b2.none.mono (by simp)) |>.mono HB1.out.size))
  clear b2
  go_wp2_with fail
  go_ret
  exact ⟨rfl, HB2.out⟩
/-- Of too many none is found. -/
theorem find_big (w : World) (oa : Option Addr) (n0 oc : Nat) (la : Option Addr) (n lc : Nat) (hn : 24 < n) :
    Calls Tryd.prog 8 #[.slice oa n0 oc, .slice la n lc] w fun e w' => Below w.heap.size w w' ∧ e = .returned (.tuple #[.slice none 0 0, .bool false]) := by
  have d1 : decide (24 < n) = true := decide_eq_true hn
  have d2 : decide ((24 : Int) < (n : Int)) = true := decide_eq_true (by omega)
  clear hn
  go_enter Tryd.func8, Tryd.ntmps8
  go_wp2_with fail
  refine bodyPost_ret (v := .tuple #[.slice none 0 0, .bool false]) (by simp [results, Tryd.results8, go_sem]) rfl ?_
  exact ⟨(Below.refl _ w).alloc (Nat.le_refl _) _, rfl⟩
end Go.Proofs.YtohajfkekkelhaaDoor
namespace Go.Proofs.YtohajfkekkelhaaDoor
open Go.ChangeShapes Go.WideShapes Go.ChangeAt Go.RowKit
set_option linter.unusedVariables false
def tabLaid : List (String × DataW Unit) := [("math/bits.deBruijn32tab", Rows.laid_math_bits_deBruijn32tab)]
theorem tab_named : Tryd.prog.globalNamed "math/bits.deBruijn32tab" = some 0 := by kernel_rfl
theorem tab_type : (Tryd.prog.globals[0]?).map (·.type) = some 111 := by kernel_rfl
set_option maxRecDepth 100000 in
set_option maxHeartbeats 4000000 in
/-- What the tie gives: the table lies in its variable. -/
theorem tab_of {W : World} (h : laidMetH Tryd.prog tabLaid W) : TabAt 0 Lib.deBruijn32tab W ∧ 0 < W.heap.size := by
  rw [MakeChecks.laidMetH_plain _ _ _ (by kernel_rfl)] at h
  obtain ⟨ps, ⟨g0, t0, cs0, f0, p0, q0, hg0, ht0, hv0, hd0, _, _⟩, _, _⟩ := h
  obtain rfl := Option.some.inj (tab_named.symm.trans hg0)
  obtain rfl := Option.some.inj (tab_type.symm.trans ht0)
  obtain ⟨xs, m, _, hx, hl, hlen, hh⟩ := DataW.trod_array Tryd.underlying111 hd0
  have hagg : (Rows.laid_math_bits_deBruijn32tab : DataW Unit) = .agg (Lib.deBruijn32tab.map fun n : Nat => .lit (.int .u8 (n : Int))) := rfl
  rw [hagg] at hx
  have hL : (Lib.deBruijn32tab.map fun n : Nat => (DataW.lit (.int .u8 (n : Int)) : DataW Unit)) = xs.map (·.1) := by
    have := congrArg Prod.fst hx
    simpa using this
  have hce : Tryd.prog.cellsOf 5 = 1 := by kernel_rfl
  have hT : TabAt 0 Lib.deBruijn32tab W := by
    intro j hj
    have hj32 : j < 32 := hj
    have h1 := hh j hj32
    rw [hce, List.getElem?_eq_getElem (by omega)] at h1
    obtain ⟨n, h2, h3, _⟩ := DataW.trod_int Tryd.underlying5 h1
    have h4 : (xs.map (·.1))[j]? = some (DataW.lit (.int .u8 n)) := by
      rw [List.getElem?_map, List.getElem?_eq_getElem (by omega), h3]; rfl
    rw [← hL, List.getElem?_map, List.getElem?_eq_getElem hj] at h4
    have h5 : n = (Lib.deBruijn32tab[j] : Int) := by
      have := Option.some.inj h4
      injection this with this
      injection this with _ this
      exact this.symm
    rw [World.var?_cell tab_named hv0 j]
    have h6 : cs0.toList[j]? = some (.int .u8 n) := by
      have := congrArg (fun l => l[0]?) h2
      simpa using this
    rw [← Array.getElem?_toList, h6, h5]
    simp [List.getD_eq_getElem?_getD, hj]
    rfl
  refine ⟨hT, ?_⟩
  have h0 := hT 0 (by decide)
  unfold World.cell? at h0
  rcases Nat.lt_or_ge 0 W.heap.size with h1 | h1
  · exact h1
  · rw [Array.getElem?_eq_none h1] at h0
    simp at h0
end Go.Proofs.YtohajfkekkelhaaDoor
