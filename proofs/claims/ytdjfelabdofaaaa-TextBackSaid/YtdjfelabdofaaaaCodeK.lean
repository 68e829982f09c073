import Derived.Test.YtdjfelabdofaaaaCodeI
import Derived.Test.YtdjfelabdofaaaaCodeE
import Derived.Test.YtdjfelabdofaaaaBldAz
namespace Go.Proofs.Ytdjfelabdofaaaa
open Go.ChangeShapes Go.WideShapes Go.ChangeAt Go.RowKit
set_option linter.unusedVariables false
set_option linter.unusedSimpArgs false
theorem below_keeps {w w' : World} (h : Below w.heap.size w w') : Keeps (fun _ => False) w w' := ⟨h.os, h.tape, h.output, h.size, fun j hj _ => h.block j hj⟩
/-- The text of calls. -/
def allC : List CallD → List UInt8
  | [] => []
  | c :: t => printC c ++ [10] ++ allC t
theorem printC_len (c : CallD) (hc : c.Ok) : (printC c).length ≤ 154 := by
  rw [← rowN_print c]
  have h1 := rowN_len (wordK c.k) (numC c) (numC_ok hc) (keepN (numC c) 6)
  have h2 := wordK_len c.k hc.k
  have h3 := keepN_le (numC c) 6
  have h4 : keepN (numC c) 6 * 22 ≤ 6 * 22 := Nat.mul_le_mul_right _ h3
  omega
theorem allC_len : ∀ (L : List CallD), (∀ c, c ∈ L → c.Ok) → (allC L).length ≤ L.length * 155
  | [], _ => Nat.le_refl _
  | c :: t, h => by
    have h1 := printC_len c (h c (List.mem_cons_self ..))
    have h2 := allC_len t fun d hd => h d (List.mem_cons_of_mem _ hd)
    show (printC c ++ [10] ++ allC t).length ≤ _
    rw [List.length_append, List.length_append, List.length_singleton, List.length_cons, Nat.succ_mul]
    omega
set_option maxRecDepth 20000 in
set_option maxHeartbeats 1000000 in
theorem allc_none (w : World) (a : Option Addr) (c : Nat) :
    Calls Try.prog 19 #[.slice a 0 c] w fun e w' => e = .returned (.string ⟨#[]⟩) ∧ Below w.heap.size w w' := by
  go_enter Try.func19, Try.ntmps19
  go_wp2_with fail
  go_loopw [8] (fun i wr => i = .int .i64 0 ∧ wr = w.alloc (.cells #[.pointer none, .slice none 0 0] 48)) (fun _ _ => 0)
  case atStart => exact ⟨rfl, rfl⟩
  case round =>
    obtain ⟨rfl, rfl⟩ := hrel
    have HB := Lib.hid (builder_new w 48 5)
    go_wp2_with fail
    refine (Try.Builder_String_any w.heap.size w.heap.size [] _ HB.out (by simp)).mono ?_
    rintro e w2 ⟨rfl, hb⟩
    have HB2 := Lib.hid (((Below.refl w.heap.size w).alloc (Nat.le_refl _) _).trans hb)
    clear hb
    go_wp2
    go_ret
    exact ⟨rfl, HB2.out⟩
set_option maxRecDepth 100000 in
set_option maxHeartbeats 2000000 in
theorem allc_some (w : World) (g o n c : Nat) (L : List CallD) (hL : L.length = n) (hn : n ≤ 1000) (hok : ∀ x, x ∈ L → x.Ok) (hg : g < w.heap.size) (hcell : ∀ j v, (flatC L)[j]? = some v → w.cell? ⟨g, o + j, none⟩ = some v) :
    Calls Try.prog 19 #[.slice (some ⟨g, o, none⟩) n c] w fun e w' => e = .returned (.string ⟨(allC L).toArray⟩) ∧ Below w.heap.size w w' := by
  have HC := Lib.hid hcell
  have HL := Lib.hid hL
  have HOK := Lib.hid hok
  clear hcell hL hok
  go_enter Try.func19, Try.ntmps19
  go_wp2_with fail
  go_loopw [8] (fun i wr => ∃ (k : Nat) (T : List UInt8), k ≤ n ∧ i = .int .i64 (k : Int) ∧ T.length ≤ k * 155 ∧ allC L = T ++ allC (L.drop k) ∧ Lib.IsBuilder 48 5 w.heap.size w.heap.size (Lib.byteCells T) wr ∧ Below w.heap.size w wr) (fun i _ => n - (intOf i).toNat)
  case atStart => exact ⟨0, [], by omega, rfl, Nat.zero_le _, rfl, builder_new w _ _, (Below.refl w.heap.size w).alloc (Nat.le_refl _) _⟩
  case round =>
    obtain ⟨k, T, hk, rfl, hT, hall, hbld, hbel⟩ := hrel
    have hsz := hbel.size
    have hTl := byteCells_len T
    have HB := Lib.hid (And.intro hbld hbel)
    by_cases hlt : k < n
    · obtain ⟨r, hr⟩ : ∃ r, L[k]? = some r := ⟨_, List.getElem?_eq_getElem (by rw [HL.out]; exact hlt)⟩
      have hrm : r ∈ L := List.mem_of_getElem? hr
      have hdrop : L.drop k = r :: L.drop (k + 1) := by
        rw [List.drop_eq_getElem_cons (by rw [HL.out]; exact hlt)]
        congr 1
        rw [List.getElem?_eq_getElem (by rw [HL.out]; exact hlt)] at hr
        exact Option.some.inj hr
      have HA := Lib.hid (show allC L = T ++ printC r ++ [10] ++ allC (L.drop (k + 1)) by rw [hall, hdrop]; show T ++ (printC r ++ [10] ++ _) = _; simp)
      have hpl := printC_len r (HOK.out r hrm)
      have HP := Lib.hid (fun w => print_call w r (HOK.out r hrm))
      have HPZ := Lib.hid (str_size (printC r))
      have HPS := Lib.hid (strCells_mk (printC r))
      have c0 : wr.cell? ⟨g, o + k * 7, none⟩ = some (.int .i64 r.k) := (hbel.cell (p := ⟨g, o + k * 7, none⟩) hg).trans (HC.out _ _ (flatC_at L k r 0 _ hr rfl))
      have c1 : wr.cell? ⟨g, o + k * 7 + 1, none⟩ = some (.int .i64 r.o) := by rw [Nat.add_assoc]; exact (hbel.cell (p := ⟨g, o + (k * 7 + 1), none⟩) hg).trans (HC.out _ _ (flatC_at L k r 1 _ hr rfl))
      have c2 : wr.cell? ⟨g, o + k * 7 + 2, none⟩ = some (.int .u32 r.v0) := by rw [Nat.add_assoc]; exact (hbel.cell (p := ⟨g, o + (k * 7 + 2), none⟩) hg).trans (HC.out _ _ (flatC_at L k r 2 _ hr rfl))
      have c3 : wr.cell? ⟨g, o + k * 7 + 3, none⟩ = some (.int .u32 r.v1) := by rw [Nat.add_assoc]; exact (hbel.cell (p := ⟨g, o + (k * 7 + 3), none⟩) hg).trans (HC.out _ _ (flatC_at L k r 3 _ hr rfl))
      have c4 : wr.cell? ⟨g, o + k * 7 + 4, none⟩ = some (.int .u32 r.v2) := by rw [Nat.add_assoc]; exact (hbel.cell (p := ⟨g, o + (k * 7 + 4), none⟩) hg).trans (HC.out _ _ (flatC_at L k r 4 _ hr rfl))
      have c5 : wr.cell? ⟨g, o + k * 7 + 5, none⟩ = some (.int .u32 r.v3) := by rw [Nat.add_assoc]; exact (hbel.cell (p := ⟨g, o + (k * 7 + 5), none⟩) hg).trans (HC.out _ _ (flatC_at L k r 5 _ hr rfl))
      have c6 : wr.cell? ⟨g, o + k * 7 + 6, none⟩ = some (.int .u32 r.n) := by rw [Nat.add_assoc]; exact (hbel.cell (p := ⟨g, o + (k * 7 + 6), none⟩) hg).trans (HC.out _ _ (flatC_at L k r 6 _ hr rfl))
      unfold callC at HP
      clear hr hrm hdrop hall hbld hbel
      generalize printC r = P at HP HPZ HPS HA hpl
      go_wp2_with fail
      refine (HP.out _).mono ?_
      rintro e1 w1 ⟨rfl, hb1⟩
      have hbx : Below wr.heap.size wr w1 := ((Below.refl _ wr).alloc (Nat.le_refl _) (.cells #[.int .i64 r.k, .int .i64 r.o, .int .u32 r.v0, .int .u32 r.v1, .int .u32 r.v2, .int .u32 r.v3, .int .u32 r.n] 81)).trans (hb1.mono (by rw [World.size_alloc]; omega))
      have HS := Lib.hid (And.intro (builder_keeps HB.out.1 (below_keeps hbx)) (HB.out.2.trans (hbx.mono hsz)))
      have hz1 : w.heap.size ≤ w1.heap.size := Nat.le_trans hsz hbx.size
      clear c0 c1 c2 c3 c4 c5 c6 hb1 hbx
      go_wp2_with fail
      refine (writes_any _ _ _ _ _ HS.out.1 (by rw [hTl, HPZ.out]; omega) hz1).mono ?_
      rintro e2 w2 ⟨rfl, hb2, k2⟩
      have HB2 := Lib.hid (And.intro (Or.inr hb2 : Lib.IsBuilder 48 5 w.heap.size w.heap.size _ w2) (HS.out.2.trans k2))
      have hz2 := Nat.le_trans hz1 k2.size
      clear hb2 k2
      go_wp2_with fail
      refine (writeb_any _ _ _ _ _ HB2.out.1 (by rw [List.length_append, hTl, HPS.out, byteCells_len]; omega) hz2).mono ?_
      rintro e3 w3 ⟨rfl, hb3, k3⟩
      have HB3 := Lib.hid (And.intro (Or.inr hb3 : Lib.IsBuilder 48 5 w.heap.size w.heap.size _ w3) (HB2.out.2.trans k3))
      clear hb3 k3
      go_wp2_with fail
      go_roundw
      case rel => exact ⟨k + 1, T ++ P ++ [10], hlt, by go_num, by rw [List.length_append, List.length_append, List.length_singleton]; omega, HA.out, by have h := HB3.out.1; rw [HPS.out] at h; rw [byteCells_app, byteCells_app]; exact h, HB3.out.2⟩
      case measure => simp [intOf]; omega
    · obtain rfl : k = n := by omega
      have HF := Lib.hid (show allC L = T by rw [hall, List.drop_of_length_le (by rw [HL.out]; exact Nat.le_refl _)]; simp [allC])
      clear hbld hbel hall
      go_wp2_with fail
      refine (Try.Builder_String_any _ _ _ _ HB.out.1 hsz).mono ?_
      rintro e2 w2 ⟨rfl, hb⟩
      have HB2 := Lib.hid (HB.out.2.trans hb)
      clear hb
      go_wp2
      go_ret
      exact ⟨by rw [HF.out]; rfl, HB2.out⟩
end Go.Proofs.Ytdjfelabdofaaaa
