import Derived.Test.YtohajfkekkelhaaDoorRefAz
import Derived.Deep.MidRow
import Derived.Test.YtohajfkekkelhaaDoorSpecF
import Derived.Test.YtohajfkekkelhaaDoorSpecGz
import Derived.Laws.BitsAllLaws
namespace Go.Proofs.YtohajfkekkelhaaDoor
open Go.ChangeShapes Go.WideShapes Go.ChangeAt Go.RowKit
set_option linter.unusedVariables false
set_option linter.unusedSimpArgs false
/-- What the document answers, and what there is then, in memory. -/
def DoesR (w : World) (n : Nat) (p : List ItemD × ResD) (e : Ending) (w' : World) : Prop :=
  Below w.heap.size w w' ∧ (∃ a' c', e = .returned (.tuple #[.slice a' n c', .agg p.2.cells]) ∧ StateR w' a' p.1)
theorem StateR.below {w w' : World} {a : Option Addr} {L : List ItemD} (h : StateR w a L) (hb : Below w.heap.size w w') : StateR w' a L := fun hp => by
  obtain ⟨g, e, hs⟩ := h hp
  exact ⟨g, e, hs.below hb⟩
def res9 (f : Int) : ResD := ⟨f, W4.zero⟩
theorem res_info9 : (Tryd.prog.info? 45).map (·.size) = some 5 := by kernel_rfl
theorem range_heap {w : World} {b : Nat} {cs : Array Value} {E : TypeId} {fr : Nat × Nat} {L : List Value} (h : w.heap[b]? = some (.cells cs E fr)) (e : cs.toList = L) : w.rangeAt b 0 L := fun j u hu => by
  rw [cell_of h (0 + j), show 0 + j = j by omega]
  subst e
  simpa using hu
theorem res_do (w : World) (T : Array Value) (a : Option Addr) (n c b : Nat) (r : ResD) (h4 : T.getD 4 undef = .slice a n c) (h5 : T.getD 5 undef = .pointer (some ⟨b, 0, none⟩)) (h : w.rangeAt b 0 [.int .i64 r.f, .int .u32 r.v.a, .int .u32 r.v.b, .int .u32 r.v.c, .int .u32 r.v.d]) :
    (results Tryd.f41 T).run Tryd.prog w = .ok (.tuple #[.slice a n c, .agg r.cells]) w := by
  have hl := run_loadVar_mid w b 0 45 _ _ h Tryd.underlying45 rfl res_info9
  simp only [Array.getD_eq_getD_getElem?] at h4 h5
  simp [results, Tryd.results41, h4, h5, asAddr, hl, Sem.run_bind, Sem.run_pure]
theorem known_no {kk : Int} (h : knownP kk = false) : (decide (1 ≤ kk) = false ∨ (decide (1 ≤ kk) = true ∧ decide (kk ≤ 9) = false)) ∧ (kk == 16) = false ∧ (kk == 17) = false := by
  unfold knownP at h
  cases h1 : decide (1 ≤ kk) <;> cases h2 : decide (kk ≤ 9) <;> cases h3 : (kk == 16) <;> cases h4 : (kk == 17) <;> rw [h1, h2, h3, h4] at h <;> simp at h <;> simp
theorem known_yes {kk : Int} (h : knownP kk = true) : (decide (1 ≤ kk) = true ∧ decide (kk ≤ 9) = true) ∨ kk = 16 ∨ kk = 17 := by
  unfold knownP at h
  cases h1 : decide (1 ≤ kk) <;> cases h2 : decide (kk ≤ 9) <;> cases h3 : (kk == 16) <;> cases h4 : (kk == 17) <;> rw [h1, h2, h3, h4] at h <;> simp at h <;> simp <;> simp at h3 h4 <;> omega
set_option maxRecDepth 100000 in
set_option maxHeartbeats 16000000 in
theorem rdo_bad (w : World) (a : Option Addr) (c : Nat) (L : List ItemD) (h : StateR w a L) (ok : ∀ x, x ∈ L → x.Ok) (hn : L.length ≤ 1000) (k N : Int) (hki : i64B k) (v : W4) (hv : v.Ok) (obj : Int) (hf : knownP (plainP k) = false) :
    Calls Tryd.prog 41 #[.slice a L.length c, .agg #[.int .i64 k, .int .i64 obj, .int .u32 v.a, .int .u32 v.b, .int .u32 v.c, .int .u32 v.d, .int .u32 N]] w (DoesR w L.length (L, res9 1)) := by
  have HB0 := Lib.hid (show Below w.heap.size w ((w.alloc (.cells #[.int .i64 k, .int .i64 obj, .int .u32 v.a, .int .u32 v.b, .int .u32 v.c, .int .u32 v.d, .int .u32 N] 43)).alloc (.cells #[.int .i64 0, .int .u32 0, .int .u32 0, .int .u32 0, .int .u32 0] 45)) from ((Below.refl _ w).alloc (Nat.le_refl _) _).alloc (by simp) _)
  have HS0 := Lib.hid (show Has w ((w.alloc (.cells #[.int .i64 k, .int .i64 obj, .int .u32 v.a, .int .u32 v.b, .int .u32 v.c, .int .u32 v.d, .int .u32 N] 43)).alloc (.cells #[.int .i64 0, .int .u32 0, .int .u32 0, .int .u32 0, .int .u32 0] 45)) [(w.heap.size + 1, .cells #[.int .i64 0, .int .u32 0, .int .u32 0, .int .u32 0, .int .u32 0] 45 (0, 0)), (w.heap.size, .cells #[.int .i64 k, .int .i64 obj, .int .u32 v.a, .int .u32 v.b, .int .u32 v.c, .int .u32 v.d, .int .u32 N] 43 (0, 0))] from (((Has.start w).alloc (.cells #[.int .i64 k, .int .i64 obj, .int .u32 v.a, .int .u32 v.b, .int .u32 v.c, .int .u32 v.d, .int .u32 N] 43)).alloc (.cells #[.int .i64 0, .int .u32 0, .int .u32 0, .int .u32 0, .int .u32 0] 45)).eq (by simp))
  have HST := Lib.hid h
  have HP := Lib.hid (fun w => rplain_any w k hki)
  obtain ⟨n, hne⟩ : ∃ n, L.length = n := ⟨_, rfl⟩
  have HN := Lib.hid hne
  rw [hne]
  clear h ok hv hne
  generalize plainP k = kk at *
  obtain ⟨hr, e16, e17⟩ := known_no hf
  clear hki hf
  rcases hr with d1 | ⟨d1, d2⟩
  all_goals
    go_enter Tryd.func41, Tryd.ntmps41
    go_wp2_with fail
    refine (HP.out _).mono ?_
    rintro e1 w1 ⟨rfl, hw1⟩
    obtain rfl := hw1.symm
    have hr1 : ((w.alloc (.cells #[.int .i64 k, .int .i64 obj, .int .u32 v.a, .int .u32 v.b, .int .u32 v.c, .int .u32 v.d, .int .u32 N] 43)).alloc (.cells #[.int .i64 0, .int .u32 0, .int .u32 0, .int .u32 0, .int .u32 0] 45)).heap[w.heap.size + 1]? = some (.cells #[.int .i64 0, .int .u32 0, .int .u32 0, .int .u32 0, .int .u32 0] 45 (0, 0)) := HS0.out.at 0 rfl
    have q0 := cell_of hr1 0
    have q1 := cell_of hr1 1
    have q2 := cell_of hr1 2
    have q3 := cell_of hr1 3
    have q4 := cell_of hr1 4
    have fq0 := free_of hr1 0
    have fq1 := free_of hr1 1
    have fq2 := free_of hr1 2
    have fq3 := free_of hr1 3
    have fq4 := free_of hr1 4
    simp only [List.getElem?_toArray, List.getElem?_cons_zero, List.getElem?_cons_succ] at q0 q1 q2 q3 q4
    have HR1 := Lib.hid hr1
    clear hr1
    go_wp2_with fail
    have HBF := Lib.hid (show Below w.heap.size w ((w.alloc (.cells #[.int .i64 k, .int .i64 obj, .int .u32 v.a, .int .u32 v.b, .int .u32 v.c, .int .u32 v.d, .int .u32 N] 43)).alloc (.cells #[.int .i64 1, .int .u32 0, .int .u32 0, .int .u32 0, .int .u32 0] 45)) from ((Below.refl _ w).alloc (Nat.le_refl _) _).alloc (by simp) _)
    have HRF := Lib.hid (show ((w.alloc (.cells #[.int .i64 k, .int .i64 obj, .int .u32 v.a, .int .u32 v.b, .int .u32 v.c, .int .u32 v.d, .int .u32 N] 43)).alloc (.cells #[.int .i64 1, .int .u32 0, .int .u32 0, .int .u32 0, .int .u32 0] 45)).heap[w.heap.size + 1]? = some (.cells #[.int .i64 1, .int .u32 0, .int .u32 0, .int .u32 0, .int .u32 0] 45 (0, 0)) from by have := heap_new (w.alloc (.cells #[.int .i64 k, .int .i64 obj, .int .u32 v.a, .int .u32 v.b, .int .u32 v.c, .int .u32 v.d, .int .u32 N] 43)) (.cells #[.int .i64 1, .int .u32 0, .int .u32 0, .int .u32 0, .int .u32 0] 45); rwa [World.size_alloc] at this)
    refine bodyPost_ret (res_do _ _ a n c (w.heap.size + 1) ⟨1, ⟨0, 0, 0, 0⟩⟩ rfl rfl (range_heap HRF.out rfl)) rfl ?_
    exact ⟨HBF.out, ⟨a, c, rfl, HST.out.below HBF.out⟩⟩
set_option maxRecDepth 100000 in
set_option maxHeartbeats 16000000 in
theorem rdo_miss (w : World) (a : Option Addr) (c : Nat) (L : List ItemD) (h : StateR w a L) (ok : ∀ x, x ∈ L → x.Ok) (hn : L.length ≤ 1000) (k N : Int) (hki : i64B k) (v : W4) (hv : v.Ok) (obj : Int) (hf : knownP (plainP k) = true) (ho : obj < 0 ∨ (L.length : Int) ≤ obj) :
    Calls Tryd.prog 41 #[.slice a L.length c, .agg #[.int .i64 k, .int .i64 obj, .int .u32 v.a, .int .u32 v.b, .int .u32 v.c, .int .u32 v.d, .int .u32 N]] w (DoesR w L.length (L, res9 4)) := by
  have HB0 := Lib.hid (show Below w.heap.size w ((w.alloc (.cells #[.int .i64 k, .int .i64 obj, .int .u32 v.a, .int .u32 v.b, .int .u32 v.c, .int .u32 v.d, .int .u32 N] 43)).alloc (.cells #[.int .i64 0, .int .u32 0, .int .u32 0, .int .u32 0, .int .u32 0] 45)) from ((Below.refl _ w).alloc (Nat.le_refl _) _).alloc (by simp) _)
  have HS0 := Lib.hid (show Has w ((w.alloc (.cells #[.int .i64 k, .int .i64 obj, .int .u32 v.a, .int .u32 v.b, .int .u32 v.c, .int .u32 v.d, .int .u32 N] 43)).alloc (.cells #[.int .i64 0, .int .u32 0, .int .u32 0, .int .u32 0, .int .u32 0] 45)) [(w.heap.size + 1, .cells #[.int .i64 0, .int .u32 0, .int .u32 0, .int .u32 0, .int .u32 0] 45 (0, 0)), (w.heap.size, .cells #[.int .i64 k, .int .i64 obj, .int .u32 v.a, .int .u32 v.b, .int .u32 v.c, .int .u32 v.d, .int .u32 N] 43 (0, 0))] from (((Has.start w).alloc (.cells #[.int .i64 k, .int .i64 obj, .int .u32 v.a, .int .u32 v.b, .int .u32 v.c, .int .u32 v.d, .int .u32 N] 43)).alloc (.cells #[.int .i64 0, .int .u32 0, .int .u32 0, .int .u32 0, .int .u32 0] 45)).eq (by simp))
  have HST := Lib.hid h
  have HP := Lib.hid (fun w => rplain_any w k hki)
  obtain ⟨n, hne⟩ : ∃ n, L.length = n := ⟨_, rfl⟩
  have HN := Lib.hid hne
  rw [hne] at ho ⊢
  clear h ok hv hne
  generalize plainP k = kk at *
  have hr := known_yes hf
  clear hki hf
  by_cases h0 : obj < 0
  · have d0 : decide (obj < 0) = true := decide_eq_true h0
    rcases hr with ⟨d1, d2⟩ | rfl | rfl
    all_goals
      go_enter Tryd.func41, Tryd.ntmps41
      go_wp2_with fail
      refine (HP.out _).mono ?_
      rintro e1 w1 ⟨rfl, hw1⟩
      obtain rfl := hw1.symm
      have hr1 : ((w.alloc (.cells #[.int .i64 k, .int .i64 obj, .int .u32 v.a, .int .u32 v.b, .int .u32 v.c, .int .u32 v.d, .int .u32 N] 43)).alloc (.cells #[.int .i64 0, .int .u32 0, .int .u32 0, .int .u32 0, .int .u32 0] 45)).heap[w.heap.size + 1]? = some (.cells #[.int .i64 0, .int .u32 0, .int .u32 0, .int .u32 0, .int .u32 0] 45 (0, 0)) := HS0.out.at 0 rfl
      have q0 := cell_of hr1 0
      have q1 := cell_of hr1 1
      have q2 := cell_of hr1 2
      have q3 := cell_of hr1 3
      have q4 := cell_of hr1 4
      have fq0 := free_of hr1 0
      have fq1 := free_of hr1 1
      have fq2 := free_of hr1 2
      have fq3 := free_of hr1 3
      have fq4 := free_of hr1 4
      simp only [List.getElem?_toArray, List.getElem?_cons_zero, List.getElem?_cons_succ] at q0 q1 q2 q3 q4
      have HR1 := Lib.hid hr1
      clear hr1
      go_wp2_with fail
      have HBF := Lib.hid (show Below w.heap.size w ((w.alloc (.cells #[.int .i64 k, .int .i64 obj, .int .u32 v.a, .int .u32 v.b, .int .u32 v.c, .int .u32 v.d, .int .u32 N] 43)).alloc (.cells #[.int .i64 4, .int .u32 0, .int .u32 0, .int .u32 0, .int .u32 0] 45)) from ((Below.refl _ w).alloc (Nat.le_refl _) _).alloc (by simp) _)
      have HRF := Lib.hid (show ((w.alloc (.cells #[.int .i64 k, .int .i64 obj, .int .u32 v.a, .int .u32 v.b, .int .u32 v.c, .int .u32 v.d, .int .u32 N] 43)).alloc (.cells #[.int .i64 4, .int .u32 0, .int .u32 0, .int .u32 0, .int .u32 0] 45)).heap[w.heap.size + 1]? = some (.cells #[.int .i64 4, .int .u32 0, .int .u32 0, .int .u32 0, .int .u32 0] 45 (0, 0)) from by have := heap_new (w.alloc (.cells #[.int .i64 k, .int .i64 obj, .int .u32 v.a, .int .u32 v.b, .int .u32 v.c, .int .u32 v.d, .int .u32 N] 43)) (.cells #[.int .i64 4, .int .u32 0, .int .u32 0, .int .u32 0, .int .u32 0] 45); rwa [World.size_alloc] at this)
      refine bodyPost_ret (res_do _ _ a n c (w.heap.size + 1) ⟨4, ⟨0, 0, 0, 0⟩⟩ rfl rfl (range_heap HRF.out rfl)) rfl ?_
      exact ⟨HBF.out, ⟨a, c, rfl, HST.out.below HBF.out⟩⟩
  · have d0 : decide (obj < 0) = false := decide_eq_false h0
    have d3 : decide ((n : Int) ≤ obj) = true := decide_eq_true (by omega)
    rcases hr with ⟨d1, d2⟩ | rfl | rfl
    all_goals
      go_enter Tryd.func41, Tryd.ntmps41
      go_wp2_with fail
      refine (HP.out _).mono ?_
      rintro e1 w1 ⟨rfl, hw1⟩
      obtain rfl := hw1.symm
      have hr1 : ((w.alloc (.cells #[.int .i64 k, .int .i64 obj, .int .u32 v.a, .int .u32 v.b, .int .u32 v.c, .int .u32 v.d, .int .u32 N] 43)).alloc (.cells #[.int .i64 0, .int .u32 0, .int .u32 0, .int .u32 0, .int .u32 0] 45)).heap[w.heap.size + 1]? = some (.cells #[.int .i64 0, .int .u32 0, .int .u32 0, .int .u32 0, .int .u32 0] 45 (0, 0)) := HS0.out.at 0 rfl
      have q0 := cell_of hr1 0
      have q1 := cell_of hr1 1
      have q2 := cell_of hr1 2
      have q3 := cell_of hr1 3
      have q4 := cell_of hr1 4
      have fq0 := free_of hr1 0
      have fq1 := free_of hr1 1
      have fq2 := free_of hr1 2
      have fq3 := free_of hr1 3
      have fq4 := free_of hr1 4
      simp only [List.getElem?_toArray, List.getElem?_cons_zero, List.getElem?_cons_succ] at q0 q1 q2 q3 q4
      have HR1 := Lib.hid hr1
      clear hr1
      go_wp2_with fail
      have HBF := Lib.hid (show Below w.heap.size w ((w.alloc (.cells #[.int .i64 k, .int .i64 obj, .int .u32 v.a, .int .u32 v.b, .int .u32 v.c, .int .u32 v.d, .int .u32 N] 43)).alloc (.cells #[.int .i64 4, .int .u32 0, .int .u32 0, .int .u32 0, .int .u32 0] 45)) from ((Below.refl _ w).alloc (Nat.le_refl _) _).alloc (by simp) _)
      have HRF := Lib.hid (show ((w.alloc (.cells #[.int .i64 k, .int .i64 obj, .int .u32 v.a, .int .u32 v.b, .int .u32 v.c, .int .u32 v.d, .int .u32 N] 43)).alloc (.cells #[.int .i64 4, .int .u32 0, .int .u32 0, .int .u32 0, .int .u32 0] 45)).heap[w.heap.size + 1]? = some (.cells #[.int .i64 4, .int .u32 0, .int .u32 0, .int .u32 0, .int .u32 0] 45 (0, 0)) from by have := heap_new (w.alloc (.cells #[.int .i64 k, .int .i64 obj, .int .u32 v.a, .int .u32 v.b, .int .u32 v.c, .int .u32 v.d, .int .u32 N] 43)) (.cells #[.int .i64 4, .int .u32 0, .int .u32 0, .int .u32 0, .int .u32 0] 45); rwa [World.size_alloc] at this)
      refine bodyPost_ret (res_do _ _ a n c (w.heap.size + 1) ⟨4, ⟨0, 0, 0, 0⟩⟩ rfl rfl (range_heap HRF.out rfl)) rfl ?_
      exact ⟨HBF.out, ⟨a, c, rfl, HST.out.below HBF.out⟩⟩
end Go.Proofs.YtohajfkekkelhaaDoor
namespace Go.Proofs.YtohajfkekkelhaaDoor
open Go.ChangeShapes Go.WideShapes Go.ChangeAt Go.RowKit
set_option linter.unusedVariables false
set_option linter.unusedSimpArgs false
/-- All items are copied into a block of the run's own, and each row into one of its own. -/
structure Copied (B : Nat) (W : World) (g : Nat) (cur : Array Value) (L : List ItemD) (A : Nat → Option Addr) (C : Nat → Nat) : Prop where
  blk : W.heap[g]? = some (.cells cur 103 (0, 0))
  ge : B ≤ g
  cur : ∀ k y, L[k]? = some y → CurAt cur (k * 15) (y.l (A k) y.row.length (C k))
  rows : ∀ k y, L[k]? = some y → W.ownsRow B 41 4 (.slice (A k) y.row.length (C k)) y.row.length (flatV y.row)
  apart : ∀ i j y z, L[i]? = some y → L[j]? = some z → i ≠ j → ∀ b, A i = some ⟨b, 0, none⟩ → A j ≠ some ⟨b, 0, none⟩
theorem CopyB.copied {w W : World} {L : List ItemD} {v : Value} {xs : List Value} {A : Nat → Option Addr} {C : Nat → Nat} (h : CopyB w W L L.length v xs A C) (hp : 0 < L.length) :
    ∃ g cap cur, v = .slice (some ⟨g, 0, none⟩) L.length cap ∧ L.length ≤ cap ∧ cap ≤ maxLen ∧ Copied w.heap.size W g cur L A C := by
  rcases h.own.2 with ⟨_, h0⟩ | ⟨g, cap, cur, hv, hg, hcur, hc, hm, hs, ht⟩
  · omega
  refine ⟨g, cap, cur, hv, hc, hm, hcur, hg, fun k y hy j u hu => ?_, fun k y hy => h.rows k y (List.getElem?_eq_some_iff.1 hy).1 hy, fun i j y z hy hz hij b hb => h.apart i j y z (List.getElem?_eq_some_iff.1 hy).1 (List.getElem?_eq_some_iff.1 hz).1 hy hz hij b hb⟩
  have h1 := h.cells k y (List.getElem?_eq_some_iff.1 hy).1 hy j u hu
  rw [← ht, List.getElem?_take] at h1
  split at h1
  · simpa using h1
  · cases h1
theorem own_keepsB {W W' : World} {B g : Nat} {n size : Nat} {e T : TypeId} {cs : Array Value} {v : Value} {xs : List Value} {S : Nat → Prop} (h : W.ownsRow B e size v n xs) (hk : Keeps S W W') (hs : ∀ b, v.ownBlock = some b → B ≤ b → ¬ S b) : W'.ownsRow B e size v n xs := by
  rcases h.2 with h0 | ⟨g', cap, cur, rfl, hg, hcur, r⟩
  · exact ⟨h.1, .inl h0⟩
  · exact ⟨h.1, .inr ⟨g', cap, cur, rfl, hg, hk.at hcur (hs g' rfl hg), r⟩⟩
section
variable {B g i : Nat} {W W' W'' : World} {cur cur' : Array Value} {L : List ItemD} {A : Nat → Option Addr} {C : Nat → Nat} {x x' : ItemD}
theorem Copied.keeps (h : Copied B W g cur L A C) (hk : Keeps (fun j => j < B) W W') : Copied B W' g cur L A C :=
  ⟨hk.at h.blk (by have := h.ge; omega), h.ge, h.cur, fun k y hy => own_keepsB (e := 41) (T := 41) (g := 0) (cs := #[]) (h.rows k y hy) hk fun b _ hb => by omega, h.apart⟩
theorem Copied.none (h : Copied B W g cur L A C) (hk : Keeps (fun _ => False) W W') : Copied B W' g cur L A C := h.keeps (hk.mono fun _ _ e => e.elim)
theorem Copied.fifteen (h : Copied B W g cur L A C) (hi : L[i]? = some x) : W.rangeAt g (i * 15) (x.l (A i) x.row.length (C i)) := fun j v hv => (cell_of h.blk (i * 15 + j)).trans (h.cur i x hi j v hv)
/-- Whatever becomes of one item, the others are as they were. -/
theorem Copied.state (h : Copied B W g cur L A C) (hi : L[i]? = some x) (hk : Keeps (fun j => j = g ∨ j < B ∨ A i = some ⟨j, 0, Option.none⟩) W W'') (hb : W''.heap[g]? = some (.cells cur' 103 (0, 0)))
    (hout : ∀ j, j < i * 15 ∨ i * 15 + 15 ≤ j → cur'[j]? = cur[j]?) {a' : Option Addr} {c' : Nat} (hx : CurAt cur' (i * 15) (x'.l a' x'.row.length c')) (hle : x'.row.length ≤ c') (hm : c' ≤ maxLen) (hn : a' = Option.none → c' = 0) (hr : RowIn W'' a' x'.row) : StateAt W'' g (L.set i x') := by
  refine ⟨lt_of hb, fun k y hy => ?_⟩
  by_cases e : k = i
  · subst e
    rw [List.getElem?_set_self (List.getElem?_eq_some_iff.1 hi).1] at hy
    obtain rfl := Option.some.inj hy
    exact ⟨a', c', fun j v hv => (cell_of hb (k * 15 + j)).trans (hx j v hv), hle, hm, hn, hr⟩
  · rw [List.getElem?_set_ne (by omega)] at hy
    have hro := h.rows k y hy
    have hro' : W''.ownsRow B 41 4 (.slice (A k) y.row.length (C k)) y.row.length (flatV y.row) := own_keepsB (e := 41) (T := 41) (g := 0) (cs := #[]) hro hk fun b hb1 hb2 hb3 => by
      rcases hb3 with rfl | hb3 | hb3
      · exact own_apart hro h.blk (by decide) hb1
      · omega
      · refine h.apart i k x y hi hy (by omega) b hb3 ?_
        rcases hro.2 with ⟨e1, _⟩ | ⟨g', cap, cur, e1, _⟩
        · rw [e1] at hb1; cases hb1
        · rw [e1] at hb1
          have e2 : g' = b := by simpa [Value.ownBlock] using hb1
          rw [e2] at e1
          exact (Value.slice.inj e1).1
    obtain ⟨a, c, e1, h1, h2, h3, h4, _⟩ := row_own hro' rfl
    cases e1
    refine ⟨_, _, fun j v hv => (cell_of hb (k * 15 + j)).trans ?_, h1, h2, h3, h4⟩
    have hj : j < 15 := (List.getElem?_eq_some_iff.1 hv).1
    rw [hout (k * 15 + j) (by omega)]
    exact h.cur k y hy j v hv
/-- A value is another one. -/
theorem Copied.words (h : Copied B W g cur L A C) (hi : L[i]? = some x) (u : W4) (hk : Keeps (fun j => j = g ∨ j < B) W W'') (hb : W''.heap[g]? = some (.cells ((((cur.setIfInBounds (i * 15 + 11) (.int .u32 u.a)).setIfInBounds (i * 15 + 12) (.int .u32 u.b)).setIfInBounds (i * 15 + 13) (.int .u32 u.c)).setIfInBounds (i * 15 + 14) (.int .u32 u.d)) 103 (0, 0))) :
    StateAt W'' g (L.set i {x with v := u}) := by
  have hro := own_keepsB (e := 41) (T := 41) (g := 0) (cs := #[]) (h.rows i x hi) hk fun b hb1 hb2 hb3 => by
    rcases hb3 with rfl | hb3
    · exact own_apart (h.rows i x hi) h.blk (by decide) hb1
    · omega
  obtain ⟨a, c, e1, h1, h2, h3, h4, _⟩ := row_own hro rfl
  cases e1
  refine h.state (x' := {x with v := u}) hi (hk.mono fun j _ e => by rcases e with e | e <;> simp [e]) hb (fun j hj => ?_) (setW (L := [.int .i64 (x.o 0), .int .i64 (x.o 1), .int .i64 (x.o 2), .int .i64 (x.o 3), .int .i64 (x.o 4), .int .i64 (x.o 5), .int .u32 (x.oi 0), .int .u32 (x.oi 1), .int .u32 (x.oi 2), .int .u32 (x.oi 3), .slice (A i) x.row.length (C i), .int .u32 u.a, .int .u32 u.b, .int .u32 u.c, .int .u32 x.v.d]) (setW (L := [.int .i64 (x.o 0), .int .i64 (x.o 1), .int .i64 (x.o 2), .int .i64 (x.o 3), .int .i64 (x.o 4), .int .i64 (x.o 5), .int .u32 (x.oi 0), .int .u32 (x.oi 1), .int .u32 (x.oi 2), .int .u32 (x.oi 3), .slice (A i) x.row.length (C i), .int .u32 u.a, .int .u32 u.b, .int .u32 x.v.c, .int .u32 x.v.d]) (setW (L := [.int .i64 (x.o 0), .int .i64 (x.o 1), .int .i64 (x.o 2), .int .i64 (x.o 3), .int .i64 (x.o 4), .int .i64 (x.o 5), .int .u32 (x.oi 0), .int .u32 (x.oi 1), .int .u32 (x.oi 2), .int .u32 (x.oi 3), .slice (A i) x.row.length (C i), .int .u32 u.a, .int .u32 x.v.b, .int .u32 x.v.c, .int .u32 x.v.d]) (setW (j := 11) (h.cur i x hi) (by show 11 < 15; omega) (.int .u32 u.a)) (by show 12 < 15; omega) (.int .u32 u.b)) (by show 13 < 15; omega) (.int .u32 u.c)) (by show 14 < 15; omega) (.int .u32 u.d)) h1 h2 h3 h4
  rw [Array.getElem?_setIfInBounds_ne (by omega), Array.getElem?_setIfInBounds_ne (by omega), Array.getElem?_setIfInBounds_ne (by omega), Array.getElem?_setIfInBounds_ne (by omega)]
theorem Copied.word (h : Copied B W g cur L A C) (hi : L[i]? = some x) (y : Int) (hk : Keeps (fun j => j = g ∨ j < B) W W'') (hb : W''.heap[g]? = some (.cells (cur.setIfInBounds (i * 15 + 11) (.int .u32 y)) 103 (0, 0))) :
    StateAt W'' g (L.set i {x with v := {x.v with a := y}}) := by
  have hro := own_keepsB (e := 41) (T := 41) (g := 0) (cs := #[]) (h.rows i x hi) hk fun b hb1 hb2 hb3 => by
    rcases hb3 with rfl | hb3
    · exact own_apart (h.rows i x hi) h.blk (by decide) hb1
    · omega
  obtain ⟨a, c, e1, h1, h2, h3, h4, _⟩ := row_own hro rfl
  cases e1
  refine h.state (x' := {x with v := {x.v with a := y}}) hi (hk.mono fun j _ e => by rcases e with e | e <;> simp [e]) hb (fun j hj => ?_) (setW (j := 11) (h.cur i x hi) (by show 11 < 15; omega) (.int .u32 y)) h1 h2 h3 h4
  rw [Array.getElem?_setIfInBounds_ne (by omega)]
/-- A row is another one. -/
theorem Copied.rowOf (h : Copied B W g cur L A C) (hi : L[i]? = some x) (R : List W4) (a' : Option Addr) (n' c' : Nat) (hn' : R.length = n') (hk : Keeps (fun j => j = g ∨ j < B ∨ A i = some ⟨j, 0, Option.none⟩) W W'') (hb : W''.heap[g]? = some (.cells (cur.setIfInBounds (i * 15 + 10) (.slice a' n' c')) 103 (0, 0)))
    (hle : R.length ≤ c') (hm : c' ≤ maxLen) (hn : a' = Option.none → c' = 0) (hr : RowIn W'' a' R) : StateAt W'' g (L.set i {x with row := R}) := by
  subst hn'
  refine h.state (x' := {x with row := R}) hi hk hb (fun j hj => ?_) (setW (j := 10) (h.cur i x hi) (by show 10 < 15; omega) (.slice a' R.length c')) hle hm hn hr
  rw [Array.getElem?_setIfInBounds_ne (by omega)]
end
end Go.Proofs.YtohajfkekkelhaaDoor
namespace Go.Proofs.YtohajfkekkelhaaDoor
open Go.ChangeShapes Go.WideShapes Go.ChangeAt Go.RowKit
set_option linter.unusedVariables false
set_option linter.unusedSimpArgs false
theorem step_none {x : ItemD} {k : Int} {v : W4} (hK : kindP x.o = 0) : stepP x k v = (x, res9 12) := by
  unfold stepP
  rw [if_neg (by omega), if_neg (by omega), if_neg (by omega)]
  rfl
theorem step_full {x : ItemD} {v : W4} (hK : kindP x.o = 1) (h : x.o 1 ≤ (x.row.length : Int)) : stepP x 1 v = (x, res9 6) := by
  unfold stepP ringP
  rw [if_pos hK, if_pos (beq_self_eq_true (1 : Int)), if_pos h]
  rfl
theorem step_send {x : ItemD} {v : W4} (hK : kindP x.o = 1) (h : ¬ x.o 1 ≤ (x.row.length : Int)) (m : Nat) (hm : x.o 2 = (m : Int)) : stepP x 1 v = ({x with row := x.row ++ [v.clip m]}, res9 0) := by
  unfold stepP ringP
  rw [if_pos hK, if_pos (beq_self_eq_true (1 : Int)), if_neg h, hm, Int.toNat_natCast]
  rfl
theorem step_empty {x : ItemD} {v : W4} (hK : kindP x.o = 1) (h : x.row = []) : stepP x 2 v = (x, res9 7) := by
  unfold stepP ringP
  rw [if_pos hK, if_neg (by decide), if_pos (beq_self_eq_true (2 : Int)), h]
  rfl
theorem step_recv {x : ItemD} {v y : W4} {t : List W4} (hK : kindP x.o = 1) (h : x.row = y :: t) : stepP x 2 v = ({x with row := t}, ⟨0, y⟩) := by
  unfold stepP ringP
  rw [if_pos hK, if_neg (by decide), if_pos (beq_self_eq_true (2 : Int)), h]
theorem step_ring_not {x : ItemD} {k : Int} {v : W4} (hK : kindP x.o = 1) (h1 : (k == 1) = false) (h2 : (k == 2) = false) : stepP x k v = (x, res9 12) := by
  unfold stepP ringP
  rw [if_pos hK, h1, h2]
  rfl
theorem step_put {x : ItemD} {v : W4} (hK : kindP x.o = 2 ∨ kindP x.o = 3) (m : Nat) (hm : x.o 2 = (m : Int)) : stepP x 3 v = ({x with v := v.clip m}, res9 0) := by
  unfold stepP valueP
  rw [if_neg (by omega), if_pos hK, if_pos (beq_self_eq_true (3 : Int)), hm, Int.toNat_natCast]
  rfl
theorem step_get {x : ItemD} {k : Int} {v : W4} (hK : (kindP x.o = 2 ∧ x.o 0 = 2 ∧ k = 4) ∨ (kindP x.o = 3 ∧ x.o 0 = 3 ∧ (k = 5 ∨ k = 6))) : stepP x k v = (x, ⟨0, x.v⟩) := by
  unfold stepP valueP
  rw [if_neg (by omega), if_pos (by omega)]
  rcases hK with ⟨_, e, rfl⟩ | ⟨_, e, rfl | rfl⟩ <;> rw [e] <;> rfl
theorem step_value_not {x : ItemD} {k : Int} {v : W4} (hK : kindP x.o = 2 ∨ kindP x.o = 3) (h0 : x.o 0 = kindP x.o) (h3 : k ≠ 3) (h : ¬ ((kindP x.o = 2 ∧ k = 4) ∨ (kindP x.o = 3 ∧ (k = 5 ∨ k = 6)))) : stepP x k v = (x, res9 12) := by
  unfold stepP valueP
  have e3 : (k == 3) = false := by simpa using h3
  rw [if_neg (by omega), if_pos hK, e3, h0]
  rcases hK with e | e
  · have e4 : (k == 4) = false := by simp; omega
    rw [e, e4]; rfl
  · have e5 : (k == 5) = false := by simp; omega
    have e6 : (k == 6) = false := by simp; omega
    rw [e, e5, e6]; rfl
theorem step_flags {x : ItemD} {k : Int} {v : W4} (hK : kindP x.o = 4) : stepP x k v = flagsP x x.v.a.toNat k v.a.toNat := by
  unfold stepP
  rw [if_neg (by omega), if_neg (by omega), if_pos hK]
theorem step_flags_not {x : ItemD} {k : Int} {v : W4} (hK : kindP x.o = 4) (h : k = 1 ∨ k = 2 ∨ k = 3 ∨ k = 4 ∨ k = 5 ∨ k = 6) : stepP x k v = (x, res9 12) := by
  rw [step_flags hK]
  unfold flagsP
  rw [if_neg (by omega), if_neg (by omega), if_neg (by omega), if_neg (by omega), if_neg (by omega)]
  rfl
theorem step_or {x : ItemD} {v : W4} (hK : kindP x.o = 4) (p m : Nat) (hp : x.v.a = (p : Int)) (hm : v.a = (m : Int)) (hp1 : p < 4294967296) (hm1 : m < 4294967296) : stepP x 7 v = ({x with v := {x.v with a := ((opW true p m : Nat) : Int)}}, resW p) := by
  rw [step_flags hK, hp, hm, Int.toNat_natCast, Int.toNat_natCast]
  unfold flagsP orW
  rw [if_pos rfl, u32_or_nat p m hp1 hm1]
  rfl
theorem step_nand {x : ItemD} {v : W4} (hK : kindP x.o = 4) (p m : Nat) (hp : x.v.a = (p : Int)) (hm : v.a = (m : Int)) (hp1 : p < 4294967296) (hm1 : m < 4294967296) : stepP x 8 v = ({x with v := {x.v with a := ((opW false p (4294967295 - m) : Nat) : Int)}}, resW p) := by
  rw [step_flags hK, hp, hm, Int.toNat_natCast, Int.toNat_natCast]
  unfold flagsP nandW
  rw [if_neg (by decide), if_pos rfl, u32_andNot_nat p m hp1 hm1]
  rfl
theorem step_look {x : ItemD} {v : W4} (hK : kindP x.o = 4) (p : Nat) (hp : x.v.a = (p : Int)) : stepP x 9 v = (x, resW p) := by
  rw [step_flags hK, hp, Int.toNat_natCast]
  unfold flagsP
  rw [if_neg (by decide), if_neg (by decide), if_neg (by decide), if_neg (by decide), if_pos rfl]
theorem step_any {x : ItemD} {v : W4} (hK : kindP x.o = 4) (p m : Nat) (hp : x.v.a = (p : Int)) (hm : v.a = (m : Int)) : stepP x 16 v = (x, if holdsP 4 p m = true then resW p else res9 7) := by
  rw [step_flags hK, hp, hm, Int.toNat_natCast, Int.toNat_natCast]
  unfold flagsP
  rw [if_neg (by decide), if_neg (by decide), if_pos rfl]
  rfl
theorem step_all {x : ItemD} {v : W4} (hK : kindP x.o = 4) (p m : Nat) (hp : x.v.a = (p : Int)) (hm : v.a = (m : Int)) : stepP x 17 v = (x, if holdsP 5 p m = true then resW p else res9 7) := by
  rw [step_flags hK, hp, hm, Int.toNat_natCast, Int.toNat_natCast]
  unfold flagsP
  rw [if_neg (by decide), if_neg (by decide), if_neg (by decide), if_pos rfl]
  rfl
theorem kind_five (o : Nat → Int) : kindP o = 0 ∨ kindP o = 1 ∨ kindP o = 2 ∨ kindP o = 3 ∨ kindP o = 4 := by
  unfold kindP
  by_cases e : rightS o = true
  · rw [if_pos e]
    unfold rightS at e
    simp only [Bool.and_eq_true, decide_eq_true_eq] at e
    omega
  · rw [if_neg e]
    exact .inl rfl
theorem kind_not {o : Nat → Int} (h : kindP o = 0) : rightS o = false := by
  unfold kindP at h
  cases e : rightS o with
  | false => rfl
  | true =>
    rw [if_pos e] at h
    unfold rightS at e
    simp only [Bool.and_eq_true, decide_eq_true_eq] at e
    omega
theorem set_itself {L : List ItemD} {i : Nat} {x : ItemD} (hi : L[i]? = some x) : L.set i x = L := by
  apply List.ext_getElem?
  intro j
  by_cases e : i = j
  · subst e
    rw [List.getElem?_set_self (List.getElem?_eq_some_iff.1 hi).1, hi]
  · rw [List.getElem?_set_ne e]
/-- Copy, of a state that has an item. -/
theorem rcopied_any (w : World) (a : Option Addr) (c : Nat) (L : List ItemD) (h : StateR w a L) (ok : ∀ x, x ∈ L → x.Ok) (hn : L.length ≤ 1000) (n : Nat) (hne : L.length = n) (hp : 0 < n) :
    Calls Tryd.prog 57 #[.slice a n c] w fun e w' => ∃ g cap cur A C, e = .returned (.slice (some ⟨g, 0, none⟩) n cap) ∧ n ≤ cap ∧ Copied w.heap.size w' g cur L A C ∧ Below w.heap.size w w' := by
  subst hne
  refine (rcopy_any w a c L h hn fun x hx => (ok x hx).len).mono ?_
  rintro e w' ⟨v, xs, A, C, rfl, hc⟩
  obtain ⟨g, cap, cur, rfl, h1, _, h3⟩ := hc.copied hp
  exact ⟨g, cap, cur, A, C, rfl, h1, h3, hc.below⟩
theorem obj_partR (x : ItemD) (a : Option Addr) (n c : Nat) : ∀ (j : Nat) (u : Value), ([.int .i64 (x.o 0), .int .i64 (x.o 1), .int .i64 (x.o 2), .int .i64 (x.o 3), .int .i64 (x.o 4), .int .i64 (x.o 5), .int .u32 (x.oi 0), .int .u32 (x.oi 1), .int .u32 (x.oi 2), .int .u32 (x.oi 3)] : List Value)[j]? = some u → (x.l a n c)[j]? = some u := fun j u h => by
  have hj : j < 10 := (List.getElem?_eq_some_iff.1 h).1
  rcases (by omega : j = 0 ∨ j = 1 ∨ j = 2 ∨ j = 3 ∨ j = 4 ∨ j = 5 ∨ j = 6 ∨ j = 7 ∨ j = 8 ∨ j = 9) with rfl | rfl | rfl | rfl | rfl | rfl | rfl | rfl | rfl | rfl <;> exact h
theorem drew_pre {S : Nat → Prop} {w w' : World} (h : Keeps S w.drew w') : Keeps S w w' := ⟨h.os, h.tape, h.output, h.size, h.block⟩
theorem kindR {o : Nat → Int} (h : kindP o ≠ 0) : rightS o = true ∧ kindP o = o 0 := by
  unfold kindP at h ⊢
  by_cases e : rightS o = true
  · rw [if_pos e]; exact ⟨e, rfl⟩
  · rw [if_neg e] at h; exact absurd rfl h
theorem widthR {o : Nat → Int} (h : kindP o = 1 ∨ kindP o = 2 ∨ kindP o = 3) : ∃ m : Nat, o 2 = (m : Int) ∧ m ≤ 4 := by
  obtain ⟨h1, h2⟩ := kindR (o := o) (by omega)
  rw [h2] at h
  unfold rightS at h1
  simp only [Bool.and_eq_true] at h1
  have h3 := h1.2.2.1
  rw [if_neg (by omega)] at h3
  simp at h3
  exact ⟨(o 2).toNat, by omega, by omega⟩
theorem nine {kk : Int} (h1 : decide (1 ≤ kk) = true) (h2 : decide (kk ≤ 9) = true) : kk = 1 ∨ kk = 2 ∨ kk = 3 ∨ kk = 4 ∨ kk = 5 ∨ kk = 6 ∨ kk = 7 ∨ kk = 8 ∨ kk = 9 := by
  have := of_decide_eq_true h1
  have := of_decide_eq_true h2
  omega
theorem far_set {w : World} {b g i j : Nat} {y z : Value} (h : w.cell? ⟨b, j, none⟩ = some z) (hne : b ≠ g) : (w.setCell ⟨g, i, none⟩ y).cell? ⟨b, j, none⟩ = some z := by
  rw [World.cell?_setCell_other _ _ _ _ (by intro e; cases e; exact hne rfl)]
  exact h
theorem off_set {w : World} {g i j : Nat} {y z : Value} (h : w.cell? ⟨g, j, none⟩ = some z) (hne : j ≠ i) : (w.setCell ⟨g, i, none⟩ y).cell? ⟨g, j, none⟩ = some z := by
  rw [World.cell?_setCell_other _ _ _ _ (by intro e; cases e; exact hne rfl)]
  exact h
theorem wrap_neg {m : Nat} (h : m < 4294967296) : IntKind.u32.wrap (4294967295 - (m : Int)) = ((4294967295 - m : Nat) : Int) := by
  simp [IntKind.wrap, IntKind.signed, IntKind.bits]
  omega
end Go.Proofs.YtohajfkekkelhaaDoor
namespace Go.Proofs.YtohajfkekkelhaaDoor
open Go.ChangeShapes Go.WideShapes Go.ChangeAt Go.RowKit
set_option linter.unusedVariables false
set_option linter.unusedSimpArgs false
/-- A row has grown. -/
theorem Copied.grown {B g i : Nat} {W W' : World} {cur : Array Value} {L : List ItemD} {A : Nat → Option Addr} {C : Nat → Nat} {x : ItemD} (h : Copied B W g cur L A C) (hi : L[i]? = some x) (o : Obj) (hg : (W.alloc o).grownBy W' (Value.slice (A i) x.row.length (C i)).ownBlock) :
    W'.heap[g]? = some (.cells cur 103 (0, 0)) ∧ Keeps (fun j => j = g ∨ j < B ∨ A i = some ⟨j, 0, Option.none⟩) W W' ∧ (∀ j o, j < B → W.heap[j]? = some o → W'.heap[j]? = some o) := by
  have hro := h.rows i x hi
  have hsz : W.heap.size ≤ W'.heap.size := Nat.le_trans (by simp) hg.size
  have key : ∀ j, j < W.heap.size → some j ≠ (Value.slice (A i) x.row.length (C i)).ownBlock → W'.heap[j]? = W.heap[j]? := fun j hj hne => by
    rw [hg.block j (by simp; omega) hne]
    exact ((Keeps.refl (fun _ => False) W).alloc o).block j hj fun h => h
  refine ⟨?_, ⟨hg.os, hg.tape, hg.output, hsz, fun j hj hs => key j hj fun e => hs ?_⟩, fun j o' hj ho => ?_⟩
  · rw [key g (lt_of h.blk) (fun e => own_apart hro h.blk (by decide) e.symm)]
    exact h.blk
  · refine .inr (.inr ?_)
    rcases hro.2 with ⟨e1, _⟩ | ⟨g', cap, cs, e1, _⟩
    · rw [e1] at e; cases e
    · rw [e1] at e
      have e2 : j = g' := by simpa [Value.ownBlock] using e
      rw [e2]
      exact (Value.slice.inj e1).1
  · rw [key j (lt_of ho) (fun e => by have := (hro.lt j e.symm).1; omega)]
    exact ho
theorem clip_oneR (m : Nat) (v : W4) : ∀ u ∈ (#[.int .u32 (clipP m 0 v.a), .int .u32 (clipP m 1 v.b), .int .u32 (clipP m 2 v.c), .int .u32 (clipP m 3 v.d)] : Array Value).toList, u.oneCell' = true := by
  intro u hu
  simp at hu
  rcases hu with rfl | rfl | rfl | rfl <;> rfl
theorem RowIn.keepsR {S : Nat → Prop} {w w' : World} {a : Option Addr} {R : List W4} (h : RowIn w a R) (hk : Keeps S w w') (hs : ∀ b off, a = some ⟨b, off, none⟩ → ¬ S b) : RowIn w' a R := fun hn => by
  obtain ⟨b, off, e, hl, hr⟩ := h hn
  refine ⟨b, off, e, Nat.lt_of_lt_of_le hl hk.size, fun k v hv j u hu => ?_⟩
  rw [World.cell?_of_block (a := ⟨b, off + k * 4 + j, none⟩) (hk.block b hl (hs b off e))]
  exact hr k v hv j u hu
theorem farR {w : World} {b g o i : Nat} {cs : List Value} {y : Value} (h : w.rangeAt b o cs) (hne : b ≠ g) : (w.setCell ⟨g, i, none⟩ y).rangeAt b o cs := fun j u hu => far_set (h j u hu) hne
theorem far5R {w : World} {b g o i1 i2 i3 i4 i5 : Nat} {cs : List Value} {y1 y2 y3 y4 y5 : Value} (h : w.rangeAt b o cs) (hne : b ≠ g) : (((((w.setCell ⟨g, i1, none⟩ y1).setCell ⟨g, i2, none⟩ y2).setCell ⟨g, i3, none⟩ y3).setCell ⟨g, i4, none⟩ y4).setCell ⟨g, i5, none⟩ y5).rangeAt b o cs := farR (farR (farR (farR (farR h hne) hne) hne) hne) hne
theorem offR {w : World} {g o i : Nat} {cs : List Value} {y : Value} (h : w.rangeAt g o cs) (hne : i < o ∨ o + cs.length ≤ i) : (w.setCell ⟨g, i, none⟩ y).rangeAt g o cs := fun j u hu => off_set (h j u hu) (by have := (List.getElem?_eq_some_iff.1 hu).1; omega)
theorem below_drewN {B : Nat} {w w' : World} (h : Below B w w') (n : Nat) : Below B w (w'.drewN n) := ⟨h.os, h.tape, h.output, h.size, h.block⟩
theorem below_drew {B : Nat} {w w' : World} (h : Below B w w') : Below B w w'.drew := ⟨h.os, h.tape, h.output, h.size, h.block⟩
theorem range4R {w : World} {b o : Nat} {y0 y1 y2 y3 : Value} (h0 : w.cell? ⟨b, o, none⟩ = some y0) (h1 : w.cell? ⟨b, o + 1, none⟩ = some y1) (h2 : w.cell? ⟨b, o + 2, none⟩ = some y2) (h3 : w.cell? ⟨b, o + 3, none⟩ = some y3) : w.rangeAt b o [y0, y1, y2, y3] := fun j u hu => by
  have hj : j < 4 := (List.getElem?_eq_some_iff.1 hu).1
  rcases (by omega : j = 0 ∨ j = 1 ∨ j = 2 ∨ j = 3) with rfl | rfl | rfl | rfl <;> (simp at hu; subst hu) <;> assumption
theorem box4 {w : World} {b : Nat} {x0 x1 y0 y1 y2 y3 z : Value} {T : TypeId} (h : w.heap[b]? = some (.cells #[x0, x1, y0, y1, y2, y3, z] T (0, 0))) : w.rangeAt b 2 [y0, y1, y2, y3] := range4R (cell_of h 2) (cell_of h 3) (cell_of h 4) (cell_of h 5)
theorem Copied.grownBelow {B g i A0 : Nat} {W W' : World} {cur : Array Value} {L : List ItemD} {A : Nat → Option Addr} {C : Nat → Nat} {x : ItemD} (h : Copied B W g cur L A C) (hi : L[i]? = some x) (o : Obj) (hg : (W.alloc o).grownBy W' (Value.slice (A i) x.row.length (C i)).ownBlock) (h0 : A0 ≤ B) (h1 : A0 ≤ W.heap.size) : Below A0 W W' := by
  obtain ⟨_, hk, hb⟩ := h.grown hi o hg
  refine ⟨hk.os, hk.tape, hk.output, hk.size, fun j hj => ?_⟩
  obtain ⟨y, hy⟩ : ∃ y, W.heap[j]? = some y := ⟨_, Array.getElem?_eq_getElem (by omega)⟩
  rw [hb j y (by omega) hy, hy]
end Go.Proofs.YtohajfkekkelhaaDoor
