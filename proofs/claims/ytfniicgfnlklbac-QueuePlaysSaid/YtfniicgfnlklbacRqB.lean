import Derived.Test.YtfniicgfnlklbacRqA
import Derived.IntWalk
namespace Go.Proofs.Ytfniicgfnlklbac
open Go.ChangeShapes Go.WideShapes Go.ChangeAt Go.RowKit
set_option linter.unusedVariables false
attribute [local go_sem ↓ 2000] app_pre
attribute [local go_sem] app_run
set_option maxRecDepth 20000 in
theorem rrem_no (a : Option Addr) (c B : Nat) (L : List QN) (t : Int) (w : World) (h : DW w B (.slice a L.length c) L) (hl : L.length < 1000000) (hf : fnd L t = none) :
    Calls Try.prog 8 #[.slice a L.length c, .int .i64 t] w fun e w' => e = .returned (.tuple #[.slice a L.length c, zv, .bool false]) ∧ Below w.heap.size w w' := by
  obtain ⟨w1, hw1⟩ : ∃ w1, w.alloc (.cells #[.int .i64 0, .int .i64 0, .int .i64 0, .int .u32 0] 34) = w1 := ⟨_, rfl⟩
  have hb1 : Below w.heap.size w w1 := by rw [← hw1]; exact (Below.refl _ _).alloc (Nat.le_refl _) _
  have hn1 : w1.heap[w.heap.size]? = some (.cells #[.int .i64 0, .int .i64 0, .int .i64 0, .int .u32 0] 34 (0, 0)) := by rw [← hw1]; exact heap_new _ _
  have HC := Lib.hid (rplace_no a c B L t w1 (h.below hb1) hl hf)
  have c0 : w1.cell? ⟨w.heap.size, 0, none⟩ = some (.int .i64 0) := cell_of hn1 0
  have c1 : w1.cell? ⟨w.heap.size, 1, none⟩ = some (.int .i64 0) := cell_of hn1 1
  have c2 : w1.cell? ⟨w.heap.size, 2, none⟩ = some (.int .i64 0) := cell_of hn1 2
  have c3 : w1.cell? ⟨w.heap.size, 3, none⟩ = some (.int .u32 0) := cell_of hn1 3
  have f0 : w1.frozen? ⟨w.heap.size, 0, none⟩ = false := free_of hn1 0
  have f1 : w1.frozen? ⟨w.heap.size, 1, none⟩ = false := free_of hn1 1
  have f2 : w1.frozen? ⟨w.heap.size, 2, none⟩ = false := free_of hn1 2
  have f3 : w1.frozen? ⟨w.heap.size, 3, none⟩ = false := free_of hn1 3
  have l1 := lt_of hn1
  have HH := Lib.hid (And.intro hb1 hn1)
  clear h hf hb1 hn1
  go_enter Try.func8, Try.ntmps8
  go_wp2_with fail
  refine HC.out.mono ?_
  rintro e w2 ⟨rfl, rfl⟩
  clear hw1
  go_wp2
  have h4 := set4 HH.out.2 (.int .i64 0) (.int .i64 0) (.int .i64 0) (.int .u32 0)
  have y0 := cell_of h4 0
  have y1 := cell_of h4 1
  have y2 := cell_of h4 2
  have y3 := cell_of h4 3
  refine bodyPost_ret (v := .tuple #[.slice a L.length c, zv, .bool false]) ?_ rfl ⟨rfl, below4 HH.out.1 (Nat.le_refl _) _ _ _ _⟩
  simp [results, Try.results8, go_sem, y0, y1, y2, y3, zv]
theorem owns_far {w w' : World} {S : Nat → Prop} {B E s n : Nat} {v : Value} {xs : List Value} (h : w.ownsRow B E s v n xs) (hk : Keeps S w w') (hS : ∀ k, S k → k < B) : w'.ownsRow B E s v n xs := by
  obtain ⟨h1, h | ⟨g, cap, cur, rfl, hg, hb, r⟩⟩ := h
  · exact ⟨h1, .inl h⟩
  · exact ⟨h1, .inr ⟨g, cap, cur, rfl, hg, hk.at hb (fun hs => by have := hS g hs; omega), r⟩⟩
theorem keeps4 (w : World) (b : Nat) (v0 v1 v2 v3 : Value) : Keeps (fun k => k = b) w ((((w.setCell ⟨b, 0, none⟩ v0).setCell ⟨b, 1, none⟩ v1).setCell ⟨b, 2, none⟩ v2).setCell ⟨b, 3, none⟩ v3) :=
  ((((Keeps.refl (fun k => k = b) w).setCell (p := ⟨b, 0, none⟩) (.inl rfl) v0).setCell (p := ⟨b, 1, none⟩) (.inl rfl) v1).setCell (p := ⟨b, 2, none⟩) (.inl rfl) v2).setCell (p := ⟨b, 3, none⟩) (.inl rfl) v3
theorem DW.cap {w : World} {B c n : Nat} {a : Option Addr} {L : List QN} (h : DW w B (.slice a n c) L) : L.length ≤ c ∧ c ≤ 140737488355328 * 65536 := by
  obtain ⟨_, h4 | ⟨g, cap, cur, e, hg, hb, h1, h2, _⟩⟩ := h
  · have := h4.1
    injection this with _ h5 h6
    exact ⟨by omega, by omega⟩
  · injection e with _ _ h6
    subst h6
    unfold maxLen at h2
    exact ⟨h1, by omega⟩
set_option maxRecDepth 20000 in
set_option maxHeartbeats 1000000 in
theorem rrem_yes (a : Option Addr) (c B n : Nat) (P R : List QN) (x : QN) (w : World) (h : DW w B (.slice a n c) (P ++ x :: R)) (hn : n = (P ++ x :: R).length) (hl : n < 100000) (hP : ∀ y, y ∈ P → y.t ≠ x.t) :
    Calls Try.prog 8 #[.slice a n c, .int .i64 x.t] w fun e w' => (∃ a' c', e = .returned (.tuple #[.slice a' (P ++ R).length c', qv x, .bool true]) ∧ DW w' w.heap.size (.slice a' (P ++ R).length c') (P ++ R)) ∧ Below w.heap.size w w' := by
  obtain ⟨w1, hw1⟩ : ∃ w1, w.alloc (.cells #[.int .i64 0, .int .i64 0, .int .i64 0, .int .u32 0] 34) = w1 := ⟨_, rfl⟩
  have hb1 : Below w.heap.size w w1 := by rw [← hw1]; exact (Below.refl _ _).alloc (Nat.le_refl _) _
  have hn1 : w1.heap[w.heap.size]? = some (.cells #[.int .i64 0, .int .i64 0, .int .i64 0, .int .u32 0] 34 (0, 0)) := by rw [← hw1]; exact heap_new _ _
  have hs1 : w1.heap.size = w.heap.size + 1 := by rw [← hw1]; simp
  have hd1 := h.below hb1
  have HC := Lib.hid (rplace_yes a c B n P R x w1 hd1 hn (by omega) hP)
  obtain ⟨hcn, hcm⟩ := h.cap
  have hbE : Below w1.heap.size w1 (w1.alloc (.cells #[] 34)).drew := ((Below.refl _ _).alloc (Nat.le_refl _) _).drew
  have hdE := hd1.below hbE
  have hnE : n = P.length + 1 + R.length := by rw [hn]; simp; omega
  obtain ⟨b, rfl, hbs, hpart⟩ := hdE.part hn 0 (.inl (by omega))
  -- the first append
  have hrun1 := app_rw (M := P) (empty_lit w1 w1.heap.size (Nat.le_refl _)) hbE.size (some ⟨b, 0, none⟩) c (fun e => by cases e) (fun ad e j u hj => by
    cases e
    have := hpart j u (by
      rw [List.drop_zero, flat_app, List.getElem?_append_left]
      · exact hj
      · rcases Nat.lt_or_ge j (flat P).length with h2 | h2
        · exact h2
        · rw [List.getElem?_eq_none h2] at hj; cases hj)
    simpa using this) (by simp; omega)
  obtain ⟨a2, c2, w2, hrun1, hd2, hk2⟩ := hrun1
  simp only [List.length_nil, Nat.zero_add, List.nil_append] at hrun1 hd2
  have hk2b : Below w1.heap.size w1 w2 := hbE.trans (hk2.below hbE.size fun j _ hj => hj.1)
  have hdL2 := hd1.below hk2b
  have hrun2 := app_rw (M := R) hd2 hk2b.size (if c = P.length + 1 then some ⟨b, 0, none⟩ else some ⟨b, (P.length + 1) * 4, none⟩) (c - (P.length + 1)) (fun e => by split at e <;> cases e) (fun ad e j u hj => by
    by_cases hcq : c = P.length + 1
    · have : R.length = 0 := by omega
      have : R = [] := List.length_eq_zero_iff.1 this
      subst this; simp [flat] at hj
    · rw [if_neg hcq] at e
      cases e
      by_cases hR0 : R = []
      · subst hR0; simp [flat] at hj
      have hRp : 0 < R.length := List.length_pos_iff.2 hR0
      obtain ⟨b', e', _, hp2⟩ := hdL2.part hn (P.length + 1) (.inl (by simp; omega))
      cases e'
      exact hp2 j u (by simpa using hj)) (by omega)
  obtain ⟨a3, c3, w3, hrun2, hd3, hk3⟩ := hrun2
  have hk3b : Below w1.heap.size w1 w3 := hk2b.trans (hk3.below hk2b.size fun j _ hj => hj.1)
  have hxi : (P ++ x :: R)[P.length]? = some x := by simp
  have HXC : ∀ wx, Below w1.heap.size w1 wx → b < wx.heap.size ∧ wx.cell? ⟨b, P.length * 4, none⟩ = some (.int .i64 x.t) ∧ wx.cell? ⟨b, P.length * 4 + 1, none⟩ = some (.int .i64 x.k) ∧ wx.cell? ⟨b, P.length * 4 + 2, none⟩ = some (.int .i64 x.o) ∧ wx.cell? ⟨b, P.length * 4 + 3, none⟩ = some (.int .u32 (x.m : Int)) := by
    intro wx hx
    have hdx := hd1.below hx
    rw [hn] at hdx
    obtain ⟨b', e', hb', h0⟩ := hdx.cell hxi
    cases e'
    exact ⟨hb', h0⟩
  obtain ⟨lb1, p10, p11, p12, p13⟩ := HXC w1 (Below.refl _ _)
  obtain ⟨lb2, p20, p21, p22, p23⟩ := HXC w2 hk2b
  obtain ⟨lb3, p30, p31, p32, p33⟩ := HXC w3 hk3b
  have hn3 := at_below hk3b hn1 (by omega)
  have hlenPR : (P ++ R).length = P.length + R.length := by simp
  rw [hlenPR]
  have HD := Lib.hid (And.intro (show DW w3 (w.heap.size + 1) _ _ from hd3.base (by omega)) (And.intro (hb1.trans (hk3b.mono (by omega))) hn3))
  have hRl : R.length = n - (P.length + 1) := by omega
  have hPR : P.length + R.length = n - 1 := by omega
  rw [hPR] at HD ⊢
  rw [hPR, hRl] at hrun2
  have g2 : (P.length : Int) < (n : Int) := by omega
  have g1 : (P.length : Int) ≤ (c : Int) := by omega
  have g6 : (n : Int) ≤ (c : Int) := by omega
  have g8 : P.length ≤ c := by omega
  have g9 : P.length + 1 ≤ n := by omega
  have gc : n ≤ c := by omega
  clear HXC hPR hRl hlenPR hxi hnE
  generalize P.length = q at *
  have g0 : (0 : Int) ≤ (q : Int) := by omega
  have g3 : (q : Int) ≤ (n : Int) := by omega
  have g4 : (0 : Int) ≤ (q : Int) + 1 := by omega
  have g5 : (q : Int) + 1 ≤ (n : Int) := by omega
  have g7 : ¬ c = 0 := by omega
  have e3 : IntKind.i64.wrap (q : Int) = (q : Int) := by rw [IntWalk.i64_in _ (by omega)]
  have e2 : IntKind.i64.wrap ((q : Int) + 1) = (q : Int) + 1 := by rw [IntWalk.i64_in _ (by omega)]
  have e4 : ((q : Int) + 1).toNat = q + 1 := by omega
  have d0 : decide ((q : Int) < 0) = false := decide_eq_false (by omega)
  have n0 : w3.cell? ⟨w.heap.size, 0, none⟩ = some (.int .i64 0) := cell_of hn3 0
  have n1 : w3.cell? ⟨w.heap.size, 1, none⟩ = some (.int .i64 0) := cell_of hn3 1
  have n2 : w3.cell? ⟨w.heap.size, 2, none⟩ = some (.int .i64 0) := cell_of hn3 2
  have n3 : w3.cell? ⟨w.heap.size, 3, none⟩ = some (.int .u32 0) := cell_of hn3 3
  have m0 : w3.frozen? ⟨w.heap.size, 0, none⟩ = false := free_of hn3 0
  have m1 : w3.frozen? ⟨w.heap.size, 1, none⟩ = false := free_of hn3 1
  have m2 : w3.frozen? ⟨w.heap.size, 2, none⟩ = false := free_of hn3 2
  have m3 : w3.frozen? ⟨w.heap.size, 3, none⟩ = false := free_of hn3 3
  have ln3 := lt_of hn3
  clear hb1 hn1 hs1 hd1 hbE hdE hpart hd2 hk2 hk2b hdL2 hd3 hk3 hk3b hn3 h hP hn
  go_enter Try.func8, Try.ntmps8
  go_wp2_with fail
  refine HC.out.mono ?_
  rintro e wq ⟨rfl, rfl⟩
  clear hw1
  go_wp2_with fail
  go_region
  all_goals
    go_wp2_with fail
    all_goals
      have h4 := set4 HD.out.2.2 (.int .i64 x.t) (.int .i64 x.k) (.int .i64 x.o) (.int .u32 (x.m : Int))
      have y0 := cell_of h4 0
      have y1 := cell_of h4 1
      have y2 := cell_of h4 2
      have y3 := cell_of h4 3
      refine bodyPost_ret (v := .tuple #[.slice a3 (n - 1) c3, qv x, .bool true]) ?_ rfl ⟨⟨a3, c3, rfl, ?_⟩, below4 HD.out.2.1 (Nat.le_refl _) _ _ _ _⟩
      · simp [results, Try.results8, go_sem, y0, y1, y2, y3, qv]
      · exact DW.base (owns_far HD.out.1 (keeps4 w3 w.heap.size _ _ _ _) (fun k hk => by omega)) (Nat.le_succ _)
end Go.Proofs.Ytfniicgfnlklbac
