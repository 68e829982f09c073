import Derived.Test.YtkhmfjfclpehfaaGreatSpecHz
import Derived.Test.YtkhmfjfclpehfaaGreatSpecDz
import Derived.Test.YtkhmfjfclpehfaaGreatSpecI
namespace Go.Proofs.YtkhmfjfclpehfaaGreat
open Go.ChangeShapes Go.WideShapes Go.ChangeAt Go.RowKit
set_option linter.unusedVariables false
set_option linter.unusedSimpArgs false
set_option maxRecDepth 20000 in
set_option maxHeartbeats 8000000 in
theorem doRing_not (w : World) (g o : Nat) (cur : Array Value) (x : ItemD) (a : Option Addr) (c : Nat) (v : W4) (k : Int) (f : Int) (hb : w.heap[g]? = some (.cells cur 106 (0, 0))) (hx : ItemW w g o cur x a c) (hf : (k = 1 ∧ x.o 1 ≤ (x.row.length : Int) ∧ f = 6) ∨ (k = 2 ∧ x.row = [] ∧ f = 7) ∨ ((k == 1) = false ∧ (k == 2) = false ∧ f = 12)) :
    Calls Tryz.prog 95 #[.pointer (some ⟨g, o, none⟩), .int .i64 k, .agg v.cells] w fun e w' => e = .returned (.agg (res0 f).cells) ∧ Became w w' g o 106 cur a x.row x := by
  have hx' := hx.fifteen hb
  have hl := lt_of hb
  have c1 : w.cell? ⟨g, o + 1, none⟩ = some (.int .i64 (x.o 1)) := hx' 1 _ rfl
  have c10 : w.cell? ⟨g, o + 10, none⟩ = some (.slice a x.row.length c) := hx' 10 _ rfl
  have HX := Lib.hid (And.intro hx hb)
  rcases hf with ⟨rfl, h1, rfl⟩ | ⟨rfl, h1, rfl⟩ | ⟨h1, h2, rfl⟩
  · have d1 : decide (x.o 1 ≤ (x.row.length : Int)) = true := decide_eq_true h1
    generalize x.row.length = n at *
    clear hx hx' hb h1
    go_enter Tryz.func95, Tryz.ntmps95
    go_wp2_with fail
    refine bodyPost_ret (v := .agg (res0 6).cells) (by simp [results, Tryz.results95, go_sem, res0, W4.zero]) rfl ⟨rfl, Became.same HX.out.1 HX.out.2 (((Keeps.refl _ w).alloc _).alloc _)⟩
  · have hn : x.row.length = 0 := by rw [h1]; rfl
    rw [hn] at c10
    clear hx hx' hb h1 hn
    go_enter Tryz.func95, Tryz.ntmps95
    go_wp2_with fail
    refine bodyPost_ret (v := .agg (res0 7).cells) (by simp [results, Tryz.results95, go_sem, res0, W4.zero]) rfl ⟨rfl, Became.same HX.out.1 HX.out.2 (((Keeps.refl _ w).alloc _).alloc _)⟩
  · generalize x.row.length = n at *
    clear hx hx' hb
    go_enter Tryz.func95, Tryz.ntmps95
    go_wp2_with fail
    refine bodyPost_ret (v := .agg (res0 12).cells) (by simp [results, Tryz.results95, go_sem, res0, W4.zero]) rfl ⟨rfl, Became.same HX.out.1 HX.out.2 (((Keeps.refl _ w).alloc _).alloc _)⟩
end Go.Proofs.YtkhmfjfclpehfaaGreat
namespace Go.Proofs.YtkhmfjfclpehfaaGreat
open Go.ChangeShapes Go.WideShapes Go.ChangeAt Go.RowKit
set_option linter.unusedVariables false
set_option linter.unusedSimpArgs false
theorem doRing_any (w : World) (g o : Nat) (cur : Array Value) (x : ItemD) (a : Option Addr) (c : Nat) (v : W4) (k : Int) (m : Nat) (hb : w.heap[g]? = some (.cells cur 106 (0, 0))) (hx : ItemW w g o cur x a c) (hm : x.o 2 = (m : Int)) (hm1 : m ≤ 1000) (hn : x.row.length ≤ 64) :
    Calls Tryz.prog 95 #[.pointer (some ⟨g, o, none⟩), .int .i64 k, .agg v.cells] w fun e w' => e = .returned (.agg (ringP x k v m).2.cells) ∧ Became w w' g o 106 cur a x.row (ringP x k v m).1 := by
  by_cases h1 : k = 1
  · subst h1
    by_cases h2 : x.o 1 ≤ (x.row.length : Int)
    · rw [show ringP x 1 v m = (x, res0 6) by unfold ringP; rw [if_pos (beq_self_eq_true (1 : Int)), if_pos h2]]
      exact doRing_not w g o cur x a c v 1 6 hb hx (.inl ⟨rfl, h2, rfl⟩)
    · rw [show ringP x 1 v m = ({x with row := x.row ++ [v.clip m]}, res0 0) by unfold ringP; rw [if_pos (beq_self_eq_true (1 : Int)), if_neg h2]]
      exact doRing_send w g o cur x a c v m hb hx hm hm1 hn h2
  · have e1 : (k == 1) = false := by simpa using h1
    by_cases h2 : k = 2
    · subst h2
      have hcase : x.row = [] ∨ ∃ y t, x.row = y :: t := by
        cases x.row with
        | nil => exact .inl rfl
        | cons y t => exact .inr ⟨y, t, rfl⟩
      rcases hcase with hr | ⟨y, t, hr⟩
      · rw [show ringP x 2 v m = (x, res0 7) by unfold ringP; rw [if_neg (by decide), if_pos (beq_self_eq_true (2 : Int)), hr]]
        exact doRing_not w g o cur x a c v 2 7 hb hx (.inr (.inl ⟨rfl, hr, rfl⟩))
      · rw [show ringP x 2 v m = ({x with row := t}, ⟨0, y⟩) by unfold ringP; rw [if_neg (by decide), if_pos (beq_self_eq_true (2 : Int)), hr]]
        exact doRing_recv w g o cur x a c v hb hx y t hr hn
    · have e2 : (k == 2) = false := by simpa using h2
      rw [show ringP x k v m = (x, res0 12) by unfold ringP; rw [e1, e2]; rfl]
      exact doRing_not w g o cur x a c v k 12 hb hx (.inr (.inr ⟨e1, e2, rfl⟩))
def stepP (x : ItemD) (k : Int) (v : W4) : ItemD × ResD :=
  if kindP x.o = 1 then ringP x k v (x.o 2).toNat
  else if kindP x.o = 2 ∨ kindP x.o = 3 then valueP x k v (x.o 2).toNat
  else if kindP x.o = 4 then flagsP x x.v.a.toNat k v.a.toNat
  else (x, res0 12)
def doP (L : List ItemD) (k obj : Int) (v : W4) : List ItemD × ResD :=
  if knownP (plainP k) = false then (L, res0 1)
  else if obj < 0 ∨ (L.length : Int) ≤ obj then (L, res0 4)
  else match L[obj.toNat]? with
    | none => (L, res0 4)
    | some x => (L.set obj.toNat (stepP x (plainP k) v).1, (stepP x (plainP k) v).2)
theorem state_set {w w' w'' : World} {g i B A : Nat} {cur : Array Value} {L : List ItemD} {x x' : ItemD} {a : Option Addr} {c : Nat} (hall : ∀ k y, L[k]? = some y → ∃ a c, ItemW w g (k * 15) cur y a c ∧ (0 < y.row.length → ∀ b off, a = some ⟨b, off, none⟩ → b < B))
    (hi : L[i]? = some x) (hx : ItemW w g (i * 15) cur x a c) (hxb : 0 < x.row.length → ∀ b off, a = some ⟨b, off, none⟩ → b < B) (hbc : Became w w' g (i * 15) 106 cur a x.row x')
    (hk : Keeps (fun j => j = A) w' w'') (hA1 : B ≤ A) (hA2 : A < w.heap.size) (hg : A ≠ g) (hBg : B ≤ g) (hgw : g < w.heap.size) : StateAt w'' g (L.set i x') := by
  obtain ⟨cur', a', c', hb', hsz, hout, hw', hkk, hnew⟩ := hbc
  have hg' : w''.heap[g]? = some (.cells cur' 106 (0, 0)) := hk.at hb' (by omega)
  refine ⟨lt_of hg', fun k y hy => ?_, ⟨_, _, hg'⟩⟩
  by_cases e : k = i
  · subst e
    rw [List.getElem?_set_self (List.getElem?_eq_some_iff.1 hi).1] at hy
    obtain rfl := Option.some.inj hy
    refine ⟨a', c', fun j v hv => (cell_of hg' (k * 15 + j)).trans (hw'.cur j v hv), hw'.le, hw'.max, hw'.nil, fun hn => ?_⟩
    obtain ⟨b, off, e1, hl, ht, hr⟩ := hw'.row hn
    have hbA : b ≠ A := by
      rcases hnew with h | h
      · rw [h.1] at e1
        have := hxb (by rw [← h.2]; exact hn) b off e1
        omega
      · have := h b off e1; omega
    refine ⟨b, off, e1, Nat.lt_of_lt_of_le hl hk.size, ht.eq (hk.block b hl hbA), fun q v hv j u hu => ?_⟩
    rw [World.cell?_of_block (a := ⟨b, off + q * 4 + j, none⟩) (hk.block b hl hbA)]
    exact hr q v hv j u hu
  · rw [List.getElem?_set_ne (by omega)] at hy
    obtain ⟨a1, c1, h1, h1b⟩ := hall k y hy
    have h2 := h1.keeps (w' := w') (cur' := cur') hkk fun j hj1 hj2 => hout j (by omega)
    refine ⟨a1, c1, fun j v hv => (cell_of hg' (k * 15 + j)).trans (h2.cur j v hv), h2.le, h2.max, h2.nil, fun hn => ?_⟩
    obtain ⟨b, off, e1, hl, ht, hr⟩ := h2.row hn
    have := h1b hn b off e1
    refine ⟨b, off, e1, Nat.lt_of_lt_of_le hl hk.size, ht.eq (hk.block b hl (by omega)), fun q v hv j u hu => ?_⟩
    rw [World.cell?_of_block (a := ⟨b, off + q * 4 + j, none⟩) (hk.block b hl (by omega))]
    exact hr q v hv j u hu
theorem state_kept {w w'' : World} {g B A : Nat} {cur : Array Value} {L : List ItemD} (hall : ∀ k y, L[k]? = some y → ∃ a c, ItemW w g (k * 15) cur y a c ∧ (0 < y.row.length → ∀ b off, a = some ⟨b, off, none⟩ → b < B)) (hb : w.heap[g]? = some (.cells cur 106 (0, 0)))
    (hk : Keeps (fun j => j = A) w w'') (hA1 : B ≤ A) (hg : A ≠ g) : StateAt w'' g L := by
  have hg' : w''.heap[g]? = some (.cells cur 106 (0, 0)) := hk.at hb (by omega)
  refine ⟨lt_of hg', fun k y hy => ?_, ⟨_, _, hg'⟩⟩
  obtain ⟨a1, c1, h2, h1b⟩ := hall k y hy
  refine ⟨a1, c1, fun j v hv => (cell_of hg' (k * 15 + j)).trans (h2.cur j v hv), h2.le, h2.max, h2.nil, fun hn => ?_⟩
  obtain ⟨b, off, e1, hl, ht, hr⟩ := h2.row hn
  have := h1b hn b off e1
  refine ⟨b, off, e1, Nat.lt_of_lt_of_le hl hk.size, ht.eq (hk.block b hl (by omega)), fun q v hv j u hu => ?_⟩
  rw [World.cell?_of_block (a := ⟨b, off + q * 4 + j, none⟩) (hk.block b hl (by omega))]
  exact hr q v hv j u hu
end Go.Proofs.YtkhmfjfclpehfaaGreat
namespace Go.Proofs.YtkhmfjfclpehfaaGreat
open Go.ChangeShapes Go.WideShapes Go.ChangeAt Go.RowKit
set_option linter.unusedVariables false
set_option linter.unusedSimpArgs false
def DoesIn (w : World) (n : Nat) (p : List ItemD × ResD) (e : Ending) (w' : World) : Prop :=
  Below w.heap.size w w' ∧ ∃ g' c', e = .returned (.tuple #[.slice (some ⟨g', 0, none⟩) n c', .agg p.2.cells]) ∧ StateAt w' g' p.1
set_option maxRecDepth 20000 in
set_option maxHeartbeats 8000000 in
theorem do_not (w : World) (g c : Nat) (L : List ItemD) (h : StateAt w g L) (ok : ∀ x, x ∈ L → x.Ok) (hn : L.length ≤ 1000) (k obj N : Int) (v : W4) (hv : v.Ok) (f : Int) (hf : (knownP (plainP k) = false ∧ f = 1) ∨ (knownP (plainP k) = true ∧ (obj < 0 ∨ (L.length : Int) ≤ obj) ∧ f = 4)) :
    Calls Tryz.prog 68 #[.slice (some ⟨g, 0, none⟩) L.length c, .agg #[.int .i64 k, .int .i64 obj, .int .u32 v.a, .int .u32 v.b, .int .u32 v.c, .int .u32 v.d, .int .u32 N]] w (DoesIn w L.length (L, res0 f)) := by
  have HB0 := Lib.hid (show Below w.heap.size w ((w.alloc (.cells #[.int .i64 k, .int .i64 obj, .int .u32 v.a, .int .u32 v.b, .int .u32 v.c, .int .u32 v.d, .int .u32 N] 38)).alloc (.cells #[.int .i64 0, .int .u32 0, .int .u32 0, .int .u32 0, .int .u32 0] 41)) from ((Below.refl _ w).alloc (Nat.le_refl _) _).alloc (by simp) _)
  have HS0 := Lib.hid (show Has w ((w.alloc (.cells #[.int .i64 k, .int .i64 obj, .int .u32 v.a, .int .u32 v.b, .int .u32 v.c, .int .u32 v.d, .int .u32 N] 38)).alloc (.cells #[.int .i64 0, .int .u32 0, .int .u32 0, .int .u32 0, .int .u32 0] 41)) [(w.heap.size + 1, .cells #[.int .i64 0, .int .u32 0, .int .u32 0, .int .u32 0, .int .u32 0] 41 (0, 0)), (w.heap.size, .cells #[.int .i64 k, .int .i64 obj, .int .u32 v.a, .int .u32 v.b, .int .u32 v.c, .int .u32 v.d, .int .u32 N] 38 (0, 0))] from (((Has.start w).alloc (.cells #[.int .i64 k, .int .i64 obj, .int .u32 v.a, .int .u32 v.b, .int .u32 v.c, .int .u32 v.d, .int .u32 N] 38)).alloc (.cells #[.int .i64 0, .int .u32 0, .int .u32 0, .int .u32 0, .int .u32 0] 41)).eq (by simp))
  have HCL := Lib.hid (clone_any ((w.alloc (.cells #[.int .i64 k, .int .i64 obj, .int .u32 v.a, .int .u32 v.b, .int .u32 v.c, .int .u32 v.d, .int .u32 N] 38)).alloc (.cells #[.int .i64 0, .int .u32 0, .int .u32 0, .int .u32 0, .int .u32 0] 41)) g c L (h.below HB0.out) hn)
  have HP := Lib.hid (fun w => plain_any w k)
  have HK := Lib.hid (fun w => known_any w (plainP k))
  have HOK := Lib.hid ok
  have HST := Lib.hid h
  have hgl := h.lt
  obtain ⟨n, hne⟩ : ∃ n, L.length = n := ⟨_, rfl⟩
  have HN := Lib.hid hne
  rw [hne] at HCL hn ⊢
  clear h ok hv
  rw [hne] at hf
  clear hne
  rcases hf with ⟨hk1, rfl⟩ | ⟨hk1, ho, rfl⟩
  · rw [hk1] at HK
    go_enter Tryz.func68, Tryz.ntmps68
    go_wp2_with fail
    refine HCL.out.mono ?_
    rintro e1 w1 ⟨b1, g1, cap1, cur, rfl, hg1, hcur, hsz, hall⟩
    have hg2 : w.heap.size + 2 ≤ g1 := by simpa using hg1
    have hg3 := lt_of hcur
    have HB1 := Lib.hid (HB0.out.trans (b1.mono HB0.out.size))
    have HS1 := Lib.hid (HS0.out.none (Keeps.ofBelow b1))
    have HALL := Lib.hid (And.intro (show ∀ k y, L[k]? = some y → ∃ a c, ItemW w1 g1 (k * 15) cur y a c ∧ (0 < y.row.length → ∀ b off, a = some ⟨b, off, none⟩ → b < w.heap.size) from fun k y hy => by obtain ⟨a, c, h1, h2⟩ := hall k y hy; exact ⟨a, c, h1, fun hp b off e => state_bound HST.out HB0.out hy h2 hp e⟩) hcur)
    have hr1 : w1.heap[w.heap.size + 1]? = some (.cells #[.int .i64 0, .int .u32 0, .int .u32 0, .int .u32 0, .int .u32 0] 41 (0, 0)) := HS1.out.at 0 rfl
    have hc1 : w1.heap[w.heap.size]? = some (.cells #[.int .i64 k, .int .i64 obj, .int .u32 v.a, .int .u32 v.b, .int .u32 v.c, .int .u32 v.d, .int .u32 N] 38 (0, 0)) := HS1.out.at 1 rfl
    have hne5 : w.heap.size + 1 ≠ g1 := by omega
    have k0 := cell_of hc1 0
    have k1 := cell_of hc1 1
    have k2 := cell_of hc1 2
    have k3 := cell_of hc1 3
    have k4 := cell_of hc1 4
    have k5 := cell_of hc1 5
    have k6 := cell_of hc1 6
    have q0 := cell_of hr1 0
    have q1 := cell_of hr1 1
    have q2 := cell_of hr1 2
    have q3 := cell_of hr1 3
    have q4 := cell_of hr1 4
    have fq0 := free_of hr1 0
    have fq1 := free_of hr1 1
    have fq2 := free_of hr1 2
    have fq3 := free_of hr1 3
    have fq4 := free_of hr1 4
    simp only [List.getElem?_toArray, List.getElem?_cons_zero, List.getElem?_cons_succ] at q0 q1 q2 q3 q4 k0 k1 k2 k3 k4 k5 k6
    clear b1 hg1 hall hr1 hc1 HCL HB0 HS0 hcur
    go_wp2_with fail
    refine (HP.out _).mono ?_
    rintro e2 w2 ⟨rfl, hw2⟩
    obtain rfl := hw2.symm
    go_wp2_with fail
    refine (HK.out _).mono ?_
    rintro e3 w3 ⟨rfl, hw3⟩
    obtain rfl := hw3.symm
    go_wp2_with fail
    refine bodyPost_ret (v := .tuple #[.slice (some ⟨g1, 0, none⟩) n cap1, .agg (res0 1).cells]) (by simp [results, Tryz.results68, go_sem, q0, q1, q2, q3, q4, res0, W4.zero]) rfl ?_
    exact ⟨(((((HB1.out.setCell (p := ⟨w.heap.size + 1, 0, none⟩) (by show w.heap.size ≤ w.heap.size + 1; omega) _).setCell (p := ⟨w.heap.size + 1, 1, none⟩) (by show w.heap.size ≤ w.heap.size + 1; omega) _).setCell (p := ⟨w.heap.size + 1, 2, none⟩) (by show w.heap.size ≤ w.heap.size + 1; omega) _).setCell (p := ⟨w.heap.size + 1, 3, none⟩) (by show w.heap.size ≤ w.heap.size + 1; omega) _).setCell (p := ⟨w.heap.size + 1, 4, none⟩) (by show w.heap.size ≤ w.heap.size + 1; omega) _), g1, cap1, rfl, state_kept HALL.out.1 HALL.out.2 ((((((Keeps.refl (fun j => j = w.heap.size + 1) w1).setCell (p := ⟨w.heap.size + 1, 0, none⟩) (.inl rfl) _).setCell (p := ⟨w.heap.size + 1, 1, none⟩) (.inl rfl) _).setCell (p := ⟨w.heap.size + 1, 2, none⟩) (.inl rfl) _).setCell (p := ⟨w.heap.size + 1, 3, none⟩) (.inl rfl) _).setCell (p := ⟨w.heap.size + 1, 4, none⟩) (.inl rfl) _) (by omega) hne5⟩
  · rw [hk1] at HK
    go_enter Tryz.func68, Tryz.ntmps68
    go_wp2_with fail
    refine HCL.out.mono ?_
    rintro e1 w1 ⟨b1, g1, cap1, cur, rfl, hg1, hcur, hsz, hall⟩
    have hg2 : w.heap.size + 2 ≤ g1 := by simpa using hg1
    have hg3 := lt_of hcur
    have HB1 := Lib.hid (HB0.out.trans (b1.mono HB0.out.size))
    have HS1 := Lib.hid (HS0.out.none (Keeps.ofBelow b1))
    have HALL := Lib.hid (And.intro (show ∀ k y, L[k]? = some y → ∃ a c, ItemW w1 g1 (k * 15) cur y a c ∧ (0 < y.row.length → ∀ b off, a = some ⟨b, off, none⟩ → b < w.heap.size) from fun k y hy => by obtain ⟨a, c, h1, h2⟩ := hall k y hy; exact ⟨a, c, h1, fun hp b off e => state_bound HST.out HB0.out hy h2 hp e⟩) hcur)
    have hr1 : w1.heap[w.heap.size + 1]? = some (.cells #[.int .i64 0, .int .u32 0, .int .u32 0, .int .u32 0, .int .u32 0] 41 (0, 0)) := HS1.out.at 0 rfl
    have hc1 : w1.heap[w.heap.size]? = some (.cells #[.int .i64 k, .int .i64 obj, .int .u32 v.a, .int .u32 v.b, .int .u32 v.c, .int .u32 v.d, .int .u32 N] 38 (0, 0)) := HS1.out.at 1 rfl
    have hne5 : w.heap.size + 1 ≠ g1 := by omega
    have k0 := cell_of hc1 0
    have k1 := cell_of hc1 1
    have k2 := cell_of hc1 2
    have k3 := cell_of hc1 3
    have k4 := cell_of hc1 4
    have k5 := cell_of hc1 5
    have k6 := cell_of hc1 6
    have q0 := cell_of hr1 0
    have q1 := cell_of hr1 1
    have q2 := cell_of hr1 2
    have q3 := cell_of hr1 3
    have q4 := cell_of hr1 4
    have fq0 := free_of hr1 0
    have fq1 := free_of hr1 1
    have fq2 := free_of hr1 2
    have fq3 := free_of hr1 3
    have fq4 := free_of hr1 4
    simp only [List.getElem?_toArray, List.getElem?_cons_zero, List.getElem?_cons_succ] at q0 q1 q2 q3 q4 k0 k1 k2 k3 k4 k5 k6
    clear b1 hg1 hall hr1 hc1 HCL HB0 HS0 hcur
    go_wp2_with fail
    refine (HP.out _).mono ?_
    rintro e2 w2 ⟨rfl, hw2⟩
    obtain rfl := hw2.symm
    go_wp2_with fail
    refine (HK.out _).mono ?_
    rintro e3 w3 ⟨rfl, hw3⟩
    obtain rfl := hw3.symm
    by_cases h0 : obj < 0
    · have d0 : decide (obj < 0) = true := decide_eq_true h0
      go_wp2_with fail
      refine bodyPost_ret (v := .tuple #[.slice (some ⟨g1, 0, none⟩) n cap1, .agg (res0 4).cells]) (by simp [results, Tryz.results68, go_sem, q0, q1, q2, q3, q4, res0, W4.zero]) rfl ?_
      exact ⟨(((((HB1.out.setCell (p := ⟨w.heap.size + 1, 0, none⟩) (by show w.heap.size ≤ w.heap.size + 1; omega) _).setCell (p := ⟨w.heap.size + 1, 1, none⟩) (by show w.heap.size ≤ w.heap.size + 1; omega) _).setCell (p := ⟨w.heap.size + 1, 2, none⟩) (by show w.heap.size ≤ w.heap.size + 1; omega) _).setCell (p := ⟨w.heap.size + 1, 3, none⟩) (by show w.heap.size ≤ w.heap.size + 1; omega) _).setCell (p := ⟨w.heap.size + 1, 4, none⟩) (by show w.heap.size ≤ w.heap.size + 1; omega) _), g1, cap1, rfl, state_kept HALL.out.1 HALL.out.2 ((((((Keeps.refl (fun j => j = w.heap.size + 1) w1).setCell (p := ⟨w.heap.size + 1, 0, none⟩) (.inl rfl) _).setCell (p := ⟨w.heap.size + 1, 1, none⟩) (.inl rfl) _).setCell (p := ⟨w.heap.size + 1, 2, none⟩) (.inl rfl) _).setCell (p := ⟨w.heap.size + 1, 3, none⟩) (.inl rfl) _).setCell (p := ⟨w.heap.size + 1, 4, none⟩) (.inl rfl) _) (by omega) hne5⟩
    · have d0 : decide (obj < 0) = false := decide_eq_false h0
      have d1 : decide ((n : Int) ≤ obj) = true := decide_eq_true (by omega)
      go_wp2_with fail
      refine bodyPost_ret (v := .tuple #[.slice (some ⟨g1, 0, none⟩) n cap1, .agg (res0 4).cells]) (by simp [results, Tryz.results68, go_sem, q0, q1, q2, q3, q4, res0, W4.zero]) rfl ?_
      exact ⟨(((((HB1.out.setCell (p := ⟨w.heap.size + 1, 0, none⟩) (by show w.heap.size ≤ w.heap.size + 1; omega) _).setCell (p := ⟨w.heap.size + 1, 1, none⟩) (by show w.heap.size ≤ w.heap.size + 1; omega) _).setCell (p := ⟨w.heap.size + 1, 2, none⟩) (by show w.heap.size ≤ w.heap.size + 1; omega) _).setCell (p := ⟨w.heap.size + 1, 3, none⟩) (by show w.heap.size ≤ w.heap.size + 1; omega) _).setCell (p := ⟨w.heap.size + 1, 4, none⟩) (by show w.heap.size ≤ w.heap.size + 1; omega) _), g1, cap1, rfl, state_kept HALL.out.1 HALL.out.2 ((((((Keeps.refl (fun j => j = w.heap.size + 1) w1).setCell (p := ⟨w.heap.size + 1, 0, none⟩) (.inl rfl) _).setCell (p := ⟨w.heap.size + 1, 1, none⟩) (.inl rfl) _).setCell (p := ⟨w.heap.size + 1, 2, none⟩) (.inl rfl) _).setCell (p := ⟨w.heap.size + 1, 3, none⟩) (.inl rfl) _).setCell (p := ⟨w.heap.size + 1, 4, none⟩) (.inl rfl) _) (by omega) hne5⟩
end Go.Proofs.YtkhmfjfclpehfaaGreat
