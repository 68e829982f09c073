import Derived.Test.YtfniicgfnlklbacRqB
namespace Go.Proofs.Ytfniicgfnlklbac
open Go.ChangeShapes Go.WideShapes Go.ChangeAt Go.RowKit
set_option linter.unusedVariables false
theorem eqr (a b c d a' b' c' d' : Int) (w : World) : (Op.equalIn 10000 34 (.agg #[.int .i64 a, .int .i64 b, .int .i64 c, .int .u32 d]) (.agg #[.int .i64 a', .int .i64 b', .int .i64 c', .int .u32 d'])).run Try.prog w = .ok (eqW a b c d a' b' c' d') w := by
  have u3 := Try.underlying3
  have u4 := Try.underlying25
  have a3 := Try.isAgg3
  have a4 := Try.isAgg25
  have z3 := Try.sizeOf3
  have z4 := Try.sizeOf25
  have hS : Try.prog.underlying 34 = some (.struct (Try.prog.fieldsOf 34)) := by kernel_rfl
  have hp : Try.prog.stoodInHeld 34 = false := by kernel_rfl
  rw [show (10000 : Nat) = 9999 + 1 from rfl, run_equalIn_agg w 9999 34 _ _ hS hp]
  simp only [Program.fieldsOf, Try.underlying34]
  go_simp
  simp only [eqW]
  by_cases h1 : a = a' <;> by_cases h2 : b = b' <;> by_cases h3 : c = c' <;> by_cases h4 : d = d' <;> simp [h1, h2, h3, h4]
theorem eqW_self (a b c d : Int) : eqW a b c d a b c d = true := by simp [eqW]
attribute [local go_sem ↓ 2000] app_pre eqr eqw
attribute [local go_sem] app_run
theorem flat_cell {w : World} {B c E : Nat} {a : Option Addr} {L : List QN} (h : w.ownsRow B E 4 (.slice a L.length c) L.length (flat L)) {i : Nat} {x : QN} (hx : L[i]? = some x) :
    ∃ b, a = some ⟨b, 0, none⟩ ∧ b < w.heap.size ∧ w.cell? ⟨b, i * 4, none⟩ = some (.int .i64 x.t) ∧ w.cell? ⟨b, i * 4 + 1, none⟩ = some (.int .i64 x.k) ∧ w.cell? ⟨b, i * 4 + 2, none⟩ = some (.int .i64 x.o) ∧ w.cell? ⟨b, i * 4 + 3, none⟩ = some (.int .u32 (x.m : Int)) := by
  have hi := get_lt' hx
  obtain ⟨h1, h | ⟨g, cap, cur, e, hg, hb, hc1, hc2, hs, ht⟩⟩ := h
  · omega
  · cases e
    have key : ∀ j, j < 4 → w.cell? ⟨g, i * 4 + j, none⟩ = x.cells[j]? := by
      intro j hj
      rw [cell_of hb, ← flat_get L i j hj x hx, ← ht, List.getElem?_take, if_pos (by omega)]
      simp
    exact ⟨g, rfl, lt_of hb, key 0 (by omega), key 1 (by omega), key 2 (by omega), key 3 (by omega)⟩
set_option maxRecDepth 20000 in
theorem rnext_any (a : Option Addr) (c B i0 : Nat) (L : List QN) (t p : Int) (w : World) (h : DW w B (.slice a L.length c) L) (hl : L.length < 1000000) (hi : i0 ≤ L.length) (hp : p + 1 = (i0 : Int))
    (hpl : ∀ w1, DW w1 B (.slice a L.length c) L → Calls Try.prog 14 #[.slice a L.length c, .int .i64 t] w1 fun e w' => e = .returned (.int .i64 p) ∧ w' = w1) :
    Calls Try.prog 12 #[.slice a L.length c, .int .i64 t] w fun e w' => e = .returned (.tuple #[wv L[i0]?, .bool L[i0]?.isSome]) ∧ Below w.heap.size w w' := by
  obtain ⟨w1, hw1⟩ : ∃ w1, w.alloc (.cells #[.int .i64 0, .int .i64 0, .int .i64 0, .int .u32 0] 34) = w1 := ⟨_, rfl⟩
  have hb1 : Below w.heap.size w w1 := by rw [← hw1]; exact (Below.refl _ _).alloc (Nat.le_refl _) _
  have hn1 : w1.heap[w.heap.size]? = some (.cells #[.int .i64 0, .int .i64 0, .int .i64 0, .int .u32 0] 34 (0, 0)) := by rw [← hw1]; exact heap_new _ _
  have hd1 := h.below hb1
  have HC := Lib.hid (hpl w1 hd1)
  have c0 : w1.cell? ⟨w.heap.size, 0, none⟩ = some (.int .i64 0) := cell_of hn1 0
  have c1 : w1.cell? ⟨w.heap.size, 1, none⟩ = some (.int .i64 0) := cell_of hn1 1
  have c2 : w1.cell? ⟨w.heap.size, 2, none⟩ = some (.int .i64 0) := cell_of hn1 2
  have c3 : w1.cell? ⟨w.heap.size, 3, none⟩ = some (.int .u32 0) := cell_of hn1 3
  have f0 : w1.frozen? ⟨w.heap.size, 0, none⟩ = false := free_of hn1 0
  have f1 : w1.frozen? ⟨w.heap.size, 1, none⟩ = false := free_of hn1 1
  have f2 : w1.frozen? ⟨w.heap.size, 2, none⟩ = false := free_of hn1 2
  have f3 : w1.frozen? ⟨w.heap.size, 3, none⟩ = false := free_of hn1 3
  have l1 := lt_of hn1
  have HH := Lib.hid (And.intro hb1 hn1)
  have e1 : IntKind.i64.wrap (p + 1) = (i0 : Int) := by rw [hp, IntWalk.i64_in _ (by omega)]
  clear h hpl hb1 hn1
  by_cases hlt : i0 < L.length
  · obtain ⟨x, hx⟩ : ∃ x, L[i0]? = some x := ⟨_, List.getElem?_eq_getElem hlt⟩
    obtain ⟨b, rfl, hb, p0, p1, p2, p3⟩ := hd1.cell hx
    rw [hx]
    have d0 : decide ((i0 : Int) ≥ (L.length : Int)) = false := decide_eq_false (by omega)
    have d1 : decide ((L.length : Int) ≤ (i0 : Int)) = false := decide_eq_false (by omega)
    have d2 : decide (L.length ≤ i0) = false := decide_eq_false (by omega)
    clear hx hd1
    go_enter Try.func12, Try.ntmps12
    go_wp2_with fail
    refine HC.out.mono ?_
    rintro e w2 ⟨rfl, rfl⟩
    clear hw1
    go_wp2
    have h4 := set4 HH.out.2 (.int .i64 x.t) (.int .i64 x.k) (.int .i64 x.o) (.int .u32 (x.m : Int))
    have y0 := cell_of h4 0
    have y1 := cell_of h4 1
    have y2 := cell_of h4 2
    have y3 := cell_of h4 3
    refine bodyPost_ret (v := .tuple #[qv x, .bool true]) ?_ rfl ⟨rfl, below4 HH.out.1 (Nat.le_refl _) _ _ _ _⟩
    simp [results, Try.results12, go_sem, y0, y1, y2, y3, qv]
  · rw [List.getElem?_eq_none (by omega)]
    have d0 : decide ((i0 : Int) ≥ (L.length : Int)) = true := decide_eq_true (by omega)
    have d1 : decide ((L.length : Int) ≤ (i0 : Int)) = true := decide_eq_true (by omega)
    have d2 : decide (L.length ≤ i0) = true := decide_eq_true (by omega)
    clear hd1
    go_enter Try.func12, Try.ntmps12
    go_wp2_with fail
    refine HC.out.mono ?_
    rintro e w2 ⟨rfl, rfl⟩
    clear hw1
    go_wp2
    have h4 := set4 HH.out.2 (.int .i64 0) (.int .i64 0) (.int .i64 0) (.int .u32 0)
    have y0 := cell_of h4 0
    have y1 := cell_of h4 1
    have y2 := cell_of h4 2
    have y3 := cell_of h4 3
    refine bodyPost_ret (v := .tuple #[zv, .bool false]) ?_ rfl ⟨rfl, below4 HH.out.1 (Nat.le_refl _) _ _ _ _⟩
    simp [results, Try.results12, go_sem, y0, y1, y2, y3, zv]
set_option maxRecDepth 20000 in
theorem rsame_yes (a1 a2 : Option Addr) (c1 c2 B1 B2 n : Nat) (L : List QN) (w : World) (h1 : DW w B1 (.slice a1 L.length c1) L) (h2 : DW w B2 (.slice a2 L.length c2) L) (hn : L.length = n) (hl : n < 1000000) :
    Calls Try.prog 15 #[.slice a1 n c1, .slice a2 n c2] w fun e w' => e = .returned (.bool true) ∧ Below w.heap.size w w' := by
  subst hn
  have H1 := Lib.hid h1
  have H2 := Lib.hid h2
  clear h1 h2
  go_enter Try.func15, Try.ntmps15
  go_wp2_with fail
  go_loopw [5] (fun i wr => ∃ k : Nat, k ≤ L.length ∧ i = .int .i64 (k : Int) ∧ Below w.heap.size w wr) (fun i _ => L.length - (intOf i).toNat)
  case atStart => exact ⟨0, by omega, rfl, Below.refl _ _⟩
  case round =>
    obtain ⟨k, hk, rfl, hb⟩ := hrel
    have HB := Lib.hid hb
    clear hb
    by_cases hlt : k < L.length
    · have d0 : decide ((k : Int) < (L.length : Int)) = true := decide_eq_true (by omega)
      obtain ⟨x, hx⟩ : ∃ x, L[k]? = some x := ⟨_, List.getElem?_eq_getElem hlt⟩
      obtain ⟨b1, rfl, hb1, p0, p1, p2, p3⟩ := (H1.out.below HB.out).cell hx
      obtain ⟨b2, rfl, hb2, r0, r1, r2, r3⟩ := (H2.out.below HB.out).cell hx
      have hs := eqW_self x.t x.k x.o (x.m : Int)
      clear hx
      go_wp2_with fail
      go_region
      all_goals
        go_wp2
        go_roundw
        case rel => exact ⟨k + 1, by omega, by go_num, HB.out.drew⟩
        case measure => simp [intOf]; omega
    · have d0 : decide ((k : Int) < (L.length : Int)) = false := decide_eq_false (by omega)
      go_wp2
      go_ret
      exact ⟨rfl, HB.out⟩
set_option maxRecDepth 20000 in
theorem back_any (a : Option Addr) (c B : Nat) (L : List QN) (w : World) (h : w.ownsRow B 27 4 (.slice a L.length c) L.length (flat L)) (hl : L.length < 100000) :
    Calls Try.prog 16 #[.slice a L.length c] w fun e w' => (∃ a' c', e = .returned (.slice a' L.length c') ∧ DW w' w.heap.size (.slice a' L.length c') L) ∧ Below w.heap.size w w' := by
  have H := Lib.hid h
  clear h
  go_enter Try.func16, Try.ntmps16
  go_wp2_with fail
  obtain ⟨wz, rfl⟩ : ∃ wz : World, wz = w := ⟨_, rfl⟩
  go_loopw [3, 4] (fun v i wr => ∃ k : Nat, k ≤ L.length ∧ i = .int .i64 (k : Int) ∧ Below wz.heap.size wz wr ∧ DW wr wz.heap.size v (L.take k)) (fun _ i _ => L.length - (intOf i).toNat)
  case atStart => exact ⟨0, by omega, rfl, Below.refl _ _, World.ownsRow_nil _ _ _ _⟩
  case round =>
    obtain ⟨k, hk, rfl, hb, hd⟩ := hrel
    have HB := Lib.hid (And.intro hb hd)
    clear hb hd
    obtain ⟨a3, c3, rfl⟩ := HB.out.2.slice
    by_cases hlt : k < L.length
    · have d0 : decide ((k : Int) < (L.length : Int)) = true := decide_eq_true (by omega)
      obtain ⟨x, hx⟩ : ∃ x, L[k]? = some x := ⟨_, List.getElem?_eq_getElem hlt⟩
      obtain ⟨b1, rfl, hb1, p0, p1, p2, p3⟩ := flat_cell (owns_keeps H.out (keeps_of_below HB.out.1 (Nat.le_refl _) (fun _ => False)) (fun _ h => h.elim)) hx
      have htk : (L.take k).length = k := by rw [List.length_take]; omega
      have hbX : Below wr.heap.size wr (wr.alloc (.cells #[.int .i64 x.t, .int .i64 x.k, .int .i64 x.o, .int .u32 (x.m : Int)] 34)) := (Below.refl _ _).alloc (Nat.le_refl _) _
      obtain ⟨a4, c4, w4, hrun, hd4, hk4⟩ := last_app (x := x) (HB.out.2.below hbX) (Nat.le_trans HB.out.1.size hbX.size) (by omega) (heap_new wr _)
      have hb4 : Below wz.heap.size wz w4 := (HB.out.1.trans (hbX.mono HB.out.1.size)).trans (hk4.below (Nat.le_trans HB.out.1.size hbX.size) fun j _ hj => hj.1)
      have htk1 : L.take (k + 1) = L.take k ++ [x] := by rw [List.take_add_one, hx]; rfl
      have HD := Lib.hid (And.intro hb4 (And.intro hd4 htk1))
      rw [htk] at hrun ⊢
      clear hx hbX hd4 hk4 hb4 htk1
      go_wp2
      go_roundw
      case rel => exact ⟨k + 1, by omega, by go_num, HD.out.1, by rw [HD.out.2.2]; have := HD.out.2.1; rw [htk] at this; exact this⟩
      case measure => simp [intOf]; omega
    · obtain rfl : k = L.length := by omega
      have d0 : decide ((L.length : Int) < (L.length : Int)) = false := decide_eq_false (by omega)
      have hd := HB.out.2
      rw [List.take_length] at hd
      have HD := Lib.hid hd
      rw [List.take_length]
      clear hd
      go_wp2
      go_ret
      exact ⟨⟨_, _, rfl, HD.out⟩, HB.out.1⟩
set_option maxRecDepth 20000 in
theorem rof_any (a : Option Addr) (c B : Nat) (L : List QN) (obj : Int) (w : World) (h : DW w B (.slice a L.length c) L) (hl : L.length < 100000) :
    Calls Try.prog 19 #[.slice a L.length c, .int .i64 obj] w fun e w' => (∃ a' c', e = .returned (.slice a' (ofs L obj).length c') ∧ DW w' w.heap.size (.slice a' (ofs L obj).length c') (ofs L obj)) ∧ Below w.heap.size w w' := by
  have H := Lib.hid h
  clear h
  go_enter Try.func19, Try.ntmps19
  go_wp2_with fail
  obtain ⟨wz, rfl⟩ : ∃ wz : World, wz = w := ⟨_, rfl⟩
  go_loopw [5, 6] (fun v i wr => ∃ k : Nat, k ≤ L.length ∧ i = .int .i64 (k : Int) ∧ Below wz.heap.size wz wr ∧ DW wr wz.heap.size v (ofs (L.take k) obj)) (fun _ i _ => L.length - (intOf i).toNat)
  case atStart => exact ⟨0, by omega, rfl, Below.refl _ _, World.ownsRow_nil _ _ _ _⟩
  case round =>
    obtain ⟨k, hk, rfl, hb, hd⟩ := hrel
    have HB := Lib.hid (And.intro hb hd)
    clear hb hd
    obtain ⟨a3, c3, rfl⟩ := HB.out.2.slice
    have hol := ofs_le (L.take k) obj
    have htk : (L.take k).length = k := by rw [List.length_take]; omega
    by_cases hlt : k < L.length
    · have d0 : decide ((k : Int) < (L.length : Int)) = true := decide_eq_true (by omega)
      obtain ⟨x, hx⟩ : ∃ x, L[k]? = some x := ⟨_, List.getElem?_eq_getElem hlt⟩
      obtain ⟨b1, rfl, hb1, p0, p1, p2, p3⟩ := (H.out.below HB.out.1).cell hx
      have htk1 : L.take (k + 1) = L.take k ++ [x] := by rw [List.take_add_one, hx]; rfl
      by_cases ho : x.o = obj
      · have d1 : (x.o == obj) = true := beq_iff_eq.mpr ho
        have d2 : (x.o = obj) = True := eq_true ho
        have hbX : Below wr.heap.size wr (wr.alloc (.cells #[.int .i64 x.t, .int .i64 x.k, .int .i64 x.o, .int .u32 (x.m : Int)] 34)) := (Below.refl _ _).alloc (Nat.le_refl _) _
        obtain ⟨a4, c4, w4, hrun, hd4, hk4⟩ := last_app (x := x) (HB.out.2.below hbX) (Nat.le_trans HB.out.1.size hbX.size) (by omega) (heap_new wr _)
        have hb4 : Below wz.heap.size wz w4 := (HB.out.1.trans (hbX.mono HB.out.1.size)).trans (hk4.below (Nat.le_trans HB.out.1.size hbX.size) fun j _ hj => hj.1)
        have HD := Lib.hid (And.intro hb4 (And.intro hd4 (And.intro htk1 ho)))
        clear hx hbX hd4 hk4 hb4 htk1 ho
        go_wp2
        go_roundw
        case rel => exact ⟨k + 1, by omega, by go_num, HD.out.1, by rw [HD.out.2.2.1, ofs_hit _ _ _ HD.out.2.2.2]; exact HD.out.2.1⟩
        case measure => simp [intOf]; omega
      · have d1 : (x.o == obj) = false := beq_eq_false_iff_ne.mpr ho
        have d2 : (x.o = obj) = False := eq_false ho
        have HD := Lib.hid (And.intro htk1 ho)
        clear hx htk1 ho
        go_wp2
        go_roundw
        case rel => exact ⟨k + 1, by omega, by go_num, HB.out.1, by rw [HD.out.1, ofs_miss _ _ _ HD.out.2]; exact HB.out.2⟩
        case measure => simp [intOf]; omega
    · obtain rfl : k = L.length := by omega
      have d0 : decide ((L.length : Int) < (L.length : Int)) = false := decide_eq_false (by omega)
      have hd := HB.out.2
      rw [List.take_length] at hd
      have HD := Lib.hid hd
      rw [List.take_length]
      clear hd
      go_wp2
      go_ret
      exact ⟨⟨_, _, rfl, HD.out⟩, HB.out.1⟩
end Go.Proofs.Ytfniicgfnlklbac
