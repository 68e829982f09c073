import Derived.Test.YtdjfelabdofaaaaCodGz
namespace Go.Proofs.Ytdjfelabdofaaaa
open Go.ChangeShapes Go.WideShapes Go.ChangeAt Go.RowKit
set_option linter.unusedVariables false
set_option linter.unusedSimpArgs false
/-- The faults from k on are all that matter. -/
def OpsAt (F : Nat → List UInt8) (n k : Nat) : Prop := opsF F (n - 1) 1 = opsF F (n - k) k
theorem OpsAt.next {F : Nat → List UInt8} {n k : Nat} (h : OpsAt F n k) (hk : k < n) (hy : (opP F k).2 = 0) : OpsAt F n (k + 1) := by
  unfold OpsAt at *
  rw [h, show n - k = (n - (k + 1)) + 1 by omega]
  show (if (opP F k).2 = 0 then _ else _) = _
  rw [if_pos hy]
theorem OpsAt.bad {F : Nat → List UInt8} {n k : Nat} (h : OpsAt F n k) (hk : k < n) (hy : (opP F k).2 ≠ 0) : opsF F (n - 1) 1 = (opP F k).2 := by
  unfold OpsAt at h
  rw [h, show n - k = (n - (k + 1)) + 1 by omega]
  show (if (opP F k).2 = 0 then _ else _) = _
  rw [if_neg hy]
/-- What stands while a row's operands are stored. -/
structure PB (w wr : World) (N : Int) (A : Option Addr) (n c X g b : Nat) (T : Nat → Nat) (C : CallD) : Prop where
  row : wr.heap[w.heap.size]? = some (.cells #[.int .i64 N, .slice A n c] 78 (0, 0))
  res : wr.heap[w.heap.size + 1]? = some (.cells (callC zeroC) 81 (0, 0))
  call : wr.heap[X]? = some (.cells (callC C) 81 (0, 0))
  put : ∀ j, j < 6 → wr.cell? ⟨g, j, none⟩ = some (putV b T j)
  pb : wr.heap[b]? = some (.cells #[.pointer (some ⟨X, 0, none⟩)] 110 (0, 0))
  tos : ToAt wr (X + 1) X T 4
  nx : w.heap.size + 2 ≤ X
  ng : X < g
  nb : X < b
  gl : g < wr.heap.size
  below : Below w.heap.size w wr
theorem PB.keeps {w wr w' : World} {N : Int} {A : Option Addr} {n c X g b : Nat} {T : Nat → Nat} {C : CallD} (h : PB w wr N A n c X g b T C) (k : Keeps (fun _ => False) wr w') : PB w w' N A n c X g b T C :=
  ⟨k.at h.row fun h => h, k.at h.res fun h => h, k.at h.call fun h => h, fun j hj => (k.none.cell (p := ⟨g, j, none⟩) h.gl).trans (h.put j hj), k.at h.pb fun h => h,
    fun j hj => ⟨(h.tos j hj).1, k.at (h.tos j hj).2 fun h => h⟩, h.nx, h.ng, h.nb, Nat.lt_of_lt_of_le h.gl k.size, h.below.trans (k.none.mono h.below.size)⟩
theorem PB.store {w wr : World} {N : Int} {A : Option Addr} {n c X g b : Nat} {T : Nat → Nat} {C C' : CallD} (h : PB w wr N A n c X g b T C) (i : Nat) (v : Value) (he : callC C' = (callC C).setIfInBounds i v) : PB w (wr.setCell ⟨X, i, none⟩ v) N A n c X g b T C' := by
  have hnx := h.nx
  have hng := h.ng
  have hnb := h.nb
  refine ⟨heap_other h.row (by show w.heap.size ≠ X; omega) _, heap_other h.res (by show w.heap.size + 1 ≠ X; omega) _, by rw [he]; exact heap_set h.call i v, fun j hj => ?_, heap_other h.pb (by show b ≠ X; omega) _,
    fun j hj => ⟨(h.tos j hj).1, heap_other (h.tos j hj).2 (by show T j ≠ X; have := (h.tos j hj).1; omega) _⟩, h.nx, h.ng, h.nb, by rw [show (wr.setCell ⟨X, i, none⟩ v).heap.size = wr.heap.size by simp [World.setCell]]; exact h.gl, h.below.setCell (p := ⟨X, i, none⟩) (by show w.heap.size ≤ X; omega) _⟩
  rw [World.cell?_setCell_other _ _ _ _ (by intro e; injection e with e1; omega)]
  exact h.put j hj
theorem below_set7 {B R : Nat} {w W : World} (h : Below B w W) (hR : B ≤ R) (a0 a1 a2 a3 a4 a5 a6 : Value) : Below B w (((((((W.setCell ⟨R, 0, none⟩ a0).setCell ⟨R, 1, none⟩ a1).setCell ⟨R, 2, none⟩ a2).setCell ⟨R, 3, none⟩ a3).setCell ⟨R, 4, none⟩ a4).setCell ⟨R, 5, none⟩ a5).setCell ⟨R, 6, none⟩ a6) :=
  ((((((h.setCell (p := ⟨R, 0, none⟩) hR _).setCell (p := ⟨R, 1, none⟩) hR _).setCell (p := ⟨R, 2, none⟩) hR _).setCell (p := ⟨R, 3, none⟩) hR _).setCell (p := ⟨R, 4, none⟩) hR _).setCell (p := ⟨R, 5, none⟩) hR _).setCell (p := ⟨R, 6, none⟩) hR _
set_option maxRecDepth 100000 in
set_option maxHeartbeats 4000000 in
theorem parse_call (w : World) (N : Int) (A : Option Addr) (n c : Nat) (F : Nat → List UInt8) (hnm : n ≤ maxLen) (hr : StrRow w A n F) (hF : ∀ i, i < n → (F i).length ≤ 9223372036854775807) :
    Calls Try.prog 43 #[.agg #[.int .i64 N, .slice A n c]] w fun e w' => e = .returned (.tuple #[.agg (callC (parseC n F).1), .int .i64 (parseC n F).2]) ∧ Below w.heap.size w w' := by
  have hn63 : n ≤ 9223372036854775807 := by unfold maxLen at hnm; omega
  have HR := Lib.hid hr
  have HF := Lib.hid hF
  clear hr hF
  by_cases h0 : n = 0
  · subst h0
    have e : parseC 0 F = (zeroC, 4) := if_pos rfl
    rw [e]
    unfold zeroC callC
    clear e
    go_enter Try.func43, Try.ntmps43
    go_wp2_with fail
    refine wp_scope_again 0 (fun _ _ => False) (fun _ _ => 0) rfl (fun _ _ h => h.elim) ?_
    intro _
    go_wp2_with fail
    simp only [Exit.jump]
    refine bodyPost_ret (v := .tuple #[.agg #[.int .i64 0, .int .i64 0, .int .u32 0, .int .u32 0, .int .u32 0, .int .u32 0, .int .u32 0], .int .i64 4]) (by simp [results, Try.results43, go_sem]) rfl ?_
    exact ⟨rfl, ((Below.refl _ w).alloc (Nat.le_refl _) _).alloc (by simp) _⟩
  by_cases h7 : 7 < n
  · have e : parseC n F = (zeroC, 3) := by unfold parseC; rw [if_neg h0, if_pos h7]
    rw [e]
    unfold zeroC callC
    have d0 : ((n : Int) == 0) = false := by simpa using h0
    have d7 : decide ((7 : Int) < (n : Int)) = true := decide_eq_true (by omega)
    clear e h0 h7
    go_enter Try.func43, Try.ntmps43
    go_wp2_with fail
    refine wp_scope_again 0 (fun _ _ => False) (fun _ _ => 0) rfl (fun _ _ h => h.elim) ?_
    intro _
    go_wp2_with fail
    simp only [Exit.jump]
    refine bodyPost_ret (v := .tuple #[.agg #[.int .i64 0, .int .i64 0, .int .u32 0, .int .u32 0, .int .u32 0, .int .u32 0, .int .u32 0], .int .i64 3]) (by simp [results, Try.results43, go_sem]) rfl ?_
    exact ⟨rfl, ((Below.refl _ w).alloc (Nat.le_refl _) _).alloc (by simp) _⟩
  obtain ⟨ag, ao, rfl, hag, hac⟩ := HR.out (by omega)
  have d0 : ((n : Int) == 0) = false := by simpa using h0
  have d7 : decide ((7 : Int) < (n : Int)) = false := decide_eq_false (by omega)
  have d1 : decide (0 < n) = true := decide_eq_true (by omega)
  have hn1 : 1 ≤ n := by omega
  have hn7 : n ≤ 7 := by omega
  have ca : ∀ o1 o2, ((w.alloc o1).alloc o2).cell? ⟨ag, ao, none⟩ = some (.string ⟨(F 0).toArray⟩) := fun o1 o2 => by
    unfold World.cell?
    rw [Below.heap_alloc _ _ _ (by simp; omega), Below.heap_alloc _ _ _ hag]
    exact hac 0 (by omega)
  have HK := Lib.hid (fun w => kind_any w (F 0) (HF.out 0 (by omega)))
  have HPC := Lib.hid (show parseC n F = if (kindP (F 0)).2 = false then (zeroC, 3) else if opsF F (n - 1) 1 = 0 then (callO F n, 0) else (zeroC, opsF F (n - 1) 1) by unfold parseC; rw [if_neg h0, if_neg h7])
  have HC1 := Lib.hid (callO_one F)
  generalize hkk : (kindP (F 0)).1 = kk at HK HC1
  generalize hkb : (kindP (F 0)).2 = kb at HK HPC
  have HKK := Lib.hid (And.intro hkk hkb)
  clear h0 h7 hkk hkb
  generalize hfb : (⟨(F 0).toArray⟩ : ByteArray) = B0 at ca HK
  clear hfb
  go_enter Try.func43, Try.ntmps43
  go_wp2_with fail
  refine wp_scope_again 0 (fun _ _ => False) (fun _ _ => 0) rfl (fun _ _ h => h.elim) ?_
  intro _
  go_wp2_with fail
  refine (HK.out _).mono ?_
  rintro e1 w1 ⟨rfl, k1⟩
  have hr1 := k1.at (heap_old (heap_new w (.cells #[.int .i64 N, .slice (some ⟨ag, ao, none⟩) n c] 78)) (.cells (callC zeroC) 81)) fun h => h
  have hr2 := k1.at (heap_new (w.alloc (.cells #[.int .i64 N, .slice (some ⟨ag, ao, none⟩) n c] 78)) (.cells (callC zeroC) 81)) fun h => h
  rw [World.size_alloc] at hr2
  have HB1 := Lib.hid (show Below w.heap.size w w1 from ((((Keeps.refl (fun _ => False) w).alloc (.cells #[.int .i64 N, .slice (some ⟨ag, ao, none⟩) n c] 78)).alloc (.cells (callC zeroC) 81)).trans k1).none)
  have hz1 : w.heap.size + 2 ≤ w1.heap.size := by have := lt_of hr2; omega
  have q0 : w1.cell? ⟨w.heap.size + 1, 0, none⟩ = some (.int .i64 0) := cell_of hr2 0
  have q1 : w1.cell? ⟨w.heap.size + 1, 1, none⟩ = some (.int .i64 0) := cell_of hr2 1
  have q2 : w1.cell? ⟨w.heap.size + 1, 2, none⟩ = some (.int .u32 0) := cell_of hr2 2
  have q3 : w1.cell? ⟨w.heap.size + 1, 3, none⟩ = some (.int .u32 0) := cell_of hr2 3
  have q4 : w1.cell? ⟨w.heap.size + 1, 4, none⟩ = some (.int .u32 0) := cell_of hr2 4
  have q5 : w1.cell? ⟨w.heap.size + 1, 5, none⟩ = some (.int .u32 0) := cell_of hr2 5
  have q6 : w1.cell? ⟨w.heap.size + 1, 6, none⟩ = some (.int .u32 0) := cell_of hr2 6
  have f0 := free_of hr2 0
  have f1 := free_of hr2 1
  have f2 := free_of hr2 2
  have f3 := free_of hr2 3
  have f4 := free_of hr2 4
  have f5 := free_of hr2 5
  have f6 := free_of hr2 6
  have HRR := Lib.hid (And.intro hr1 hr2)
  clear k1 hr1 hr2
  cases kb with
  | false =>
    have HF2 := Lib.hid (show parseC n F = (zeroC, 3) by rw [HPC.out, if_pos rfl])
    go_wp2_with fail
    simp only [Exit.jump]
    refine bodyPost_ret (v := .tuple #[.agg #[.int .i64 0, .int .i64 0, .int .u32 0, .int .u32 0, .int .u32 0, .int .u32 0, .int .u32 0], .int .i64 3]) (by simp [results, Try.results43, go_sem, q0, q1, q2, q3, q4, q5, q6]) rfl ?_
    exact ⟨by rw [HF2.out]; rfl, below_set7 HB1.out (by omega) _ _ _ _ _ _ _⟩
  | true =>
    have HG := Lib.hid (show ∀ y, opsF F (n - 1) 1 = y → y ≠ 0 → parseC n F = (zeroC, y) from fun y h1 h2 => by rw [HPC.out, if_neg (by simp), h1, if_neg h2])
    have HG0 := Lib.hid (show opsF F (n - 1) 1 = 0 → parseC n F = (callO F n, 0) from fun h1 => by rw [HPC.out, if_neg (by simp), if_pos h1])
    clear q0 q1 q2 q3 q4 q5 q6 f0 f1 f2 f3 f4 f5 f6
    go_wp2_with fail
    refine (dest_any _ w1.heap.size).mono ?_
    rintro e3 w3 ⟨g, cap, b, T, rfl, hg, hput, hb, hpb, hto, hgl, hB3⟩
    rw [World.size_alloc] at hg hb hto hB3
    have HP := Lib.hid (show PB w w3 N (some ⟨ag, ao, none⟩) n c w1.heap.size g b T (callO F 1) from
      ⟨(hB3.block _ (by omega)).trans (heap_old HRR.out.1 _), (hB3.block _ (by omega)).trans (heap_old HRR.out.2 _), by rw [HC1.out]; exact (hB3.block _ (Nat.lt_succ_self _)).trans (heap_new w1 _),
        hput, hpb, hto, hz1, by omega, by omega, hgl, (HB1.out.alloc HB1.out.size _).trans (hB3.mono (by have := HB1.out.size; omega))⟩)
    obtain ⟨X, hX⟩ : ∃ X, X = w1.heap.size := ⟨_, rfl⟩
    rw [← hX] at HP ⊢
    clear hg hput hb hpb hto hgl hB3 HRR HC1 hX ca hac
    go_wp2_with fail
    try go_step3
    try go_wp2_with fail
    go_loopw [7, 9] (fun v7 i wr => ∃ k : Nat, 1 ≤ k ∧ k ≤ n ∧ i = .int .i64 (k : Int) ∧ v7 = .int .i64 0 ∧ OpsAt F n k ∧ PB w wr N (some ⟨ag, ao, none⟩) n c X g b T (callO F k)) (fun _ i _ => n - (intOf i).toNat)
    case atStart => exact ⟨1, by omega, hn1, rfl, rfl, rfl, HP.out⟩
    case round =>
      clear HP
      obtain ⟨k, hk1, hkn, rfl, rfl, hops, hpb⟩ := hrel
      have HP := Lib.hid hpb
      have HO := Lib.hid hops
      clear hpb hops
      have c0 : wr.cell? ⟨w.heap.size, 0, none⟩ = some (.int .i64 N) := cell_of HP.out.row 0
      have c1 : wr.cell? ⟨w.heap.size, 1, none⟩ = some (.slice (some ⟨ag, ao, none⟩) n c) := cell_of HP.out.row 1
      by_cases hlt : k < n
      · have dk : decide (k < n) = true := decide_eq_true hlt
        have hk6 : k ≤ 6 := by omega
        rcases (show k = 1 ∨ k = 2 ∨ k = 3 ∨ k = 4 ∨ k = 5 ∨ k = 6 by omega) with rfl | rfl | rfl | rfl | rfl | rfl
        · have hop : opP F 1 = parP (F 1) (-2147483648) 2147483647 := rfl
          have htk : takP F n ((1 : Nat) : Int) (-2147483648) 2147483647 = opP F 1 := by
            rw [hop]
            exact if_neg (by omega)
          have HT := Lib.hid (take_any wr N (some ⟨ag, ao, none⟩) n c F ((1 : Nat) : Int) (-2147483648) 2147483647 hnm (HR.out.below HP.out.below) HF.out (by omega) (by omega) (by omega))
          rw [htk] at HT
          have hxb := (opP_bound F 1).1 rfl
          generalize hx : (opP F 1).1 = x at HT hxb
          generalize hy : (opP F 1).2 = y at HT
          have HXY := Lib.hid (And.intro hx hy)
          clear hx hy hop htk
          go_wp2_with fail
          refine HT.out.mono ?_
          rintro e2 w2 ⟨rfl, k2⟩
          have HP2 := Lib.hid (HP.out.keeps k2)
          clear k2 c0 c1
          by_cases hy0 : y = 0
          · subst hy0
            have hpc : w2.cell? ⟨g, 0, none⟩ = some (.func (.func 62) #[] #[.pointer (some ⟨b, 0, none⟩)]) := HP2.out.put 0 (by omega)
            go_wp2_with fail
            refine (put1_any w2 b X x (callC (callO F 1)) HP2.out.pb HP2.out.call rfl).mono ?_
            rintro e3 w3 ⟨rfl, hw3⟩
            have HP3 := Lib.hid (show PB w w3 N (some ⟨ag, ao, none⟩) n c X g b T (callO F 2) by
              rw [hw3]
              exact HP2.out.store 1 _ (by rw [callO_step F 1 (by omega) (by omega), HXY.out.1]; rfl))
            clear hw3 hpc
            go_wp2_with fail
            go_roundw
            case rel => exact ⟨2, by omega, by omega, by go_num, rfl, HO.out.next (by omega) HXY.out.2, HP3.out⟩
            case measure => simp [intOf]; omega
          · have HF2 := Lib.hid (show parseC n F = (zeroC, y) by
              have ho : opsF F (n - 1) 1 = y := (HO.out.bad (by omega) (by rw [HXY.out.2]; exact hy0)).trans HXY.out.2
              exact HG.out y ho hy0)
            have hy1 : (y == 0) = false := by simpa using hy0
            have hy2 : (y != 0) = true := by simp only [bne, hy1]; rfl
            have q0 : w2.cell? ⟨w.heap.size + 1, 0, none⟩ = some (.int .i64 0) := cell_of HP2.out.res 0
            have q1 : w2.cell? ⟨w.heap.size + 1, 1, none⟩ = some (.int .i64 0) := cell_of HP2.out.res 1
            have q2 : w2.cell? ⟨w.heap.size + 1, 2, none⟩ = some (.int .u32 0) := cell_of HP2.out.res 2
            have q3 : w2.cell? ⟨w.heap.size + 1, 3, none⟩ = some (.int .u32 0) := cell_of HP2.out.res 3
            have q4 : w2.cell? ⟨w.heap.size + 1, 4, none⟩ = some (.int .u32 0) := cell_of HP2.out.res 4
            have q5 : w2.cell? ⟨w.heap.size + 1, 5, none⟩ = some (.int .u32 0) := cell_of HP2.out.res 5
            have q6 : w2.cell? ⟨w.heap.size + 1, 6, none⟩ = some (.int .u32 0) := cell_of HP2.out.res 6
            have f0 := free_of HP2.out.res 0
            have f1 := free_of HP2.out.res 1
            have f2 := free_of HP2.out.res 2
            have f3 := free_of HP2.out.res 3
            have f4 := free_of HP2.out.res 4
            have f5 := free_of HP2.out.res 5
            have f6 := free_of HP2.out.res 6
            clear hy0
            go_wp2_with fail
            try simp only [Exit.jump]
            refine bodyPost_ret (v := .tuple #[.agg #[.int .i64 0, .int .i64 0, .int .u32 0, .int .u32 0, .int .u32 0, .int .u32 0, .int .u32 0], .int .i64 y]) (by simp [results, Try.results43, go_sem, q0, q1, q2, q3, q4, q5, q6]) rfl ?_
            exact ⟨by rw [HF2.out]; rfl, below_set7 HP2.out.below (by omega) _ _ _ _ _ _ _⟩
        · have hop : opP F 2 = parP (F 2) 0 4294967295 := rfl
          have htk : takP F n ((2 : Nat) : Int) 0 4294967295 = opP F 2 := by
            rw [hop]
            exact if_neg (by omega)
          have HT := Lib.hid (take_any wr N (some ⟨ag, ao, none⟩) n c F ((2 : Nat) : Int) 0 4294967295 hnm (HR.out.below HP.out.below) HF.out (by omega) (by omega) (by omega))
          rw [htk] at HT
          have hxb := (opP_bound F 2).2 (by omega)
          generalize hx : (opP F 2).1 = x at HT hxb
          generalize hy : (opP F 2).2 = y at HT
          have HXY := Lib.hid (And.intro hx hy)
          clear hx hy hop htk
          go_wp2_with fail
          refine HT.out.mono ?_
          rintro e2 w2 ⟨rfl, k2⟩
          have HP2 := Lib.hid (HP.out.keeps k2)
          clear k2 c0 c1
          by_cases hy0 : y = 0
          · subst hy0
            have hpc : w2.cell? ⟨g, 1, none⟩ = some (.func (.func 63) #[] #[.pointer (some ⟨T 0, 0, none⟩)]) := HP2.out.put 1 (by omega)
            go_wp2_with fail
            refine (put2_any w2 (T 0) X 2 x hxb (callC (callO F 2)) (by omega) (HP2.out.tos 0 (by omega)).2 HP2.out.call rfl).mono ?_
            rintro e3 w3 ⟨rfl, hw3⟩
            have HP3 := Lib.hid (show PB w w3 N (some ⟨ag, ao, none⟩) n c X g b T (callO F 3) by
              rw [hw3]
              exact HP2.out.store 2 _ (by rw [callO_step F 2 (by omega) (by omega), HXY.out.1]; rfl))
            clear hw3 hpc
            go_wp2_with fail
            go_roundw
            case rel => exact ⟨3, by omega, by omega, by go_num, rfl, HO.out.next (by omega) HXY.out.2, HP3.out⟩
            case measure => simp [intOf]; omega
          · have HF2 := Lib.hid (show parseC n F = (zeroC, y) by
              have ho : opsF F (n - 1) 1 = y := (HO.out.bad (by omega) (by rw [HXY.out.2]; exact hy0)).trans HXY.out.2
              exact HG.out y ho hy0)
            have hy1 : (y == 0) = false := by simpa using hy0
            have hy2 : (y != 0) = true := by simp only [bne, hy1]; rfl
            have q0 : w2.cell? ⟨w.heap.size + 1, 0, none⟩ = some (.int .i64 0) := cell_of HP2.out.res 0
            have q1 : w2.cell? ⟨w.heap.size + 1, 1, none⟩ = some (.int .i64 0) := cell_of HP2.out.res 1
            have q2 : w2.cell? ⟨w.heap.size + 1, 2, none⟩ = some (.int .u32 0) := cell_of HP2.out.res 2
            have q3 : w2.cell? ⟨w.heap.size + 1, 3, none⟩ = some (.int .u32 0) := cell_of HP2.out.res 3
            have q4 : w2.cell? ⟨w.heap.size + 1, 4, none⟩ = some (.int .u32 0) := cell_of HP2.out.res 4
            have q5 : w2.cell? ⟨w.heap.size + 1, 5, none⟩ = some (.int .u32 0) := cell_of HP2.out.res 5
            have q6 : w2.cell? ⟨w.heap.size + 1, 6, none⟩ = some (.int .u32 0) := cell_of HP2.out.res 6
            have f0 := free_of HP2.out.res 0
            have f1 := free_of HP2.out.res 1
            have f2 := free_of HP2.out.res 2
            have f3 := free_of HP2.out.res 3
            have f4 := free_of HP2.out.res 4
            have f5 := free_of HP2.out.res 5
            have f6 := free_of HP2.out.res 6
            clear hy0
            go_wp2_with fail
            try simp only [Exit.jump]
            refine bodyPost_ret (v := .tuple #[.agg #[.int .i64 0, .int .i64 0, .int .u32 0, .int .u32 0, .int .u32 0, .int .u32 0, .int .u32 0], .int .i64 y]) (by simp [results, Try.results43, go_sem, q0, q1, q2, q3, q4, q5, q6]) rfl ?_
            exact ⟨by rw [HF2.out]; rfl, below_set7 HP2.out.below (by omega) _ _ _ _ _ _ _⟩
        · have hop : opP F 3 = parP (F 3) 0 4294967295 := rfl
          have htk : takP F n ((3 : Nat) : Int) 0 4294967295 = opP F 3 := by
            rw [hop]
            exact if_neg (by omega)
          have HT := Lib.hid (take_any wr N (some ⟨ag, ao, none⟩) n c F ((3 : Nat) : Int) 0 4294967295 hnm (HR.out.below HP.out.below) HF.out (by omega) (by omega) (by omega))
          rw [htk] at HT
          have hxb := (opP_bound F 3).2 (by omega)
          generalize hx : (opP F 3).1 = x at HT hxb
          generalize hy : (opP F 3).2 = y at HT
          have HXY := Lib.hid (And.intro hx hy)
          clear hx hy hop htk
          go_wp2_with fail
          refine HT.out.mono ?_
          rintro e2 w2 ⟨rfl, k2⟩
          have HP2 := Lib.hid (HP.out.keeps k2)
          clear k2 c0 c1
          by_cases hy0 : y = 0
          · subst hy0
            have hpc : w2.cell? ⟨g, 2, none⟩ = some (.func (.func 63) #[] #[.pointer (some ⟨T 1, 0, none⟩)]) := HP2.out.put 2 (by omega)
            go_wp2_with fail
            refine (put2_any w2 (T 1) X 3 x hxb (callC (callO F 3)) (by omega) (HP2.out.tos 1 (by omega)).2 HP2.out.call rfl).mono ?_
            rintro e3 w3 ⟨rfl, hw3⟩
            have HP3 := Lib.hid (show PB w w3 N (some ⟨ag, ao, none⟩) n c X g b T (callO F 4) by
              rw [hw3]
              exact HP2.out.store 3 _ (by rw [callO_step F 3 (by omega) (by omega), HXY.out.1]; rfl))
            clear hw3 hpc
            go_wp2_with fail
            go_roundw
            case rel => exact ⟨4, by omega, by omega, by go_num, rfl, HO.out.next (by omega) HXY.out.2, HP3.out⟩
            case measure => simp [intOf]; omega
          · have HF2 := Lib.hid (show parseC n F = (zeroC, y) by
              have ho : opsF F (n - 1) 1 = y := (HO.out.bad (by omega) (by rw [HXY.out.2]; exact hy0)).trans HXY.out.2
              exact HG.out y ho hy0)
            have hy1 : (y == 0) = false := by simpa using hy0
            have hy2 : (y != 0) = true := by simp only [bne, hy1]; rfl
            have q0 : w2.cell? ⟨w.heap.size + 1, 0, none⟩ = some (.int .i64 0) := cell_of HP2.out.res 0
            have q1 : w2.cell? ⟨w.heap.size + 1, 1, none⟩ = some (.int .i64 0) := cell_of HP2.out.res 1
            have q2 : w2.cell? ⟨w.heap.size + 1, 2, none⟩ = some (.int .u32 0) := cell_of HP2.out.res 2
            have q3 : w2.cell? ⟨w.heap.size + 1, 3, none⟩ = some (.int .u32 0) := cell_of HP2.out.res 3
            have q4 : w2.cell? ⟨w.heap.size + 1, 4, none⟩ = some (.int .u32 0) := cell_of HP2.out.res 4
            have q5 : w2.cell? ⟨w.heap.size + 1, 5, none⟩ = some (.int .u32 0) := cell_of HP2.out.res 5
            have q6 : w2.cell? ⟨w.heap.size + 1, 6, none⟩ = some (.int .u32 0) := cell_of HP2.out.res 6
            have f0 := free_of HP2.out.res 0
            have f1 := free_of HP2.out.res 1
            have f2 := free_of HP2.out.res 2
            have f3 := free_of HP2.out.res 3
            have f4 := free_of HP2.out.res 4
            have f5 := free_of HP2.out.res 5
            have f6 := free_of HP2.out.res 6
            clear hy0
            go_wp2_with fail
            try simp only [Exit.jump]
            refine bodyPost_ret (v := .tuple #[.agg #[.int .i64 0, .int .i64 0, .int .u32 0, .int .u32 0, .int .u32 0, .int .u32 0, .int .u32 0], .int .i64 y]) (by simp [results, Try.results43, go_sem, q0, q1, q2, q3, q4, q5, q6]) rfl ?_
            exact ⟨by rw [HF2.out]; rfl, below_set7 HP2.out.below (by omega) _ _ _ _ _ _ _⟩
        · have hop : opP F 4 = parP (F 4) 0 4294967295 := rfl
          have htk : takP F n ((4 : Nat) : Int) 0 4294967295 = opP F 4 := by
            rw [hop]
            exact if_neg (by omega)
          have HT := Lib.hid (take_any wr N (some ⟨ag, ao, none⟩) n c F ((4 : Nat) : Int) 0 4294967295 hnm (HR.out.below HP.out.below) HF.out (by omega) (by omega) (by omega))
          rw [htk] at HT
          have hxb := (opP_bound F 4).2 (by omega)
          generalize hx : (opP F 4).1 = x at HT hxb
          generalize hy : (opP F 4).2 = y at HT
          have HXY := Lib.hid (And.intro hx hy)
          clear hx hy hop htk
          go_wp2_with fail
          refine HT.out.mono ?_
          rintro e2 w2 ⟨rfl, k2⟩
          have HP2 := Lib.hid (HP.out.keeps k2)
          clear k2 c0 c1
          by_cases hy0 : y = 0
          · subst hy0
            have hpc : w2.cell? ⟨g, 3, none⟩ = some (.func (.func 63) #[] #[.pointer (some ⟨T 2, 0, none⟩)]) := HP2.out.put 3 (by omega)
            go_wp2_with fail
            refine (put2_any w2 (T 2) X 4 x hxb (callC (callO F 4)) (by omega) (HP2.out.tos 2 (by omega)).2 HP2.out.call rfl).mono ?_
            rintro e3 w3 ⟨rfl, hw3⟩
            have HP3 := Lib.hid (show PB w w3 N (some ⟨ag, ao, none⟩) n c X g b T (callO F 5) by
              rw [hw3]
              exact HP2.out.store 4 _ (by rw [callO_step F 4 (by omega) (by omega), HXY.out.1]; rfl))
            clear hw3 hpc
            go_wp2_with fail
            go_roundw
            case rel => exact ⟨5, by omega, by omega, by go_num, rfl, HO.out.next (by omega) HXY.out.2, HP3.out⟩
            case measure => simp [intOf]; omega
          · have HF2 := Lib.hid (show parseC n F = (zeroC, y) by
              have ho : opsF F (n - 1) 1 = y := (HO.out.bad (by omega) (by rw [HXY.out.2]; exact hy0)).trans HXY.out.2
              exact HG.out y ho hy0)
            have hy1 : (y == 0) = false := by simpa using hy0
            have hy2 : (y != 0) = true := by simp only [bne, hy1]; rfl
            have q0 : w2.cell? ⟨w.heap.size + 1, 0, none⟩ = some (.int .i64 0) := cell_of HP2.out.res 0
            have q1 : w2.cell? ⟨w.heap.size + 1, 1, none⟩ = some (.int .i64 0) := cell_of HP2.out.res 1
            have q2 : w2.cell? ⟨w.heap.size + 1, 2, none⟩ = some (.int .u32 0) := cell_of HP2.out.res 2
            have q3 : w2.cell? ⟨w.heap.size + 1, 3, none⟩ = some (.int .u32 0) := cell_of HP2.out.res 3
            have q4 : w2.cell? ⟨w.heap.size + 1, 4, none⟩ = some (.int .u32 0) := cell_of HP2.out.res 4
            have q5 : w2.cell? ⟨w.heap.size + 1, 5, none⟩ = some (.int .u32 0) := cell_of HP2.out.res 5
            have q6 : w2.cell? ⟨w.heap.size + 1, 6, none⟩ = some (.int .u32 0) := cell_of HP2.out.res 6
            have f0 := free_of HP2.out.res 0
            have f1 := free_of HP2.out.res 1
            have f2 := free_of HP2.out.res 2
            have f3 := free_of HP2.out.res 3
            have f4 := free_of HP2.out.res 4
            have f5 := free_of HP2.out.res 5
            have f6 := free_of HP2.out.res 6
            clear hy0
            go_wp2_with fail
            try simp only [Exit.jump]
            refine bodyPost_ret (v := .tuple #[.agg #[.int .i64 0, .int .i64 0, .int .u32 0, .int .u32 0, .int .u32 0, .int .u32 0, .int .u32 0], .int .i64 y]) (by simp [results, Try.results43, go_sem, q0, q1, q2, q3, q4, q5, q6]) rfl ?_
            exact ⟨by rw [HF2.out]; rfl, below_set7 HP2.out.below (by omega) _ _ _ _ _ _ _⟩
        · have hop : opP F 5 = parP (F 5) 0 4294967295 := rfl
          have htk : takP F n ((5 : Nat) : Int) 0 4294967295 = opP F 5 := by
            rw [hop]
            exact if_neg (by omega)
          have HT := Lib.hid (take_any wr N (some ⟨ag, ao, none⟩) n c F ((5 : Nat) : Int) 0 4294967295 hnm (HR.out.below HP.out.below) HF.out (by omega) (by omega) (by omega))
          rw [htk] at HT
          have hxb := (opP_bound F 5).2 (by omega)
          generalize hx : (opP F 5).1 = x at HT hxb
          generalize hy : (opP F 5).2 = y at HT
          have HXY := Lib.hid (And.intro hx hy)
          clear hx hy hop htk
          go_wp2_with fail
          refine HT.out.mono ?_
          rintro e2 w2 ⟨rfl, k2⟩
          have HP2 := Lib.hid (HP.out.keeps k2)
          clear k2 c0 c1
          by_cases hy0 : y = 0
          · subst hy0
            have hpc : w2.cell? ⟨g, 4, none⟩ = some (.func (.func 63) #[] #[.pointer (some ⟨T 3, 0, none⟩)]) := HP2.out.put 4 (by omega)
            go_wp2_with fail
            refine (put2_any w2 (T 3) X 5 x hxb (callC (callO F 5)) (by omega) (HP2.out.tos 3 (by omega)).2 HP2.out.call rfl).mono ?_
            rintro e3 w3 ⟨rfl, hw3⟩
            have HP3 := Lib.hid (show PB w w3 N (some ⟨ag, ao, none⟩) n c X g b T (callO F 6) by
              rw [hw3]
              exact HP2.out.store 5 _ (by rw [callO_step F 5 (by omega) (by omega), HXY.out.1]; rfl))
            clear hw3 hpc
            go_wp2_with fail
            go_roundw
            case rel => exact ⟨6, by omega, by omega, by go_num, rfl, HO.out.next (by omega) HXY.out.2, HP3.out⟩
            case measure => simp [intOf]; omega
          · have HF2 := Lib.hid (show parseC n F = (zeroC, y) by
              have ho : opsF F (n - 1) 1 = y := (HO.out.bad (by omega) (by rw [HXY.out.2]; exact hy0)).trans HXY.out.2
              exact HG.out y ho hy0)
            have hy1 : (y == 0) = false := by simpa using hy0
            have hy2 : (y != 0) = true := by simp only [bne, hy1]; rfl
            have q0 : w2.cell? ⟨w.heap.size + 1, 0, none⟩ = some (.int .i64 0) := cell_of HP2.out.res 0
            have q1 : w2.cell? ⟨w.heap.size + 1, 1, none⟩ = some (.int .i64 0) := cell_of HP2.out.res 1
            have q2 : w2.cell? ⟨w.heap.size + 1, 2, none⟩ = some (.int .u32 0) := cell_of HP2.out.res 2
            have q3 : w2.cell? ⟨w.heap.size + 1, 3, none⟩ = some (.int .u32 0) := cell_of HP2.out.res 3
            have q4 : w2.cell? ⟨w.heap.size + 1, 4, none⟩ = some (.int .u32 0) := cell_of HP2.out.res 4
            have q5 : w2.cell? ⟨w.heap.size + 1, 5, none⟩ = some (.int .u32 0) := cell_of HP2.out.res 5
            have q6 : w2.cell? ⟨w.heap.size + 1, 6, none⟩ = some (.int .u32 0) := cell_of HP2.out.res 6
            have f0 := free_of HP2.out.res 0
            have f1 := free_of HP2.out.res 1
            have f2 := free_of HP2.out.res 2
            have f3 := free_of HP2.out.res 3
            have f4 := free_of HP2.out.res 4
            have f5 := free_of HP2.out.res 5
            have f6 := free_of HP2.out.res 6
            clear hy0
            go_wp2_with fail
            try simp only [Exit.jump]
            refine bodyPost_ret (v := .tuple #[.agg #[.int .i64 0, .int .i64 0, .int .u32 0, .int .u32 0, .int .u32 0, .int .u32 0, .int .u32 0], .int .i64 y]) (by simp [results, Try.results43, go_sem, q0, q1, q2, q3, q4, q5, q6]) rfl ?_
            exact ⟨by rw [HF2.out]; rfl, below_set7 HP2.out.below (by omega) _ _ _ _ _ _ _⟩
        · have hop : opP F 6 = parP (F 6) 0 4294967295 := rfl
          have htk : takP F n ((6 : Nat) : Int) 0 4294967295 = opP F 6 := by
            rw [hop]
            exact if_neg (by omega)
          have HT := Lib.hid (take_any wr N (some ⟨ag, ao, none⟩) n c F ((6 : Nat) : Int) 0 4294967295 hnm (HR.out.below HP.out.below) HF.out (by omega) (by omega) (by omega))
          rw [htk] at HT
          have hxb := (opP_bound F 6).2 (by omega)
          generalize hx : (opP F 6).1 = x at HT hxb
          generalize hy : (opP F 6).2 = y at HT
          have HXY := Lib.hid (And.intro hx hy)
          clear hx hy hop htk
          go_wp2_with fail
          refine HT.out.mono ?_
          rintro e2 w2 ⟨rfl, k2⟩
          have HP2 := Lib.hid (HP.out.keeps k2)
          clear k2 c0 c1
          by_cases hy0 : y = 0
          · subst hy0
            have hpc : w2.cell? ⟨g, 5, none⟩ = some (.func (.func 64) #[] #[.pointer (some ⟨b, 0, none⟩)]) := HP2.out.put 5 (by omega)
            go_wp2_with fail
            refine (put3_any w2 b X x hxb (callC (callO F 6)) HP2.out.pb HP2.out.call rfl).mono ?_
            rintro e3 w3 ⟨rfl, hw3⟩
            have HP3 := Lib.hid (show PB w w3 N (some ⟨ag, ao, none⟩) n c X g b T (callO F 7) by
              rw [hw3]
              exact HP2.out.store 6 _ (by rw [callO_step F 6 (by omega) (by omega), HXY.out.1]; rfl))
            clear hw3 hpc
            go_wp2_with fail
            go_roundw
            case rel => exact ⟨7, by omega, by omega, by go_num, rfl, HO.out.next (by omega) HXY.out.2, HP3.out⟩
            case measure => simp [intOf]; omega
          · have HF2 := Lib.hid (show parseC n F = (zeroC, y) by
              have ho : opsF F (n - 1) 1 = y := (HO.out.bad (by omega) (by rw [HXY.out.2]; exact hy0)).trans HXY.out.2
              exact HG.out y ho hy0)
            have hy1 : (y == 0) = false := by simpa using hy0
            have hy2 : (y != 0) = true := by simp only [bne, hy1]; rfl
            have q0 : w2.cell? ⟨w.heap.size + 1, 0, none⟩ = some (.int .i64 0) := cell_of HP2.out.res 0
            have q1 : w2.cell? ⟨w.heap.size + 1, 1, none⟩ = some (.int .i64 0) := cell_of HP2.out.res 1
            have q2 : w2.cell? ⟨w.heap.size + 1, 2, none⟩ = some (.int .u32 0) := cell_of HP2.out.res 2
            have q3 : w2.cell? ⟨w.heap.size + 1, 3, none⟩ = some (.int .u32 0) := cell_of HP2.out.res 3
            have q4 : w2.cell? ⟨w.heap.size + 1, 4, none⟩ = some (.int .u32 0) := cell_of HP2.out.res 4
            have q5 : w2.cell? ⟨w.heap.size + 1, 5, none⟩ = some (.int .u32 0) := cell_of HP2.out.res 5
            have q6 : w2.cell? ⟨w.heap.size + 1, 6, none⟩ = some (.int .u32 0) := cell_of HP2.out.res 6
            have f0 := free_of HP2.out.res 0
            have f1 := free_of HP2.out.res 1
            have f2 := free_of HP2.out.res 2
            have f3 := free_of HP2.out.res 3
            have f4 := free_of HP2.out.res 4
            have f5 := free_of HP2.out.res 5
            have f6 := free_of HP2.out.res 6
            clear hy0
            go_wp2_with fail
            try simp only [Exit.jump]
            refine bodyPost_ret (v := .tuple #[.agg #[.int .i64 0, .int .i64 0, .int .u32 0, .int .u32 0, .int .u32 0, .int .u32 0, .int .u32 0], .int .i64 y]) (by simp [results, Try.results43, go_sem, q0, q1, q2, q3, q4, q5, q6]) rfl ?_
            exact ⟨by rw [HF2.out]; rfl, below_set7 HP2.out.below (by omega) _ _ _ _ _ _ _⟩
      · obtain rfl : k = n := by omega
        have HF2 := Lib.hid (show parseC k F = (callO F k, 0) from HG0.out (by have h : opsF F (k - 1) 1 = opsF F (k - k) k := HO.out; rw [h, Nat.sub_self]; rfl))
        have dk : decide (k < k) = false := decide_eq_false (by omega)
        obtain ⟨C, hC⟩ : ∃ C, C = callO F k := ⟨_, rfl⟩
        rw [← hC] at HF2 HP
        clear hC
        obtain ⟨a0, a1, a2, a3, a4, a5, a6⟩ := C
        have x0 : wr.cell? ⟨X, 0, none⟩ = some (.int .i64 a0) := cell_of HP.out.call 0
        have x1 : wr.cell? ⟨X, 1, none⟩ = some (.int .i64 a1) := cell_of HP.out.call 1
        have x2 : wr.cell? ⟨X, 2, none⟩ = some (.int .u32 a2) := cell_of HP.out.call 2
        have x3 : wr.cell? ⟨X, 3, none⟩ = some (.int .u32 a3) := cell_of HP.out.call 3
        have x4 : wr.cell? ⟨X, 4, none⟩ = some (.int .u32 a4) := cell_of HP.out.call 4
        have x5 : wr.cell? ⟨X, 5, none⟩ = some (.int .u32 a5) := cell_of HP.out.call 5
        have x6 : wr.cell? ⟨X, 6, none⟩ = some (.int .u32 a6) := cell_of HP.out.call 6
        have q0 : wr.cell? ⟨w.heap.size + 1, 0, none⟩ = some (.int .i64 0) := cell_of HP.out.res 0
        have q1 : wr.cell? ⟨w.heap.size + 1, 1, none⟩ = some (.int .i64 0) := cell_of HP.out.res 1
        have q2 : wr.cell? ⟨w.heap.size + 1, 2, none⟩ = some (.int .u32 0) := cell_of HP.out.res 2
        have q3 : wr.cell? ⟨w.heap.size + 1, 3, none⟩ = some (.int .u32 0) := cell_of HP.out.res 3
        have q4 : wr.cell? ⟨w.heap.size + 1, 4, none⟩ = some (.int .u32 0) := cell_of HP.out.res 4
        have q5 : wr.cell? ⟨w.heap.size + 1, 5, none⟩ = some (.int .u32 0) := cell_of HP.out.res 5
        have q6 : wr.cell? ⟨w.heap.size + 1, 6, none⟩ = some (.int .u32 0) := cell_of HP.out.res 6
        have f0 := free_of HP.out.res 0
        have f1 := free_of HP.out.res 1
        have f2 := free_of HP.out.res 2
        have f3 := free_of HP.out.res 3
        have f4 := free_of HP.out.res 4
        have f5 := free_of HP.out.res 5
        have f6 := free_of HP.out.res 6
        go_wp2_with fail
        try simp only [Exit.jump]
        refine bodyPost_ret (v := .tuple #[.agg #[.int .i64 a0, .int .i64 a1, .int .u32 a2, .int .u32 a3, .int .u32 a4, .int .u32 a5, .int .u32 a6], .int .i64 0]) (by simp [results, Try.results43, go_sem, q0, q1, q2, q3, q4, q5, q6]) rfl ?_
        exact ⟨by rw [HF2.out]; rfl, below_set7 HP.out.below (by omega) _ _ _ _ _ _ _⟩
end Go.Proofs.Ytdjfelabdofaaaa
