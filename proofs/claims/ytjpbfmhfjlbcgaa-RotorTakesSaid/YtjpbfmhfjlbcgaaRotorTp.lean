import Derived.Test.YtjpbfmhfjlbcgaaRotorTh
import Derived.Deep.OwnRows
namespace Go.Proofs.Ytjpbfmhfjlbcgaa
open Go.ChangeShapes Go.WideShapes Go.ChangeAt Go.RowKit
set_option linter.unusedVariables false
set_option linter.unusedSimpArgs false
/-- What the program's Take stands on. -/
structure CT (w wr : World) (x y a b c d p : Int) (PB G : Nat) (S1 S2 S3 S4 : Nat) : Prop where
  rb : RB 29 w wr x y a b c d p
  red : Red wr PB p
  g : wr.heap[G]? = some (.cells #[.complex .f64 S1 S2, .complex .f64 S3 S4] 57 (0, 0))
theorem CT.none {w wr w2 : World} {x y a b c d p : Int} {PB G S1 S2 S3 S4 : Nat} (h : CT w wr x y a b c d p PB G S1 S2 S3 S4) (k : Keeps (fun _ => False) wr w2) : CT w w2 x y a b c d p PB G S1 S2 S3 S4 :=
  ⟨h.rb.none k, h.red.none k, k.at h.g fun h => h⟩
theorem CT.last {w wr : World} {x y a b c d p : Int} {PB S1 S2 S3 S4 : Nat} (h : RB 29 w wr x y a b c d p) (hR : Red wr PB p) : CT w (wr.alloc (.cells #[.complex .f64 S1 S2, .complex .f64 S3 S4] 57)) x y a b c d p PB wr.heap.size S1 S2 S3 S4 :=
  ⟨h.none ((Keeps.refl _ _).alloc _), hR.none ((Keeps.refl _ _).alloc _), heap_new _ _⟩
theorem CT.early {w wr : World} {x y a b c d p : Int} {PB X S1 S2 S3 S4 : Nat} {z z' : Value} (h : RB 29 w wr x y a b c d p) (hg : wr.heap[X]? = some (.cells #[z, z'] 57 (0, 0))) (hR : Red wr PB p) (hX : w.heap.size ≤ X) : CT w ((wr.setCell ⟨X, 0, Option.none⟩ (.complex .f64 S1 S2)).setCell ⟨X, 1, Option.none⟩ (.complex .f64 S3 S4)) x y a b c d p PB X S1 S2 S3 S4 := by
  have e0 := heap_set hg 0 (.complex .f64 S1 S2)
  have e1 := heap_set e0 1 (.complex .f64 S3 S4)
  exact ⟨(h.other hg (by decide) hX 0 _).other e0 (by decide) hX 1 _, (hR.other hg (by decide) (by decide) 0 _).other e0 (by decide) (by decide) 1 _, e1⟩
/-- What the program's Take stands on behind its make. -/
structure CU (w wr : World) (x y a b c d p : Int) (PB Q G GL n : Nat) (S1 S2 S3 S4 : Nat) (row : Nat → Int) : Prop where
  rb : RB 29 w wr x y a b c d p
  r1 : wr.heap[PB]? = some (.cells #[.func (.func 28) #[] #[.pointer (some ⟨Q, 0, Option.none⟩)]] 65 (0, 0))
  r2 : wr.heap[Q]? = some (.cells #[.int .i64 p] 3 (0, 0))
  g : wr.heap[G]? = some (.cells #[.complex .f64 S1 S2, .complex .f64 S3 S4] 57 (0, 0))
  l : ∃ cs : Array Value, wr.heap[GL]? = some (.cells cs 3 (0, 0)) ∧ cs.size = n ∧ ∀ k, k < n → cs[k]? = some (.int .i64 (row k))
  lt : Q < GL
  le : w.heap.size ≤ GL
theorem CU.red {w wr : World} {x y a b c d p : Int} {PB Q G GL n S1 S2 S3 S4 : Nat} {row : Nat → Int} (h : CU w wr x y a b c d p PB Q G GL n S1 S2 S3 S4 row) : Red wr PB p := ⟨Q, h.r1, h.r2⟩
theorem CU.none {w wr w2 : World} {x y a b c d p : Int} {PB Q G GL n S1 S2 S3 S4 : Nat} {row : Nat → Int} (h : CU w wr x y a b c d p PB Q G GL n S1 S2 S3 S4 row) (k : Keeps (fun _ => False) wr w2) : CU w w2 x y a b c d p PB Q G GL n S1 S2 S3 S4 row := by
  obtain ⟨cs, h1, h2, h3⟩ := h.l
  exact ⟨h.rb.none k, k.at h.r1 fun h => h, k.at h.r2 fun h => h, k.at h.g fun h => h, ⟨cs, k.at h1 fun h => h, h2, h3⟩, h.lt, h.le⟩
theorem CU.set {w wr : World} {x y a b c d p : Int} {PB Q G GL n S1 S2 S3 S4 : Nat} {row row' : Nat → Int} (h : CU w wr x y a b c d p PB Q G GL n S1 S2 S3 S4 row) (j : Nat) (hj : j < n) (u : Int) (hr : ∀ k, k < n → row' k = if k = j then u else row k) : CU w (wr.setCell ⟨GL, j, Option.none⟩ (.int .i64 u)) x y a b c d p PB Q G GL n S1 S2 S3 S4 row' := by
  obtain ⟨cs, h1, h2, h3⟩ := h.l
  refine ⟨h.rb.other h1 (by decide) h.le j _, heap_other h.r1 (differ h.r1 h1 (by decide)) _, heap_other h.r2 (by have := h.lt; simp; omega) _, heap_other h.g (differ h.g h1 (by decide)) _, ⟨_, heap_set h1 j _, by simp [h2], fun k hk => ?_⟩, h.lt, h.le⟩
  rw [hr k hk, Array.getElem?_setIfInBounds]
  by_cases e : k = j
  · subst e
    simp [h2, hj]
  · rw [if_neg (fun h => e h.symm), if_neg e]
    exact h3 k hk
theorem CU.eq {w wr : World} {x y a b c d p : Int} {PB Q G GL n S1 S2 S3 S4 : Nat} {row row' : Nat → Int} (h : CU w wr x y a b c d p PB Q G GL n S1 S2 S3 S4 row) (hr : ∀ k, k < n → row' k = row k) : CU w wr x y a b c d p PB Q G GL n S1 S2 S3 S4 row' := by
  obtain ⟨cs, h1, h2, h3⟩ := h.l
  exact ⟨h.rb, h.r1, h.r2, h.g, ⟨cs, h1, h2, fun k hk => by rw [hr k hk]; exact h3 k hk⟩, h.lt, h.le⟩
theorem CU.own {w wr : World} {x y a b c d p : Int} {PB Q G GL n S1 S2 S3 S4 : Nat} {row : Nat → Int} (h : CU w wr x y a b c d p PB Q G GL n S1 S2 S3 S4 row) : Row wr (some ⟨GL, 0, Option.none⟩) n row := by
  obtain ⟨cs, h1, h2, h3⟩ := h.l
  exact fun hn => ⟨GL, 0, rfl, lt_of h1, fun i hi => by rw [Nat.zero_add]; exact (cell_of h1 i).trans (h3 i hi)⟩
theorem CU.fin {w wr : World} {x y a b c d p x' y' a' b' c' d' p' : Int} {PB Q G GL n S1 S2 S3 S4 : Nat} {row : Nat → Int} (h : CU w wr x y a b c d p PB Q G GL n S1 S2 S3 S4 row) : Row (((((((wr.setCell ⟨w.heap.size + 1, 0, Option.none⟩ (.int .i64 x')).setCell ⟨w.heap.size + 1, 1, Option.none⟩ (.int .i64 y')).setCell ⟨w.heap.size + 1, 2, Option.none⟩ (.int .i64 a')).setCell ⟨w.heap.size + 1, 3, Option.none⟩ (.int .i64 b')).setCell ⟨w.heap.size + 1, 4, Option.none⟩ (.int .i64 c')).setCell ⟨w.heap.size + 1, 5, Option.none⟩ (.int .i64 d')).setCell ⟨w.heap.size + 1, 6, Option.none⟩ (.int .i64 p')).drew (some ⟨GL, 0, Option.none⟩) n row := by
  obtain ⟨cs, h1, h2, h3⟩ := h.l
  have hne : GL ≠ w.heap.size + 1 := differ h1 h.rb.res (by decide)
  have h4 := heap_drew (heap_other (heap_other (heap_other (heap_other (heap_other (heap_other (heap_other h1 (a := ⟨w.heap.size + 1, 0, Option.none⟩) hne (.int .i64 x')) (a := ⟨w.heap.size + 1, 1, Option.none⟩) hne (.int .i64 y')) (a := ⟨w.heap.size + 1, 2, Option.none⟩) hne (.int .i64 a')) (a := ⟨w.heap.size + 1, 3, Option.none⟩) hne (.int .i64 b')) (a := ⟨w.heap.size + 1, 4, Option.none⟩) hne (.int .i64 c')) (a := ⟨w.heap.size + 1, 5, Option.none⟩) hne (.int .i64 d')) (a := ⟨w.heap.size + 1, 6, Option.none⟩) hne (.int .i64 p'))
  exact fun hn => ⟨GL, 0, rfl, lt_of h4, fun i hi => by rw [Nat.zero_add]; exact (cell_of h4 i).trans (h3 i hi)⟩
theorem CU.put {w wr : World} {x y a b c d p x' y' : Int} {PB Q G GL n S1 S2 S3 S4 : Nat} {row : Nat → Int} (h : CU w wr x y a b c d p PB Q G GL n S1 S2 S3 S4 row) : CU w ((wr.setCell ⟨w.heap.size, 0, Option.none⟩ (.int .i64 x')).setCell ⟨w.heap.size, 1, Option.none⟩ (.int .i64 y')) x' y' a b c d p PB Q G GL n S1 S2 S3 S4 row := by
  obtain ⟨cs, h1, h2, h3⟩ := h.l
  have n1 : GL ≠ w.heap.size := differ h1 h.rb.one (by decide)
  have n2 : PB ≠ w.heap.size := differ h.r1 h.rb.one (by decide)
  have n3 : Q ≠ w.heap.size := differ h.r2 h.rb.one (by decide)
  have n4 : G ≠ w.heap.size := differ h.g h.rb.one (by decide)
  exact ⟨h.rb.put2n, heap_other (heap_other h.r1 n2 _) n2 _, heap_other (heap_other h.r2 n3 _) n3 _, heap_other (heap_other h.g n4 _) n4 _, ⟨cs, heap_other (heap_other h1 n1 _) n1 _, h2, h3⟩, h.lt, h.le⟩
set_option maxRecDepth 20000 in
set_option maxHeartbeats 4000000 in
theorem ptake_words (x y a b c d p levels calm : Int) (n : Nat) (w : World) (S1 S2 S3 S4 : Nat) (zx zy : Nat → Nat) (h : rightR x y a b c d p = true) (hn : n ≤ 65536) (hl : 0 ≤ levels ∧ levels ≤ 31) (hc : 1 ≤ calm ∧ calm ≤ 1000)
    (ho : ∀ w, Calls Try.prog 22 #[.agg (rCells x y a b c d p)] w fun e w' => e = .returned (.agg #[.complex .f64 S1 S2, .complex .f64 S3 S4]) ∧ Keeps (fun _ => False) w w')
    (hof : ∀ (PB : Nat) (i : Nat) (w : World), Red w PB p → Calls Try.prog 25 #[.agg #[.complex .f64 S1 S2, .complex .f64 S3 S4], .complex .f64 (zx i) (zy i), .func (.func 29) #[] #[.pointer (some ⟨PB, 0, none⟩)]] w fun e w' => e = .returned (.complex .f64 (zx (i + 1)) (zy (i + 1))) ∧ Keeps (fun _ => False) w w')
    (U V : Nat → Int) (hUV : ∀ i, (0 ≤ U i ∧ U i ≤ 1000) ∧ (0 ≤ V i ∧ V i ≤ 1000)) (hp : 0 < p ∧ p ≤ 1000) (hU0 : U 0 = x ∧ V 0 = y)
    (hwh : ∀ (i : Nat) (w : World), Calls Try.prog 24 #[.complex .f64 (zx i) (zy i)] w fun e w' => e = .returned (.agg #[.int .i64 (U i), .int .i64 (V i)]) ∧ Keeps (fun _ => False) w w')
    (hpl : ∀ w, Calls Try.prog 26 #[.agg #[.int .i64 x, .int .i64 y]] w fun e w' => e = .returned (.complex .f64 (zx 0) (zy 0)) ∧ Keeps (fun _ => False) w w') :
    Calls Try.prog 15 #[.agg (rCells x y a b c d p), .int .i64 (n : Int), .int .i64 levels, .int .i64 calm] w fun e w' => ∃ GL, e = .returned (.tuple #[.slice (some ⟨GL, 0, none⟩) n n, .agg (rCells (U n) (V n) a b c d p), .bool true]) ∧ Row w' (some ⟨GL, 0, none⟩) n (fun k => choice p levels calm (U (k + 1), V (k + 1))) ∧ Keeps (fun _ => False) w w' := by
  have HB := Lib.hid (RB.new 29 w x y a b c d p)
  have H := Lib.hid h
  have HO := Lib.hid ho
  have HPl := Lib.hid hpl
  have HOf := Lib.hid hof
  have HWh := Lib.hid hwh
  have HUV := Lib.hid (And.intro hUV (And.intro hp (And.intro hl hc)))
  have hst := store_cx
  have d0 : decide ((n : Int) < 0) = false := decide_eq_false (by omega)
  have d1 : decide (65536 < (n : Int)) = false := decide_eq_false (by omega)
  have d2 : decide (levels < 0) = false := decide_eq_false (by omega)
  have d3 : decide (31 < levels) = false := decide_eq_false (by omega)
  have d4 : decide (calm < 1) = false := decide_eq_false (by omega)
  have d5 : decide (1000 < calm) = false := decide_eq_false (by omega)
  clear h ho hpl hof hwh hUV hp
  go_enter Try.func15, Try.ntmps15
  go_wp2_with fail
  refine (pright_any _ _ _ _ _ _ _ _).mono ?_
  rintro e w1 ⟨rfl, k1⟩
  rw [H.out]
  replace HB := Lib.hid ((HB.out.none k1).none (Keeps.refl _ _).drew)
  clear k1
  obtain ⟨x0, x1, x2, x3, x4, x5, x6⟩ := seven_cells (show w1.heap[w.heap.size]? = _ from HB.out.one)
  go_wp2_with fail
  rename_i K hK
  have REST : ∀ (PB G : Nat) (wr : World) (u18 u19 u20 u21 u22 u23 u24 u25 u26 u27 u28 u29 u30 u31 u32 u33 u34 u35 u36 u37 u38 u39 u40 u41 u42 u43 u44 u45 u46 u47 u48 u49 u50 u51 u52 u53 : Value), CT w wr x y a b c d p PB G S1 S2 S3 S4 → K { tmps := #[.agg (rCells x y a b c d p), .int .i64 (n : Int), .int .i64 levels, .int .i64 calm, .pointer (some ⟨w.heap.size, 0, none⟩), undef, undef, undef, .slice none 0 0, .pointer (some ⟨w.heap.size + 1, 0, none⟩), .bool false, .func (.func 29) #[] #[.pointer (some ⟨PB, 0, none⟩)], .pointer (some ⟨G, 0, none⟩), .complex .f64 (zx 0) (zy 0), undef, undef, undef, undef, u18, u19, u20, u21, u22, u23, u24, u25, u26, u27, u28, u29, u30, u31, u32, u33, u34, u35, u36, u37, u38, u39, u40, u41, u42, u43, u44, u45, u46, u47, u48, u49, u50, u51, u52, u53, undef, undef, undef, undef, undef, undef, undef, undef, undef, undef, undef, undef, undef, undef, undef, undef, undef, undef, undef, undef, undef, undef, undef, undef, undef, undef, undef, undef, undef, undef, undef, undef, undef, undef, undef, undef, undef, undef, undef], defers := [] } wr := by
    intro PB G wr u18 u19 u20 u21 u22 u23 u24 u25 u26 u27 u28 u29 u30 u31 u32 u33 u34 u35 u36 u37 u38 u39 u40 u41 u42 u43 u44 u45 u46 u47 u48 u49 u50 u51 u52 u53 hC
    have HC := Lib.hid hC
    refine hK _ _ ?_
    clear hK HB hC x0 x1 x2 x3 x4 x5 x6
    have hmk := fun w => run_make_row' (P := Try.prog) 41 3 (.int .i64 0) 8 Try.underlying41 Try.infoD rfl .i64 .i64 n (by omega) (by omega) w
    go_wp2_with fail
    have HG := Lib.hid (show w.heap.size ≤ wr.heap.size from HC.out.rb.keeps.size)
    obtain ⟨Q, hq1, hq2⟩ := HC.out.red
    have HQ := Lib.hid (And.intro hq1 (And.intro hq2 (lt_of hq2)))
    clear hq1 hq2
    replace HC := Lib.hid (HC.out.none ((Keeps.refl _ _).alloc (.cells (madeCells #[.int .i64 0] n) 3)))
    have HN0 := Lib.hid (heap_new wr (.cells (madeCells #[.int .i64 0] n) 3))
    have HU0 := Lib.hid (show CU w (wr.alloc (.cells (madeCells #[.int .i64 0] n) 3)) x y a b c d p PB Q G wr.heap.size n S1 S2 S3 S4 (fun _ => 0) from
      ⟨HC.out.rb, heap_old HQ.out.1 _, heap_old HQ.out.2.1 _, HC.out.g, ⟨_, HN0.out, size_madeCells _ _, fun k hk => by simp [madeCells, hk, Nat.mod_one]⟩, HQ.out.2.2, HG.out⟩)
    clear HN0 HC HQ
    generalize wr.heap.size = GL at HU0 HG ⊢
    obtain ⟨CH, hCH⟩ : ∃ CH : Nat → Int, CH = fun k => choice p levels calm (U (k + 1), V (k + 1)) := ⟨_, rfl⟩
    have HCH := Lib.hid (show ∀ k, CH k = choice p levels calm (U (k + 1), V (k + 1)) from fun k => by rw [hCH])
    have HCE := Lib.hid hCH
    clear hCH hmk
    go_loopw [13, 58] (fun z i wq => ∃ j : Nat, j ≤ n ∧ i = .int .i64 j ∧ z = .complex .f64 (zx j) (zy j) ∧ CU w wq x y a b c d p PB Q G GL n S1 S2 S3 S4 (fun k => if k < j then CH k else 0)) (fun _ i _ => n - (intOf i).toNat)
    case atStart => exact ⟨0, by omega, rfl, rfl, HU0.out.eq fun k hk => by simp⟩
    case round =>
      obtain ⟨j, hj, rfl, rfl, hC⟩ := hrel
      have HC := Lib.hid hC
      clear hC HU0
      obtain ⟨s0, s1, _, _, ls⟩ := two_cells HC.out.g
      by_cases hlt : j < n
      · go_wp2_with fail
        refine (HOf.out PB j _ HC.out.red).mono ?_
        rintro e w4 ⟨rfl, k4⟩
        replace HC := Lib.hid (HC.out.none k4)
        clear k4 s0 s1 ls
        go_wp2_with fail
        refine (HWh.out (j + 1) _).mono ?_
        rintro e w5 ⟨rfl, k5⟩
        replace HC := Lib.hid (HC.out.none k5)
        clear k5
        have x6 : w5.cell? ⟨w.heap.size, 6, none⟩ = some (.int .i64 p) := cell_of HC.out.rb.one 6
        have lx := lt_of HC.out.rb.one
        obtain ⟨cs, h5, hs5, hr5⟩ := HC.out.l
        have c5 : w5.cell? ⟨GL, j, none⟩ = some (.int .i64 0) := (cell_of h5 j).trans (by rw [hr5 j hlt, if_neg (Nat.lt_irrefl j)])
        have f5 := free_of h5 j
        have l5 := lt_of h5
        have hbu := HUV.out.1 (j + 1)
        have har := choice_arith (U (j + 1)) (V (j + 1)) p levels calm hbu.1 hbu.2 HUV.out.2.1 HUV.out.2.2.1 HUV.out.2.2.2
        have hcv := HCH.out j
        unfold choice at hcv
        simp only at hcv
        clear h5 hs5 hr5 cs hbu
        generalize hu : U (j + 1) = u at *
        generalize hv : V (j + 1) = v at *
        obtain ⟨⟨A1, A1'⟩, ⟨A2, A2'⟩, ⟨A3, A3'⟩, A4, hq0, hq1⟩ := har
        have z0 : ¬ calm + levels = 0 := by have := HUV.out.2.2; omega
        have z1 : (calm + levels == 0) = false := beq_eq_false_iff_ne.mpr z0
        have hq40 : (u * p + v) % (calm + levels) ≤ 1100 := by have := HUV.out.2.2; clear A1 A1' A2 A2' A3 A3'; omega
        have W5 : IntKind.i64.wrap ((u * p + v) % (calm + levels) + 1) = (u * p + v) % (calm + levels) + 1 := by clear A1 A1' A2 A2' A3 A3'; exact wrap_in _ ⟨by omega, by omega⟩
        have W5' : wrap64 ((u * p + v) % (calm + levels) + 1) = (u * p + v) % (calm + levels) + 1 := by clear A1 A1' A2 A2' A3 A3' W5; rw [IntWalk.wrap64_in _ ⟨by omega, by omega⟩]
        have hor : (u * p + v) % (calm + levels) < levels ∨ ¬ (u * p + v) % (calm + levels) < levels := Decidable.em _
        generalize (u * p + v) % (calm + levels) = q at *
        clear hq0 hq1 hq40
        have HL := Lib.hid (show ∀ k, k < n → (if k < j + 1 then CH k else 0) = if k = j then CH j else if k < j then CH k else 0 from fun k _ => by
          by_cases e : k = j
          · subst e; rw [if_pos (Nat.lt_succ_self _), if_pos rfl]
          · rw [if_neg e]; by_cases e2 : k < j
            · rw [if_pos e2, if_pos (by omega)]
            · rw [if_neg e2, if_neg (by omega)])
        rcases hor with hor | hor
        · rw [if_pos hor] at hcv
          have HCV := Lib.hid hcv
          have dq : decide (q < levels) = true := decide_eq_true hor
          clear hcv hor
          go_wp2
          go_roundw
          case rel => exact ⟨j + 1, by omega, by go_num, rfl, (HC.out.set j hlt (q + 1) (fun k hk => by rw [← HCV.out]; exact HL.out k hk)).none ((Keeps.refl _ _).alloc _)⟩
          case measure => simp [intOf]; omega
        · rw [if_neg hor] at hcv
          have HCV := Lib.hid hcv
          have dq : decide (q < levels) = false := decide_eq_false hor
          clear hcv hor
          go_wp2
          go_roundw
          case rel => exact ⟨j + 1, by omega, by go_num, rfl, (HC.out.none ((Keeps.refl _ _).alloc _)).eq (fun k hk => by
            rw [HL.out k hk]
            by_cases e : k = j
            · subst e; rw [if_pos rfl, if_neg (Nat.lt_irrefl _), HCV.out]
            · rw [if_neg e])⟩
          case measure => simp [intOf]; omega
      · obtain rfl : j = n := by omega
        go_wp2_with fail
        refine (HWh.out j _).mono ?_
        rintro e w4 ⟨rfl, k4⟩
        replace HC := Lib.hid (HC.out.none k4)
        clear k4 s0 s1 ls
        obtain ⟨x0, x1, x2, x3, x4, x5, x6⟩ := seven_cells HC.out.rb.one
        obtain ⟨f0, f1, f2, f3, f4, f5, f6, lx⟩ := seven_free HC.out.rb.one
        go_wp2_with fail
        have HP := Lib.hid (HC.out.put (x' := U j) (y' := V j))
        clear x0 x1 x2 x3 x4 x5 x6 f0 f1 f2 f3 f4 f5 f6 lx
        obtain ⟨x0, x1, x2, x3, x4, x5, x6⟩ := seven_cells HP.out.rb.one
        obtain ⟨f0, f1, f2, f3, f4, f5, f6, lx⟩ := seven_free HP.out.rb.one
        obtain ⟨r0, r1, r2, r3, r4, r5, r6⟩ := seven_cells HP.out.rb.res
        obtain ⟨g0, g1, g2, g3, g4, g5, g6, lr⟩ := seven_free HP.out.rb.res
        generalize (w4.setCell ⟨w.heap.size, 0, none⟩ (.int .i64 (U j))).setCell ⟨w.heap.size, 1, none⟩ (.int .i64 (V j)) = w6 at *
        go_region
        all_goals
          go_wp2
          exact bodyPost_ret (v := .tuple #[.slice (some ⟨GL, 0, none⟩) j j, .agg (rCells (U j) (V j) a b c d p), .bool true]) (by simp [results, Try.results15, go_sem, *]) rfl ⟨GL, rfl, by rw [← HCE.out]; exact (HP.out.eq fun k hk => by rw [if_pos hk]).fin, HP.out.rb.seven.drew⟩
  clear hK
  have hx7 := seven_cells HB.out.one
  go_region_held3 (fun w' => w'.cell? ⟨w.heap.size, 0, none⟩ = some (.int .i64 x) ∧ w'.cell? ⟨w.heap.size, 1, none⟩ = some (.int .i64 y) ∧ w'.cell? ⟨w.heap.size, 2, none⟩ = some (.int .i64 a) ∧ w'.cell? ⟨w.heap.size, 3, none⟩ = some (.int .i64 b) ∧ w'.cell? ⟨w.heap.size, 4, none⟩ = some (.int .i64 c) ∧ w'.cell? ⟨w.heap.size, 5, none⟩ = some (.int .i64 d) ∧ w'.cell? ⟨w.heap.size, 6, none⟩ = some (.int .i64 p))
    (first
      | with_reducible exact hx7
      | exact seven_cells (CT.early HB.out HX.out HRd.out lX).rb.one
      | exact seven_cells (heap_old HB.out.one _)
      | go_keep)
    (first
      | (go_at_call 21; refine (reducer_any _ _).mono ?_; rintro e w3 ⟨PB, rfl, hR, k3⟩; have HRd := Lib.hid hR; clear hR; (first | (have hx9 := k3.at HX.out fun h => h; replace HX := Lib.hid hx9; clear hx9; replace HB := Lib.hid (HB.out.none k3); obtain ⟨z0, z1, f0, f1, lz⟩ := two_cells HX.out) | (replace HB := Lib.hid (HB.out.none k3)) | (have HX := Lib.hid (k3.at (heap_new _ (.cells #[.complex .f64 0 0, .complex .f64 0 0] 57)) fun h => h); have lX := HB.out.keeps.size; replace HB := Lib.hid ((HB.out.none ((Keeps.refl _ _).alloc _)).none k3); (try rw [drew_size] at HX lX); obtain ⟨z0, z1, f0, f1, lz⟩ := two_cells HX.out)); clear k3; have hx7 := seven_cells HB.out.one)
      | (go_at_call 22; refine (HO.out _).mono ?_; rintro e w3 ⟨rfl, k3⟩; (first | (replace HRd := Lib.hid (HRd.out.none k3)) | (replace HRd := Lib.hid ((HRd.out.none ((Keeps.refl _ _).alloc _)).none k3)) | skip); (first | (have hx9 := k3.at HX.out fun h => h; replace HX := Lib.hid hx9; clear hx9; replace HB := Lib.hid (HB.out.none k3); obtain ⟨z0, z1, f0, f1, lz⟩ := two_cells HX.out) | (replace HB := Lib.hid (HB.out.none k3)) | (have HX := Lib.hid (k3.at (heap_new _ (.cells #[.complex .f64 0 0, .complex .f64 0 0] 57)) fun h => h); have lX := HB.out.keeps.size; replace HB := Lib.hid ((HB.out.none ((Keeps.refl _ _).alloc _)).none k3); (try rw [drew_size] at HX lX); obtain ⟨z0, z1, f0, f1, lz⟩ := two_cells HX.out)); clear k3; have hx7 := seven_cells HB.out.one)
      | (go_at_call 26; refine (HPl.out _).mono ?_; rintro e w3 ⟨rfl, k3⟩; (first | (replace HRd := Lib.hid (HRd.out.none k3)) | (replace HRd := Lib.hid ((HRd.out.none ((Keeps.refl _ _).alloc _)).none k3)) | skip); (first | (have hx9 := k3.at HX.out fun h => h; replace HX := Lib.hid hx9; clear hx9; replace HB := Lib.hid (HB.out.none k3); obtain ⟨z0, z1, f0, f1, lz⟩ := two_cells HX.out) | (replace HB := Lib.hid (HB.out.none k3)) | (have HX := Lib.hid (k3.at (heap_new _ (.cells #[.complex .f64 0 0, .complex .f64 0 0] 57)) fun h => h); have lX := HB.out.keeps.size; replace HB := Lib.hid ((HB.out.none ((Keeps.refl _ _).alloc _)).none k3); (try rw [drew_size] at HX lX); obtain ⟨z0, z1, f0, f1, lz⟩ := two_cells HX.out)); clear k3; have hx7 := seven_cells HB.out.one))
  all_goals
    go_wp2_with fail
    first | exact CT.last HB.out HRd.out | exact CT.early HB.out HX.out HRd.out lX
end Go.Proofs.Ytjpbfmhfjlbcgaa
