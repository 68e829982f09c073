import Derived.Test.YtfniicgfnlklbabDeltaBothB
import Derived.Test.YtfniicgfnlklbabDeltaAlive
import Derived.Test.YtfniicgfnlklbabSame
import Derived.Test.YtfniicgfnlklbabOpen
import Derived.Deep.RegionHeld3
namespace Go.Proofs.Ytfniicgfnlklbab
open Go.ChangeShapes Go.WideShapes Go.ChangeAt Go.RowKit
set_option linter.unusedVariables false
set_option linter.unusedSimpArgs false
theorem rows_same (a1 a2 : Option Addr) (m c1 c2 : Nat) (F : Nat → Int) (w : World) (hm : m ≤ maxLen) (h1 : Row w a1 m F) (h2 : Row w a2 m F) :
    Calls Try.prog 12 #[.slice a1 m c1, .slice a2 m c2] w fun e w' => e = .returned (.bool true) ∧ Keeps (fun _ => False) w w' := by
  rcases Nat.eq_zero_or_pos m with rfl | hp
  · exact rsame_zero a1 a2 c1 c2 w
  · obtain ⟨g1, o1, rfl, _, hg1⟩ := h1 hp
    obtain ⟨g2, o2, rfl, _, hg2⟩ := h2 hp
    exact rsame_some g1 o1 g2 o2 m c1 c2 F w hm hg1 hg2
/-- The steps that are given. -/
def Steps24 (w : World) (a : Option Addr) (n : Nat) (K T : Nat → Int) (U : Nat → Nat) : Prop := 0 < n → ∃ b off, a = some ⟨b, off, none⟩ ∧ b < w.heap.size ∧ ∀ i, i < n → w.cell? ⟨b, off + i * 3, none⟩ = some (.int .i64 (K i)) ∧ w.cell? ⟨b, off + i * 3 + 1, none⟩ = some (.int .i64 (T i)) ∧ w.cell? ⟨b, off + i * 3 + 2, none⟩ = some (.int .u32 (U i : Int))
set_option maxRecDepth 20000 in
theorem deltaPlays_large (a : Option Addr) (n cap : Nat) (t : Int) (W : World) (hn : n ≤ maxLen) (h : 100 < n) :
    Calls Try.prog 3 #[.slice a n cap, .int .i64 t] W fun e w' => e = .returned (.bool true) ∧ Below W.heap.size W w' := by
  have d0 : decide ((100 : Int) < (n : Int)) = true := decide_eq_true (by omega)
  have d1 : decide (100 < n) = true := decide_eq_true h
  have HA := Lib.hid (alive24_any W)
  clear h
  go_enter Try.func3, Try.ntmps3
  go_wp2_with fail
  refine HA.out.mono ?_
  rintro e w' ⟨rfl, hk⟩
  go_wp2
  go_ret
  exact ⟨rfl, hk.none⟩
theorem bd_start (W : World) : BD W ((W.alloc (.cells #[.pointer none] 27)).alloc (.cells #[.slice none 0 0] 30)) W.heap.size (W.heap.size + 1) [] (fun _ => 0) none 0 [] := by
  have hsz : (W.alloc (.cells #[.pointer none] 27)).heap.size = W.heap.size + 1 := by simp
  have h0 := delta_made W
  refine ⟨h0.is.none ((Keeps.refl (fun _ => False) _).alloc _), h0.abs, LP.empty _, by have := heap_new (W.alloc (.cells #[.pointer none] 27)) (.cells #[.slice none 0 0] 30); rw [hsz] at this; exact this, fun k hk => ?_, (fun b off e => by cases e), fun k hk => ?_, by omega, ((Keeps.refl _ _).alloc _).alloc _⟩
  · rcases hk with rfl | ⟨i, a, ha, _⟩
    · exact ⟨by omega, fun b off e => by cases e⟩
    · simp at ha
  · rcases hk with rfl | ⟨i, a, ha, _⟩
    · exact Nat.le_refl _
    · simp at ha
set_option maxRecDepth 20000 in
set_option maxHeartbeats 4000000 in
theorem deltaPlays_plain (a : Option Addr) (n cap : Nat) (K T : Nat → Int) (U : Nat → Nat) (t : Int) (W : World) (hn : n ≤ 100) (hrow : Steps24 W a n K T U) (hU : ∀ i, i < n → U i < 4294967296) :
    Calls Try.prog 3 #[.slice a n cap, .int .i64 t] W fun e w' => e = .returned (.bool true) ∧ Below W.heap.size W w' := by
  have HB0 := Lib.hid (bd_start W)
  have HR := Lib.hid hrow
  have HU := Lib.hid hU
  have d0 : decide ((100 : Int) < (n : Int)) = false := decide_eq_false (by omega)
  have d1 : decide (100 < n) = false := decide_eq_false (by omega)
  clear hrow hU
  go_enter Try.func3, Try.ntmps3
  go_wp2_with fail
  go_loopw [7] (fun i wr => ∃ (k : Nat) (L : List Nd) (S : Int → Nat) (A : Option Addr) (c : Nat) (R : List (Int × Nat)), k ≤ n ∧ i = .int .i64 (k : Int) ∧ L.length ≤ k ∧ RelD L S R ∧ BD W wr W.heap.size (W.heap.size + 1) L S A c R) (fun i _ => n - (intOf i).toNat)
  case atStart => exact ⟨0, [], fun _ => 0, none, 0, [], by omega, rfl, Nat.le_refl _, RelD.nil, HB0.out⟩
  case round =>
  obtain ⟨k, L, S, A, c, R, hk, rfl, hlen, hrel, hpb⟩ := hrel
  clear HB0
  have HB := Lib.hid hpb
  have HL := Lib.hid hrel
  clear hpb hrel
  by_cases hlt : k < n
  · obtain ⟨bs, off, rfl, hbs, hsc⟩ := HR.out (by omega)
    have HC := Lib.hid (show ∀ w', Keeps (fun _ => False) W w' → w'.cell? ⟨bs, off + k * 3, none⟩ = some (.int .i64 (K k)) ∧ w'.cell? ⟨bs, off + k * 3 + 1, none⟩ = some (.int .i64 (T k)) ∧ w'.cell? ⟨bs, off + k * 3 + 2, none⟩ = some (.int .u32 (U k : Int)) from fun w' hk' => by
      obtain ⟨g1, g2, g3⟩ := hsc k hlt
      exact ⟨(World.cell?_of_block (w := W) (hk'.block bs hbs fun h => h)).trans g1, (World.cell?_of_block (w := W) (hk'.block bs hbs fun h => h)).trans g2, (World.cell?_of_block (w := W) (hk'.block bs hbs fun h => h)).trans g3⟩)
    have hu := HU.out k hlt
    have HSY := Lib.hid (HL.out.says HB.out.abs (by omega))
    clear hsc
    have lx := lt_of HB.out.box
    have lbs : bs < wr.heap.size := Nat.lt_of_lt_of_le hbs HB.out.keep.size
    have hbx : bs ≠ W.heap.size + 1 := by omega
    have hbx2 : W.heap.size + 1 ≠ bs := by omega
    have HC0 := Lib.hid (HC.out _ HB.out.keep).1
    go_wp2_with fail
    rotate_left
    · exact absurd (HC0.out.symm.trans ‹wr.cell? ⟨bs, off + k * 3, none⟩ = none›) (by simp)
    · exact absurd (HC0.out.symm.trans ‹wr.cell? ⟨bs, off + k * 3, none⟩ = none›) (by simp)
    rename_i K2 hK2 K1 hK1 K0 hK0 xo v heq
    obtain rfl : v = .int .i64 (K k) := Option.some.inj (heq.symm.trans HC0.out)
    clear heq
    have REST : ∀ (L' : List Nd) (S' : Int → Nat) (A' : Option Addr) (c' : Nat) (R' : List (Int × Nat)) (ok : Bool) (mm : Int) (w3 : World) (u4 u12 u13 u14 u15 u16 u17 u25 u26 u27 u28 u29 u30 u31 u32 u33 u34 u35 u36 u37 u38 u39 u40 u41 u42 u43 u44 u45 u46 u47 u48 u49 u50 u51 u52 u53 u54 u55 u56 u57 u58 u59 u60 u61 u62 u63 u64 u65 u66 u67 u68 u69 u70 u71 u72 u73 u74 u75 u76 u77 u78 u79 u80 u81 u82 u83 u84 u85 u86 u87 u88 u89 u90 u91 u92 u93 u94 u95 u96 u97 u98 u99 u100 u101 u102 u103 u104 u105 u106 u107 u108 u109 u110 u111 u112 u113 u114 u115 u116 u117 u118 u119 u120 u121 u122 u123 u124 u125 u126 u127 u128 u129 u130 u131 u132 u133 u134 u135 u136 u137 u138 u139 u140 u141 u142 u143 u144 u145 u146 : Value), L'.length ≤ k + 1 → RelD L' S' R' → BD W w3 W.heap.size (W.heap.size + 1) L' S' A' c' R' → K2 { tmps := #[.slice (some ⟨bs, off, none⟩) n cap, .int .i64 t, undef, undef, u4, .pointer (some ⟨W.heap.size, 0, none⟩), .pointer (some ⟨W.heap.size + 1, 0, none⟩), .int .i64 (k : Int), .bool ok, .bool ok, .int .u32 mm, .int .u32 mm, u12, u13, u14, u15, u16, u17, .slice (some ⟨bs, off, none⟩) n cap, .int .i64 (n : Int), .bool false, undef, .agg #[.pointer none], .pointer (some ⟨W.heap.size, 0, none⟩), .agg #[.slice none 0 0], u25, u26, u27, u28, u29, u30, u31, u32, u33, u34, u35, u36, u37, u38, u39, u40, u41, u42, u43, u44, u45, u46, u47, u48, u49, u50, u51, u52, u53, u54, u55, u56, u57, u58, u59, u60, u61, u62, u63, u64, u65, u66, u67, u68, u69, u70, u71, u72, u73, u74, u75, u76, u77, u78, u79, u80, u81, u82, u83, u84, u85, u86, u87, u88, u89, u90, u91, u92, u93, u94, u95, u96, u97, u98, u99, u100, u101, u102, u103, u104, u105, u106, u107, u108, u109, u110, u111, u112, u113, u114, u115, u116, u117, u118, u119, u120, u121, u122, u123, u124, u125, u126, u127, u128, u129, u130, u131, u132, u133, u134, u135, u136, u137, u138, u139, u140, u141, u142, u143, u144, u145, u146, undef], defers := [] } w3 := by
      intro L' S' A' c' R' ok mm w3 u4 u12 u13 u14 u15 u16 u17 u25 u26 u27 u28 u29 u30 u31 u32 u33 u34 u35 u36 u37 u38 u39 u40 u41 u42 u43 u44 u45 u46 u47 u48 u49 u50 u51 u52 u53 u54 u55 u56 u57 u58 u59 u60 u61 u62 u63 u64 u65 u66 u67 u68 u69 u70 u71 u72 u73 u74 u75 u76 u77 u78 u79 u80 u81 u82 u83 u84 u85 u86 u87 u88 u89 u90 u91 u92 u93 u94 u95 u96 u97 u98 u99 u100 u101 u102 u103 u104 u105 u106 u107 u108 u109 u110 u111 u112 u113 u114 u115 u116 u117 u118 u119 u120 u121 u122 u123 u124 u125 u126 u127 u128 u129 u130 u131 u132 u133 u134 u135 u136 u137 u138 u139 u140 u141 u142 u143 u144 u145 u146 hl' HL' HX
      replace HL' := Lib.hid HL'
      replace HX := Lib.hid HX
      refine hK2 _ _ ?_
      clear hK2 hK1 hK0 HB HL HC0 lx lbs HSY
      have HSY := Lib.hid (HL'.out.says HX.out.abs (by omega))
      have HCN := Lib.hid (HL'.out.len HX.out.abs)
      have hrl : R'.length ≤ 100 := HSY.out.few
      have cx := cell_of HX.out.box 0
      have lx := lt_of HX.out.box
      go_wp2_with fail
      refine (bd_left W _ _ _ _ _ _ _ _ HX.out t).mono ?_
      rintro e w4 ⟨rfl, k4⟩
      replace HX := Lib.hid (HX.out.none k4)
      clear k4 cx lx
      have cx := cell_of HX.out.box 0
      have lx := lt_of HX.out.box
      go_wp2_with fail
      refine (doc24_left _ _ _ _ _ HX.out.lp HSY.out t).mono ?_
      rintro e w5 ⟨rfl, k5⟩
      replace HX := Lib.hid (HX.out.none k5)
      clear k5 cx lx
      have cx := cell_of HX.out.box 0
      have lx := lt_of HX.out.box
      replace HX := Lib.hid (HX.out.none (Keeps.refl (fun _ => False) _).drew)
      go_wp2_with fail
      go_region_held3 (fun w' => w'.cell? ⟨W.heap.size + 1, 0, none⟩ = some (.slice A' R'.length c'))
        (first
          | exact x9
          | exact cx
          | go_keep)
        ((first
          | (go_at_call 16; refine (dlen _ _ _ HX.out.is (by omega)).mono ?_; rintro e w9 ⟨rfl, k9⟩; rw [HCN.out]; replace HX := Lib.hid (HX.out.none k9); have x9 := cell_of HX.out.box 0; clear k9)
          | (go_at_call 17; refine (bd_list W _ _ _ _ _ _ _ _ HX.out HL'.out (by omega)).mono ?_; rintro e w9 ⟨v, rfl, hown, k9⟩; rw [sort_nums] at hown; obtain ⟨l1, lc1, rfl, hr1⟩ := Row.ofOwn hown; have HR1 := Lib.hid hr1; replace HX := Lib.hid (HX.out.none k9); have x9 := cell_of HX.out.box 0; clear k9 hown hr1)
          | (go_at_call 18; refine (doc24_list _ _ _ _ _ HX.out.lp HSY.out).mono ?_; rintro e w9 ⟨v, rfl, hown, k9⟩; rw [sort_nums] at hown; obtain ⟨l2, lc2, rfl, hr2⟩ := Row.ofOwn hown; have HR2 := Lib.hid (And.intro (HR1.out.none k9) hr2); replace HX := Lib.hid (HX.out.none k9); have x9 := cell_of HX.out.box 0; clear k9 hown hr2)
          | (go_at_call 12; refine (rows_same _ _ _ _ _ _ _ (by unfold maxLen; omega) HR2.out.1 HR2.out.2).mono ?_; rintro e w9 ⟨rfl, k9⟩; replace HX := Lib.hid (HX.out.none k9); have x9 := cell_of HX.out.box 0; clear k9)
          | fail))
      go_wp2_with fail
      go_roundw
      case rel => exact ⟨k + 1, L', S', A', c', R', by omega, by go_num, hl', HL'.out, HX.out⟩
      case measure => simp [intOf]; omega
    by_cases h1 : K k = 1
    · obtain ⟨c0, c1, c2⟩ := HC.out _ HB.out.keep
      have q1 : (K k == 1) = true := beq_iff_eq.mpr h1
      have q2 : (K k == 2) = false := beq_eq_false_iff_ne.mpr (by omega)
      have q3 : (K k == 3) = false := beq_eq_false_iff_ne.mpr (by omega)
      have p1 : (K k = 1) = True := eq_true h1
      have p2 : (K k = 2) = False := eq_false (by omega)
      have p3 : (K k = 3) = False := eq_false (by omega)
      have cx := cell_of HB.out.box 0
      clear h1
      go_wp2_with fail
      go_region_held3 (fun w' => w'.cell? ⟨bs, off + k * 3 + 1, none⟩ = some (.int .i64 (T k)) ∧ w'.cell? ⟨bs, off + k * 3 + 2, none⟩ = some (.int .u32 (U k : Int)))
        (first
          | exact ⟨y1, y2⟩
          | exact ⟨c1, c2⟩
          | go_keep)
        ((go_at_call 7; refine (bd_add' W _ _ _ 0 _ _ _ _ _ (HB.out.none (Keeps.refl (fun _ => False) _).drew) HL.out (T k) (U k) hu).mono ?_; rintro e w1 ⟨rfl, L', S', hb1, hr1, hl1⟩; replace HB := Lib.hid hb1; obtain ⟨_, y1, y2⟩ := HC.out _ HB.out.keep; have cx9 := cell_of HB.out.box 0; have lx9 := lt_of HB.out.box; have lb9 : bs < w1.heap.size := Nat.lt_of_lt_of_le hbs HB.out.keep.size; have HL' := Lib.hid hr1; have HLN := Lib.hid hl1; clear hb1 hr1 hl1))
      clear c0 c1 c2 cx lx lbs
      go_wp2_with fail
      refine wp_region_noPanic ?_
      refine wp_region_held_drew (S := (fun w' => w'.cell? ⟨bs, off + k * 3 + 1, none⟩ = some (.int .i64 (T k)) ∧ w'.cell? ⟨bs, off + k * 3 + 2, none⟩ = some (.int .u32 (U k : Int)))) (by kernel_rfl) ?_ (fun hHeld => ?_)
      · exact ⟨y1, y2⟩
      refine wpAnyH_take (i := 1) (v := ?_) rfl (by kernel_rfl) (by kernel_rfl) (by kernel_rfl) (fun _ _ _ h => h) (Or.inl ⟨by kernel_rfl, ?_⟩) (by assumption) ?_
      rotate_left
      · (intro w hSw; (try dsimp only at hSw); go_simp; try with_reducible rfl)
      simp only [Act.put, List.getElem_toArray, List.getElem_cons_zero, List.getElem_cons_succ, List.setIfInBounds_toArray, List.set_cons_zero, List.set_cons_succ]
      refine wpAnyH_take (i := 2) (v := ?_) rfl (by kernel_rfl) (by kernel_rfl) (by kernel_rfl) (fun _ _ _ h => h) (Or.inl ⟨by kernel_rfl, ?_⟩) (by assumption) ?_
      rotate_left
      · (intro w hSw; (try dsimp only at hSw); go_simp; try with_reducible rfl)
      simp only [Act.put, List.getElem_toArray, List.getElem_cons_zero, List.getElem_cons_succ, List.setIfInBounds_toArray, List.set_cons_zero, List.set_cons_succ]
      refine wpAnyH_take (i := 3) (v := ?_) rfl (by kernel_rfl) (by kernel_rfl) (by kernel_rfl) (fun _ _ _ h => h) (Or.inl ⟨by kernel_rfl, ?_⟩) (by assumption) ?_
      rotate_left
      · (intro w hSw; (try dsimp only at hSw); go_simp; try with_reducible rfl)
      simp only [Act.put, List.getElem_toArray, List.getElem_cons_zero, List.getElem_cons_succ, List.setIfInBounds_toArray, List.set_cons_zero, List.set_cons_succ]
      refine wpAnyH_take (i := 4) (v := ?_) rfl (by kernel_rfl) (by kernel_rfl) (by kernel_rfl) (fun _ _ _ h => h) (Or.inl ⟨by kernel_rfl, ?_⟩) (by assumption) ?_
      rotate_left
      · (intro w hSw; (try dsimp only at hSw); go_simp; try with_reducible rfl)
      simp only [Act.put, List.getElem_toArray, List.getElem_cons_zero, List.getElem_cons_succ, List.setIfInBounds_toArray, List.set_cons_zero, List.set_cons_succ]
      refine wpAnyH_take (i := 5) (v := ?_) rfl (by kernel_rfl) (by kernel_rfl) (by kernel_rfl) (fun _ _ _ h => h) (Or.inl ⟨by kernel_rfl, ?_⟩) (by assumption) ?_
      rotate_left
      · (intro w hSw; (try dsimp only at hSw); go_simp; try with_reducible rfl)
      simp only [Act.put, List.getElem_toArray, List.getElem_cons_zero, List.getElem_cons_succ, List.setIfInBounds_toArray, List.set_cons_zero, List.set_cons_succ]
      refine wpAnyH_take (i := 6) (v := ?_) rfl (by kernel_rfl) (by kernel_rfl) (by kernel_rfl) (fun _ _ _ h => h) (Or.inl ⟨by kernel_rfl, ?_⟩) (by assumption) ?_
      rotate_left
      · (intro w hSw; (try dsimp only at hSw); go_simp; try with_reducible rfl)
      simp only [Act.put, List.getElem_toArray, List.getElem_cons_zero, List.getElem_cons_succ, List.setIfInBounds_toArray, List.set_cons_zero, List.set_cons_succ]
      refine wpAnyH_take (i := 7) (v := ?_) rfl (by kernel_rfl) (by kernel_rfl) (by kernel_rfl) (fun _ _ _ h => h) (Or.inl ⟨by kernel_rfl, ?_⟩) (by assumption) ?_
      rotate_left
      · (intro w hSw; (try dsimp only at hSw); go_simp; try with_reducible rfl)
      simp only [Act.put, List.getElem_toArray, List.getElem_cons_zero, List.getElem_cons_succ, List.setIfInBounds_toArray, List.set_cons_zero, List.set_cons_succ]
      refine wpAnyH_take (i := 8) (v := ?_) rfl (by kernel_rfl) (by kernel_rfl) (by kernel_rfl) (fun _ _ _ h => h) (Or.inl ⟨by kernel_rfl, ?_⟩) (by assumption) ?_
      rotate_left
      · (intro w hSw; (try dsimp only at hSw); go_simp; try with_reducible rfl)
      simp only [Act.put, List.getElem_toArray, List.getElem_cons_zero, List.getElem_cons_succ, List.setIfInBounds_toArray, List.set_cons_zero, List.set_cons_succ]
      refine wpAnyH_take (i := 9) (v := ?_) rfl (by kernel_rfl) (by kernel_rfl) (by kernel_rfl) (fun _ _ _ h => h) (Or.inl ⟨by kernel_rfl, ?_⟩) (by assumption) ?_
      rotate_left
      · (intro w hSw; (try dsimp only at hSw); go_simp; try with_reducible rfl)
      simp only [Act.put, List.getElem_toArray, List.getElem_cons_zero, List.getElem_cons_succ, List.setIfInBounds_toArray, List.set_cons_zero, List.set_cons_succ]
      refine wpAnyH_take (i := 10) (v := ?_) rfl (by kernel_rfl) (by kernel_rfl) (by kernel_rfl) (fun _ _ _ h => h) (Or.inl ⟨by kernel_rfl, ?_⟩) (by assumption) ?_
      rotate_left
      · (intro w hSw; (try dsimp only at hSw); go_simp; try with_reducible rfl)
      simp only [Act.put, List.getElem_toArray, List.getElem_cons_zero, List.getElem_cons_succ, List.setIfInBounds_toArray, List.set_cons_zero, List.set_cons_succ]
      refine wpAnyH_ready (rs := [0]) (by kernel_rfl) (by simp) ?_
      refine AllReadyH.cons rfl (fun K hK => ?_) AllReadyH.nil
      go_simp
      refine hK.out _ _ ?_ (fun hHeld => ?_)
      · ((try dsimp only); first | exact ⟨y3, y4⟩ | exact ⟨y1, y2⟩ | (first | go_keep | ((repeat' apply And.intro) <;> go_keep)))
      clear hK K
      try simp only [Act.put, List.getElem_toArray, List.getElem_cons_zero, List.getElem_cons_succ, List.setIfInBounds_toArray, List.set_cons_zero, List.set_cons_succ]
      refine wpAnyH_ready (rs := [11]) (by kernel_rfl) (by simp) ?_
      refine AllReadyH.cons rfl (fun K hK => ?_) AllReadyH.nil
      go_simp
      (go_at_call 8; refine (doc24_add' S A c R _ (HB.out.none (Keeps.refl (fun _ => False) _).drew).lp HSY.out (T k) (U k) hu).mono ?_; rintro e w2 ⟨A', c', rfl, hq, hf, hk2⟩; obtain ⟨_, y3, y4⟩ := HC.out _ (HB.out.keep.drew.trans hk2); have bx9 := ((HB.out.none (Keeps.refl (fun _ => False) _).drew).none hk2).box; have fx9 := free_of bx9 0; have cx8 := cell_of bx9 0; have lx8 := lt_of bx9; have HX := Lib.hid (BD.store (HB.out.none (Keeps.refl (fun _ => False) _).drew) hk2 hq hf); clear hq hf hk2 bx9)
      go_wp2_with fail
      refine hK.out _ _ ?_ (fun hHeld => ?_)
      · ((try dsimp only); first | exact ⟨y3, y4⟩ | exact ⟨y1, y2⟩ | (first | go_keep | ((repeat' apply And.intro) <;> go_keep)))
      clear hK K
      try simp only [Act.put, List.getElem_toArray, List.getElem_cons_zero, List.getElem_cons_succ, List.setIfInBounds_toArray, List.set_cons_zero, List.set_cons_succ]
      refine wpAnyH_take (i := 12) (v := ?_) rfl (by kernel_rfl) (by kernel_rfl) (by kernel_rfl) (fun _ _ _ h => h) (Or.inl ⟨by kernel_rfl, ?_⟩) (by assumption) ?_
      rotate_left
      · (intro w hSw; (try dsimp only at hSw); go_simp; try with_reducible rfl)
      simp only [Act.put, List.getElem_toArray, List.getElem_cons_zero, List.getElem_cons_succ, List.setIfInBounds_toArray, List.set_cons_zero, List.set_cons_succ]
      refine wpAnyH_take (i := 13) (v := ?_) rfl (by kernel_rfl) (by kernel_rfl) (by kernel_rfl) (fun _ _ _ h => h) (Or.inl ⟨by kernel_rfl, ?_⟩) (by assumption) ?_
      rotate_left
      · (intro w hSw; (try dsimp only at hSw); go_simp; try with_reducible rfl)
      simp only [Act.put, List.getElem_toArray, List.getElem_cons_zero, List.getElem_cons_succ, List.setIfInBounds_toArray, List.set_cons_zero, List.set_cons_succ]
      refine wpAnyH_take (i := 14) (v := ?_) rfl (by kernel_rfl) (by kernel_rfl) (by kernel_rfl) (fun _ _ _ h => h) (Or.inl ⟨by kernel_rfl, ?_⟩) (by assumption) ?_
      rotate_left
      · (intro w hSw; (try dsimp only at hSw); go_simp; try with_reducible rfl)
      simp only [Act.put, List.getElem_toArray, List.getElem_cons_zero, List.getElem_cons_succ, List.setIfInBounds_toArray, List.set_cons_zero, List.set_cons_succ]
      refine wpAnyH_ready (rs := [15]) (by kernel_rfl) (by simp) ?_
      refine AllReadyH.cons rfl (fun K hK => ?_) AllReadyH.nil
      go_simp
      refine hK.out _ _ ?_ (fun hHeld => ?_)
      · ((try dsimp only); first | exact ⟨y3, y4⟩ | exact ⟨y1, y2⟩ | (first | go_keep | ((repeat' apply And.intro) <;> go_keep)))
      clear hK K
      try simp only [Act.put, List.getElem_toArray, List.getElem_cons_zero, List.getElem_cons_succ, List.setIfInBounds_toArray, List.set_cons_zero, List.set_cons_succ]
      refine wpAnyH_take (i := 16) (v := ?_) rfl (by kernel_rfl) (by kernel_rfl) (by kernel_rfl) (fun _ _ _ h => h) (Or.inl ⟨by kernel_rfl, ?_⟩) (by assumption) ?_
      rotate_left
      · (intro w hSw; (try dsimp only at hSw); go_simp; try with_reducible rfl)
      simp only [Act.put, List.getElem_toArray, List.getElem_cons_zero, List.getElem_cons_succ, List.setIfInBounds_toArray, List.set_cons_zero, List.set_cons_succ]
      refine wpAnyH_done (by kernel_rfl) ?_ _
      refine NoPanic.normal ?_
      go_wp2_with fail
      exact REST L' S' A' c' _ _ 0 _ _ _ _ _ _ _ _ _ _ _ _ _ _ _ _ _ _ _ _ _ _ _ _ _ _ _ _ _ _ _ _ _ _ _ _ _ _ _ _ _ _ _ _ _ _ _ _ _ _ _ _ _ _ _ _ _ _ _ _ _ _ _ _ _ _ _ _ _ _ _ _ _ _ _ _ _ _ _ _ _ _ _ _ _ _ _ _ _ _ _ _ _ _ _ _ _ _ _ _ _ _ _ _ _ _ _ _ _ _ _ _ _ _ _ _ _ _ _ _ _ _ _ _ _ _ _ _ _ _ (by have := HLN.out; omega) HL'.out HX.out
    by_cases h2 : K k = 2
    · obtain ⟨c0, c1, c2⟩ := HC.out _ HB.out.keep
      have q1 : (K k == 1) = false := beq_eq_false_iff_ne.mpr h1
      have q2 : (K k == 2) = true := beq_iff_eq.mpr h2
      have q3 : (K k == 3) = false := beq_eq_false_iff_ne.mpr (by omega)
      have p1 : (K k = 1) = False := eq_false h1
      have p2 : (K k = 2) = True := eq_true h2
      have p3 : (K k = 3) = False := eq_false (by omega)
      have cx := cell_of HB.out.box 0
      clear h1 h2
      go_wp2_with fail
      refine (bd_rem' W _ _ _ 0 _ _ _ _ _ HB.out HL.out (T k)).mono ?_
      rintro e w1 ⟨rfl, L', S', hb1, hr1, hl1⟩
      replace HB := Lib.hid hb1
      obtain ⟨_, y1, y2⟩ := HC.out _ HB.out.keep; have cx9 := cell_of HB.out.box 0; have lx9 := lt_of HB.out.box; have lb9 : bs < w1.heap.size := Nat.lt_of_lt_of_le hbs HB.out.keep.size; have HL' := Lib.hid hr1; have HLN := Lib.hid hl1; clear hb1 hr1 hl1
      clear c0 c1 c2 cx lx lbs
      go_wp2_with fail
      refine wp_region_noPanic ?_
      refine wp_region_held_drew (S := (fun w' => w'.cell? ⟨bs, off + k * 3 + 1, none⟩ = some (.int .i64 (T k)))) (by kernel_rfl) ?_ (fun hHeld => ?_)
      · exact y1
      refine wpAnyH_take (i := 1) (v := ?_) rfl (by kernel_rfl) (by kernel_rfl) (by kernel_rfl) (fun _ _ _ h => h) (Or.inl ⟨by kernel_rfl, ?_⟩) (by assumption) ?_
      rotate_left
      · (intro w hSw; (try dsimp only at hSw); go_simp; try with_reducible rfl)
      simp only [Act.put, List.getElem_toArray, List.getElem_cons_zero, List.getElem_cons_succ, List.setIfInBounds_toArray, List.set_cons_zero, List.set_cons_succ]
      refine wpAnyH_take (i := 2) (v := ?_) rfl (by kernel_rfl) (by kernel_rfl) (by kernel_rfl) (fun _ _ _ h => h) (Or.inl ⟨by kernel_rfl, ?_⟩) (by assumption) ?_
      rotate_left
      · (intro w hSw; (try dsimp only at hSw); go_simp; try with_reducible rfl)
      simp only [Act.put, List.getElem_toArray, List.getElem_cons_zero, List.getElem_cons_succ, List.setIfInBounds_toArray, List.set_cons_zero, List.set_cons_succ]
      refine wpAnyH_take (i := 3) (v := ?_) rfl (by kernel_rfl) (by kernel_rfl) (by kernel_rfl) (fun _ _ _ h => h) (Or.inl ⟨by kernel_rfl, ?_⟩) (by assumption) ?_
      rotate_left
      · (intro w hSw; (try dsimp only at hSw); go_simp; try with_reducible rfl)
      simp only [Act.put, List.getElem_toArray, List.getElem_cons_zero, List.getElem_cons_succ, List.setIfInBounds_toArray, List.set_cons_zero, List.set_cons_succ]
      refine wpAnyH_take (i := 4) (v := ?_) rfl (by kernel_rfl) (by kernel_rfl) (by kernel_rfl) (fun _ _ _ h => h) (Or.inl ⟨by kernel_rfl, ?_⟩) (by assumption) ?_
      rotate_left
      · (intro w hSw; (try dsimp only at hSw); go_simp; try with_reducible rfl)
      simp only [Act.put, List.getElem_toArray, List.getElem_cons_zero, List.getElem_cons_succ, List.setIfInBounds_toArray, List.set_cons_zero, List.set_cons_succ]
      refine wpAnyH_take (i := 5) (v := ?_) rfl (by kernel_rfl) (by kernel_rfl) (by kernel_rfl) (fun _ _ _ h => h) (Or.inl ⟨by kernel_rfl, ?_⟩) (by assumption) ?_
      rotate_left
      · (intro w hSw; (try dsimp only at hSw); go_simp; try with_reducible rfl)
      simp only [Act.put, List.getElem_toArray, List.getElem_cons_zero, List.getElem_cons_succ, List.setIfInBounds_toArray, List.set_cons_zero, List.set_cons_succ]
      refine wpAnyH_ready (rs := [0]) (by kernel_rfl) (by simp) ?_
      refine AllReadyH.cons rfl (fun K hK => ?_) AllReadyH.nil
      go_simp
      refine hK.out _ _ ?_ (fun hHeld => ?_)
      · ((try dsimp only); first | exact y3 | exact y1 | go_keep)
      clear hK K
      try simp only [Act.put, List.getElem_toArray, List.getElem_cons_zero, List.getElem_cons_succ, List.setIfInBounds_toArray, List.set_cons_zero, List.set_cons_succ]
      refine wpAnyH_ready (rs := [6]) (by kernel_rfl) (by simp) ?_
      refine AllReadyH.cons rfl (fun K hK => ?_) AllReadyH.nil
      go_simp
      (go_at_call 10; refine (doc24_rem' S A c R _ (HB.out.none (Keeps.refl (fun _ => False) _).drew).lp HSY.out (T k)).mono ?_; rintro e w2 ⟨A', c', rfl, hq, hf, hk2⟩; obtain ⟨_, y3, y4⟩ := HC.out _ (HB.out.keep.drew.trans hk2); have bx9 := ((HB.out.none (Keeps.refl (fun _ => False) _).drew).none hk2).box; have fx9 := free_of bx9 0; have cx8 := cell_of bx9 0; have lx8 := lt_of bx9; have HX := Lib.hid (BD.store (HB.out.none (Keeps.refl (fun _ => False) _).drew) hk2 hq hf); clear hq hf hk2 bx9)
      go_wp2_with fail
      refine hK.out _ _ ?_ (fun hHeld => ?_)
      · ((try dsimp only); first | exact y3 | exact y1 | go_keep)
      clear hK K
      try simp only [Act.put, List.getElem_toArray, List.getElem_cons_zero, List.getElem_cons_succ, List.setIfInBounds_toArray, List.set_cons_zero, List.set_cons_succ]
      refine wpAnyH_take (i := 7) (v := ?_) rfl (by kernel_rfl) (by kernel_rfl) (by kernel_rfl) (fun _ _ _ h => h) (Or.inl ⟨by kernel_rfl, ?_⟩) (by assumption) ?_
      rotate_left
      · (intro w hSw; (try dsimp only at hSw); go_simp; try with_reducible rfl)
      simp only [Act.put, List.getElem_toArray, List.getElem_cons_zero, List.getElem_cons_succ, List.setIfInBounds_toArray, List.set_cons_zero, List.set_cons_succ]
      refine wpAnyH_take (i := 8) (v := ?_) rfl (by kernel_rfl) (by kernel_rfl) (by kernel_rfl) (fun _ _ _ h => h) (Or.inl ⟨by kernel_rfl, ?_⟩) (by assumption) ?_
      rotate_left
      · (intro w hSw; (try dsimp only at hSw); go_simp; try with_reducible rfl)
      simp only [Act.put, List.getElem_toArray, List.getElem_cons_zero, List.getElem_cons_succ, List.setIfInBounds_toArray, List.set_cons_zero, List.set_cons_succ]
      refine wpAnyH_take (i := 9) (v := ?_) rfl (by kernel_rfl) (by kernel_rfl) (by kernel_rfl) (fun _ _ _ h => h) (Or.inl ⟨by kernel_rfl, ?_⟩) (by assumption) ?_
      rotate_left
      · (intro w hSw; (try dsimp only at hSw); go_simp; try with_reducible rfl)
      simp only [Act.put, List.getElem_toArray, List.getElem_cons_zero, List.getElem_cons_succ, List.setIfInBounds_toArray, List.set_cons_zero, List.set_cons_succ]
      refine wpAnyH_take (i := 10) (v := ?_) rfl (by kernel_rfl) (by kernel_rfl) (by kernel_rfl) (fun _ _ _ h => h) (Or.inl ⟨by kernel_rfl, ?_⟩) (by assumption) ?_
      rotate_left
      · (intro w hSw; (try dsimp only at hSw); go_simp; try with_reducible rfl)
      simp only [Act.put, List.getElem_toArray, List.getElem_cons_zero, List.getElem_cons_succ, List.setIfInBounds_toArray, List.set_cons_zero, List.set_cons_succ]
      refine wpAnyH_ready (rs := [11]) (by kernel_rfl) (by simp) ?_
      refine AllReadyH.cons rfl (fun K hK => ?_) AllReadyH.nil
      go_simp
      refine hK.out _ _ ?_ (fun hHeld => ?_)
      · ((try dsimp only); first | exact y3 | exact y1 | go_keep)
      clear hK K
      try simp only [Act.put, List.getElem_toArray, List.getElem_cons_zero, List.getElem_cons_succ, List.setIfInBounds_toArray, List.set_cons_zero, List.set_cons_succ]
      refine wpAnyH_take (i := 12) (v := ?_) rfl (by kernel_rfl) (by kernel_rfl) (by kernel_rfl) (fun _ _ _ h => h) (Or.inl ⟨by kernel_rfl, ?_⟩) (by assumption) ?_
      rotate_left
      · (intro w hSw; (try dsimp only at hSw); go_simp; try with_reducible rfl)
      simp only [Act.put, List.getElem_toArray, List.getElem_cons_zero, List.getElem_cons_succ, List.setIfInBounds_toArray, List.set_cons_zero, List.set_cons_succ]
      refine wpAnyH_take (i := 13) (v := ?_) rfl (by kernel_rfl) (by kernel_rfl) (by kernel_rfl) (fun _ _ _ h => h) (Or.inl ⟨by kernel_rfl, ?_⟩) (by assumption) ?_
      rotate_left
      · (intro w hSw; (try dsimp only at hSw); go_simp; try with_reducible rfl)
      simp only [Act.put, List.getElem_toArray, List.getElem_cons_zero, List.getElem_cons_succ, List.setIfInBounds_toArray, List.set_cons_zero, List.set_cons_succ]
      refine wpAnyH_done (by kernel_rfl) ?_ _
      refine NoPanic.normal ?_
      go_wp2_with fail
      exact REST L' S' A' c' _ _ _ _ _ _ _ _ _ _ _ _ _ _ _ _ _ _ _ _ _ _ _ _ _ _ _ _ _ _ _ _ _ _ _ _ _ _ _ _ _ _ _ _ _ _ _ _ _ _ _ _ _ _ _ _ _ _ _ _ _ _ _ _ _ _ _ _ _ _ _ _ _ _ _ _ _ _ _ _ _ _ _ _ _ _ _ _ _ _ _ _ _ _ _ _ _ _ _ _ _ _ _ _ _ _ _ _ _ _ _ _ _ _ _ _ _ _ _ _ _ _ _ _ _ _ _ _ _ _ _ _ _ (by have := HLN.out; omega) HL'.out HX.out
    by_cases h3 : K k = 3
    · obtain ⟨c0, c1, c2⟩ := HC.out _ HB.out.keep
      have q1 : (K k == 1) = false := beq_eq_false_iff_ne.mpr h1
      have q2 : (K k == 2) = false := beq_eq_false_iff_ne.mpr h2
      have q3 : (K k == 3) = true := beq_iff_eq.mpr h3
      have p1 : (K k = 1) = False := eq_false h1
      have p2 : (K k = 2) = False := eq_false (by omega)
      have p3 : (K k = 3) = True := eq_true h3
      have cx := cell_of HB.out.box 0
      clear h1 h2 h3
      go_wp2_with fail
      refine (doc24_tick S A c R _ HB.out.lp HSY.out).mono ?_
      rintro e w1 ⟨A', c', out, rfl, hq, hfa, hout, k1⟩
      have hol := hout.lt
      rw [intsL_nums] at hout
      obtain ⟨o1, oc1, rfl, hrw⟩ := Row.ofOwn hout
      have hka := k1.alloc (.cells #[.slice A' (decR R).length c'] 30)
      have bx9 := (HB.out.none hka).box
      have fx9 := free_of bx9 0
      have cx8 := cell_of bx9 0
      have lx8 := lt_of bx9
      have bx1 := (HB.out.none k1).box
      have fx1 := free_of bx1 0
      have cx1 := cell_of bx1 0
      have lx1 := lt_of bx1
      have HX := Lib.hid ((BD.store HB.out k1 hq (.inr hfa)).none ((Keeps.refl (fun _ => False) _).alloc (.cells #[.slice A' (decR R).length c'] 30)))
      have HO := Lib.hid (And.intro (show ∀ b off, o1 = some ⟨b, off, none⟩ → ¬ Own W.heap.size L b from fun b off e h => by
        have h1 := (hol b (by subst e; rfl)).1
        have h2 := HB.out.own_lt b h
        omega) (And.intro (show ∀ b off, o1 = some ⟨b, off, none⟩ → b ≠ W.heap.size + 1 from fun b off e => by
        have h1 := (hol b (by subst e; rfl)).1
        have h2 := lt_of HB.out.box
        omega) hrw))
      clear hq hfa hout k1 hol hrw hka bx9 bx1 c0 c1 c2 cx
      go_wp2_with fail
      refine (bd_tick W _ _ _ _ _ _ _ R (decR R) HX.out HL.out (by omega)).mono ?_
      rintro e w2 ⟨v, rfl, hv, hkO, L', S', hb1, hr1, hl1⟩
      rw [intsL_nums] at hv
      obtain ⟨o2, oc2, rfl, hrw2⟩ := Row.ofOwn hv
      have hfew : (outR R).length ≤ 100 := by
        have h1 := HSY.out.few
        unfold outR
        rw [List.length_map]
        exact Nat.le_trans (List.length_filter_le _ _) h1
      have HSm := Lib.hid (rows_same o2 o1 _ oc2 oc1 _ w2 (by unfold maxLen; omega) hrw2 (((HO.out.2.2.keeps (S := fun k => k = W.heap.size + 1) ((Keeps.refl (fun k => k = W.heap.size + 1) w1).setCell (p := ⟨W.heap.size + 1, 0, none⟩) (.inl rfl) (.slice A' (decR R).length c')) HO.out.2.1).none ((Keeps.refl (fun _ => False) _).alloc (.cells #[.slice A' (decR R).length c'] 30))).keeps hkO HO.out.1))
      replace HX := Lib.hid hb1
      have HL' := Lib.hid hr1
      have HLN := Lib.hid hl1
      clear hv hkO hb1 hr1 hl1 hrw2 fx9 cx8 lx8 fx1 cx1 lx1
      go_wp2_with fail
      refine HSm.out.mono ?_
      rintro e w3 ⟨rfl, k3⟩
      replace HX := Lib.hid (HX.out.none k3)
      clear k3
      go_wp2_with fail
      exact REST L' S' A' c' _ false 0 _ _ _ _ _ _ _ _ _ _ _ _ _ _ _ _ _ _ _ _ _ _ _ _ _ _ _ _ _ _ _ _ _ _ _ _ _ _ _ _ _ _ _ _ _ _ _ _ _ _ _ _ _ _ _ _ _ _ _ _ _ _ _ _ _ _ _ _ _ _ _ _ _ _ _ _ _ _ _ _ _ _ _ _ _ _ _ _ _ _ _ _ _ _ _ _ _ _ _ _ _ _ _ _ _ _ _ _ _ _ _ _ _ _ _ _ _ _ _ _ _ _ _ _ _ _ _ _ _ _ (by have := HLN.out; omega) HL'.out HX.out
    obtain ⟨c0, c1, c2⟩ := HC.out _ HB.out.keep
    have q1 : (K k == 1) = false := beq_eq_false_iff_ne.mpr h1
    have q2 : (K k == 2) = false := beq_eq_false_iff_ne.mpr h2
    have q3 : (K k == 3) = false := beq_eq_false_iff_ne.mpr h3
    have p1 : (K k = 1) = False := eq_false h1
    have p2 : (K k = 2) = False := eq_false (by omega)
    have p3 : (K k = 3) = False := eq_false (by omega)
    have cx := cell_of HB.out.box 0
    clear h1 h2 h3
    go_wp2_with fail
    exact REST L S A c R false 0 wr _ _ _ _ _ _ _ _ _ _ _ _ _ _ _ _ _ _ _ _ _ _ _ _ _ _ _ _ _ _ _ _ _ _ _ _ _ _ _ _ _ _ _ _ _ _ _ _ _ _ _ _ _ _ _ _ _ _ _ _ _ _ _ _ _ _ _ _ _ _ _ _ _ _ _ _ _ _ _ _ _ _ _ _ _ _ _ _ _ _ _ _ _ _ _ _ _ _ _ _ _ _ _ _ _ _ _ _ _ _ _ _ _ _ _ _ _ _ _ _ _ _ _ _ _ _ _ _ _ (by omega) HL.out HB.out
  · obtain rfl : k = n := by omega
    clear HL
    go_wp2_with fail
    refine (alive24_any _).mono ?_
    rintro e w9 ⟨rfl, k9⟩
    replace HB := Lib.hid (HB.out.none k9)
    clear k9
    go_wp2
    go_ret
    exact ⟨rfl, HB.out.keep.none⟩
theorem step24_cells {w : World} {cs : List Value} (h : Reads Try.prog w 33 cs) :
    ∃ (k i : Int) (u : Nat), cs = [.int .i64 k, .int .i64 i, .int .u32 u] ∧ u < 4294967296 := by
  obtain ⟨hl, hf⟩ := h.struct Try.underlying33
  have hc : Try.prog.cellsOf 33 = 3 := by kernel_rfl
  have hi : Try.prog.cellsOf 3 = 1 := by kernel_rfl
  have hu : Try.prog.cellsOf 31 = 1 := by kernel_rfl
  rw [hc] at hl
  match cs, hl with
  | [v0, v1, v2], _ =>
    obtain ⟨s, hs, _⟩ := (h.field Try.underlying33 0 3 0 1 rfl hi).int Try.underlying3
    obtain ⟨f, hf, _⟩ := (h.field Try.underlying33 1 3 1 1 rfl hi).int Try.underlying3
    obtain ⟨m, hm, hw⟩ := (h.field Try.underlying33 2 31 2 1 rfl hu).int Try.underlying31
    have hb := bounds_u32 hw
    obtain ⟨y, rfl⟩ := Int.eq_ofNat_of_zero_le hb.1
    simp at hs hf hm
    exact ⟨s, f, y, by simp [hs, hf, hm], by omega⟩
theorem deltaPlays_walk {H : Type} {enc : TypeId × Value → H} (W : World) (base : Nat) {v0 v1 : Value} {d0 d1 : DataW H} {p0 p1 : List MemPlace}
    (k0 : Value.okWide Try.prog W .any base 22 v0) (h0 : DataW.Trod enc Try.prog W 0 (fun _ => true) true 22 v0 d0 p0)
    (k1 : Value.okWide Try.prog W .any base 3 v1) (h1 : DataW.Trod enc Try.prog W 0 (fun _ => true) true 3 v1 d1 p1) :
    Calls Try.prog 3 #[v0, v1] W fun e w' => e = .returned (.bool true) ∧ Below W.heap.size W w' := by
  obtain ⟨a0, n0, c0, rfl⟩ := okWide_slice Try.underlying22 k0
  obtain ⟨t, rfl⟩ := okWide_int Try.underlying3 k1
  obtain ⟨a, n, c, e, hl0, hm0, r0⟩ := (reads_of h0).rows Try.underlying22 (n := 3) (by kernel_rfl) (by omega)
  simp [Value.cells] at e
  obtain ⟨rfl, rfl, rfl⟩ := e
  by_cases hal : 100 < n0
  · exact deltaPlays_large a0 n0 c0 t W (by omega) hal
  · have q1 : ∃ (K T : Nat → Int) (U : Nat → Nat), (∀ i, i < n0 → U i < 4294967296) ∧ Steps24 W a0 n0 K T U := by
      rcases Nat.eq_zero_or_pos n0 with rfl | hp
      · exact ⟨fun _ => 0, fun _ => 0, fun _ => 0, fun i hi => by omega, fun h => by omega⟩
      · obtain ⟨b, off, rfl, hb, hr⟩ := r0 hp
        obtain ⟨F, hF⟩ := Deep.choose_lt (n := n0) (p := fun i (f : Int × Int × Nat) => f.2.2 < 4294967296 ∧ W.cell? ⟨b, off + i * 3, none⟩ = some (.int .i64 f.1) ∧ W.cell? ⟨b, off + i * 3 + 1, none⟩ = some (.int .i64 f.2.1) ∧ W.cell? ⟨b, off + i * 3 + 2, none⟩ = some (.int .u32 (f.2.2 : Nat))) (fun i hi => by
          obtain ⟨cs', _, hc, hrd⟩ := hr i hi
          obtain ⟨k, j, u, rfl, hu⟩ := step24_cells hrd
          have c0 := hc 0 (by omega)
          have c1 := hc 1 (by omega)
          have c2 := hc 2 (by omega)
          simp at c0 c1 c2
          exact ⟨(k, j, u), hu, c0, c1, c2⟩)
        exact ⟨fun i => (F i).1, fun i => (F i).2.1, fun i => (F i).2.2, fun i hi => (hF i hi).1, fun _ => ⟨b, off, rfl, hb, fun i hi => (hF i hi).2⟩⟩
    obtain ⟨K, T, U, hU, ht⟩ := q1
    exact deltaPlays_plain a0 n0 c0 K T U t W (by omega) ht hU
end Go.Proofs.Ytfniicgfnlklbab
