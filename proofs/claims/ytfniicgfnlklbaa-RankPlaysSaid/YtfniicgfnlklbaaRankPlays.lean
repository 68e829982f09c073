import Derived.Test.YtfniicgfnlklbaaQRh
import Derived.Test.YtfniicgfnlklbaaSame
import Derived.Test.YtfniicgfnlklbaaOpen
import Derived.Deep.RegionHeld3
namespace Go.Proofs.Ytfniicgfnlklbaa
open Go.ChangeShapes Go.WideShapes Go.ChangeAt Go.RowKit
set_option linter.unusedVariables false
set_option linter.unusedSimpArgs false
/-- The program's rank, the document's row, and where its slice lies. -/
structure PB (W w : World) (s : RkT) (A : Option Addr) (c : Nat) (R : List (Nat × Nat)) : Prop where
  rk : RkS w W.heap.size s
  qr : QR w A c R
  box : w.heap[W.heap.size + 1]? = some (.cells #[.slice A R.length c] 35 (0, 0))
  far : ∀ g off, A = some ⟨g, off, none⟩ → W.heap.size + 2 ≤ g
  keep : Keeps (fun _ => False) W w
theorem Keeps.over {S : Nat → Prop} {a w w' : World} (h : Keeps (fun _ => False) a w) (k : Keeps S w w') (hs : ∀ z, S z → a.heap.size ≤ z) : Keeps (fun _ => False) a w' :=
  ⟨k.os.trans h.os, k.tape.trans h.tape, k.output.trans h.output, Nat.le_trans h.size k.size, fun z hz _ => (k.block z (Nat.lt_of_lt_of_le hz h.size) fun hS => by have := hs z hS; omega).trans (h.block z hz fun h => h)⟩
section
variable {W w w' : World} {s s' : RkT} {A A' : Option Addr} {c c' : Nat} {R R' : List (Nat × Nat)}
theorem PB.none (h : PB W w s A c R) (k : Keeps (fun _ => False) w w') : PB W w' s A c R :=
  ⟨h.rk.keeps k fun h => h, h.qr.none k, k.at h.box fun h => h, h.far, h.keep.trans k⟩
theorem PB.step (h : PB W w s A c R) (k : Keeps (fun k => k = W.heap.size) w w') (hs : RkS w' W.heap.size s') : PB W w' s' A c R :=
  ⟨hs, h.qr.keeps k fun b off e hb => by have := h.far b off e; omega, k.at h.box (by omega), h.far, h.keep.over k fun z hz => by omega⟩
theorem PB.store (h : PB W w s A c R) (k : Keeps (fun _ => False) w w') (q : QR w' A' c' R') (hf : A' = A ∨ ∀ b off, A' = some ⟨b, off, Option.none⟩ → w.heap.size ≤ b) : PB W (w'.setCell ⟨W.heap.size + 1, 0, Option.none⟩ (.slice A' R'.length c')) s A' c' R' := by
  have hfar : ∀ g off, A' = some ⟨g, off, Option.none⟩ → W.heap.size + 2 ≤ g := fun g off e => by
    rcases hf with rfl | hf
    · exact h.far g off e
    · have h1 := hf g off e
      have h2 := lt_of h.box
      omega
  have ks : Keeps (fun k => k = W.heap.size + 1) w' (w'.setCell ⟨W.heap.size + 1, 0, Option.none⟩ (.slice A' R'.length c')) := (Keeps.refl (fun k => k = W.heap.size + 1) w').setCell (p := ⟨W.heap.size + 1, 0, Option.none⟩) (.inl rfl) _
  refine ⟨(h.rk.keeps k fun h => h).keeps ks (by omega), q.keeps ks fun b off e hb => by have := hfar b off e; omega, ?_, hfar, (h.keep.trans k).over ks fun z hz => by omega⟩
  have := heap_set (k.at h.box fun h => h) 0 (.slice A' R'.length c')
  exact this
end
theorem doc_bits {s : RkT} {A : Option Addr} {c : Nat} {R : List (Nat × Nat)} {bs : Nat} (hr : RelQ s R) (hbs : bs < 4294967296) (hb : ∀ p, p < 32 → bs.testBit p = !(s.1 p).isEmpty) : ∀ w, QR w A c R → Calls Try.prog 18 #[.agg #[.slice A R.length c]] w fun e w' => e = .returned (.int .u32 (bs : Int)) ∧ Keeps (fun _ => False) w w' := by
  intro w h
  obtain ⟨B, hB, hBb, hc⟩ := qbits_any A c R w hr.len h
  rw [rel_bits hr hbs hB hb hBb]
  exact hc
theorem rows_same (a1 a2 : Option Addr) (m c1 c2 : Nat) (F : Nat → Int) (w : World) (hm : m ≤ maxLen) (h1 : Row w a1 m F) (h2 : Row w a2 m F) :
    Calls Try.prog 20 #[.slice a1 m c1, .slice a2 m c2] w fun e w' => e = .returned (.bool true) ∧ Keeps (fun _ => False) w w' := by
  rcases Nat.eq_zero_or_pos m with rfl | hp
  · exact rsame_zero a1 a2 c1 c2 w
  · obtain ⟨g1, o1, rfl, _, hg1⟩ := h1 hp
    obtain ⟨g2, o2, rfl, _, hg2⟩ := h2 hp
    exact rsame_some g1 o1 g2 o2 m c1 c2 F w hm hg1 hg2
/-- The steps that are given. -/
def Steps23 (w : World) (a : Option Addr) (n : Nat) (K T P : Nat → Int) : Prop := 0 < n → ∃ b off, a = some ⟨b, off, none⟩ ∧ b < w.heap.size ∧ ∀ i, i < n → w.cell? ⟨b, off + i * 3, none⟩ = some (.int .i64 (K i)) ∧ w.cell? ⟨b, off + i * 3 + 1, none⟩ = some (.int .i64 (T i)) ∧ w.cell? ⟨b, off + i * 3 + 2, none⟩ = some (.int .i64 (P i))
set_option maxRecDepth 20000 in
theorem rankPlays_large (a : Option Addr) (n cap : Nat) (t : Int) (W : World) (hn : n ≤ maxLen) (h : 100 < n) :
    Calls Try.prog 3 #[.slice a n cap, .int .i64 t] W fun e w' => e = .returned (.bool true) ∧ Below W.heap.size W w' := by
  have d0 : decide ((100 : Int) < (n : Int)) = true := decide_eq_true (by omega)
  have d1 : decide (100 < n) = true := decide_eq_true h
  have HA := Lib.hid (alive23_any W)
  clear h
  go_enter Try.func3, Try.ntmps3
  go_wp2_with fail
  refine HA.out.mono ?_
  rintro e w' ⟨rfl, hk⟩
  go_wp2
  go_ret
  exact ⟨rfl, hk.none⟩
set_option maxRecDepth 20000 in
set_option maxHeartbeats 4000000 in
theorem rankPlays_plain (a : Option Addr) (n cap : Nat) (K T P : Nat → Int) (t : Int) (W : World) (hn : n ≤ 100) (hrow : Steps23 W a n K T P) :
    Calls Try.prog 3 #[.slice a n cap, .int .i64 t] W fun e w' => e = .returned (.bool true) ∧ Below W.heap.size W w' := by
  obtain ⟨zs, hzb, hz⟩ := rk_fresh
  have h0 := hz (W.alloc (.cells zs 32 (0, 0))) W.heap.size (heap_new _ _)
  have hsz : (W.alloc (.cells zs 32 (0, 0))).heap.size = W.heap.size + 1 := by simp
  have HB0 := Lib.hid (show PB W ((W.alloc (.cells zs 32 (0, 0))).alloc (.cells #[.slice none 0 0] 35)) rk0 none 0 [] from ⟨h0.keeps ((Keeps.refl (fun _ => False) _).alloc _) fun h => h, QR.empty _, by have := heap_new (W.alloc (.cells zs 32 (0, 0))) (.cells #[.slice none 0 0] 35); rw [hsz] at this; exact this, (fun g off e => by cases e), ((Keeps.refl _ _).alloc _).alloc _⟩)
  have HR := Lib.hid hrow
  have d0 : decide ((100 : Int) < (n : Int)) = false := decide_eq_false (by omega)
  have d1 : decide (100 < n) = false := decide_eq_false (by omega)
  clear hz hrow h0 hsz
  go_enter Try.func3, Try.ntmps3
  go_wp2_with fail
  go_loopw [7] (fun i wr => ∃ (k : Nat) (s : RkT) (A : Option Addr) (c : Nat) (R : List (Nat × Nat)), k ≤ n ∧ i = .int .i64 (k : Int) ∧ RelQ s R ∧ PB W wr s A c R) (fun i _ => n - (intOf i).toNat)
  case atStart => exact ⟨0, rk0, none, 0, [], by omega, rfl, rel_start, HB0.out⟩
  case round =>
  obtain ⟨k, s, A, c, R, hk, rfl, hrel, hpb⟩ := hrel
  clear HB0 hzb
  have HB := Lib.hid hpb
  have HL := Lib.hid hrel
  clear hpb hrel
  by_cases hlt : k < n
  · obtain ⟨bs, off, rfl, hbs, hsc⟩ := HR.out (by omega)
    have HC := Lib.hid (show ∀ w', Keeps (fun _ => False) W w' → w'.cell? ⟨bs, off + k * 3, none⟩ = some (.int .i64 (K k)) ∧ w'.cell? ⟨bs, off + k * 3 + 1, none⟩ = some (.int .i64 (T k)) ∧ w'.cell? ⟨bs, off + k * 3 + 2, none⟩ = some (.int .i64 (P k)) from fun w' hk' => by
      obtain ⟨g1, g2, g3⟩ := hsc k hlt
      exact ⟨(World.cell?_of_block (w := W) (hk'.block bs hbs fun h => h)).trans g1, (World.cell?_of_block (w := W) (hk'.block bs hbs fun h => h)).trans g2, (World.cell?_of_block (w := W) (hk'.block bs hbs fun h => h)).trans g3⟩)
    have hm := HB.out.rk.mem
    have hsm := HB.out.rk.small
    have hrs := HL.out
    have HMS := Lib.hid (And.intro hm hsm)
    clear hsc hm hsm hrs
    have lx := lt_of HB.out.box
    have lbs : bs < wr.heap.size := Nat.lt_of_lt_of_le hbs HB.out.keep.size
    have hbx : bs ≠ W.heap.size + 1 := by omega
    have hbx2 : W.heap.size + 1 ≠ bs := by omega
    have HC0 := Lib.hid (HC.out _ HB.out.keep).1
    go_wp2_with fail
    rotate_left
    · exact absurd (HC0.out.symm.trans ‹wr.cell? ⟨bs, off + k * 3, none⟩ = none›) (by simp)
    · exact absurd (HC0.out.symm.trans ‹wr.cell? ⟨bs, off + k * 3, none⟩ = none›) (by simp)
    rename_i K2 hK2 K1 hK1 K0 hK0 xo v heq
    obtain rfl : v = .int .i64 (K k) := Option.some.inj (heq.symm.trans HC0.out)
    clear heq
    have REST : ∀ (s' : RkT) (A' : Option Addr) (c' : Nat) (R' : List (Nat × Nat)) (ok : Bool) (w3 : World) (u4 u10 u11 u12 u13 u14 u15 u16 u17 u25 u26 u27 u28 u29 u30 u31 u32 u33 u34 u35 u36 u37 u38 u39 u40 u41 u42 u43 u44 u45 u46 u47 u48 u49 u50 u51 u52 u53 u54 u55 u56 u57 u58 u59 u60 u61 u62 u63 u64 u65 u66 u67 u68 u69 u70 u71 u72 u73 u74 u75 u76 u77 u78 u79 u80 u81 u82 u83 u84 u85 u86 u87 u88 u89 u90 u91 u92 u93 u94 u95 u96 u97 u98 u99 u100 u101 u102 u103 u104 u105 u106 u107 u108 u109 u110 u111 u112 u113 u114 u115 u116 u117 u118 u119 u120 u121 u122 u123 u124 u125 u126 u127 u128 u129 u130 u131 u132 u133 u134 u135 u136 u137 u138 u139 u140 u141 u142 u143 u144 u145 u146 u147 u148 u149 u150 u151 u152 u153 u154 u155 u156 u157 u158 u159 u160 u161 u162 u163 u164 u165 u166 u167 u168 u169 u170 : Value), RelQ s' R' → PB W w3 s' A' c' R' → K2 { tmps := #[.slice (some ⟨bs, off, none⟩) n cap, .int .i64 t, undef, undef, u4, .pointer (some ⟨W.heap.size, 0, none⟩), .pointer (some ⟨W.heap.size + 1, 0, none⟩), .int .i64 (k : Int), .bool ok, .bool ok, u10, u11, u12, u13, u14, u15, u16, u17, .slice (some ⟨bs, off, none⟩) n cap, .int .i64 (n : Int), .bool false, undef, .agg zs, .pointer (some ⟨W.heap.size, 0, none⟩), .agg #[.slice none 0 0], u25, u26, u27, u28, u29, u30, u31, u32, u33, u34, u35, u36, u37, u38, u39, u40, u41, u42, u43, u44, u45, u46, u47, u48, u49, u50, u51, u52, u53, u54, u55, u56, u57, u58, u59, u60, u61, u62, u63, u64, u65, u66, u67, u68, u69, u70, u71, u72, u73, u74, u75, u76, u77, u78, u79, u80, u81, u82, u83, u84, u85, u86, u87, u88, u89, u90, u91, u92, u93, u94, u95, u96, u97, u98, u99, u100, u101, u102, u103, u104, u105, u106, u107, u108, u109, u110, u111, u112, u113, u114, u115, u116, u117, u118, u119, u120, u121, u122, u123, u124, u125, u126, u127, u128, u129, u130, u131, u132, u133, u134, u135, u136, u137, u138, u139, u140, u141, u142, u143, u144, u145, u146, u147, u148, u149, u150, u151, u152, u153, u154, u155, u156, u157, u158, u159, u160, u161, u162, u163, u164, u165, u166, u167, u168, u169, u170, undef], defers := [] } w3 := by
      intro s' A' c' R' ok w3 u4 u10 u11 u12 u13 u14 u15 u16 u17 u25 u26 u27 u28 u29 u30 u31 u32 u33 u34 u35 u36 u37 u38 u39 u40 u41 u42 u43 u44 u45 u46 u47 u48 u49 u50 u51 u52 u53 u54 u55 u56 u57 u58 u59 u60 u61 u62 u63 u64 u65 u66 u67 u68 u69 u70 u71 u72 u73 u74 u75 u76 u77 u78 u79 u80 u81 u82 u83 u84 u85 u86 u87 u88 u89 u90 u91 u92 u93 u94 u95 u96 u97 u98 u99 u100 u101 u102 u103 u104 u105 u106 u107 u108 u109 u110 u111 u112 u113 u114 u115 u116 u117 u118 u119 u120 u121 u122 u123 u124 u125 u126 u127 u128 u129 u130 u131 u132 u133 u134 u135 u136 u137 u138 u139 u140 u141 u142 u143 u144 u145 u146 u147 u148 u149 u150 u151 u152 u153 u154 u155 u156 u157 u158 u159 u160 u161 u162 u163 u164 u165 u166 u167 u168 u169 u170 HL' HX
      replace HL' := Lib.hid HL'
      replace HX := Lib.hid HX
      refine hK2 _ _ ?_
      clear hK2 hK1 hK0 HB HL HMS HC0 lx lbs
      obtain ⟨bw, hb1, hb2, hbc⟩ := rks_bits _ _ _ HX.out.rk
      have HBt := Lib.hid hbc
      have HDB := Lib.hid (fun A c => doc_bits (A := A) (c := c) HL'.out hb1 hb2)
      have HMS := Lib.hid (And.intro HX.out.rk.mem HX.out.rk.small)
      have HCN := Lib.hid HL'.out.count
      have hrl : R'.length ≤ 16 := HL'.out.len
      have cx := cell_of HX.out.box 0
      have lx := lt_of HX.out.box
      clear hb1 hb2 hbc
      go_wp2_with fail
      refine (rks_first _ _ _ HX.out.rk).mono ?_
      rintro e w' ⟨rfl, rfl⟩
      go_wp2_with fail
      refine (doc_first _ _ _ _ _ HX.out.qr HL'.out).mono ?_
      rintro e w4 ⟨rfl, k4⟩
      replace HX := Lib.hid (HX.out.none k4)
      clear k4 cx lx
      have cx := cell_of HX.out.box 0
      have lx := lt_of HX.out.box
      go_wp2_with fail
      refine (rks_prio _ _ _ HX.out.rk t).mono ?_
      rintro e w' ⟨rfl, rfl⟩
      go_wp2_with fail
      refine (doc_prio _ _ _ _ _ HX.out.qr HL'.out HMS.out.1 HMS.out.2 t).mono ?_
      rintro e w5 ⟨rfl, k5⟩
      replace HX := Lib.hid (HX.out.none k5)
      clear k5 cx lx
      have cx := cell_of HX.out.box 0
      have lx := lt_of HX.out.box
      replace HX := Lib.hid (HX.out.none (Keeps.refl (fun _ => False) _).drew)
      go_wp2_with fail
      go_region_held3 (fun w' => w'.cell? ⟨W.heap.size + 1, 0, none⟩ = some (.slice A' R'.length c'))
        (first
          | exact x9
          | exact cx
          | go_keep)
        ((first
          | (go_at_call 17; refine (HBt.out _ HX.out.rk).mono ?_; rintro e w9 ⟨rfl, rfl⟩)
          | (go_at_call 18; refine (HDB.out _ _ _ HX.out.qr).mono ?_; rintro e w9 ⟨rfl, k9⟩; replace HX := Lib.hid (HX.out.none k9); have x9 := cell_of HX.out.box 0; clear k9)
          | (go_at_call 19; refine (rks_len _ _ _ HX.out.rk).mono ?_; rintro e w9 ⟨rfl, k9⟩; rw [HCN.out]; replace HX := Lib.hid (HX.out.none k9); have x9 := cell_of HX.out.box 0; clear k9)
          | (go_at_call 21; refine (rks_list _ _ _ HX.out.rk).mono ?_; rintro e w9 ⟨v, rfl, hown, k9⟩; rw [ints_nums] at hown; obtain ⟨l1, lc1, rfl, hr1⟩ := Row.ofOwn hown; have HR1 := Lib.hid hr1; replace HX := Lib.hid (HX.out.none k9); have x9 := cell_of HX.out.box 0; clear k9 hown hr1)
          | (go_at_call 22; refine (doc_list _ _ _ _ _ HX.out.qr HL'.out).mono ?_; rintro e w9 ⟨v, rfl, hown, k9⟩; rw [ints_nums] at hown; obtain ⟨l2, lc2, rfl, hr2⟩ := Row.ofOwn hown; have HR2 := Lib.hid (And.intro (HR1.out.none k9) hr2); replace HX := Lib.hid (HX.out.none k9); have x9 := cell_of HX.out.box 0; clear k9 hown hr2)
          | (go_at_call 20; refine (rows_same _ _ _ _ _ _ _ (by rw [HCN.out]; unfold maxLen; omega) HR2.out.1 HR2.out.2).mono ?_; rintro e w9 ⟨rfl, k9⟩; replace HX := Lib.hid (HX.out.none k9); have x9 := cell_of HX.out.box 0; clear k9)
          | fail))
      go_wp2_with fail
      go_roundw
      case rel => exact ⟨k + 1, s', A', c', R', by omega, by go_num, HL'.out, HX.out⟩
      case measure => simp [intOf]; omega
    by_cases h1 : K k = 1
    · obtain ⟨c0, c1, c2⟩ := HC.out _ HB.out.keep
      have q1 : (K k == 1) = true := beq_iff_eq.mpr h1
      have q2 : (K k == 2) = false := beq_eq_false_iff_ne.mpr (by omega)
      have q3 : (K k == 3) = false := beq_eq_false_iff_ne.mpr (by omega)
      have p1 : (K k = 1) = True := eq_true h1
      have p2 : (K k = 2) = False := eq_false (by omega)
      have p3 : (K k = 3) = False := eq_false (by omega)
      have cx := cell_of HB.out.box 0
      clear h1
      go_wp2_with fail
      go_region_held3 (fun w' => w'.cell? ⟨bs, off + k * 3 + 1, none⟩ = some (.int .i64 (T k)) ∧ w'.cell? ⟨bs, off + k * 3 + 2, none⟩ = some (.int .i64 (P k)))
        (first
          | exact ⟨y1, y2⟩
          | exact ⟨c1, c2⟩
          | go_keep)
        ((go_at_call 7; refine (rks_add _ _ _ (HB.out.none (Keeps.refl (fun _ => False) _).drew).rk (T k) (P k)).mono ?_; rintro e w1 ⟨rfl, hS, hK⟩; replace HB := Lib.hid ((HB.out.none (Keeps.refl (fun _ => False) _).drew).step hK hS); obtain ⟨_, y1, y2⟩ := HC.out _ HB.out.keep; have cx9 := cell_of HB.out.box 0; have lx9 := lt_of HB.out.box; have lb9 : bs < w1.heap.size := Nat.lt_of_lt_of_le hbs HB.out.keep.size; clear hS hK))
      clear c0 c1 c2 cx lx lbs
      go_wp2_with fail
      refine wp_region_noPanic ?_
      refine wp_region_held_drew (S := (fun w' => w'.cell? ⟨bs, off + k * 3 + 1, none⟩ = some (.int .i64 (T k)) ∧ w'.cell? ⟨bs, off + k * 3 + 2, none⟩ = some (.int .i64 (P k)))) (by kernel_rfl) ?_ (fun hHeld => ?_)
      · exact ⟨y1, y2⟩
      refine wpAnyH_take (i := 1) (v := ?_) rfl (by kernel_rfl) (by kernel_rfl) (by kernel_rfl) (fun _ _ _ h => h) (Or.inl ⟨by kernel_rfl, ?_⟩) (by assumption) ?_
      rotate_left
      · (intro w hSw; (try dsimp only at hSw); go_simp; try with_reducible rfl)
      simp only [Act.put, List.getElem_toArray, List.getElem_cons_zero, List.getElem_cons_succ, List.setIfInBounds_toArray, List.set_cons_zero, List.set_cons_succ]
      refine wpAnyH_take (i := 2) (v := ?_) rfl (by kernel_rfl) (by kernel_rfl) (by kernel_rfl) (fun _ _ _ h => h) (Or.inl ⟨by kernel_rfl, ?_⟩) (by assumption) ?_
      rotate_left
      · (intro w hSw; (try dsimp only at hSw); go_simp; try with_reducible rfl)
      simp only [Act.put, List.getElem_toArray, List.getElem_cons_zero, List.getElem_cons_succ, List.setIfInBounds_toArray, List.set_cons_zero, List.set_cons_succ]
      refine wpAnyH_take (i := 3) (v := ?_) rfl (by kernel_rfl) (by kernel_rfl) (by kernel_rfl) (fun _ _ _ h => h) (Or.inl ⟨by kernel_rfl, ?_⟩) (by assumption) ?_
      rotate_left
      · (intro w hSw; (try dsimp only at hSw); go_simp; try with_reducible rfl)
      simp only [Act.put, List.getElem_toArray, List.getElem_cons_zero, List.getElem_cons_succ, List.setIfInBounds_toArray, List.set_cons_zero, List.set_cons_succ]
      refine wpAnyH_take (i := 4) (v := ?_) rfl (by kernel_rfl) (by kernel_rfl) (by kernel_rfl) (fun _ _ _ h => h) (Or.inl ⟨by kernel_rfl, ?_⟩) (by assumption) ?_
      rotate_left
      · (intro w hSw; (try dsimp only at hSw); go_simp; try with_reducible rfl)
      simp only [Act.put, List.getElem_toArray, List.getElem_cons_zero, List.getElem_cons_succ, List.setIfInBounds_toArray, List.set_cons_zero, List.set_cons_succ]
      refine wpAnyH_take (i := 5) (v := ?_) rfl (by kernel_rfl) (by kernel_rfl) (by kernel_rfl) (fun _ _ _ h => h) (Or.inl ⟨by kernel_rfl, ?_⟩) (by assumption) ?_
      rotate_left
      · (intro w hSw; (try dsimp only at hSw); go_simp; try with_reducible rfl)
      simp only [Act.put, List.getElem_toArray, List.getElem_cons_zero, List.getElem_cons_succ, List.setIfInBounds_toArray, List.set_cons_zero, List.set_cons_succ]
      refine wpAnyH_take (i := 6) (v := ?_) rfl (by kernel_rfl) (by kernel_rfl) (by kernel_rfl) (fun _ _ _ h => h) (Or.inl ⟨by kernel_rfl, ?_⟩) (by assumption) ?_
      rotate_left
      · (intro w hSw; (try dsimp only at hSw); go_simp; try with_reducible rfl)
      simp only [Act.put, List.getElem_toArray, List.getElem_cons_zero, List.getElem_cons_succ, List.setIfInBounds_toArray, List.set_cons_zero, List.set_cons_succ]
      refine wpAnyH_take (i := 7) (v := ?_) rfl (by kernel_rfl) (by kernel_rfl) (by kernel_rfl) (fun _ _ _ h => h) (Or.inl ⟨by kernel_rfl, ?_⟩) (by assumption) ?_
      rotate_left
      · (intro w hSw; (try dsimp only at hSw); go_simp; try with_reducible rfl)
      simp only [Act.put, List.getElem_toArray, List.getElem_cons_zero, List.getElem_cons_succ, List.setIfInBounds_toArray, List.set_cons_zero, List.set_cons_succ]
      refine wpAnyH_take (i := 8) (v := ?_) rfl (by kernel_rfl) (by kernel_rfl) (by kernel_rfl) (fun _ _ _ h => h) (Or.inl ⟨by kernel_rfl, ?_⟩) (by assumption) ?_
      rotate_left
      · (intro w hSw; (try dsimp only at hSw); go_simp; try with_reducible rfl)
      simp only [Act.put, List.getElem_toArray, List.getElem_cons_zero, List.getElem_cons_succ, List.setIfInBounds_toArray, List.set_cons_zero, List.set_cons_succ]
      refine wpAnyH_take (i := 9) (v := ?_) rfl (by kernel_rfl) (by kernel_rfl) (by kernel_rfl) (fun _ _ _ h => h) (Or.inl ⟨by kernel_rfl, ?_⟩) (by assumption) ?_
      rotate_left
      · (intro w hSw; (try dsimp only at hSw); go_simp; try with_reducible rfl)
      simp only [Act.put, List.getElem_toArray, List.getElem_cons_zero, List.getElem_cons_succ, List.setIfInBounds_toArray, List.set_cons_zero, List.set_cons_succ]
      refine wpAnyH_take (i := 10) (v := ?_) rfl (by kernel_rfl) (by kernel_rfl) (by kernel_rfl) (fun _ _ _ h => h) (Or.inl ⟨by kernel_rfl, ?_⟩) (by assumption) ?_
      rotate_left
      · (intro w hSw; (try dsimp only at hSw); go_simp; try with_reducible rfl)
      simp only [Act.put, List.getElem_toArray, List.getElem_cons_zero, List.getElem_cons_succ, List.setIfInBounds_toArray, List.set_cons_zero, List.set_cons_succ]
      refine wpAnyH_ready (rs := [0]) (by kernel_rfl) (by simp) ?_
      refine AllReadyH.cons rfl (fun K hK => ?_) AllReadyH.nil
      go_simp
      refine hK.out _ _ ?_ (fun hHeld => ?_)
      · ((try dsimp only); first | exact ⟨y3, y4⟩ | exact ⟨y1, y2⟩ | (first | go_keep | ((repeat' apply And.intro) <;> go_keep)))
      clear hK K
      try simp only [Act.put, List.getElem_toArray, List.getElem_cons_zero, List.getElem_cons_succ, List.setIfInBounds_toArray, List.set_cons_zero, List.set_cons_succ]
      refine wpAnyH_ready (rs := [11]) (by kernel_rfl) (by simp) ?_
      refine AllReadyH.cons rfl (fun K hK => ?_) AllReadyH.nil
      go_simp
      (go_at_call 8; refine (doc_add s A c R _ (HB.out.none (Keeps.refl (fun _ => False) _).drew).qr HL.out HMS.out.1 HMS.out.2 (T k) (P k)).mono ?_; rintro e w2 ⟨A', c', R', rfl, hq, hr', hf, hk2⟩; obtain ⟨_, y3, y4⟩ := HC.out _ (HB.out.keep.drew.trans hk2); have bx9 := ((HB.out.none (Keeps.refl (fun _ => False) _).drew).none hk2).box; have fx9 := free_of bx9 0; have cx8 := cell_of bx9 0; have lx8 := lt_of bx9; have HX := Lib.hid (PB.store (HB.out.none (Keeps.refl (fun _ => False) _).drew) hk2 hq hf); have HL' := Lib.hid hr'; clear hq hr' hf hk2 bx9)
      go_wp2_with fail
      refine hK.out _ _ ?_ (fun hHeld => ?_)
      · ((try dsimp only); first | exact ⟨y3, y4⟩ | exact ⟨y1, y2⟩ | (first | go_keep | ((repeat' apply And.intro) <;> go_keep)))
      clear hK K
      try simp only [Act.put, List.getElem_toArray, List.getElem_cons_zero, List.getElem_cons_succ, List.setIfInBounds_toArray, List.set_cons_zero, List.set_cons_succ]
      refine wpAnyH_take (i := 12) (v := ?_) rfl (by kernel_rfl) (by kernel_rfl) (by kernel_rfl) (fun _ _ _ h => h) (Or.inl ⟨by kernel_rfl, ?_⟩) (by assumption) ?_
      rotate_left
      · (intro w hSw; (try dsimp only at hSw); go_simp; try with_reducible rfl)
      simp only [Act.put, List.getElem_toArray, List.getElem_cons_zero, List.getElem_cons_succ, List.setIfInBounds_toArray, List.set_cons_zero, List.set_cons_succ]
      refine wpAnyH_take (i := 13) (v := ?_) rfl (by kernel_rfl) (by kernel_rfl) (by kernel_rfl) (fun _ _ _ h => h) (Or.inl ⟨by kernel_rfl, ?_⟩) (by assumption) ?_
      rotate_left
      · (intro w hSw; (try dsimp only at hSw); go_simp; try with_reducible rfl)
      simp only [Act.put, List.getElem_toArray, List.getElem_cons_zero, List.getElem_cons_succ, List.setIfInBounds_toArray, List.set_cons_zero, List.set_cons_succ]
      refine wpAnyH_take (i := 14) (v := ?_) rfl (by kernel_rfl) (by kernel_rfl) (by kernel_rfl) (fun _ _ _ h => h) (Or.inl ⟨by kernel_rfl, ?_⟩) (by assumption) ?_
      rotate_left
      · (intro w hSw; (try dsimp only at hSw); go_simp; try with_reducible rfl)
      simp only [Act.put, List.getElem_toArray, List.getElem_cons_zero, List.getElem_cons_succ, List.setIfInBounds_toArray, List.set_cons_zero, List.set_cons_succ]
      refine wpAnyH_ready (rs := [15]) (by kernel_rfl) (by simp) ?_
      refine AllReadyH.cons rfl (fun K hK => ?_) AllReadyH.nil
      go_simp
      refine hK.out _ _ ?_ (fun hHeld => ?_)
      · ((try dsimp only); first | exact ⟨y3, y4⟩ | exact ⟨y1, y2⟩ | (first | go_keep | ((repeat' apply And.intro) <;> go_keep)))
      clear hK K
      try simp only [Act.put, List.getElem_toArray, List.getElem_cons_zero, List.getElem_cons_succ, List.setIfInBounds_toArray, List.set_cons_zero, List.set_cons_succ]
      refine wpAnyH_take (i := 16) (v := ?_) rfl (by kernel_rfl) (by kernel_rfl) (by kernel_rfl) (fun _ _ _ h => h) (Or.inl ⟨by kernel_rfl, ?_⟩) (by assumption) ?_
      rotate_left
      · (intro w hSw; (try dsimp only at hSw); go_simp; try with_reducible rfl)
      simp only [Act.put, List.getElem_toArray, List.getElem_cons_zero, List.getElem_cons_succ, List.setIfInBounds_toArray, List.set_cons_zero, List.set_cons_succ]
      refine wpAnyH_done (by kernel_rfl) ?_ _
      refine NoPanic.normal ?_
      go_wp2_with fail
      exact REST (addT s (T k) (P k)) A' c' R' (canAdd s.2 (T k) (P k)) (w2.setCell ⟨W.heap.size + 1, 0, none⟩ (.slice A' R'.length c')) _ _ _ _ _ _ _ _ _ _ _ _ _ _ _ _ _ _ _ _ _ _ _ _ _ _ _ _ _ _ _ _ _ _ _ _ _ _ _ _ _ _ _ _ _ _ _ _ _ _ _ _ _ _ _ _ _ _ _ _ _ _ _ _ _ _ _ _ _ _ _ _ _ _ _ _ _ _ _ _ _ _ _ _ _ _ _ _ _ _ _ _ _ _ _ _ _ _ _ _ _ _ _ _ _ _ _ _ _ _ _ _ _ _ _ _ _ _ _ _ _ _ _ _ _ _ _ _ _ _ _ _ _ _ _ _ _ _ _ _ _ _ _ _ _ _ _ _ _ _ _ _ _ _ _ HL'.out HX.out
    by_cases h2 : K k = 2
    · obtain ⟨c0, c1, c2⟩ := HC.out _ HB.out.keep
      have q1 : (K k == 1) = false := beq_eq_false_iff_ne.mpr h1
      have q2 : (K k == 2) = true := beq_iff_eq.mpr h2
      have q3 : (K k == 3) = false := beq_eq_false_iff_ne.mpr (by omega)
      have p1 : (K k = 1) = False := eq_false h1
      have p2 : (K k = 2) = True := eq_true h2
      have p3 : (K k = 3) = False := eq_false (by omega)
      have cx := cell_of HB.out.box 0
      clear h1 h2
      go_wp2_with fail
      refine (rks_rem _ _ _ HB.out.rk (T k)).mono ?_
      rintro e w1 ⟨rfl, hS, hK⟩
      replace HB := Lib.hid (HB.out.step hK hS)
      obtain ⟨_, y1, y2⟩ := HC.out _ HB.out.keep; have cx9 := cell_of HB.out.box 0; have lx9 := lt_of HB.out.box; have lb9 : bs < w1.heap.size := Nat.lt_of_lt_of_le hbs HB.out.keep.size; clear hS hK
      clear c0 c1 c2 cx lx lbs
      go_wp2_with fail
      refine wp_region_noPanic ?_
      refine wp_region_held_drew (S := (fun w' => w'.cell? ⟨bs, off + k * 3 + 1, none⟩ = some (.int .i64 (T k)))) (by kernel_rfl) ?_ (fun hHeld => ?_)
      · exact y1
      refine wpAnyH_take (i := 1) (v := ?_) rfl (by kernel_rfl) (by kernel_rfl) (by kernel_rfl) (fun _ _ _ h => h) (Or.inl ⟨by kernel_rfl, ?_⟩) (by assumption) ?_
      rotate_left
      · (intro w hSw; (try dsimp only at hSw); go_simp; try with_reducible rfl)
      simp only [Act.put, List.getElem_toArray, List.getElem_cons_zero, List.getElem_cons_succ, List.setIfInBounds_toArray, List.set_cons_zero, List.set_cons_succ]
      refine wpAnyH_take (i := 2) (v := ?_) rfl (by kernel_rfl) (by kernel_rfl) (by kernel_rfl) (fun _ _ _ h => h) (Or.inl ⟨by kernel_rfl, ?_⟩) (by assumption) ?_
      rotate_left
      · (intro w hSw; (try dsimp only at hSw); go_simp; try with_reducible rfl)
      simp only [Act.put, List.getElem_toArray, List.getElem_cons_zero, List.getElem_cons_succ, List.setIfInBounds_toArray, List.set_cons_zero, List.set_cons_succ]
      refine wpAnyH_take (i := 3) (v := ?_) rfl (by kernel_rfl) (by kernel_rfl) (by kernel_rfl) (fun _ _ _ h => h) (Or.inl ⟨by kernel_rfl, ?_⟩) (by assumption) ?_
      rotate_left
      · (intro w hSw; (try dsimp only at hSw); go_simp; try with_reducible rfl)
      simp only [Act.put, List.getElem_toArray, List.getElem_cons_zero, List.getElem_cons_succ, List.setIfInBounds_toArray, List.set_cons_zero, List.set_cons_succ]
      refine wpAnyH_take (i := 4) (v := ?_) rfl (by kernel_rfl) (by kernel_rfl) (by kernel_rfl) (fun _ _ _ h => h) (Or.inl ⟨by kernel_rfl, ?_⟩) (by assumption) ?_
      rotate_left
      · (intro w hSw; (try dsimp only at hSw); go_simp; try with_reducible rfl)
      simp only [Act.put, List.getElem_toArray, List.getElem_cons_zero, List.getElem_cons_succ, List.setIfInBounds_toArray, List.set_cons_zero, List.set_cons_succ]
      refine wpAnyH_take (i := 5) (v := ?_) rfl (by kernel_rfl) (by kernel_rfl) (by kernel_rfl) (fun _ _ _ h => h) (Or.inl ⟨by kernel_rfl, ?_⟩) (by assumption) ?_
      rotate_left
      · (intro w hSw; (try dsimp only at hSw); go_simp; try with_reducible rfl)
      simp only [Act.put, List.getElem_toArray, List.getElem_cons_zero, List.getElem_cons_succ, List.setIfInBounds_toArray, List.set_cons_zero, List.set_cons_succ]
      refine wpAnyH_ready (rs := [0]) (by kernel_rfl) (by simp) ?_
      refine AllReadyH.cons rfl (fun K hK => ?_) AllReadyH.nil
      go_simp
      refine hK.out _ _ ?_ (fun hHeld => ?_)
      · ((try dsimp only); first | exact y3 | exact y1 | go_keep)
      clear hK K
      try simp only [Act.put, List.getElem_toArray, List.getElem_cons_zero, List.getElem_cons_succ, List.setIfInBounds_toArray, List.set_cons_zero, List.set_cons_succ]
      refine wpAnyH_ready (rs := [6]) (by kernel_rfl) (by simp) ?_
      refine AllReadyH.cons rfl (fun K hK => ?_) AllReadyH.nil
      go_simp
      (go_at_call 10; refine (doc_rem s A c R _ (HB.out.none (Keeps.refl (fun _ => False) _).drew).qr HL.out HMS.out.1 HMS.out.2 (T k)).mono ?_; rintro e w2 ⟨A', c', R', rfl, hq, hr', hf, hk2⟩; obtain ⟨_, y3, y4⟩ := HC.out _ (HB.out.keep.drew.trans hk2); have bx9 := ((HB.out.none (Keeps.refl (fun _ => False) _).drew).none hk2).box; have fx9 := free_of bx9 0; have cx8 := cell_of bx9 0; have lx8 := lt_of bx9; have HX := Lib.hid (PB.store (HB.out.none (Keeps.refl (fun _ => False) _).drew) hk2 hq hf); have HL' := Lib.hid hr'; clear hq hr' hf hk2 bx9)
      go_wp2_with fail
      refine hK.out _ _ ?_ (fun hHeld => ?_)
      · ((try dsimp only); first | exact y3 | exact y1 | go_keep)
      clear hK K
      try simp only [Act.put, List.getElem_toArray, List.getElem_cons_zero, List.getElem_cons_succ, List.setIfInBounds_toArray, List.set_cons_zero, List.set_cons_succ]
      refine wpAnyH_take (i := 7) (v := ?_) rfl (by kernel_rfl) (by kernel_rfl) (by kernel_rfl) (fun _ _ _ h => h) (Or.inl ⟨by kernel_rfl, ?_⟩) (by assumption) ?_
      rotate_left
      · (intro w hSw; (try dsimp only at hSw); go_simp; try with_reducible rfl)
      simp only [Act.put, List.getElem_toArray, List.getElem_cons_zero, List.getElem_cons_succ, List.setIfInBounds_toArray, List.set_cons_zero, List.set_cons_succ]
      refine wpAnyH_take (i := 8) (v := ?_) rfl (by kernel_rfl) (by kernel_rfl) (by kernel_rfl) (fun _ _ _ h => h) (Or.inl ⟨by kernel_rfl, ?_⟩) (by assumption) ?_
      rotate_left
      · (intro w hSw; (try dsimp only at hSw); go_simp; try with_reducible rfl)
      simp only [Act.put, List.getElem_toArray, List.getElem_cons_zero, List.getElem_cons_succ, List.setIfInBounds_toArray, List.set_cons_zero, List.set_cons_succ]
      refine wpAnyH_take (i := 9) (v := ?_) rfl (by kernel_rfl) (by kernel_rfl) (by kernel_rfl) (fun _ _ _ h => h) (Or.inl ⟨by kernel_rfl, ?_⟩) (by assumption) ?_
      rotate_left
      · (intro w hSw; (try dsimp only at hSw); go_simp; try with_reducible rfl)
      simp only [Act.put, List.getElem_toArray, List.getElem_cons_zero, List.getElem_cons_succ, List.setIfInBounds_toArray, List.set_cons_zero, List.set_cons_succ]
      refine wpAnyH_ready (rs := [10]) (by kernel_rfl) (by simp) ?_
      refine AllReadyH.cons rfl (fun K hK => ?_) AllReadyH.nil
      go_simp
      refine hK.out _ _ ?_ (fun hHeld => ?_)
      · ((try dsimp only); first | exact y3 | exact y1 | go_keep)
      clear hK K
      try simp only [Act.put, List.getElem_toArray, List.getElem_cons_zero, List.getElem_cons_succ, List.setIfInBounds_toArray, List.set_cons_zero, List.set_cons_succ]
      refine wpAnyH_take (i := 11) (v := ?_) rfl (by kernel_rfl) (by kernel_rfl) (by kernel_rfl) (fun _ _ _ h => h) (Or.inl ⟨by kernel_rfl, ?_⟩) (by assumption) ?_
      rotate_left
      · (intro w hSw; (try dsimp only at hSw); go_simp; try with_reducible rfl)
      simp only [Act.put, List.getElem_toArray, List.getElem_cons_zero, List.getElem_cons_succ, List.setIfInBounds_toArray, List.set_cons_zero, List.set_cons_succ]
      refine wpAnyH_done (by kernel_rfl) ?_ _
      refine NoPanic.normal ?_
      go_wp2_with fail
      exact REST (remT s (T k)) A' c' R' (canRem s.2 (T k)) (w2.setCell ⟨W.heap.size + 1, 0, none⟩ (.slice A' R'.length c')) _ _ _ _ _ _ _ _ _ _ _ _ _ _ _ _ _ _ _ _ _ _ _ _ _ _ _ _ _ _ _ _ _ _ _ _ _ _ _ _ _ _ _ _ _ _ _ _ _ _ _ _ _ _ _ _ _ _ _ _ _ _ _ _ _ _ _ _ _ _ _ _ _ _ _ _ _ _ _ _ _ _ _ _ _ _ _ _ _ _ _ _ _ _ _ _ _ _ _ _ _ _ _ _ _ _ _ _ _ _ _ _ _ _ _ _ _ _ _ _ _ _ _ _ _ _ _ _ _ _ _ _ _ _ _ _ _ _ _ _ _ _ _ _ _ _ _ _ _ _ _ _ _ _ _ HL'.out HX.out
    by_cases h3 : K k = 3
    · obtain ⟨c0, c1, c2⟩ := HC.out _ HB.out.keep
      have q1 : (K k == 1) = false := beq_eq_false_iff_ne.mpr h1
      have q2 : (K k == 2) = false := beq_eq_false_iff_ne.mpr h2
      have q3 : (K k == 3) = true := beq_iff_eq.mpr h3
      have p1 : (K k = 1) = False := eq_false h1
      have p2 : (K k = 2) = False := eq_false (by omega)
      have p3 : (K k = 3) = True := eq_true h3
      have cx := cell_of HB.out.box 0
      clear h1 h2 h3
      go_wp2_with fail
      refine (rks_turn _ _ _ HB.out.rk (T k)).mono ?_
      rintro e w1 ⟨rfl, hS, hK⟩
      replace HB := Lib.hid (HB.out.step hK hS)
      obtain ⟨_, y1, y2⟩ := HC.out _ HB.out.keep; have cx9 := cell_of HB.out.box 0; have lx9 := lt_of HB.out.box; have lb9 : bs < w1.heap.size := Nat.lt_of_lt_of_le hbs HB.out.keep.size; clear hS hK
      clear c0 c1 c2 cx lx lbs
      go_wp2_with fail
      refine wp_region_noPanic ?_
      refine wp_region_held_drew (S := (fun w' => w'.cell? ⟨bs, off + k * 3 + 1, none⟩ = some (.int .i64 (T k)))) (by kernel_rfl) ?_ (fun hHeld => ?_)
      · exact y1
      refine wpAnyH_take (i := 1) (v := ?_) rfl (by kernel_rfl) (by kernel_rfl) (by kernel_rfl) (fun _ _ _ h => h) (Or.inl ⟨by kernel_rfl, ?_⟩) (by assumption) ?_
      rotate_left
      · (intro w hSw; (try dsimp only at hSw); go_simp; try with_reducible rfl)
      simp only [Act.put, List.getElem_toArray, List.getElem_cons_zero, List.getElem_cons_succ, List.setIfInBounds_toArray, List.set_cons_zero, List.set_cons_succ]
      refine wpAnyH_take (i := 2) (v := ?_) rfl (by kernel_rfl) (by kernel_rfl) (by kernel_rfl) (fun _ _ _ h => h) (Or.inl ⟨by kernel_rfl, ?_⟩) (by assumption) ?_
      rotate_left
      · (intro w hSw; (try dsimp only at hSw); go_simp; try with_reducible rfl)
      simp only [Act.put, List.getElem_toArray, List.getElem_cons_zero, List.getElem_cons_succ, List.setIfInBounds_toArray, List.set_cons_zero, List.set_cons_succ]
      refine wpAnyH_take (i := 3) (v := ?_) rfl (by kernel_rfl) (by kernel_rfl) (by kernel_rfl) (fun _ _ _ h => h) (Or.inl ⟨by kernel_rfl, ?_⟩) (by assumption) ?_
      rotate_left
      · (intro w hSw; (try dsimp only at hSw); go_simp; try with_reducible rfl)
      simp only [Act.put, List.getElem_toArray, List.getElem_cons_zero, List.getElem_cons_succ, List.setIfInBounds_toArray, List.set_cons_zero, List.set_cons_succ]
      refine wpAnyH_take (i := 4) (v := ?_) rfl (by kernel_rfl) (by kernel_rfl) (by kernel_rfl) (fun _ _ _ h => h) (Or.inl ⟨by kernel_rfl, ?_⟩) (by assumption) ?_
      rotate_left
      · (intro w hSw; (try dsimp only at hSw); go_simp; try with_reducible rfl)
      simp only [Act.put, List.getElem_toArray, List.getElem_cons_zero, List.getElem_cons_succ, List.setIfInBounds_toArray, List.set_cons_zero, List.set_cons_succ]
      refine wpAnyH_take (i := 5) (v := ?_) rfl (by kernel_rfl) (by kernel_rfl) (by kernel_rfl) (fun _ _ _ h => h) (Or.inl ⟨by kernel_rfl, ?_⟩) (by assumption) ?_
      rotate_left
      · (intro w hSw; (try dsimp only at hSw); go_simp; try with_reducible rfl)
      simp only [Act.put, List.getElem_toArray, List.getElem_cons_zero, List.getElem_cons_succ, List.setIfInBounds_toArray, List.set_cons_zero, List.set_cons_succ]
      refine wpAnyH_ready (rs := [0]) (by kernel_rfl) (by simp) ?_
      refine AllReadyH.cons rfl (fun K hK => ?_) AllReadyH.nil
      go_simp
      refine hK.out _ _ ?_ (fun hHeld => ?_)
      · ((try dsimp only); first | exact y3 | exact y1 | go_keep)
      clear hK K
      try simp only [Act.put, List.getElem_toArray, List.getElem_cons_zero, List.getElem_cons_succ, List.setIfInBounds_toArray, List.set_cons_zero, List.set_cons_succ]
      refine wpAnyH_ready (rs := [6]) (by kernel_rfl) (by simp) ?_
      refine AllReadyH.cons rfl (fun K hK => ?_) AllReadyH.nil
      go_simp
      (go_at_call 12; refine (doc_turn s A c R _ (HB.out.none (Keeps.refl (fun _ => False) _).drew).qr HL.out HMS.out.1 HMS.out.2 (T k)).mono ?_; rintro e w2 ⟨A', c', R', rfl, hq, hr', hf, hk2⟩; obtain ⟨_, y3, y4⟩ := HC.out _ (HB.out.keep.drew.trans hk2); have bx9 := ((HB.out.none (Keeps.refl (fun _ => False) _).drew).none hk2).box; have fx9 := free_of bx9 0; have cx8 := cell_of bx9 0; have lx8 := lt_of bx9; have HX := Lib.hid (PB.store (HB.out.none (Keeps.refl (fun _ => False) _).drew) hk2 hq hf); have HL' := Lib.hid hr'; clear hq hr' hf hk2 bx9)
      go_wp2_with fail
      refine hK.out _ _ ?_ (fun hHeld => ?_)
      · ((try dsimp only); first | exact y3 | exact y1 | go_keep)
      clear hK K
      try simp only [Act.put, List.getElem_toArray, List.getElem_cons_zero, List.getElem_cons_succ, List.setIfInBounds_toArray, List.set_cons_zero, List.set_cons_succ]
      refine wpAnyH_take (i := 7) (v := ?_) rfl (by kernel_rfl) (by kernel_rfl) (by kernel_rfl) (fun _ _ _ h => h) (Or.inl ⟨by kernel_rfl, ?_⟩) (by assumption) ?_
      rotate_left
      · (intro w hSw; (try dsimp only at hSw); go_simp; try with_reducible rfl)
      simp only [Act.put, List.getElem_toArray, List.getElem_cons_zero, List.getElem_cons_succ, List.setIfInBounds_toArray, List.set_cons_zero, List.set_cons_succ]
      refine wpAnyH_take (i := 8) (v := ?_) rfl (by kernel_rfl) (by kernel_rfl) (by kernel_rfl) (fun _ _ _ h => h) (Or.inl ⟨by kernel_rfl, ?_⟩) (by assumption) ?_
      rotate_left
      · (intro w hSw; (try dsimp only at hSw); go_simp; try with_reducible rfl)
      simp only [Act.put, List.getElem_toArray, List.getElem_cons_zero, List.getElem_cons_succ, List.setIfInBounds_toArray, List.set_cons_zero, List.set_cons_succ]
      refine wpAnyH_take (i := 9) (v := ?_) rfl (by kernel_rfl) (by kernel_rfl) (by kernel_rfl) (fun _ _ _ h => h) (Or.inl ⟨by kernel_rfl, ?_⟩) (by assumption) ?_
      rotate_left
      · (intro w hSw; (try dsimp only at hSw); go_simp; try with_reducible rfl)
      simp only [Act.put, List.getElem_toArray, List.getElem_cons_zero, List.getElem_cons_succ, List.setIfInBounds_toArray, List.set_cons_zero, List.set_cons_succ]
      refine wpAnyH_ready (rs := [10]) (by kernel_rfl) (by simp) ?_
      refine AllReadyH.cons rfl (fun K hK => ?_) AllReadyH.nil
      go_simp
      refine hK.out _ _ ?_ (fun hHeld => ?_)
      · ((try dsimp only); first | exact y3 | exact y1 | go_keep)
      clear hK K
      try simp only [Act.put, List.getElem_toArray, List.getElem_cons_zero, List.getElem_cons_succ, List.setIfInBounds_toArray, List.set_cons_zero, List.set_cons_succ]
      refine wpAnyH_take (i := 11) (v := ?_) rfl (by kernel_rfl) (by kernel_rfl) (by kernel_rfl) (fun _ _ _ h => h) (Or.inl ⟨by kernel_rfl, ?_⟩) (by assumption) ?_
      rotate_left
      · (intro w hSw; (try dsimp only at hSw); go_simp; try with_reducible rfl)
      simp only [Act.put, List.getElem_toArray, List.getElem_cons_zero, List.getElem_cons_succ, List.setIfInBounds_toArray, List.set_cons_zero, List.set_cons_succ]
      refine wpAnyH_done (by kernel_rfl) ?_ _
      refine NoPanic.normal ?_
      go_wp2_with fail
      exact REST (turnT s (T k)) A' c' R' (canRem s.2 (T k)) (w2.setCell ⟨W.heap.size + 1, 0, none⟩ (.slice A' R'.length c')) _ _ _ _ _ _ _ _ _ _ _ _ _ _ _ _ _ _ _ _ _ _ _ _ _ _ _ _ _ _ _ _ _ _ _ _ _ _ _ _ _ _ _ _ _ _ _ _ _ _ _ _ _ _ _ _ _ _ _ _ _ _ _ _ _ _ _ _ _ _ _ _ _ _ _ _ _ _ _ _ _ _ _ _ _ _ _ _ _ _ _ _ _ _ _ _ _ _ _ _ _ _ _ _ _ _ _ _ _ _ _ _ _ _ _ _ _ _ _ _ _ _ _ _ _ _ _ _ _ _ _ _ _ _ _ _ _ _ _ _ _ _ _ _ _ _ _ _ _ _ _ _ _ _ _ HL'.out HX.out
    obtain ⟨c0, c1, c2⟩ := HC.out _ HB.out.keep
    have q1 : (K k == 1) = false := beq_eq_false_iff_ne.mpr h1
    have q2 : (K k == 2) = false := beq_eq_false_iff_ne.mpr h2
    have q3 : (K k == 3) = false := beq_eq_false_iff_ne.mpr h3
    have p1 : (K k = 1) = False := eq_false h1
    have p2 : (K k = 2) = False := eq_false (by omega)
    have p3 : (K k = 3) = False := eq_false (by omega)
    have cx := cell_of HB.out.box 0
    clear h1 h2 h3
    go_wp2_with fail
    exact REST s A c R false wr _ _ _ _ _ _ _ _ _ _ _ _ _ _ _ _ _ _ _ _ _ _ _ _ _ _ _ _ _ _ _ _ _ _ _ _ _ _ _ _ _ _ _ _ _ _ _ _ _ _ _ _ _ _ _ _ _ _ _ _ _ _ _ _ _ _ _ _ _ _ _ _ _ _ _ _ _ _ _ _ _ _ _ _ _ _ _ _ _ _ _ _ _ _ _ _ _ _ _ _ _ _ _ _ _ _ _ _ _ _ _ _ _ _ _ _ _ _ _ _ _ _ _ _ _ _ _ _ _ _ _ _ _ _ _ _ _ _ _ _ _ _ _ _ _ _ _ _ _ _ _ _ _ _ _ HL.out HB.out
  · obtain rfl : k = n := by omega
    clear HL
    go_wp2_with fail
    refine (alive23_any _).mono ?_
    rintro e w9 ⟨rfl, k9⟩
    replace HB := Lib.hid (HB.out.none k9)
    clear k9
    go_wp2
    go_ret
    exact ⟨rfl, HB.out.keep.none⟩
theorem step23_cells {w : World} {cs : List Value} (h : Reads Try.prog w 37 cs) :
    ∃ (k i u : Int), cs = [.int .i64 k, .int .i64 i, .int .i64 u] := by
  obtain ⟨hl, hf⟩ := h.struct Try.underlying37
  have hc : Try.prog.cellsOf 37 = 3 := by kernel_rfl
  have hi : Try.prog.cellsOf 3 = 1 := by kernel_rfl
  rw [hc] at hl
  match cs, hl with
  | [v0, v1, v2], _ =>
    obtain ⟨s, hs, _⟩ := (h.field Try.underlying37 0 3 0 1 rfl hi).int Try.underlying3
    obtain ⟨f, hf, _⟩ := (h.field Try.underlying37 1 3 1 1 rfl hi).int Try.underlying3
    obtain ⟨m, hm, _⟩ := (h.field Try.underlying37 2 3 2 1 rfl hi).int Try.underlying3
    simp at hs hf hm
    exact ⟨s, f, m, by simp [hs, hf, hm]⟩
theorem rankPlays_walk {H : Type} {enc : TypeId × Value → H} (W : World) (base : Nat) {v0 v1 : Value} {d0 d1 : DataW H} {p0 p1 : List MemPlace}
    (k0 : Value.okWide Try.prog W .any base 22 v0) (h0 : DataW.Trod enc Try.prog W 0 (fun _ => true) true 22 v0 d0 p0)
    (k1 : Value.okWide Try.prog W .any base 3 v1) (h1 : DataW.Trod enc Try.prog W 0 (fun _ => true) true 3 v1 d1 p1) :
    Calls Try.prog 3 #[v0, v1] W fun e w' => e = .returned (.bool true) ∧ Below W.heap.size W w' := by
  obtain ⟨a0, n0, c0, rfl⟩ := okWide_slice Try.underlying22 k0
  obtain ⟨t, rfl⟩ := okWide_int Try.underlying3 k1
  obtain ⟨a, n, c, e, hl0, hm0, r0⟩ := (reads_of h0).rows Try.underlying22 (n := 3) (by kernel_rfl) (by omega)
  simp [Value.cells] at e
  obtain ⟨rfl, rfl, rfl⟩ := e
  by_cases hal : 100 < n0
  · exact rankPlays_large a0 n0 c0 t W (by omega) hal
  · have q1 : ∃ (K T P : Nat → Int), Steps23 W a0 n0 K T P := by
      rcases Nat.eq_zero_or_pos n0 with rfl | hp
      · exact ⟨fun _ => 0, fun _ => 0, fun _ => 0, fun h => by omega⟩
      · obtain ⟨b, off, rfl, hb, hr⟩ := r0 hp
        obtain ⟨F, hF⟩ := Deep.choose_lt (n := n0) (p := fun i (f : Int × Int × Int) => W.cell? ⟨b, off + i * 3, none⟩ = some (.int .i64 f.1) ∧ W.cell? ⟨b, off + i * 3 + 1, none⟩ = some (.int .i64 f.2.1) ∧ W.cell? ⟨b, off + i * 3 + 2, none⟩ = some (.int .i64 f.2.2)) (fun i hi => by
          obtain ⟨cs', _, hc, hrd⟩ := hr i hi
          obtain ⟨k, j, u, rfl⟩ := step23_cells hrd
          have c0 := hc 0 (by omega)
          have c1 := hc 1 (by omega)
          have c2 := hc 2 (by omega)
          simp at c0 c1 c2
          exact ⟨(k, j, u), c0, c1, c2⟩)
        exact ⟨fun i => (F i).1, fun i => (F i).2.1, fun i => (F i).2.2, fun _ => ⟨b, off, rfl, hb, fun i hi => hF i hi⟩⟩
    obtain ⟨K, T, P, ht⟩ := q1
    exact rankPlays_plain a0 n0 c0 K T P t W (by omega) ht
end Go.Proofs.Ytfniicgfnlklbaa
