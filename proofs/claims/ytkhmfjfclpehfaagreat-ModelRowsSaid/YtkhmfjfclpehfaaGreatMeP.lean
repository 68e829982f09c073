import Derived.Test.YtkhmfjfclpehfaaGreatMeNz
import Derived.Deep.CutRange
namespace Go.Proofs.YtkhmfjfclpehfaaGreat
open Go.ChangeShapes Go.WideShapes Go.ChangeAt Go.RowKit
set_option linter.unusedVariables false
set_option linter.unusedSimpArgs false
set_option maxRecDepth 100000
theorem len_room {q j n : Nat} (h1 : q ≤ j) (h2 : j ≤ n) (h3 : n ≤ 80) : q + 1 ≤ maxLen ∧ (q + 1) * 4 ≤ 140737488355328 := ⟨by unfold maxLen; omega, by omega⟩
theorem alloc_le {a : Nat} {w : World} (h : a ≤ w.heap.size) (o : Obj) : a ≤ (w.alloc o).heap.size := by rw [World.size_alloc]; omega
theorem one_u (x : Int) : ∀ u ∈ [Value.int .u32 x], u.oneCell' = true := by simp [Value.oneCell']
theorem recs_snoc {w : World} {B n y : Nat} {v : Value} {q : List Nat} (h : w.ownsRow B 34 1 v n (recs q ++ [.int .u32 (y : Int)])) : w.ownsRow B 34 1 v n (recs (q ++ [y])) := by
  have e : recs (q ++ [y]) = recs q ++ [.int .u32 (y : Int)] := by unfold recs; rw [List.map_append]; rfl
  rw [e]; exact h
theorem at_or {w : World} {o : Obj} {v v0 : Value} {g : Nat} (e : v0 = v) (h : v.ownBlock = some g ∨ g = ((w.alloc o).drew).heap.size) : v0.ownBlock = some g ∨ w.heap.size ≤ g := by
  rcases h with h | h
  · exact .inl (by rw [e]; exact h)
  · have h2 : g = w.heap.size + 1 := h.trans (World.size_alloc w o)
    exact .inr (by omega)
theorem set_apart {w : World} {b : Nat} {cs : Array Value} {T : TypeId} {fr : Nat × Nat} (a k : Nat) (v : Value) (h : w.heap[b]? = some (.cells cs T fr)) (hne : b ≠ a) : (w.setCell ⟨a, k, none⟩ v).heap[b]? = some (.cells cs T fr) :=
  ((Keeps.refl (fun b => b = a) w).setCell (p := ⟨a, k, none⟩) (.inl rfl) v).at h hne
theorem info_su : (Tryz.prog.info? 34).map (fun i => (i.zero, i.size, i.bytes)) = some (some (.int .u32 0), 1, 4) := by kernel_rfl
theorem grown_len {I : Nat → List Nat} {j : Nat} (h : ∀ k, (I k).length ≤ j) (m y : Nat) : ∀ k, (upd I m (I m ++ [y]) k).length ≤ j + 1 := fun k => by
  by_cases e : k = m
  · subst e
    rw [upd_at, List.length_append]
    have := h k
    simp; omega
  · rw [upd_ne _ _ e]
    have := h k
    omega
theorem wrap_len {g q j n : Nat} (h : g < q) (h1 : q ≤ j) (h2 : j ≤ n) (h3 : n ≤ 80) : wrap64 ((g : Int) + 1) = (g : Int) + 1 ∧ IntKind.i64.wrap ((g : Int) + 1) = (g : Int) + 1 := wrap_one (k := g) (n := q) h (by omega)
attribute [local irreducible] wpList
set_option maxHeartbeats 16000000 in
theorem rows_good (c : CfD) (w : World) (hc : CfIn w c) (ho : c.Ok) (la : Option Addr) (n cp : Nat) (L : List MvX) (hn : n ≤ maxLen) (hm : MovesAt w la n L) (hu : ∀ i, i < c.nO → ∀ j, j < 4 → 0 ≤ c.oi i j ∧ c.oi i j < 4294967296) (hv : badOf c = (0, 0, 0)) : Calls Tryz.prog 3 #[.agg c.cells, .slice la n cp] w (LawQ w) := by
  have HL := Lib.hid (fun W (k : Keeps (fun _ => False) w W) => light37_any c W (hc.none k) ho la n cp L hn (hm.quiet k))
  have HN := Lib.hid (fun W (k : Keeps (fun _ => False) w W) => new_mdl c W (hc.none k) ho hu hv)
  have HG := Lib.hid (good_of hv)
  have HC := Lib.hid hc
  have HMV := Lib.hid hm
  clear hc ho hm hu hv
  have HB := Lib.hid (CbW.start w c)
  obtain ⟨q0, q1, q2, q3, l0⟩ := HB.out.cells
  go_enter Tryz.func3, Tryz.ntmps3
  go_wp2_with fail
  refine (HL.out _ HB.out.keeps).mono ?_
  rintro e1 w1 ⟨p, rfl, h80, k1⟩
  replace HB := Lib.hid (HB.out.quiet k1)
  have H80 := Lib.hid h80
  clear k1 h80
  clear q0 q1 q2 q3 l0
  obtain ⟨q0, q1, q2, q3, l0⟩ := HB.out.cells
  rcases p with _ | _
  · go_wp2_with fail
    refine (al37 HB.out.keeps).mono ?_
    rintro e9 w9 ⟨rfl, k9⟩
    have HK := Lib.hid k9
    clear k9
    go_wp2_with fail
    go_ret
    exact lawQ HK.out
  go_wp2_with fail
  refine (HN.out _ HB.out.keeps).mono ?_
  rintro e3 w3 ⟨P, m, lb, rfl, hm3, k3⟩
  obtain ⟨B0, hB0⟩ : ∃ B, B = w1.heap.size := ⟨_, rfl⟩
  rw [← hB0] at hm3
  have HB0 := Lib.hid (show w.heap.size ≤ B0 from by rw [hB0]; exact HB.out.keeps.size)
  clear hB0
  replace HB := Lib.hid (HB.out.quiet k3)
  have HM := Lib.hid hm3
  have hnn := fun W => mo_nil m W
  clear k3 hm3 q0 q1 q2 q3 l0
  obtain ⟨q0, q1, q2, q3, l0⟩ := HB.out.cells
  have hnl := HG.out.l
  have hwr : wrap64 ((c.nL : Int) + 1) = (c.nL : Int) + 1 := by unfold wrap64; omega
  have hmk : ∀ W, (Instr.makeSlice 32 (.int .i64 ((c.nL : Int) + 1)) (.int .i64 ((c.nL : Int) + 1))).run Tryz.prog W = .ok (.slice (some ⟨W.heap.size, 0, none⟩) (c.nL + 1) (c.nL + 1)) (W.alloc (.cells (madeCells #[.slice none 0 0] (c.nL + 1)) 54)) := fun W => make_rows W (c.nL + 1) (by omega)
  have hmk2 : ∀ W, (Instr.makeSlice 33 (.int .i64 ((c.nL : Int) + 1)) (.int .i64 ((c.nL : Int) + 1))).run Tryz.prog W = .ok (.slice (some ⟨W.heap.size, 0, none⟩) (c.nL + 1) (c.nL + 1)) (W.alloc (.cells (madeCells #[.int .i64 0] (c.nL + 1)) 3)) := fun W => make_nums W (c.nL + 1) (by omega)
  go_wp2_with fail
  have HLW := Lib.hid (show LwI c w B0 m lb w3.heap.size (w3.heap.size + 1) P (fun i => ⟨c.lr i, [], 0⟩) (fun _ => .slice none 0 0) (fun _ => []) (fun _ => 0) ((w3.alloc (.cells (madeCells #[.slice none 0 0] (c.nL + 1)) 54)).alloc (.cells (madeCells #[.int .i64 0] (c.nL + 1)) 3)) from by
    have kk : Keeps (fun _ => False) w3 ((w3.alloc (.cells (madeCells #[.slice none 0 0] (c.nL + 1)) 54)).alloc (.cells (madeCells #[.int .i64 0] (c.nL + 1)) 3)) := ((Keeps.refl _ w3).alloc _).alloc _
    have h2 := heap_new (w3.alloc (.cells (madeCells #[.slice none 0 0] (c.nL + 1)) 54)) (.cells (madeCells #[.int .i64 0] (c.nL + 1)) 3)
    rw [World.size_alloc] at h2
    exact ⟨HB.out.keeps.trans kk, kk.at HB.out.cf fun h => h, HB0.out, HM.out.quiet kk, HB.out.keeps.size, Nat.le_succ_of_le HB.out.keeps.size, ⟨_, heap_old (heap_new w3 _) _, fun k hk => made_get _ _ _ (by omega)⟩, ⟨_, h2, fun k hk => made_get _ _ _ (by omega)⟩, fun k hk => ⟨rfl, .inl ⟨rfl, rfl⟩⟩, fun _ _ _ _ _ b hb => by simp [Value.ownBlock] at hb, fun _ _ b hb => by simp [Value.ownBlock] at hb⟩)
  have HRL := Lib.hid (show RelI c.nL c.lr (fun i => ⟨c.lr i, [], 0⟩) (fun _ => []) (fun _ => 0) from fun i hi => ⟨rfl, Nat.le_refl _, rfl⟩)
  generalize w3.heap.size = GI at *
  clear q0 q1 q2 q3 l0 hmk hmk2 hwr HL HN
  go_loopw [8] (fun s8 wr => ∃ (j : Nat) (P : Nat → Prop) (F : Nat → LnX) (V : Nat → Value) (I : Nat → List Nat) (G : Nat → Nat), s8 = .int .i64 (j : Int) ∧ j ≤ n ∧ LwI c w B0 m lb GI (GI + 1) P F V I G wr ∧ RelI c.nL c.lr F I G ∧ ∀ k, (I k).length ≤ j) (fun s8 _ => n - (intOf s8).toNat)
  case atStart => exact ⟨0, P, _, _, _, _, rfl, by omega, HLW.out, HRL.out, fun k => Nat.le_refl _⟩
  case round =>
    clear HLW HRL HM HB
    obtain ⟨j, P, F, V, I, G, rfl, hj, hlw, hrl, hln⟩ := hrel
    have HJ := Lib.hid hj
    have HLI := Lib.hid hln
    have HRL := Lib.hid hrl
    by_cases hlt : j < n
    · obtain ⟨mx, b, off, _, hmx, rfl, hb, hx⟩ := (HMV.out.quiet hlw.keeps).cells hlt
      have dl : decide (j < n) = true := decide_eq_true hlt
      have dl2 : decide ((j : Int) < (n : Int)) = true := decide_eq_true (by omega)
      have HLT := Lib.hid hlt
      have HMX := Lib.hid hmx
      have HX := Lib.hid (show wr.rangeAt b (off + j * 20) mx.cells.toList from hx)
      have HLW := Lib.hid hlw
      have hl80 := H80.out trivial
      clear hmx hx hlw hrl hln hj
      go_wp2_with (first
        | (refine wpList_load_mid rfl 49 (.tmp 42) rfl b (off + j * 20) rfl mx.cells.toList _ HX.out Tryz.underlying49 rfl rmove_info ?_))
      refine (own37 _ mx.k mx.who (mx.y : Int) mx.Z mx.x).mono ?_
      rintro e4 w4 ⟨rfl, k4⟩
      replace HLW := Lib.hid (HLW.out.quiet k4)
      clear k4
      obtain ⟨X4, hX4⟩ : ∃ X, X = w4.alloc (.cells (moC 0 0 0 (fun _ => 0) AskX.no) 45) := ⟨_, rfl⟩
      have hx4 : X4.heap[w4.heap.size]? = some (.cells (moC 0 0 0 (fun _ => 0) AskX.no) 45 (0, 0)) := by rw [hX4]; exact heap_new _ _
      obtain ⟨X5, hX5⟩ : ∃ X, X = World.setRow X4 w4.heap.size mx.cells := ⟨_, rfl⟩
      have k5 : Keeps (fun _ => False) w4 X5 := by rw [hX5, hX4]; exact Keeps.setRow ((Keeps.refl _ w4).alloc _) (.inr (Nat.le_refl _)) _
      have HX5 := Lib.hid (show X5.heap[w4.heap.size]? = some (.cells mx.cells 45 (0, 0)) from by rw [hX5]; exact setRow_heap _ _ _ _ _ _ hx4)
      replace HLW := Lib.hid (HLW.out.quiet k5)
      have HX4 := Lib.hid hx4
      have HE4 := Lib.hid hX4
      have HE5 := Lib.hid hX5
      have lx5 := lt_of HX5.out
      generalize hXB : w4.heap.size = XB at *
      clear k5 hx4 hX4 hX5
      go_wp2_with (first
        | (refine wpList_alloc_as rfl 45 rfl (some 9) rfl XB hXB _ (mv_zero _) (moC 0 0 0 (fun _ => 0) AskX.no) rfl ?_; rw [← HE4.out])
        | (refine wpList_store_row rfl 45 (.tmp 9) (.tmp 44) rfl XB mx.cells rfl rfl 45 _ HX4.out move_info rfl (mo_one _ _ _ _ _) ?_; rw [← HE5.out])
        | (refine wpList_load_row rfl 45 (.tmp 9) rfl XB rfl 45 mx.cells (0, 0) _ HX5.out Tryz.underlying45 rfl move_info ?_))
      rename_i K1 hK1 K2 hK2
      obtain ⟨KR, hKR, hK3⟩ := share3 hK1
      clear hK1
      have KEY : ∀ (x4 x9 x10 x11 x12 x13 x34 x35 x36 x37 x38 x39 x40 x41 x42 x43 x44 x45 x46 x47 x48 x49 x50 x51 x52 x53 x54 x55 x56 x57 x58 x59 x60 x61 x62 x63 x64 x65 x66 x67 x68 x69 x70 x71 x72 x73 x74 x75 x76 x77 x78 x79 x80 x81 x82 x83 x84 x85 x86 x87 x88 x89 x90 x91 x92 x93 x94 x95 x96 x97 x98 x99 x100 x101 x102 x103 x104 x105 x106 x107 x108 x109 x110 x111 x112 x113 x114 x115 x116 x117 x118 x119 x120 x121 x122 x123 x124 x125 x126 x127 x128 x129 x130 x131 x132 x133 x134 x135 x136 x137 x138 x139 x140 x141 x142 x143 x144 x145 x146 x147 x148 x149 x150 x151 x152 x153 x154 x155 x156 x157 x158 x159 x160 x161 x162 x163 x164 x165 x166 x167 x168 x169 x170 x171 x172 x173 x174 x175 x176 x177 : Value) (w6 : World) (P : Nat → Prop) (F : Nat → LnX) (V : Nat → Value) (I : Nat → List Nat) (G : Nat → Nat), LwI c w B0 m lb GI (GI + 1) P F V I G w6 → RelI c.nL c.lr F I G → (∀ k, (I k).length ≤ j + 1) → KR { tmps := #[.agg c.cells, .slice (some ⟨b, off, none⟩) n cp, .pointer (some ⟨w.heap.size, 0, none⟩), undef, x4, .pointer (some ⟨m, 0, none⟩), .slice (some ⟨GI, 0, none⟩) (c.nL + 1) (c.nL + 1), .slice (some ⟨GI + 1, 0, none⟩) (c.nL + 1) (c.nL + 1), .int .i64 (j : Int), x9, x10, x11, x12, x13, .agg #[.slice c.ta c.nT c.tc, .slice c.la c.nL c.lc, .slice c.oa c.nO c.oc, .int .i64 c.tick], .slice (some ⟨b, off, none⟩) n cp, .bool true, .bool false, undef, .agg #[.slice c.ta c.nT c.tc, .slice c.la c.nL c.lc, .slice c.oa c.nO c.oc, .int .i64 c.tick], .pointer (some ⟨m, 0, none⟩), .pointer (some ⟨m, 0, none⟩), .bool false, undef, .pointer (some ⟨w.heap.size, 1, none⟩), .slice c.la c.nL c.lc, .int .i64 (c.nL : Int), .int .i64 ((c.nL : Int) + 1), .slice (some ⟨GI, 0, none⟩) (c.nL + 1) (c.nL + 1), .pointer (some ⟨w.heap.size, 1, none⟩), .slice c.la c.nL c.lc, .int .i64 (c.nL : Int), .int .i64 ((c.nL : Int) + 1), .slice (some ⟨GI + 1, 0, none⟩) (c.nL + 1) (c.nL + 1), x34, x35, x36, x37, x38, x39, x40, x41, x42, x43, x44, x45, x46, x47, x48, x49, x50, x51, x52, x53, x54, x55, x56, x57, x58, x59, x60, x61, x62, x63, x64, x65, x66, x67, x68, x69, x70, x71, x72, x73, x74, x75, x76, x77, x78, x79, x80, x81, x82, x83, x84, x85, x86, x87, x88, x89, x90, x91, x92, x93, x94, x95, x96, x97, x98, x99, x100, x101, x102, x103, x104, x105, x106, x107, x108, x109, x110, x111, x112, x113, x114, x115, x116, x117, x118, x119, x120, x121, x122, x123, x124, x125, x126, x127, x128, x129, x130, x131, x132, x133, x134, x135, x136, x137, x138, x139, x140, x141, x142, x143, x144, x145, x146, x147, x148, x149, x150, x151, x152, x153, x154, x155, x156, x157, x158, x159, x160, x161, x162, x163, x164, x165, x166, x167, x168, x169, x170, x171, x172, x173, x174, x175, x176, x177, undef], defers := [] } w6 := by
        as_aux_lemma =>
          intro x4 x9 x10 x11 x12 x13 x34 x35 x36 x37 x38 x39 x40 x41 x42 x43 x44 x45 x46 x47 x48 x49 x50 x51 x52 x53 x54 x55 x56 x57 x58 x59 x60 x61 x62 x63 x64 x65 x66 x67 x68 x69 x70 x71 x72 x73 x74 x75 x76 x77 x78 x79 x80 x81 x82 x83 x84 x85 x86 x87 x88 x89 x90 x91 x92 x93 x94 x95 x96 x97 x98 x99 x100 x101 x102 x103 x104 x105 x106 x107 x108 x109 x110 x111 x112 x113 x114 x115 x116 x117 x118 x119 x120 x121 x122 x123 x124 x125 x126 x127 x128 x129 x130 x131 x132 x133 x134 x135 x136 x137 x138 x139 x140 x141 x142 x143 x144 x145 x146 x147 x148 x149 x150 x151 x152 x153 x154 x155 x156 x157 x158 x159 x160 x161 x162 x163 x164 x165 x166 x167 x168 x169 x170 x171 x172 x173 x174 x175 x176 x177 w6 P F V I G hlw hrl hln
          refine hKR _ _ ?_
          clear hK3
          have HLW6 := Lib.hid hlw
          have HRL6 := Lib.hid hrl
          have HLN6 := Lib.hid hln
          have q1 := cell_of hlw.cf 1
          have l0 := lt_of hlw.cf
          have hnl6 := HG.out.l
          clear hlw hrl hln HLW HX HX4 HE4 HE5 HX5 lx5 HLI HRL hK2 dl dl2
          go_wp2_with fail
          go_loopw [12] (fun s12 wr => ∃ k : Nat, s12 = .int .i64 ((k : Int) + 1) ∧ k ≤ c.nL ∧ Keeps (fun _ => False) w6 wr) (fun s12 _ => c.nL + 1 - (intOf s12).toNat)
          case atStart => exact ⟨0, by simp, by omega, Keeps.refl _ _⟩
          case round =>
            obtain ⟨k, rfl, hk, hkr⟩ := hrel
            have HKR := Lib.hid hkr
            have HW := Lib.hid (HLW6.out.quiet hkr)
            have q1 := cell_of HW.out.cf 1
            have l0 := lt_of HW.out.cf
            clear hkr
            by_cases hlk : k < c.nL
            · have HLK := Lib.hid hlk
              have e0 : decide (k < c.nL) = true := decide_eq_true hlk
              have e1 : decide ((k : Int) < (c.nL : Int)) = true := decide_eq_true (Int.ofNat_lt.mpr hlk)
              have e2 : decide ((k : Int) + 1 ≤ (c.nL : Int)) = true := decide_eq_true (Int.ofNat_le.mpr hlk)
              go_wp2_with fail
              refine (line_of HW.out.md k hlk).mono ?_
              rintro e7 w7 ⟨v7, rfl, hq7, hm7, k7⟩
              have HW7 := Lib.hid (HW.out.quiet k7)
              have HK7 := Lib.hid (HKR.out.trans k7)
              obtain ⟨hd1, hd2, hd3⟩ := HRL6.out k hlk
              obtain ⟨sv, hsq, hsl⟩ := slice_row (HW7.out.rows (k + 1) hlk) (G (k + 1)) hd2
              rw [← hd1] at hsq
              obtain ⟨hle, h64⟩ := HW7.out.md.len hlk
              rw [hd3] at hle h64
              have HWD := Lib.hid (fun W (kk : Keeps (fun _ => False) w7 W) => words_same W v7 sv (F k).q (hq7.none kk) (hsq.none kk) (len_small hle h64))
              obtain ⟨a7, c7, rfl, hc7, hd7⟩ := hq7
              obtain ⟨qn, hqn⟩ : ∃ qn, (F k).q.length = qn := ⟨_, rfl⟩
              rw [hqn] at hle HWD
              rw [hqn]
              obtain ⟨vk, hvk⟩ : ∃ vk, V (k + 1) = vk := ⟨_, rfl⟩
              obtain ⟨gk, hgk⟩ : ∃ gk, G (k + 1) = gk := ⟨_, rfl⟩
              obtain ⟨bl, ol, hla, hbl, hlv⟩ := HC.out.l (Nat.lt_of_le_of_lt (Nat.zero_le k) hlk)
              have p1 : w7.cell? ⟨w.heap.size, 1, none⟩ = some (.slice c.la c.nL c.lc) := cell_of HW7.out.cf 1
              have p2 := (HW7.out.keeps.none.cell (p := ⟨bl, ol + k * 2, none⟩) hbl).trans (hlv k hlk).1
              have p3 := (HW7.out.cellI (k + 1) hlk).1
              have p4 := (HW7.out.cellG (k + 1) hlk).1
              rw [hvk] at p3 hsl
              rw [hgk] at p4 hsl
              rw [hla] at p1
              have e3 : (k : Int) + 1 - 1 = (k : Int) := Int.add_sub_cancel _ _
              have e4 : wrap64 (k : Int) = (k : Int) := wrap_nl hk hnl6
              have e5 : decide (c.lr k < (qn : Int)) = false := decide_eq_false (Int.not_lt.mpr hle)
              have e6 : ((k : Int) + 1).toNat = k + 1 := toNat_one k
              have b2 : (0 : Int) ≤ (k : Int) + 1 := int_succ k
              have e7 : IntKind.i64.wrap (k : Int) = (k : Int) := wrapi_nl hk hnl6
              have HP := Lib.hid (fun W (kk : Keeps (fun _ => False) w7 W) => show W.cell? ⟨w.heap.size, 1, none⟩ = some (.slice (some ⟨bl, ol, none⟩) c.nL c.lc) ∧ W.cell? ⟨bl, ol + k * 2, none⟩ = some (.int .i64 (c.lr k)) ∧ W.cell? ⟨GI, k + 1, none⟩ = some vk ∧ W.cell? ⟨GI + 1, k + 1, none⟩ = some (.int .i64 (gk : Int)) from
                ⟨(kk.none.cell (p := ⟨w.heap.size, 1, none⟩) (lt_of HW7.out.cf)).trans p1, (kk.none.cell (p := ⟨bl, ol + k * 2, none⟩) (Nat.lt_of_lt_of_le hbl HW7.out.keeps.size)).trans p2, (kk.none.cell (p := ⟨GI, k + 1, none⟩) (HW7.out.cellI (k + 1) hlk).2.2).trans p3, (kk.none.cell (p := ⟨GI + 1, k + 1, none⟩) (HW7.out.cellG (k + 1) hlk).2.2).trans p4⟩)
              clear hm7 k7 hd1 hd2 hd3 hsq h64 hle hc7 hd7 hqn hvk hgk hla hbl hlv q1 l0 e0 e1 e2
              go_wp2_with fail
              refine wp_region_noPanic ?_
              refine wp_region_held_drew (S := (fun w' => w'.cell? ⟨w.heap.size, 1, none⟩ = some (.slice (some ⟨bl, ol, none⟩) c.nL c.lc) ∧ w'.cell? ⟨bl, ol + k * 2, none⟩ = some (.int .i64 (c.lr k)) ∧ w'.cell? ⟨GI, k + 1, none⟩ = some vk ∧ w'.cell? ⟨GI + 1, k + 1, none⟩ = some (.int .i64 (gk : Int)))) (by kernel_rfl) ?_ (fun hHeld => ?_)
              · exact HP.out _ (Keeps.refl _ w7).drew
              refine wpAnyH_take (i := 0) (v := ?_) rfl (by kernel_rfl) (by kernel_rfl) (by kernel_rfl) (fun _ _ _ h => h) (Or.inl ⟨by rfl, ?_⟩) (by assumption) ?_
              rotate_left
              · (intro w hSw; (try dsimp only at hSw); go_simp; try with_reducible rfl)
              simp only [Act.put, List.getElem_toArray, List.getElem_cons_zero, List.getElem_cons_succ, List.setIfInBounds_toArray, List.set_cons_zero, List.set_cons_succ]
              refine wpAnyH_take (i := 1) (v := ?_) rfl (by kernel_rfl) (by kernel_rfl) (by kernel_rfl) (fun _ _ _ h => h) (Or.inl ⟨by rfl, ?_⟩) (by assumption) ?_
              rotate_left
              · (intro w hSw; (try dsimp only at hSw); go_simp; try with_reducible rfl)
              simp only [Act.put, List.getElem_toArray, List.getElem_cons_zero, List.getElem_cons_succ, List.setIfInBounds_toArray, List.set_cons_zero, List.set_cons_succ]
              refine wpAnyH_take (i := 2) (v := ?_) rfl (by kernel_rfl) (by kernel_rfl) (by kernel_rfl) (fun _ _ _ h => h) (Or.inl ⟨by rfl, ?_⟩) (by assumption) ?_
              rotate_left
              · (intro w hSw; (try dsimp only at hSw); go_simp; try with_reducible rfl)
              simp only [Act.put, List.getElem_toArray, List.getElem_cons_zero, List.getElem_cons_succ, List.setIfInBounds_toArray, List.set_cons_zero, List.set_cons_succ]
              refine wpAnyH_take (i := 3) (v := ?_) rfl (by kernel_rfl) (by kernel_rfl) (by kernel_rfl) (fun _ _ _ h => h) (Or.inl ⟨by rfl, ?_⟩) (by assumption) ?_
              rotate_left
              · (intro w hSw; (try dsimp only at hSw); go_simp; try with_reducible rfl)
              simp only [Act.put, List.getElem_toArray, List.getElem_cons_zero, List.getElem_cons_succ, List.setIfInBounds_toArray, List.set_cons_zero, List.set_cons_succ]
              refine wpAnyH_take (i := 4) (v := ?_) rfl (by kernel_rfl) (by kernel_rfl) (by kernel_rfl) (fun _ _ _ h => h) (Or.inl ⟨by rfl, ?_⟩) (by assumption) ?_
              rotate_left
              · (intro w hSw; (try dsimp only at hSw); go_simp; try with_reducible rfl)
              simp only [Act.put, List.getElem_toArray, List.getElem_cons_zero, List.getElem_cons_succ, List.setIfInBounds_toArray, List.set_cons_zero, List.set_cons_succ]
              refine wpAnyH_take (i := 5) (v := ?_) rfl (by kernel_rfl) (by kernel_rfl) (by kernel_rfl) (fun _ _ _ h => h) (Or.inl ⟨by rfl, ?_⟩) (by assumption) ?_
              rotate_left
              · (intro w hSw; (try dsimp only at hSw); go_simp; try with_reducible rfl)
              simp only [Act.put, List.getElem_toArray, List.getElem_cons_zero, List.getElem_cons_succ, List.setIfInBounds_toArray, List.set_cons_zero, List.set_cons_succ]
              refine wpAnyH_take (i := 6) (v := ?_) rfl (by kernel_rfl) (by kernel_rfl) (by kernel_rfl) (fun _ _ _ h => h) (Or.inl ⟨by rfl, ?_⟩) (by assumption) ?_
              rotate_left
              · (intro w hSw; (try dsimp only at hSw); go_simp; try with_reducible rfl)
              simp only [Act.put, List.getElem_toArray, List.getElem_cons_zero, List.getElem_cons_succ, List.setIfInBounds_toArray, List.set_cons_zero, List.set_cons_succ]
              refine wpAnyH_take (i := 7) (v := ?_) rfl (by kernel_rfl) (by kernel_rfl) (by kernel_rfl) (fun _ _ _ h => h) (Or.inl ⟨by rfl, ?_⟩) (by assumption) ?_
              rotate_left
              · (intro w hSw; (try dsimp only at hSw); go_simp; try with_reducible rfl)
              simp only [Act.put, List.getElem_toArray, List.getElem_cons_zero, List.getElem_cons_succ, List.setIfInBounds_toArray, List.set_cons_zero, List.set_cons_succ]
              refine wpAnyH_take (i := 8) (v := ?_) rfl (by kernel_rfl) (by kernel_rfl) (by kernel_rfl) (fun _ _ _ h => h) (Or.inl ⟨by rfl, ?_⟩) (by assumption) ?_
              rotate_left
              · (intro w hSw; (try dsimp only at hSw); go_simp; try with_reducible rfl)
              simp only [Act.put, List.getElem_toArray, List.getElem_cons_zero, List.getElem_cons_succ, List.setIfInBounds_toArray, List.set_cons_zero, List.set_cons_succ]
              refine wpAnyH_take (i := 9) (v := ?_) rfl (by kernel_rfl) (by kernel_rfl) (by kernel_rfl) (fun _ _ _ h => h) (Or.inl ⟨by rfl, ?_⟩) (by assumption) ?_
              rotate_left
              · (intro w hSw; (try dsimp only at hSw); go_simp; try with_reducible rfl)
              simp only [Act.put, List.getElem_toArray, List.getElem_cons_zero, List.getElem_cons_succ, List.setIfInBounds_toArray, List.set_cons_zero, List.set_cons_succ]
              refine wpAnyH_take (i := 10) (v := ?_) rfl (by kernel_rfl) (by kernel_rfl) (by kernel_rfl) (fun _ _ _ h => h) (Or.inl ⟨by rfl, ?_⟩) (by assumption) ?_
              rotate_left
              · (intro w hSw; (try dsimp only at hSw); go_simp; try with_reducible rfl)
              simp only [Act.put, List.getElem_toArray, List.getElem_cons_zero, List.getElem_cons_succ, List.setIfInBounds_toArray, List.set_cons_zero, List.set_cons_succ]
              refine wpAnyH_take (i := 11) (v := ?_) rfl (by kernel_rfl) (by kernel_rfl) (by kernel_rfl) (fun _ _ _ h => h) (Or.inl ⟨by rfl, ?_⟩) (by assumption) ?_
              rotate_left
              · (intro w hSw; (try dsimp only at hSw); go_simp; try with_reducible rfl)
              simp only [Act.put, List.getElem_toArray, List.getElem_cons_zero, List.getElem_cons_succ, List.setIfInBounds_toArray, List.set_cons_zero, List.set_cons_succ]
              refine wpAnyH_take (i := 12) (v := ?_) rfl (by kernel_rfl) (by kernel_rfl) (by kernel_rfl) (fun _ _ _ h => h) (Or.inl ⟨by rfl, ?_⟩) (by assumption) ?_
              rotate_left
              · (intro w hSw; (try dsimp only at hSw); go_simp; try with_reducible rfl)
              simp only [Act.put, List.getElem_toArray, List.getElem_cons_zero, List.getElem_cons_succ, List.setIfInBounds_toArray, List.set_cons_zero, List.set_cons_succ]
              refine wpAnyH_take (i := 13) (v := ?_) rfl (by kernel_rfl) (by kernel_rfl) (by kernel_rfl) (fun _ _ _ h => h) (Or.inl ⟨by rfl, ?_⟩) (by assumption) ?_
              rotate_left
              · (intro w hSw; (try dsimp only at hSw); go_simp; try with_reducible rfl)
              simp only [Act.put, List.getElem_toArray, List.getElem_cons_zero, List.getElem_cons_succ, List.setIfInBounds_toArray, List.set_cons_zero, List.set_cons_succ]
              refine wpAnyH_take (i := 14) (v := ?_) rfl (by kernel_rfl) (by kernel_rfl) (by kernel_rfl) (fun _ _ _ h => h) (Or.inl ⟨by rfl, ?_⟩) (by assumption) ?_
              rotate_left
              · (intro w hSw; (try dsimp only at hSw); go_simp; try with_reducible rfl)
              simp only [Act.put, List.getElem_toArray, List.getElem_cons_zero, List.getElem_cons_succ, List.setIfInBounds_toArray, List.set_cons_zero, List.set_cons_succ]
              refine wpAnyH_take (i := 15) (v := ?_) rfl (by kernel_rfl) (by kernel_rfl) (by kernel_rfl) (fun _ _ _ h => h) (Or.inl ⟨by rfl, ?_⟩) (by assumption) ?_
              rotate_left
              · (intro w hSw; (try dsimp only at hSw); go_simp; try with_reducible rfl)
              simp only [Act.put, List.getElem_toArray, List.getElem_cons_zero, List.getElem_cons_succ, List.setIfInBounds_toArray, List.set_cons_zero, List.set_cons_succ]
              refine wpAnyH_take (i := 16) (v := ?_) rfl (by kernel_rfl) (by kernel_rfl) (by kernel_rfl) (fun _ _ _ h => h) (Or.inl ⟨by rfl, ?_⟩) (by assumption) ?_
              rotate_left
              · (intro w hSw; (try dsimp only at hSw); go_simp; try with_reducible rfl)
              simp only [Act.put, List.getElem_toArray, List.getElem_cons_zero, List.getElem_cons_succ, List.setIfInBounds_toArray, List.set_cons_zero, List.set_cons_succ]
              refine wpAnyH_take (i := 17) (v := ?_) rfl (by kernel_rfl) (by kernel_rfl) (by kernel_rfl) (fun _ _ _ h => h) (Or.inl ⟨by rfl, ?_⟩) (by assumption) ?_
              rotate_left
              · (intro w hSw; (try dsimp only at hSw); go_simp; try with_reducible rfl)
              simp only [Act.put, List.getElem_toArray, List.getElem_cons_zero, List.getElem_cons_succ, List.setIfInBounds_toArray, List.set_cons_zero, List.set_cons_succ]
              refine wpAnyH_take (i := 18) (v := ?_) rfl (by kernel_rfl) (by kernel_rfl) (by kernel_rfl) (fun _ _ _ h => h) (Or.inl ⟨by rfl, ?_⟩) (by assumption) ?_
              rotate_left
              · (intro w hSw; (try dsimp only at hSw); go_simp; try with_reducible rfl)
              simp only [Act.put, List.getElem_toArray, List.getElem_cons_zero, List.getElem_cons_succ, List.setIfInBounds_toArray, List.set_cons_zero, List.set_cons_succ]
              refine wpAnyH_take (i := 19) (v := ?_) rfl (by kernel_rfl) (by kernel_rfl) (by kernel_rfl) (fun _ _ _ h => h) (Or.inl ⟨by rfl, ?_⟩) (by assumption) ?_
              rotate_left
              · (intro w hSw; (try dsimp only at hSw); go_simp; try with_reducible rfl)
              simp only [Act.put, List.getElem_toArray, List.getElem_cons_zero, List.getElem_cons_succ, List.setIfInBounds_toArray, List.set_cons_zero, List.set_cons_succ]
              refine wpAnyH_take (i := 20) (v := ?_) rfl (by kernel_rfl) (by kernel_rfl) (by kernel_rfl) (fun _ _ _ h => h) (Or.inl ⟨by rfl, ?_⟩) (by assumption) ?_
              rotate_left
              · (intro w hSw; (try dsimp only at hSw); go_simp; try with_reducible rfl)
              simp only [Act.put, List.getElem_toArray, List.getElem_cons_zero, List.getElem_cons_succ, List.setIfInBounds_toArray, List.set_cons_zero, List.set_cons_succ]
              refine wpAnyH_ready (rs := [21]) (by kernel_rfl) (by simp) ?_
              refine AllReadyH.cons rfl (fun K hK => ?_) AllReadyH.nil
              go_simp
              (go_at_call 11; refine (HWD.out _ (Keeps.refl _ w7).drew).mono ?_; rintro e8 w8 ⟨rfl, k8⟩; have HK8 := Lib.hid ((Keeps.refl (fun _ => False) w7).drew.trans k8); clear k8)
              go_wp2_with fail
              refine hK.out _ _ ?_ (fun hHeld => ?_)
              · ((try dsimp only); exact HP.out _ HK8.out)
              clear hK K
              try simp only [Act.put, List.getElem_toArray, List.getElem_cons_zero, List.getElem_cons_succ, List.setIfInBounds_toArray, List.set_cons_zero, List.set_cons_succ]
              refine wpAnyH_take (i := 22) (v := ?_) rfl (by kernel_rfl) (by kernel_rfl) (by kernel_rfl) (fun _ _ _ h => h) (Or.inl ⟨by rfl, ?_⟩) (by assumption) ?_
              rotate_left
              · (intro w hSw; (try dsimp only at hSw); go_simp; try with_reducible rfl)
              simp only [Act.put, List.getElem_toArray, List.getElem_cons_zero, List.getElem_cons_succ, List.setIfInBounds_toArray, List.set_cons_zero, List.set_cons_succ]
              refine wpAnyH_take (i := 23) (v := ?_) rfl (by kernel_rfl) (by kernel_rfl) (by kernel_rfl) (fun _ _ _ h => h) (Or.inl ⟨by rfl, ?_⟩) (by assumption) ?_
              rotate_left
              · (intro w hSw; (try dsimp only at hSw); go_simp; try with_reducible rfl)
              simp only [Act.put, List.getElem_toArray, List.getElem_cons_zero, List.getElem_cons_succ, List.setIfInBounds_toArray, List.set_cons_zero, List.set_cons_succ]
              refine wpAnyH_done (by kernel_rfl) ?_ _
              refine NoPanic.normal ?_
              obtain ⟨e8, e9, e10, e11⟩ := wrap_two hlk hnl6
              clear e4 e6 b2
              have HK9 := Lib.hid (HK7.out.trans HK8.out)
              clear p1 p2 p3 p4 e3 e5 e7 hsl HP HWD HK7 HK8 HW7 HW
              rename_i K5 hK5 hH5
              clear hH5
              refine hK5 _ _ ?_
              refine wp_cond_false rfl ?_
              refine wp_skip ?_
              go_wp2_with fail
              go_roundw
              case rel => exact ⟨k + 1, rfl, HLK.out, HK9.out⟩
              case measure => exact meas_in HLK.out
            · have e0 : decide (k < c.nL) = false := decide_eq_false hlk
              have e2 : decide ((k : Int) + 1 ≤ (c.nL : Int)) = false := decide_eq_false (fun h => hlk (Int.ofNat_le.mp h))
              obtain ⟨e8, e9⟩ := wrap_one HLT.out hl80
              go_wp2_with fail
              go_roundw
              case rel => exact ⟨j + 1, P, F, V, I, G, rfl, HLT.out, HW.out, HRL6.out, HLN6.out⟩
              case measure => exact meas_out HLT.out
      clear hKR
      refine (do_all HLW.out.md HMX.out mx.k mx.who).mono ?_
      rintro e5 w5 ⟨f0, V0, v0, l0, n0, c0, g0, F2, rfl, hmd, hkm, hst⟩
      have HL5 := Lib.hid (HLW.out.move hkm hmd)
      have hb5 := hkm.at HX5.out (by decide)
      obtain ⟨X6, hX6⟩ : ∃ X, X = w5.alloc (.cells (outC 0 zV 0 none 0 0) 51) := ⟨_, rfl⟩
      have hx6 : X6.heap[w5.heap.size]? = some (.cells (outC 0 zV 0 none 0 0) 51 (0, 0)) := by rw [hX6]; exact heap_new _ _
      obtain ⟨X7, hX7⟩ : ∃ X, X = World.setRow X6 w5.heap.size (outC f0 V0 v0 l0 n0 c0) := ⟨_, rfl⟩
      have k7 : Keeps (fun _ => False) w5 X7 := by rw [hX7, hX6]; exact Keeps.setRow ((Keeps.refl _ w5).alloc _) (.inr (Nat.le_refl _)) _
      have ho7 : X7.heap[w5.heap.size]? = some (.cells (outC f0 V0 v0 l0 n0 c0) 51 (0, 0)) := by rw [hX7]; exact setRow_heap _ _ _ _ _ _ hx6
      have HO7 := Lib.hid ho7
      have HB7 := Lib.hid (k7.at hb5 fun h => h)
      have HL7 := Lib.hid (HL5.out.quiet k7)
      have HX6 := Lib.hid hx6
      have HE6 := Lib.hid hX6
      have HE7 := Lib.hid hX7
      have x0 : X7.cell? ⟨XB, 0, none⟩ = some (.int .i64 mx.k) := cell_of HB7.out 0
      have x1 : X7.cell? ⟨XB, 1, none⟩ = some (.int .i64 mx.who) := cell_of HB7.out 1
      have x2 : X7.cell? ⟨XB, 2, none⟩ = some (.int .u32 (mx.y : Int)) := cell_of HB7.out 2
      have o0 : X7.cell? ⟨w5.heap.size, 0, none⟩ = some (.int .i64 f0) := cell_of HO7.out 0
      have o5 : X7.cell? ⟨w5.heap.size, 5, none⟩ = some (.int .u32 v0) := cell_of HO7.out 5
      have lx := lt_of HB7.out
      have lo := lt_of HO7.out
      generalize hOB : w5.heap.size = OB at *
      clear hb5 hx6 hX6 k7 ho7 hX7 hmd hkm HL5 HLW HX HX4 HX5 HE4 HE5 lx5 dl dl2
      have HI := Lib.hid (fun k => Nat.le_succ_of_le (HLI.out k))
      rcases hst with ⟨hk, rfl, rfl, i, hi, hwho, rfl⟩ | ⟨hk, rfl, rfl, ⟨i, hi, hwho⟩, hsm⟩ | ⟨hk, rfl, hsm⟩ | ⟨hk, rfl, i, z, t, hi, hwho, hq, rfl, rfl⟩ | ⟨hk, hg, hsm⟩ | ⟨hk2, hk7, hsm⟩
      · as_aux_lemma =>
          have HRA := Lib.hid (HRL.out.add i mx.y hi)
          have HHI := Lib.hid hi
          rw [hk] at x0
          rw [hwho] at x1
          have y0 : decide ((i : Int) + 1 < 0) = false := dec_neg i
          have y1 : decide ((c.nL : Int) + 1 ≤ (i : Int) + 1) = false := dec_le hi
          have y2 : decide ((c.nL : Int) ≤ (i : Int)) = false := dec_le2 hi
          have y3 : decide (c.nL ≤ i) = false := dec_le3 hi
          have hle1 : i + 1 ≤ c.nL := Nat.succ_le_of_lt hi
          have HLE1 := Lib.hid hle1
          have HX0 := Lib.hid ((cell_of HB7.out 0).symm.trans x0)
          have HX1 := Lib.hid ((cell_of HB7.out 1).symm.trans x1)
          clear hk hwho hle1
          go_wp2_with (first | (refine wpList_alloc_as rfl 51 rfl (some 10) rfl OB hOB _ (out_zero _) (outC 0 zV 0 none 0 0) rfl ?_; rw [← HE6.out]) | (refine wpList_store_row rfl 51 (.tmp 10) (.tmp 49) rfl OB (outC _ V0 _ l0 n0 c0) rfl rfl 51 _ HX6.out out_info rfl (out_one _ _ _ _ _ _) ?_; rw [← HE7.out]))
          clear y0 y1 y2 y3 o0 o5
          have b1 : (0 : Int) ≤ (i : Int) + 1 := int_succ i
          have b2 : (i : Int) + 1 < (c.nL : Int) + 1 := int_lt HHI.out
          have e6 : ((i : Int) + 1).toNat = i + 1 := toNat_one i
          have g1 := (HL7.out.cellI (i + 1) HLE1.out).1
          have g3 := (HL7.out.cellI (i + 1) HLE1.out).2.2
          have HOW := Lib.hid (HL7.out.rows (i + 1) HLE1.out)
          have HIB := Lib.hid HL7.out.ib
          have hrm := len_room (HLI.out (i + 1)) HJ.out (H80.out trivial)
          have hbs := HL7.out.keeps.size
          obtain ⟨i0, hi0, hz0, hz1, hz2⟩ := info_parts info_su
          generalize hvk : V (i + 1) = vk at g1 HOW
          have HVK := Lib.hid hvk
          clear hvk
          go_region_law
            (first
              | (refine step_append_lies _ rfl (.tmp 95) (.tmp 98) 54 rfl w.heap.size 34 i0 (.int .u32 0) 1 4 Tryz.underlying54 hi0 hz0 hz1 hz2 rfl (by decide) vk (I (i + 1)).length (recs (I (i + 1))) rfl (HOW.out.alloc _) ⟨X7.heap.size, 0, none⟩ 1 1 [.int .u32 (mx.y : Int)] rfl rfl (World.news_of_block (heap_new X7 (.cells #[.int .u32 (mx.y : Int)] 34))) (one_u _) (by decide) hrm.1 hrm.2 (alloc_le hbs _) _ rfl ?_; intro g cap w8 hown8 hgrow hat hlt8; have h8 := Lib.hid (app_afterM (W := X7) HOW.out hgrow); obtain ⟨cs8, hc8, hv8⟩ := HIB.out; have HG8 := h8.out.at hc8 (fun e => Ty.ne (own_tyM HOW.out e).1 ⟨_, _, hc8⟩ (by decide) rfl); have s8 := (cell_of HG8 (i + 1)).trans (hv8 (i + 1) HLE1.out); have t8 := free_of HG8 (i + 1); have l8 := lt_of HG8; have HO8 := Lib.hid (And.intro hown8 hat); have HB8 := h8.out.at HB7.out (fun e => Ty.ne (own_tyM HOW.out e).1 ⟨_, _, HB7.out⟩ (by decide) rfl); have x18 := (cell_of HB8 1).trans HX1.out; have lx8 := lt_of HB8; clear HB8; clear hown8 hgrow hat hc8 hv8 HG8)
              | fail)
          all_goals
            obtain ⟨P9, HL9⟩ := HL7.out.add (i + 1) HLE1.out mx.y (by rw [HVK.out]; exact h8.out) rfl (recs_snoc HO8.out.1) (at_or HVK.out HO8.out.2)
            have HL9 := Lib.hid HL9
            have HB9 := Lib.hid (set_apart GI (i + 1) (Value.slice (some ⟨g, 0, none⟩) ((I (i + 1)).length + 1) cap) (h8.out.at HB7.out (fun e => Ty.ne (own_tyM HOW.out e).1 ⟨_, _, HB7.out⟩ (by decide) rfl)) (by obtain ⟨cs, h1, _⟩ := HIB.out; exact Ty.ne ⟨_, _, HB7.out⟩ ⟨_, _, h1⟩ (by decide)))
            generalize (w8.setCell ⟨GI, i + 1, none⟩ (.slice (some ⟨g, 0, none⟩) ((I (i + 1)).length + 1) cap)) = W9 at HL9 HB9 ⊢
            have x0' : W9.cell? ⟨XB, 0, none⟩ = some (.int .i64 2) := (cell_of HB9.out 0).trans HX0.out
            have lx' := lt_of HB9.out
            clear s8 t8 l8 x18 lx8 x0 x1 x2 lx lo g1 g3 hbs hi0 hz0 hz1 hz2 hrm
            go_wp2_with fail
            refine KEY _ _ _ _ _ _ _ _ _ _ _ _ _ _ _ _ _ _ _ _ _ _ _ _ _ _ _ _ _ _ _ _ _ _ _ _ _ _ _ _ _ _ _ _ _ _ _ _ _ _ _ _ _ _ _ _ _ _ _ _ _ _ _ _ _ _ _ _ _ _ _ _ _ _ _ _ _ _ _ _ _ _ _ _ _ _ _ _ _ _ _ _ _ _ _ _ _ _ _ _ _ _ _ _ _ _ _ _ _ _ _ _ _ _ _ _ _ _ _ _ _ _ _ _ _ _ _ _ _ _ _ _ _ _ _ _ _ _ _ _ _ _ _ _ _ _ _ _ _ _ W9 P9 _ _ _ _ HL9.out HRA.out (grown_len HLI.out (i + 1) mx.y)
      · as_aux_lemma =>
          have HRS := Lib.hid (HRL.out.same hsm)
          rw [hk] at x0
          rw [hwho] at x1
          have y0 : decide ((i : Int) + 1 < 0) = false := dec_neg i
          have y1 : decide ((c.nL : Int) + 1 ≤ (i : Int) + 1) = false := dec_le hi
          have y2 : decide ((c.nL : Int) ≤ (i : Int)) = false := dec_le2 hi
          have y3 : decide (c.nL ≤ i) = false := dec_le3 hi
          clear hk hwho hsm
          go_wp2_with (first
            | (refine wpList_alloc_as rfl 51 rfl (some 10) rfl OB hOB _ (out_zero _) (outC 0 zV 0 none 0 0) rfl ?_; rw [← HE6.out])
            | (refine wpList_store_row rfl 51 (.tmp 10) (.tmp 49) rfl OB (outC _ V0 _ l0 n0 c0) rfl rfl 51 _ HX6.out out_info rfl (out_one _ _ _ _ _ _) ?_; rw [← HE7.out]))
          refine KEY _ _ _ _ _ _ _ _ _ _ _ _ _ _ _ _ _ _ _ _ _ _ _ _ _ _ _ _ _ _ _ _ _ _ _ _ _ _ _ _ _ _ _ _ _ _ _ _ _ _ _ _ _ _ _ _ _ _ _ _ _ _ _ _ _ _ _ _ _ _ _ _ _ _ _ _ _ _ _ _ _ _ _ _ _ _ _ _ _ _ _ _ _ _ _ _ _ _ _ _ _ _ _ _ _ _ _ _ _ _ _ _ _ _ _ _ _ _ _ _ _ _ _ _ _ _ _ _ _ _ _ _ _ _ _ _ _ _ _ _ _ _ _ _ _ _ _ _ _ _ X7 P F2 V I G HL7.out HRS.out HI.out
      · as_aux_lemma =>
          have HRS := Lib.hid (HRL.out.same hsm)
          rw [hk] at x0
          clear hk hsm
          go_wp2_with (first | (refine wpList_alloc_as rfl 51 rfl (some 10) rfl OB hOB _ (out_zero _) (outC 0 zV 0 none 0 0) rfl ?_; rw [← HE6.out]) | (refine wpList_store_row rfl 51 (.tmp 10) (.tmp 49) rfl OB (outC _ V0 _ l0 n0 c0) rfl rfl 51 _ HX6.out out_info rfl (out_one _ _ _ _ _ _) ?_; rw [← HE7.out]))
          refine KEY _ _ _ _ _ _ _ _ _ _ _ _ _ _ _ _ _ _ _ _ _ _ _ _ _ _ _ _ _ _ _ _ _ _ _ _ _ _ _ _ _ _ _ _ _ _ _ _ _ _ _ _ _ _ _ _ _ _ _ _ _ _ _ _ _ _ _ _ _ _ _ _ _ _ _ _ _ _ _ _ _ _ _ _ _ _ _ _ _ _ _ _ _ _ _ _ _ _ _ _ _ _ _ _ _ _ _ _ _ _ _ _ _ _ _ _ _ _ _ _ _ _ _ _ _ _ _ _ _ _ _ _ _ _ _ _ _ _ _ _ _ _ _ _ _ _ _ _ _ _ X7 P F2 V I G HL7.out HRS.out HI.out
      · as_aux_lemma =>
          obtain ⟨hz, hgl, hrp⟩ := HRL.out.pop i z t hi hq
          have HRA := Lib.hid hrp
          have HHI := Lib.hid hi
          rw [hk] at x0
          rw [hwho] at x1
          have y0 : decide ((i : Int) + 1 < 0) = false := dec_neg i
          have y1 : decide ((c.nL : Int) + 1 ≤ (i : Int) + 1) = false := dec_le hi
          have y2 : decide ((c.nL : Int) ≤ (i : Int)) = false := dec_le2 hi
          have y3 : decide (c.nL ≤ i) = false := dec_le3 hi
          have hle1 : i + 1 ≤ c.nL := Nat.succ_le_of_lt hi
          have HLE1 := Lib.hid hle1
          obtain ⟨av, cv, hav, _, hdv⟩ := own_q (P := fun _ => True) (HL7.out.rows (i + 1) hle1) rfl fun _ _ => trivial
          obtain ⟨bv, fv, cs, hbv, _, hbb, hxv⟩ := hdv (Nat.lt_of_le_of_lt (Nat.zero_le _) hgl)
          have d0 : X7.cell? ⟨bv, fv + G (i + 1), none⟩ = some (.int .u32 (z : Int)) := (cell_of hbb _).trans (hxv _ _ hz)
          have g1 := (HL7.out.cellI (i + 1) hle1).1
          have g2 := (HL7.out.cellG (i + 1) hle1).1
          have ld := lt_of hbb
          have lg := (HL7.out.cellI (i + 1) hle1).2.2
          have lh := (HL7.out.cellG (i + 1) hle1).2.2
          rw [hav, hbv] at g1
          have hgn : decide (((I (i + 1)).length : Int) ≤ (G (i + 1) : Int)) = false := decide_eq_false (Int.not_le.mpr (Int.ofNat_lt.mpr hgl))
          have hgn2 : decide ((I (i + 1)).length ≤ G (i + 1)) = false := decide_eq_false (Nat.not_le.mpr hgl)
          have HGL := Lib.hid hgl
          have hw1 := Lib.hid (wrap_len hgl (HLI.out (i + 1)) HJ.out (H80.out trivial))
          clear hk hwho hle1 hrp hz hq hav hbv hdv hbb hxv hgl
          go_wp2_with (first | (refine wpList_alloc_as rfl 51 rfl (some 10) rfl OB hOB _ (out_zero _) (outC 0 zV 0 none 0 0) rfl ?_; rw [← HE6.out]) | (refine wpList_store_row rfl 51 (.tmp 10) (.tmp 49) rfl OB (outC _ V0 _ l0 n0 c0) rfl rfl 51 _ HX6.out out_info rfl (out_one _ _ _ _ _ _) ?_; rw [← HE7.out]))
          clear y0 y1 y2 y3
          have b1 : (0 : Int) ≤ (i : Int) + 1 := int_succ i
          have b2 : (i : Int) + 1 < (c.nL : Int) + 1 := int_lt HHI.out
          have e6 : ((i : Int) + 1).toNat = i + 1 := toNat_one i
          generalize hgk : G (i + 1) = gk at g2 d0 hgn hgn2
          have HGK := Lib.hid hgk
          clear hgk
          generalize hqn : (I (i + 1)).length = qn at g1 hgn hgn2
          have hql : gk < qn := by rw [← hqn, ← HGK.out]; exact HGL.out
          clear hqn
          have hgi0 : (0 : Int) ≤ (gk : Int) := Int.natCast_nonneg gk
          have hgi1 : (gk : Int) < (qn : Int) := Int.ofNat_lt.mpr hql
          have hgt : ((gk : Int)).toNat = gk := Int.toNat_natCast gk
          refine wp_region_noPanic ?_
          refine wp_region_held_drew (S := (fun w' => w'.cell? ⟨XB, 1, none⟩ = some (.int .i64 ((i : Int) + 1)) ∧ w'.cell? ⟨GI, i + 1, none⟩ = some (.slice (some ⟨bv, fv, none⟩) qn cv) ∧ w'.cell? ⟨GI + 1, i + 1, none⟩ = some (.int .i64 (gk : Int)) ∧ w'.cell? ⟨bv, fv + gk, none⟩ = some (.int .u32 (z : Int)) ∧ w'.cell? ⟨OB, 5, none⟩ = some (.int .u32 (z : Int)))) (by kernel_rfl) ?_ (fun hHeld => ?_)
          · exact ⟨x1, g1, g2, d0, o5⟩
          refine wpAnyH_take (i := 0) (v := ?_) rfl (by kernel_rfl) (by kernel_rfl) (by kernel_rfl) (fun _ _ _ h => h) (Or.inl ⟨by rfl, ?_⟩) (by assumption) ?_
          rotate_left
          · (intro w hSw; (try dsimp only at hSw); go_simp; try with_reducible rfl)
          simp only [Act.put, List.getElem_toArray, List.getElem_cons_zero, List.getElem_cons_succ, List.setIfInBounds_toArray, List.set_cons_zero, List.set_cons_succ]
          refine wpAnyH_take (i := 1) (v := ?_) rfl (by kernel_rfl) (by kernel_rfl) (by kernel_rfl) (fun _ _ _ h => h) (Or.inl ⟨by rfl, ?_⟩) (by assumption) ?_
          rotate_left
          · (intro w hSw; (try dsimp only at hSw); go_simp; try with_reducible rfl)
          simp only [Act.put, List.getElem_toArray, List.getElem_cons_zero, List.getElem_cons_succ, List.setIfInBounds_toArray, List.set_cons_zero, List.set_cons_succ]
          refine wpAnyH_take (i := 2) (v := ?_) rfl (by kernel_rfl) (by kernel_rfl) (by kernel_rfl) (fun _ _ _ h => h) (Or.inl ⟨by rfl, ?_⟩) (by assumption) ?_
          rotate_left
          · (intro w hSw; (try dsimp only at hSw); go_simp; try with_reducible rfl)
          simp only [Act.put, List.getElem_toArray, List.getElem_cons_zero, List.getElem_cons_succ, List.setIfInBounds_toArray, List.set_cons_zero, List.set_cons_succ]
          refine wpAnyH_take (i := 3) (v := ?_) rfl (by kernel_rfl) (by kernel_rfl) (by kernel_rfl) (fun _ _ _ h => h) (Or.inl ⟨by rfl, ?_⟩) (by assumption) ?_
          rotate_left
          · (intro w hSw; (try dsimp only at hSw); go_simp; try with_reducible rfl)
          simp only [Act.put, List.getElem_toArray, List.getElem_cons_zero, List.getElem_cons_succ, List.setIfInBounds_toArray, List.set_cons_zero, List.set_cons_succ]
          refine wpAnyH_take (i := 4) (v := ?_) rfl (by kernel_rfl) (by kernel_rfl) (by kernel_rfl) (fun _ _ _ h => h) (Or.inl ⟨by rfl, ?_⟩) (by assumption) ?_
          rotate_left
          · (intro w hSw; (try dsimp only at hSw); go_simp; try with_reducible rfl)
          simp only [Act.put, List.getElem_toArray, List.getElem_cons_zero, List.getElem_cons_succ, List.setIfInBounds_toArray, List.set_cons_zero, List.set_cons_succ]
          refine wpAnyH_take (i := 5) (v := ?_) rfl (by kernel_rfl) (by kernel_rfl) (by kernel_rfl) (fun _ _ _ h => h) (Or.inl ⟨by rfl, ?_⟩) (by assumption) ?_
          rotate_left
          · (intro w hSw; (try dsimp only at hSw); go_simp; try with_reducible rfl)
          simp only [Act.put, List.getElem_toArray, List.getElem_cons_zero, List.getElem_cons_succ, List.setIfInBounds_toArray, List.set_cons_zero, List.set_cons_succ]
          refine wpAnyH_take (i := 6) (v := ?_) rfl (by kernel_rfl) (by kernel_rfl) (by kernel_rfl) (fun _ _ _ h => h) (Or.inl ⟨by rfl, ?_⟩) (by assumption) ?_
          rotate_left
          · (intro w hSw; (try dsimp only at hSw); go_simp; try with_reducible rfl)
          simp only [Act.put, List.getElem_toArray, List.getElem_cons_zero, List.getElem_cons_succ, List.setIfInBounds_toArray, List.set_cons_zero, List.set_cons_succ]
          refine wpAnyH_take (i := 7) (v := ?_) rfl (by kernel_rfl) (by kernel_rfl) (by kernel_rfl) (fun _ _ _ h => h) (Or.inl ⟨by rfl, ?_⟩) (by assumption) ?_
          rotate_left
          · (intro w hSw; (try dsimp only at hSw); go_simp; try with_reducible rfl)
          simp only [Act.put, List.getElem_toArray, List.getElem_cons_zero, List.getElem_cons_succ, List.setIfInBounds_toArray, List.set_cons_zero, List.set_cons_succ]
          refine wpAnyH_take (i := 8) (v := ?_) rfl (by kernel_rfl) (by kernel_rfl) (by kernel_rfl) (fun _ _ _ h => h) (Or.inl ⟨by rfl, ?_⟩) (by assumption) ?_
          rotate_left
          · (intro w hSw; (try dsimp only at hSw); go_simp; try with_reducible rfl)
          simp only [Act.put, List.getElem_toArray, List.getElem_cons_zero, List.getElem_cons_succ, List.setIfInBounds_toArray, List.set_cons_zero, List.set_cons_succ]
          refine wpAnyH_take (i := 9) (v := ?_) rfl (by kernel_rfl) (by kernel_rfl) (by kernel_rfl) (fun _ _ _ h => h) (Or.inl ⟨by rfl, ?_⟩) (by assumption) ?_
          rotate_left
          · (intro w hSw; (try dsimp only at hSw); go_simp; try with_reducible rfl)
          simp only [Act.put, List.getElem_toArray, List.getElem_cons_zero, List.getElem_cons_succ, List.setIfInBounds_toArray, List.set_cons_zero, List.set_cons_succ]
          refine wpAnyH_take (i := 10) (v := ?_) rfl (by kernel_rfl) (by kernel_rfl) (by kernel_rfl) (fun _ _ _ h => h) (Or.inl ⟨by rfl, ?_⟩) (by assumption) ?_
          rotate_left
          · (intro w hSw; (try dsimp only at hSw); go_simp; try with_reducible rfl)
          simp only [Act.put, List.getElem_toArray, List.getElem_cons_zero, List.getElem_cons_succ, List.setIfInBounds_toArray, List.set_cons_zero, List.set_cons_succ]
          refine wpAnyH_take (i := 11) (v := ?_) rfl (by kernel_rfl) (by kernel_rfl) (by kernel_rfl) (fun _ _ _ h => h) (Or.inl ⟨by rfl, ?_⟩) (by assumption) ?_
          rotate_left
          · (intro w hSw; (try dsimp only at hSw); go_simp; try with_reducible rfl)
          simp only [Act.put, List.getElem_toArray, List.getElem_cons_zero, List.getElem_cons_succ, List.setIfInBounds_toArray, List.set_cons_zero, List.set_cons_succ]
          refine wpAnyH_take (i := 12) (v := ?_) rfl (by kernel_rfl) (by kernel_rfl) (by kernel_rfl) (fun _ _ _ h => h) (Or.inl ⟨by rfl, ?_⟩) (by assumption) ?_
          rotate_left
          · (intro w hSw; (try dsimp only at hSw); go_simp; try with_reducible rfl)
          simp only [Act.put, List.getElem_toArray, List.getElem_cons_zero, List.getElem_cons_succ, List.setIfInBounds_toArray, List.set_cons_zero, List.set_cons_succ]
          refine wpAnyH_take (i := 13) (v := ?_) rfl (by kernel_rfl) (by kernel_rfl) (by kernel_rfl) (fun _ _ _ h => h) (Or.inl ⟨by rfl, ?_⟩) (by assumption) ?_
          rotate_left
          · (intro w hSw; (try dsimp only at hSw); go_simp; try with_reducible rfl)
          simp only [Act.put, List.getElem_toArray, List.getElem_cons_zero, List.getElem_cons_succ, List.setIfInBounds_toArray, List.set_cons_zero, List.set_cons_succ]
          refine wpAnyH_take (i := 14) (v := ?_) rfl (by kernel_rfl) (by kernel_rfl) (by kernel_rfl) (fun _ _ _ h => h) (Or.inl ⟨by rfl, ?_⟩) (by assumption) ?_
          rotate_left
          · (intro w hSw; (try dsimp only at hSw); go_simp; try with_reducible rfl)
          simp only [Act.put, List.getElem_toArray, List.getElem_cons_zero, List.getElem_cons_succ, List.setIfInBounds_toArray, List.set_cons_zero, List.set_cons_succ]
          refine wpAnyH_take (i := 15) (v := ?_) rfl (by kernel_rfl) (by kernel_rfl) (by kernel_rfl) (fun _ _ _ h => h) (Or.inl ⟨by rfl, ?_⟩) (by assumption) ?_
          rotate_left
          · (intro w hSw; (try dsimp only at hSw); go_simp; try with_reducible rfl)
          simp only [Act.put, List.getElem_toArray, List.getElem_cons_zero, List.getElem_cons_succ, List.setIfInBounds_toArray, List.set_cons_zero, List.set_cons_succ]
          refine wpAnyH_take (i := 16) (v := ?_) rfl (by kernel_rfl) (by kernel_rfl) (by kernel_rfl) (fun _ _ _ h => h) (Or.inl ⟨by rfl, ?_⟩) (by assumption) ?_
          rotate_left
          · (intro w hSw; (try dsimp only at hSw); go_simp; try with_reducible rfl)
          simp only [Act.put, List.getElem_toArray, List.getElem_cons_zero, List.getElem_cons_succ, List.setIfInBounds_toArray, List.set_cons_zero, List.set_cons_succ]
          refine wpAnyH_take (i := 17) (v := ?_) rfl (by kernel_rfl) (by kernel_rfl) (by kernel_rfl) (fun _ _ _ h => h) (Or.inl ⟨by rfl, ?_⟩) (by assumption) ?_
          rotate_left
          · (intro w hSw; (try dsimp only at hSw); go_simp; try with_reducible rfl)
          simp only [Act.put, List.getElem_toArray, List.getElem_cons_zero, List.getElem_cons_succ, List.setIfInBounds_toArray, List.set_cons_zero, List.set_cons_succ]
          refine wpAnyH_take (i := 18) (v := ?_) rfl (by kernel_rfl) (by kernel_rfl) (by kernel_rfl) (fun _ _ _ h => h) (Or.inl ⟨by rfl, ?_⟩) (by assumption) ?_
          rotate_left
          · (intro w hSw; (try dsimp only at hSw); go_simp; try with_reducible rfl)
          simp only [Act.put, List.getElem_toArray, List.getElem_cons_zero, List.getElem_cons_succ, List.setIfInBounds_toArray, List.set_cons_zero, List.set_cons_succ]
          refine wpAnyH_take (i := 19) (v := ?_) rfl (by kernel_rfl) (by kernel_rfl) (by kernel_rfl) (fun _ _ _ h => h) (Or.inl ⟨by rfl, ?_⟩) (by assumption) ?_
          rotate_left
          · (intro w hSw; (try dsimp only at hSw); go_simp; try with_reducible rfl)
          simp only [Act.put, List.getElem_toArray, List.getElem_cons_zero, List.getElem_cons_succ, List.setIfInBounds_toArray, List.set_cons_zero, List.set_cons_succ]
          refine wpAnyH_take (i := 20) (v := ?_) rfl (by kernel_rfl) (by kernel_rfl) (by kernel_rfl) (fun _ _ _ h => h) (Or.inl ⟨by rfl, ?_⟩) (by assumption) ?_
          rotate_left
          · (intro w hSw; (try dsimp only at hSw); go_simp; try with_reducible rfl)
          simp only [Act.put, List.getElem_toArray, List.getElem_cons_zero, List.getElem_cons_succ, List.setIfInBounds_toArray, List.set_cons_zero, List.set_cons_succ]
          refine wpAnyH_take (i := 21) (v := ?_) rfl (by kernel_rfl) (by kernel_rfl) (by kernel_rfl) (fun _ _ _ h => h) (Or.inl ⟨by rfl, ?_⟩) (by assumption) ?_
          rotate_left
          · (intro w hSw; (try dsimp only at hSw); go_simp; try with_reducible rfl)
          simp only [Act.put, List.getElem_toArray, List.getElem_cons_zero, List.getElem_cons_succ, List.setIfInBounds_toArray, List.set_cons_zero, List.set_cons_succ]
          refine wpAnyH_take (i := 22) (v := ?_) rfl (by kernel_rfl) (by kernel_rfl) (by kernel_rfl) (fun _ _ _ h => h) (Or.inl ⟨by rfl, ?_⟩) (by assumption) ?_
          rotate_left
          · (intro w hSw; (try dsimp only at hSw); go_simp; try with_reducible rfl)
          simp only [Act.put, List.getElem_toArray, List.getElem_cons_zero, List.getElem_cons_succ, List.setIfInBounds_toArray, List.set_cons_zero, List.set_cons_succ]
          refine wpAnyH_take (i := 23) (v := ?_) rfl (by kernel_rfl) (by kernel_rfl) (by kernel_rfl) (fun _ _ _ h => h) (Or.inl ⟨by rfl, ?_⟩) (by assumption) ?_
          rotate_left
          · (intro w hSw; (try dsimp only at hSw); go_simp; try with_reducible rfl)
          simp only [Act.put, List.getElem_toArray, List.getElem_cons_zero, List.getElem_cons_succ, List.setIfInBounds_toArray, List.set_cons_zero, List.set_cons_succ]
          refine wpAnyH_take (i := 24) (v := ?_) rfl (by kernel_rfl) (by kernel_rfl) (by kernel_rfl) (fun _ _ _ h => h) (Or.inl ⟨by rfl, ?_⟩) (by assumption) ?_
          rotate_left
          · (intro w hSw; (try dsimp only at hSw); go_simp; try with_reducible rfl)
          simp only [Act.put, List.getElem_toArray, List.getElem_cons_zero, List.getElem_cons_succ, List.setIfInBounds_toArray, List.set_cons_zero, List.set_cons_succ]
          refine wpAnyH_take (i := 25) (v := ?_) rfl (by kernel_rfl) (by kernel_rfl) (by kernel_rfl) (fun _ _ _ h => h) (Or.inl ⟨by rfl, ?_⟩) (by assumption) ?_
          rotate_left
          · (intro w hSw; (try dsimp only at hSw); go_simp; try with_reducible rfl)
          simp only [Act.put, List.getElem_toArray, List.getElem_cons_zero, List.getElem_cons_succ, List.setIfInBounds_toArray, List.set_cons_zero, List.set_cons_succ]
          refine wpAnyH_take (i := 26) (v := ?_) rfl (by kernel_rfl) (by kernel_rfl) (by kernel_rfl) (fun _ _ _ h => h) (Or.inl ⟨by rfl, ?_⟩) (by assumption) ?_
          rotate_left
          · (intro w hSw; (try dsimp only at hSw); go_simp; try with_reducible rfl)
          simp only [Act.put, List.getElem_toArray, List.getElem_cons_zero, List.getElem_cons_succ, List.setIfInBounds_toArray, List.set_cons_zero, List.set_cons_succ]
          refine wpAnyH_take (i := 27) (v := ?_) rfl (by kernel_rfl) (by kernel_rfl) (by kernel_rfl) (fun _ _ _ h => h) (Or.inl ⟨by rfl, ?_⟩) (by assumption) ?_
          rotate_left
          · (intro w hSw; (try dsimp only at hSw); go_simp; try with_reducible rfl)
          simp only [Act.put, List.getElem_toArray, List.getElem_cons_zero, List.getElem_cons_succ, List.setIfInBounds_toArray, List.set_cons_zero, List.set_cons_succ]
          refine wpAnyH_take (i := 28) (v := ?_) rfl (by kernel_rfl) (by kernel_rfl) (by kernel_rfl) (fun _ _ _ h => h) (Or.inl ⟨by rfl, ?_⟩) (by assumption) ?_
          rotate_left
          · (intro w hSw; (try dsimp only at hSw); go_simp; try with_reducible rfl)
          simp only [Act.put, List.getElem_toArray, List.getElem_cons_zero, List.getElem_cons_succ, List.setIfInBounds_toArray, List.set_cons_zero, List.set_cons_succ]
          refine wpAnyH_done (by kernel_rfl) ?_ _
          refine NoPanic.normal ?_
          have HL8 := Lib.hid (HL7.out.quiet (Keeps.refl (fun _ => False) X7).drew)
          have HB8 := Lib.hid ((Keeps.refl (fun _ => False) X7).drew.at HB7.out fun h => h)
          clear d0 g1 hgn hgn2 hgi0 hgi1 hgt hql ld lg o0 o5
          obtain ⟨r1, r2, r3⟩ := HL8.out.cellG (i + 1) HLE1.out
          rw [HGK.out] at r1
          obtain ⟨u1, u2⟩ := hw1.out
          rw [HGK.out] at u1 u2
          have HL9 := Lib.hid (show LwI c w B0 m lb GI (GI + 1) P _ V I (upd G (i + 1) (gk + 1)) (X7.drew.setCell ⟨GI + 1, i + 1, none⟩ (.int .i64 ((gk : Int) + 1))) from HL8.out.pop (i + 1) HLE1.out (gk + 1))
          rw [HGK.out] at HRA
          have z1 : X7.drew.cell? ⟨XB, 1, none⟩ = some (.int .i64 ((i : Int) + 1)) := x1
          have lx' : XB < X7.drew.heap.size := lx
          rename_i K5 hK5
          clear hHeld
          refine hK5 _ _ ?_
          refine wp_cond_false rfl ?_
          refine wp_skip ?_
          go_wp2_with fail
          refine KEY _ _ _ _ _ _ _ _ _ _ _ _ _ _ _ _ _ _ _ _ _ _ _ _ _ _ _ _ _ _ _ _ _ _ _ _ _ _ _ _ _ _ _ _ _ _ _ _ _ _ _ _ _ _ _ _ _ _ _ _ _ _ _ _ _ _ _ _ _ _ _ _ _ _ _ _ _ _ _ _ _ _ _ _ _ _ _ _ _ _ _ _ _ _ _ _ _ _ _ _ _ _ _ _ _ _ _ _ _ _ _ _ _ _ _ _ _ _ _ _ _ _ _ _ _ _ _ _ _ _ _ _ _ _ _ _ _ _ _ _ _ _ _ _ _ _ _ _ _ _ _ P _ V I _ HL9.out HRA.out HI.out
      · as_aux_lemma =>
          have HRS := Lib.hid (HRL.out.same hsm)
          rw [hk] at x0
          clear hk hsm
          rcases hg with rfl | rfl
          · skip
            go_wp2_with (first | (refine wpList_alloc_as rfl 51 rfl (some 10) rfl OB hOB _ (out_zero _) (outC 0 zV 0 none 0 0) rfl ?_; rw [← HE6.out]) | (refine wpList_store_row rfl 51 (.tmp 10) (.tmp 49) rfl OB (outC _ V0 _ l0 n0 c0) rfl rfl 51 _ HX6.out out_info rfl (out_one _ _ _ _ _ _) ?_; rw [← HE7.out]))
            refine KEY _ _ _ _ _ _ _ _ _ _ _ _ _ _ _ _ _ _ _ _ _ _ _ _ _ _ _ _ _ _ _ _ _ _ _ _ _ _ _ _ _ _ _ _ _ _ _ _ _ _ _ _ _ _ _ _ _ _ _ _ _ _ _ _ _ _ _ _ _ _ _ _ _ _ _ _ _ _ _ _ _ _ _ _ _ _ _ _ _ _ _ _ _ _ _ _ _ _ _ _ _ _ _ _ _ _ _ _ _ _ _ _ _ _ _ _ _ _ _ _ _ _ _ _ _ _ _ _ _ _ _ _ _ _ _ _ _ _ _ _ _ _ _ _ _ _ _ _ _ _ X7 P F2 V I G HL7.out HRS.out HI.out
          · skip
            go_wp2_with (first | (refine wpList_alloc_as rfl 51 rfl (some 10) rfl OB hOB _ (out_zero _) (outC 0 zV 0 none 0 0) rfl ?_; rw [← HE6.out]) | (refine wpList_store_row rfl 51 (.tmp 10) (.tmp 49) rfl OB (outC _ V0 _ l0 n0 c0) rfl rfl 51 _ HX6.out out_info rfl (out_one _ _ _ _ _ _) ?_; rw [← HE7.out]))
            refine KEY _ _ _ _ _ _ _ _ _ _ _ _ _ _ _ _ _ _ _ _ _ _ _ _ _ _ _ _ _ _ _ _ _ _ _ _ _ _ _ _ _ _ _ _ _ _ _ _ _ _ _ _ _ _ _ _ _ _ _ _ _ _ _ _ _ _ _ _ _ _ _ _ _ _ _ _ _ _ _ _ _ _ _ _ _ _ _ _ _ _ _ _ _ _ _ _ _ _ _ _ _ _ _ _ _ _ _ _ _ _ _ _ _ _ _ _ _ _ _ _ _ _ _ _ _ _ _ _ _ _ _ _ _ _ _ _ _ _ _ _ _ _ _ _ _ _ _ _ _ _ X7 P F2 V I G HL7.out HRS.out HI.out
      · as_aux_lemma =>
          have HRS := Lib.hid (HRL.out.same hsm)
          have y0 : (mx.k == 2) = false := beq_eq_false_iff_ne.mpr hk2
          have y1 : (mx.k == 7) = false := beq_eq_false_iff_ne.mpr hk7
          have y2 : (mx.k = 2) = False := eq_false hk2
          have y3 : (mx.k = 7) = False := eq_false hk7
          clear hk2 hk7 hsm
          go_wp2_with (first | (refine wpList_alloc_as rfl 51 rfl (some 10) rfl OB hOB _ (out_zero _) (outC 0 zV 0 none 0 0) rfl ?_; rw [← HE6.out]) | (refine wpList_store_row rfl 51 (.tmp 10) (.tmp 49) rfl OB (outC _ V0 _ l0 n0 c0) rfl rfl 51 _ HX6.out out_info rfl (out_one _ _ _ _ _ _) ?_; rw [← HE7.out]))
          refine KEY _ _ _ _ _ _ _ _ _ _ _ _ _ _ _ _ _ _ _ _ _ _ _ _ _ _ _ _ _ _ _ _ _ _ _ _ _ _ _ _ _ _ _ _ _ _ _ _ _ _ _ _ _ _ _ _ _ _ _ _ _ _ _ _ _ _ _ _ _ _ _ _ _ _ _ _ _ _ _ _ _ _ _ _ _ _ _ _ _ _ _ _ _ _ _ _ _ _ _ _ _ _ _ _ _ _ _ _ _ _ _ _ _ _ _ _ _ _ _ _ _ _ _ _ _ _ _ _ _ _ _ _ _ _ _ _ _ _ _ _ _ _ _ _ _ _ _ _ _ _ X7 P F2 V I G HL7.out HRS.out HI.out
    · have dl : decide (j < n) = false := decide_eq_false hlt
      have dl2 : decide ((j : Int) < (n : Int)) = false := decide_eq_false (fun h => hlt (Int.ofNat_lt.mp h))
      have HW := Lib.hid hlw.keeps
      clear hlw hrl hln HJ HLI HRL hj
      go_wp2_with fail
      refine (al37 HW.out).mono ?_
      rintro e9 w9 ⟨rfl, k9⟩
      have HK := Lib.hid k9
      clear k9
      go_wp2_with fail
      go_ret
      exact lawQ HK.out
end Go.Proofs.YtkhmfjfclpehfaaGreat
