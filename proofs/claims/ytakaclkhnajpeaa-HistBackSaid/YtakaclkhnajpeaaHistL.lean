import Derived.Test.YtakaclkhnajpeaaHistJ
namespace Go.Proofs.Ytakaclkhnajpeaa
open Go.ChangeShapes Go.WideShapes Go.ChangeAt Go.RowKit
set_option linter.unusedVariables false
set_option linter.unusedSimpArgs false
theorem info_op : (Try.prog.info? 38).map (fun i => (i.zero, i.size, i.bytes)) = some (some (.agg #[.int .i64 0, .int .i64 0, .int .i64 0, .int .i64 0, .int .u32 0, .int .u32 0, .int .u32 0, .int .u32 0, .int .u32 0, .int .i64 0, .int .u32 0, .int .u32 0, .int .u32 0, .int .u32 0, .bool false, .int .i64 0, .int .i64 0]), 17, 104) := by kernel_rfl
theorem opL_cells_new (w : World) (x : OpX) (t : TypeId) : ∀ (j : Nat) u, (opL x)[j]? = some u → (w.alloc (.cells #[.int .i64 (x 0), .int .i64 (x 1), .int .i64 (x 2), .int .i64 (x 3), .int .u32 (x 4), .int .u32 (x 5), .int .u32 (x 6), .int .u32 (x 7), .int .u32 (x 8), .int .i64 (x 9), .int .u32 (x 10), .int .u32 (x 11), .int .u32 (x 12), .int .u32 (x 13), .bool (decide (x 14 = 1)), .int .i64 (x 15), .int .i64 (x 16)] t)).cell? ((⟨w.heap.size, 0, none⟩ : Addr).add j) = some u := by
  intro j u hj
  rw [Addr.add_mid, cell_of (heap_new w _) (0 + j), show 0 + j = j by omega]
  simpa [opL] using hj
/-- What Parse says of a printed history. -/
def ParseSays (w : World) (L : List OpX) (e : Ending) (w' : World) : Prop :=
  ∃ (v : Value) (n f : Int), e = .returned (.tuple #[v, .int .i64 n, .int .i64 f]) ∧ Below w.heap.size w w' ∧ (rightH L = true → n = 0 ∧ f = 0 ∧ w'.ownsRow w.heap.size 38 17 v L.length (flatO L)) ∧ (rightH L = false → f ≠ 0)
/-- The rows that All gave of a printed history. -/
structure RowsP (w : World) (v : Value) (n : Nat) (L : List OpX) : Prop where
  slice : ∃ a c, v = .slice a n c ∧ (0 < n → ∃ g, a = some ⟨g, 0, none⟩ ∧ g < w.heap.size ∧ ∀ i x, L[i]? = some x → ∃ A, A < w.heap.size ∧ WordsAt w A (wsX x) ∧ w.cell? ⟨g, i * 2, none⟩ = some (.int .i64 ((i + 1 : Nat) : Int)) ∧ w.cell? ⟨g, i * 2 + 1, none⟩ = some (.slice (some ⟨A, 0, none⟩) 17 17))
theorem flatR_at' : ∀ (R : List RowD) (i : Nat) (r : RowD), R[i]? = some r → (flatR R)[i * 2]? = some (.int .i64 (r.n : Int)) ∧ (flatR R)[i * 2 + 1]? = some (.slice (some ⟨r.A, 0, none⟩) r.ws.length r.ws.length)
  | [], i, r, h => by simp at h
  | x :: t, 0, r, h => by
    simp at h
    subst h
    exact ⟨rfl, rfl⟩
  | x :: t, i + 1, r, h => by
    have h' := flatR_at' t i r (by simpa using h)
    rw [show (i + 1) * 2 = i * 2 + 2 by omega, show i * 2 + 2 + 1 = i * 2 + 1 + 2 by omega]
    exact h'
theorem rows_hist (w : World) (L : List OpX) (hn : L.length ≤ 1000) (hok : ∀ x, x ∈ L → OpOk x) :
    Calls Try.prog 12 #[.string ⟨(printX L).toArray⟩] w fun e w' => ∃ v, e = .returned v ∧ Below w.heap.size w w' ∧ RowsP w' v L.length L := by
  have hl := printX_len L hok
  refine (all_any w (printX L) (by omega) (linesX 1 L) (linesX_of L 1) (by rw [linesX_len]; omega) (fun y hy => ?_)).mono ?_
  · obtain ⟨x, hx, e⟩ := linesX_mem L 1 y hy
    rw [e]
    have := textX_len x (hok x hx).all
    omega
  · rintro e w' ⟨v, R, rfl, hR, hown, hat, hB⟩
    rw [rowsX_of] at hR
    have hlen : R.length = L.length := by have h := congrArg List.length hR; rw [List.length_map, rowsX_len] at h; exact h
    refine ⟨v, rfl, hB, ?_⟩
    rw [hlen] at hown
    rcases hz : L.length with _ | m
    · rw [hz] at hown
      rcases hown.2 with ⟨rfl, _⟩ | ⟨g, cap, cur, hv, hb⟩
      · exact ⟨none, 0, rfl, fun h => by omega⟩
      · exact ⟨_, cap, hv, fun h => by omega⟩
    · rw [hz] at hown
      obtain ⟨g, cap, rfl⟩ := ownsRow_succ hown
      refine ⟨_, cap, rfl, fun _ => ⟨g, rfl, (hown.lt g rfl).2, fun i x hx => ?_⟩⟩
      obtain ⟨r, hr⟩ : ∃ r, R[i]? = some r := ⟨_, List.getElem?_eq_getElem (by rw [hlen]; exact (List.getElem?_eq_some_iff.1 hx).1)⟩
      have hk : keyR r = (1 + i, wsX x) := by
        have h1 := rowsX_at L 1 i x hx
        rw [← hR, List.getElem?_map, hr] at h1
        exact Option.some.inj h1
      simp only [keyR, Prod.mk.injEq] at hk
      obtain ⟨h1, h2⟩ := flatR_at' R i r hr
      have q1 := hown.cells (g := g) rfl _ _ h1
      have q2 := hown.cells (g := g) rfl _ _ h2
      rw [Addr.add_mid] at q1 q2
      have hwa := hat r (List.mem_of_getElem? hr)
      rw [hk.2] at hwa q2
      rw [hk.1] at q1
      refine ⟨r.A, hwa.lt, hwa, ?_, ?_⟩
      · rw [show i + 1 = 1 + i by omega, show i * 2 = 0 + i * 2 by omega]
        exact q1
      · rw [show (wsX x).length = 17 by simp [wsX], show 0 + (i * 2 + 1) = i * 2 + 1 by omega] at q2
        exact q2
set_option maxRecDepth 100000 in
set_option maxHeartbeats 8000000 in
theorem hparse_any (w : World) (L : List OpX) (hn : L.length ≤ 1000) (hok : ∀ x, x ∈ L → OpOk x) :
    Calls Try.prog 6 #[.string ⟨(printX L).toArray⟩] w (ParseSays w L) := by
  obtain ⟨i0, hi, hz0, hz1, hz2⟩ := info_parts info_op
  have HI := Lib.hid (And.intro hi (And.intro hz0 (And.intro hz1 hz2)))
  have HRW := Lib.hid (rows_hist w L hn hok)
  have HOK := Lib.hid hok
  clear hi hz0 hz1 hz2 hok
  generalize hS : (⟨(printX L).toArray⟩ : ByteArray) = S at HRW ⊢
  clear hS
  go_enter Try.func6, Try.ntmps6
  go_wp2_with fail
  try (refine wp_scope_again 0 (fun _ _ => False) (fun _ _ => 0) rfl (fun _ _ h => h.elim) ?_; intro _; go_wp2_with fail)
  try go_step3
  try go_wp2_with fail
  refine HRW.out.mono ?_
  rintro e1 w1 ⟨v1, rfl, b1, hrp⟩
  obtain ⟨a, c, rfl, hcell⟩ := hrp.slice
  have HB1 := Lib.hid b1
  have hz1 := b1.size
  have HC := Lib.hid hcell
  clear b1 hcell hrp HRW
  obtain ⟨n, hnl⟩ : ∃ n, n = L.length := ⟨_, rfl⟩
  rw [← hnl] at HC hn ⊢
  have HL := Lib.hid hnl.symm
  clear hnl
  go_wp2_with fail
  go_loopw [5, 6, 14] (fun v5 v6 i wr => ∃ k : Nat, k ≤ n ∧ i = .int .i64 (k : Int) ∧ v6 = .int .i64 0 ∧ (∀ j x, j < k → L[j]? = some x → singleP x = true) ∧ wr.ownsRow w1.heap.size 38 17 v5 k (flatO (L.take k)) ∧ Below w1.heap.size w1 wr) (fun _ _ i _ => n - (intOf i).toNat)
  case atStart => exact ⟨0, by omega, rfl, rfl, fun j x hj => by omega, World.ownsRow_nil _ _ _ _, Below.refl _ _⟩
  case round =>
    obtain ⟨k, hk, rfl, rfl, hall, hown, hB⟩ := hrel
    have HB := Lib.hid hB
    have HA := Lib.hid hall
    have hsz := hB.size
    clear hB hall
    by_cases hlt : k < n
    · obtain ⟨g, rfl, hg, hcs⟩ := HC.out (by omega)
      obtain ⟨x, hx⟩ : ∃ x, L[k]? = some x := ⟨_, List.getElem?_eq_getElem (by rw [HL.out]; exact hlt)⟩
      obtain ⟨A, hA, hwa, q0, q1⟩ := hcs k x hx
      have c0 : wr.cell? ⟨g, k * 2, none⟩ = some (.int .i64 ((k + 1 : Nat) : Int)) := (HB.out.cell (p := ⟨g, k * 2, none⟩) hg).trans q0
      have c1 : wr.cell? ⟨g, k * 2 + 1, none⟩ = some (.slice (some ⟨A, 0, none⟩) 17 17) := (HB.out.cell (p := ⟨g, k * 2 + 1, none⟩) hg).trans q1
      have hxo := HOK.out x (List.mem_of_getElem? hx)
      obtain ⟨hbk, hbe⟩ := back_call x hxo
      have HX := Lib.hid hx
      have HT := Lib.hid (show flatO (L.take (k + 1)) = flatO (L.take k) ++ opL x by rw [List.take_add_one, hx]; exact flatO_snoc _ _)
      have HCA := Lib.hid (fun W (hb : Below w1.heap.size w1 W) => by
        have h := call_any W ((k + 1 : Nat) : Int) (some ⟨A, 0, none⟩) 17 (fW (wsX x)) (fun _ => ⟨A, 0, rfl, Nat.lt_of_lt_of_le hA hb.size, fun i hi => by
          have hw := hwa.below hb hA
          obtain ⟨s, hs⟩ : ∃ s, (wsX x)[i]? = some s := ⟨_, List.getElem?_eq_getElem (by simpa [wsX] using hi)⟩
          rw [fW_mk _ _ _ hs, show 0 + i = i by omega]
          exact hw.cell i s hs⟩) (fun i hi => by
            rw [fW_x x i hi]
            have := prnL_len (hxo.all i hi)
            omega)
        rw [hbk] at h
        exact h)
      have dk : decide (k < n) = true := decide_eq_true hlt
      have hba := HB.out.alloc hsz (.cells #[.int .i64 ((k + 1 : Nat) : Int), .slice (some ⟨A, 0, none⟩) 17 17] 45)
      have HBA := Lib.hid hba
      clear hx hcs hwa q0 q1 hbk hba
      cases hs : singleP x with
      | false =>
        rw [hs] at HCA
        have HF := Lib.hid (show rightH L = false by
          unfold rightH
          rw [show L.all singleP = false from List.all_eq_false.2 ⟨x, List.mem_of_getElem? HX.out, by simp [hs]⟩]
          rfl)
        clear hbe
        have HCA2 := Lib.hid (fun W hb => show Calls Try.prog 13 #[.agg #[.int .i64 ((k + 1 : Nat) : Int), .slice (some ⟨A, 0, none⟩) 17 17]] W fun e w' => e = .returned (.tuple #[.agg #[.int .i64 ((zx (fW (wsX x)) 17) 0), .int .i64 ((zx (fW (wsX x)) 17) 1), .int .i64 ((zx (fW (wsX x)) 17) 2), .int .i64 ((zx (fW (wsX x)) 17) 3), .int .u32 ((zx (fW (wsX x)) 17) 4), .int .u32 ((zx (fW (wsX x)) 17) 5), .int .u32 ((zx (fW (wsX x)) 17) 6), .int .u32 ((zx (fW (wsX x)) 17) 7), .int .u32 ((zx (fW (wsX x)) 17) 8), .int .i64 ((zx (fW (wsX x)) 17) 9), .int .u32 ((zx (fW (wsX x)) 17) 10), .int .u32 ((zx (fW (wsX x)) 17) 11), .int .u32 ((zx (fW (wsX x)) 17) 12), .int .u32 ((zx (fW (wsX x)) 17) 13), .bool (decide ((zx (fW (wsX x)) 17) 14 = 1)), .int .i64 ((zx (fW (wsX x)) 17) 15), .int .i64 ((zx (fW (wsX x)) 17) 16)], .bool false]) ∧ Below W.heap.size W w' from HCA.out W hb)
        generalize zx (fW (wsX x)) 17 = z at HCA2
        have g1 : (0 : Int) < ((k + 1 : Nat) : Int) := by omega
        have g2 : decide ((0 : Int) < ((k + 1 : Nat) : Int)) = true := decide_eq_true g1
        have g3 : decide ((0 : Int) < (k : Int) + 1) = true := decide_eq_true (by omega)
        clear HCA g1
        go_wp2_with fail
        refine (HCA2.out _ HBA.out).mono ?_
        rintro e2 w2 ⟨rfl, b2⟩
        have hrow : w2.heap[wr.heap.size]? = some (.cells #[.int .i64 ((k + 1 : Nat) : Int), .slice (some ⟨A, 0, none⟩) 17 17] 45 (0, 0)) := (b2.block _ (by rw [World.size_alloc]; omega)).trans (heap_new wr _)
        have d0 : w2.cell? ⟨wr.heap.size, 0, none⟩ = some (.int .i64 ((k + 1 : Nat) : Int)) := cell_of hrow 0
        have d1 : ∀ O, (w2.alloc O).cell? ⟨wr.heap.size, 0, none⟩ = some (.int .i64 ((k + 1 : Nat) : Int)) := fun O => by
          unfold World.cell? at d0 ⊢
          rw [Below.heap_alloc _ _ _ (lt_of hrow)]
          exact d0
        have HB2 := Lib.hid (HB1.out.trans ((HBA.out.trans (b2.mono (by rw [World.size_alloc]; omega))).mono hz1))
        have hz2 := HB2.out.size
        clear b2 c0 c1 hrow
        go_wp2_with fail
        try simp only [Exit.jump]
        refine bodyPost_ret (v := .tuple #[.slice none 0 0, .int .i64 ((k + 1 : Nat) : Int), .int .i64 3]) (by simp [results, Try.results6, go_sem]) rfl ?_
        exact ⟨_, _, _, rfl, HB2.out.alloc (by omega) _, fun h => absurd (HF.out.symm.trans h) (by decide), fun _ => by omega⟩
      | true =>
        rw [hs] at HCA
        have HBE := Lib.hid (hbe hs)
        have HCA2 := Lib.hid (fun W hb => show Calls Try.prog 13 #[.agg #[.int .i64 ((k + 1 : Nat) : Int), .slice (some ⟨A, 0, none⟩) 17 17]] W fun e w' => e = .returned (.tuple #[.agg #[.int .i64 (x 0), .int .i64 (x 1), .int .i64 (x 2), .int .i64 (x 3), .int .u32 (x 4), .int .u32 (x 5), .int .u32 (x 6), .int .u32 (x 7), .int .u32 (x 8), .int .i64 (x 9), .int .u32 (x 10), .int .u32 (x 11), .int .u32 (x 12), .int .u32 (x 13), .bool (decide (x 14 = 1)), .int .i64 (x 15), .int .i64 (x 16)], .bool true]) ∧ Below W.heap.size W w' from by
          have h := HCA.out W hb
          have e : opA (zx (fW (wsX x)) 17) = #[.int .i64 (x 0), .int .i64 (x 1), .int .i64 (x 2), .int .i64 (x 3), .int .u32 (x 4), .int .u32 (x 5), .int .u32 (x 6), .int .u32 (x 7), .int .u32 (x 8), .int .i64 (x 9), .int .u32 (x 10), .int .u32 (x 11), .int .u32 (x 12), .int .u32 (x 13), .bool (decide (x 14 = 1)), .int .i64 (x 15), .int .i64 (x 16)] := by unfold opA; rw [HBE.out]; rfl
          rw [e] at h
          exact h)
        clear HCA hbe
        go_wp2_with fail
        refine (HCA2.out _ HBA.out).mono ?_
        rintro e2 w2 ⟨rfl, b2⟩
        have hb12 : Below w1.heap.size w1 w2 := HBA.out.trans (b2.mono (by rw [World.size_alloc]; omega))
        have hown2 := row_on hown (((Below.refl _ wr).alloc (Nat.le_refl _) (.cells #[.int .i64 ((k + 1 : Nat) : Int), .slice (some ⟨A, 0, none⟩) 17 17] 45)).trans (b2.mono (by rw [World.size_alloc]; omega)))
        have HB2 := Lib.hid hb12
        have hz2 := hb12.size
        have HR9 := Lib.hid (range_new w2 x)
        obtain ⟨hi, hz0, hz1', hz2'⟩ := HI.out
        clear b2 c0 c1 hown hb12
        go_wp2_with (first
          | (at_builtin; refine wpList_append_own _ rfl _ _ 22 rfl w1.heap.size 38 i0 _ 17 104 Try.underlying22 hi hz0 hz1' hz2' rfl (by decide) _ _ _ rfl ((hown2.alloc _).alloc _) ⟨w2.heap.size + 1, 0, none⟩ 1 1 (opL x) rfl rfl ?c1 ?c2 ?c3 ?c4 ?c5 ?_)
          | (refine wpList_load_mid rfl 38 _ rfl w2.heap.size 0 rfl [.int .i64 (x 0), .int .i64 (x 1), .int .i64 (x 2), .int .i64 (x 3), .int .u32 (x 4), .int .u32 (x 5), .int .u32 (x 6), .int .u32 (x 7), .int .u32 (x 8), .int .i64 (x 9), .int .u32 (x 10), .int .u32 (x 11), .int .u32 (x 12), .int .u32 (x 13), .bool (decide (x 14 = 1)), .int .i64 (x 15), .int .i64 (x 16)] _ HR9.out Try.underlying38 rfl op_info ?_))
        case c1 =>
          have h := opL_cells_new (w2.alloc (.cells #[.int .i64 (x 0), .int .i64 (x 1), .int .i64 (x 2), .int .i64 (x 3), .int .u32 (x 4), .int .u32 (x 5), .int .u32 (x 6), .int .u32 (x 7), .int .u32 (x 8), .int .i64 (x 9), .int .u32 (x 10), .int .u32 (x 11), .int .u32 (x 12), .int .u32 (x 13), .bool (decide (x 14 = 1)), .int .i64 (x 15), .int .i64 (x 16)] 38)) x 38
          rw [World.size_alloc] at h
          exact h
        case c2 => exact opL_one x
        case c3 => unfold maxLen; omega
        case c4 => omega
        case c5 => simp; omega
        intro v' w4 hown' hgrow _
        obtain ⟨g', cap', rfl⟩ := ownsRow_succ hown'
        have HWW := Lib.hid (And.intro hown' (((HB2.out.alloc (by omega) _).alloc (by simp; omega) _).grown hgrow (by simp; omega) (fun j hj => (hown2.lt j hj).1)))
        clear hown2 hown' hgrow hi hz0 hz1' hz2'
        go_wp2_with fail
        go_roundw
        case rel => exact ⟨k + 1, by omega, by go_num, by first | rfl | trivial, fun j y hj hy => by
          by_cases e : j = k
          · subst e
            obtain rfl := Option.some.inj (HX.out.symm.trans hy)
            exact hs
          · exact HA.out j y (by omega) hy, by rw [HT.out]; exact HWW.out.1, HWW.out.2⟩
        case measure => simp [intOf]; omega
    · obtain rfl : k = n := by omega
      have htk : L.take k = L := List.take_of_length_le (by rw [HL.out]; exact Nat.le_refl _)
      rw [htk] at hown
      obtain ⟨a5, c5, rfl, harg⟩ := ops_own HL.out HOK.out hown
      have HO := Lib.hid (ordered_l wr a5 k c5 L harg (by omega))
      have HW := Lib.hid hown
      have HF := Lib.hid (show rightH L = ordP L by
        unfold rightH
        rw [show L.all singleP = true from List.all_eq_true.2 fun x hx => by
          obtain ⟨j, hj, rfl⟩ := List.getElem_of_mem hx
          exact HA.out j _ (by have := HL.out; omega) (List.getElem?_eq_getElem hj)]
        rfl)
      have dk : decide (k < k) = false := decide_eq_false (by omega)
      clear hown harg htk
      go_wp2_with fail
      refine HO.out.mono ?_
      rintro e2 w2 ⟨rfl, b2⟩
      have HB2 := Lib.hid (HB1.out.trans ((HB.out.trans (b2.mono hsz)).mono hz1))
      have HW2 := Lib.hid (row_on HW.out b2)
      clear b2
      cases ho : ordP L with
      | true =>
        rw [ho] at HF
        go_wp2_with fail
        try simp only [Exit.jump]
        refine bodyPost_ret (v := .tuple #[.slice a5 k c5, .int .i64 0, .int .i64 0]) (by simp [results, Try.results6, go_sem]) rfl ?_
        exact ⟨_, _, _, rfl, HB2.out, fun _ => ⟨rfl, rfl, by rw [HL.out]; exact ⟨HW2.out.1, HW2.out.2.imp id fun ⟨g, cap, cur, e, hb, r⟩ => ⟨g, cap, cur, e, Nat.le_trans hz1 hb, r⟩⟩⟩, fun h => absurd (HF.out.symm.trans h) (by decide)⟩
      | false =>
        rw [ho] at HF
        go_wp2_with fail
        try simp only [Exit.jump]
        refine bodyPost_ret (v := .tuple #[.slice none 0 0, .int .i64 0, .int .i64 2]) (by simp [results, Try.results6, go_sem]) rfl ?_
        exact ⟨_, _, _, rfl, HB2.out, fun h => absurd (HF.out.symm.trans h) (by decide), fun _ => by omega⟩
end Go.Proofs.Ytakaclkhnajpeaa
