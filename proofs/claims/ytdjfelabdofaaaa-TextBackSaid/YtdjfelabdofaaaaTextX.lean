import Derived.Test.YtdjfelabdofaaaaTxNz
import Derived.Test.YtdjfelabdofaaaaTextD
import Derived.BigRegion
namespace Go.Proofs.Ytdjfelabdofaaaa
open Go.ChangeShapes Go.WideShapes Go.ChangeAt Go.RowKit
set_option linter.unusedVariables false
set_option linter.unusedSimpArgs false
theorem numW_len : ∀ (Ls : List (List (List UInt8))) (k : Nat), (numW k Ls).length = Ls.length
  | [], _ => rfl
  | _ :: t, k => by show (numW (k + 1) t).length + 1 = t.length + 1; rw [numW_len t (k + 1)]
theorem catL_many : ∀ (Ls : List (List (List UInt8))), Ls.length ≤ (catL Ls).length
  | [] => Nat.le_refl _
  | a :: t => by
    have := catL_many t
    show t.length + 1 ≤ (joinB a ++ [10] ++ catL t).length
    simp only [List.length_append, List.length_singleton]
    omega
theorem numW_mem : ∀ (Ls : List (List (List UInt8))) (k : Nat) (x : Nat × List UInt8), x ∈ numW k Ls → x.2.length ≤ (catL Ls).length
  | [], _, _, h => by cases h
  | a :: t, k, x, h => by
    show x.2.length ≤ (joinB a ++ [10] ++ catL t).length
    simp only [List.length_append, List.length_singleton]
    rcases List.mem_cons.1 h with rfl | h
    · show (joinB a).length ≤ _; omega
    · have := numW_mem t (k + 1) x h; omega
theorem wordsR_good (r : RowT) : GoodW (wordsR r) := by
  cases r with
  | obj x => exact wRow_good _ _ _ ⟨by decide, heads_good.1⟩
  | tick x => exact wRow_good _ _ _ ⟨by decide, heads_good.2.1⟩
  | task x y => exact wRow_good _ _ _ ⟨by decide, heads_good.2.2.1⟩
  | lvl x => exact wRow_good _ _ _ ⟨by decide, heads_good.2.2.2.1⟩
  | ch n F => exact wRow_good _ _ _ ⟨by decide, heads_good.2.2.2.2⟩
  | call c => exact code_good [c] _ (.head _)
theorem rowW_at : ∀ (Ls : List (List (List UInt8))) (n k : Nat), (rowW n Ls)[k]? = Ls[k]?.map fun ws => (n + k, ws.map fun w => (⟨w.toArray⟩ : ByteArray))
  | [], _, _ => by simp [rowW]
  | a :: t, n, 0 => by simp [rowW]
  | a :: t, n, k + 1 => by
    show (rowW (n + 1) t)[k]? = _
    rw [rowW_at t (n + 1) k, List.getElem?_cons_succ, show n + 1 + k = n + (k + 1) by omega]
theorem rowW_len : ∀ (Ls : List (List (List UInt8))) (n : Nat), (rowW n Ls).length = Ls.length
  | [], _ => rfl
  | _ :: t, n => by show (rowW (n + 1) t).length + 1 = t.length + 1; rw [rowW_len t (n + 1)]
theorem five_boxes (w : World) : (((((w.alloc (.cells #[.slice none 0 0, .slice none 0 0, .slice none 0 0, .int .i64 0] 26)).alloc (.cells #[.slice none 0 0] 27)).alloc (.cells #[.int .i64 0] 3)).alloc (.cells #[.int .i64 0] 34)).alloc (.cells (parC (.slice none 0 0) (.slice none 0 0) (.slice none 0 0) 0 (.slice none 0 0) false (.pointer none)) 69)).heap[w.heap.size]? = some (.cells #[.slice none 0 0, .slice none 0 0, .slice none 0 0, .int .i64 0] 26 (0, 0)) ∧
    (((((w.alloc (.cells #[.slice none 0 0, .slice none 0 0, .slice none 0 0, .int .i64 0] 26)).alloc (.cells #[.slice none 0 0] 27)).alloc (.cells #[.int .i64 0] 3)).alloc (.cells #[.int .i64 0] 34)).alloc (.cells (parC (.slice none 0 0) (.slice none 0 0) (.slice none 0 0) 0 (.slice none 0 0) false (.pointer none)) 69)).heap[w.heap.size + 1]? = some (.cells #[.slice none 0 0] 27 (0, 0)) ∧
    (((((w.alloc (.cells #[.slice none 0 0, .slice none 0 0, .slice none 0 0, .int .i64 0] 26)).alloc (.cells #[.slice none 0 0] 27)).alloc (.cells #[.int .i64 0] 3)).alloc (.cells #[.int .i64 0] 34)).alloc (.cells (parC (.slice none 0 0) (.slice none 0 0) (.slice none 0 0) 0 (.slice none 0 0) false (.pointer none)) 69)).heap[w.heap.size + 1 + 1]? = some (.cells #[.int .i64 0] 3 (0, 0)) ∧
    (((((w.alloc (.cells #[.slice none 0 0, .slice none 0 0, .slice none 0 0, .int .i64 0] 26)).alloc (.cells #[.slice none 0 0] 27)).alloc (.cells #[.int .i64 0] 3)).alloc (.cells #[.int .i64 0] 34)).alloc (.cells (parC (.slice none 0 0) (.slice none 0 0) (.slice none 0 0) 0 (.slice none 0 0) false (.pointer none)) 69)).heap[w.heap.size + 1 + 1 + 1]? = some (.cells #[.int .i64 0] 34 (0, 0)) ∧
    (((((w.alloc (.cells #[.slice none 0 0, .slice none 0 0, .slice none 0 0, .int .i64 0] 26)).alloc (.cells #[.slice none 0 0] 27)).alloc (.cells #[.int .i64 0] 3)).alloc (.cells #[.int .i64 0] 34)).alloc (.cells (parC (.slice none 0 0) (.slice none 0 0) (.slice none 0 0) 0 (.slice none 0 0) false (.pointer none)) 69)).heap[w.heap.size + 1 + 1 + 1 + 1]? = some (.cells (parC (.slice none 0 0) (.slice none 0 0) (.slice none 0 0) 0 (.slice none 0 0) false (.pointer none)) 69 (0, 0)) ∧
    Below w.heap.size w (((((w.alloc (.cells #[.slice none 0 0, .slice none 0 0, .slice none 0 0, .int .i64 0] 26)).alloc (.cells #[.slice none 0 0] 27)).alloc (.cells #[.int .i64 0] 3)).alloc (.cells #[.int .i64 0] 34)).alloc (.cells (parC (.slice none 0 0) (.slice none 0 0) (.slice none 0 0) 0 (.slice none 0 0) false (.pointer none)) 69)) ∧ w.heap.size + 1 + 1 + 1 + 1 < (((((w.alloc (.cells #[.slice none 0 0, .slice none 0 0, .slice none 0 0, .int .i64 0] 26)).alloc (.cells #[.slice none 0 0] 27)).alloc (.cells #[.int .i64 0] 3)).alloc (.cells #[.int .i64 0] 34)).alloc (.cells (parC (.slice none 0 0) (.slice none 0 0) (.slice none 0 0) 0 (.slice none 0 0) false (.pointer none)) 69)).heap.size := by
  refine ⟨?_, ?_, ?_, ?_, ?_, ?_, ?_⟩
  · exact heap_old (heap_old (heap_old (heap_old (heap_new w _) _) _) _) _
  · refine heap_old (heap_old (heap_old ?_ _) _) _
    have := heap_new (w.alloc (.cells #[.slice none 0 0, .slice none 0 0, .slice none 0 0, .int .i64 0] 26)) (.cells #[.slice none 0 0] 27)
    rw [World.size_alloc] at this
    exact this
  · refine heap_old (heap_old ?_ _) _
    have := heap_new ((w.alloc (.cells #[.slice none 0 0, .slice none 0 0, .slice none 0 0, .int .i64 0] 26)).alloc (.cells #[.slice none 0 0] 27)) (.cells #[.int .i64 0] 3)
    rw [World.size_alloc, World.size_alloc] at this
    exact this
  · refine heap_old ?_ _
    have := heap_new (((w.alloc (.cells #[.slice none 0 0, .slice none 0 0, .slice none 0 0, .int .i64 0] 26)).alloc (.cells #[.slice none 0 0] 27)).alloc (.cells #[.int .i64 0] 3)) (.cells #[.int .i64 0] 34)
    rw [World.size_alloc, World.size_alloc, World.size_alloc] at this
    exact this
  · have := heap_new ((((w.alloc (.cells #[.slice none 0 0, .slice none 0 0, .slice none 0 0, .int .i64 0] 26)).alloc (.cells #[.slice none 0 0] 27)).alloc (.cells #[.int .i64 0] 3)).alloc (.cells #[.int .i64 0] 34)) (.cells (parC (.slice none 0 0) (.slice none 0 0) (.slice none 0 0) 0 (.slice none 0 0) false (.pointer none)) 69)
    rw [World.size_alloc, World.size_alloc, World.size_alloc, World.size_alloc] at this
    exact this
  · exact (((((Keeps.refl (fun _ => False) w).alloc _).alloc _).alloc _).alloc _).alloc _ |>.none
  · rw [World.size_alloc, World.size_alloc, World.size_alloc, World.size_alloc, World.size_alloc]; omega
theorem OutW.zero {w : World} {b1 b2 b3 p mb Br : Nat} {m : MS (PD × Value)} {t l o ch ow : Value} {Bk : Nat} {n0 : Int} {W : World} (h : OutW w b1 b2 b3 p m t l o ch ow Bk n0 W) (ho : Ord5 w b1 b2 b3 p mb Br) : OutW w b1 b2 b3 p m t l o ch ow Bk 0 (W.setCell ⟨b2, 0, none⟩ (.int .i64 0)) := by
  obtain ⟨l1, l2, l3, l4, l5, l6⟩ := ho
  have hk : Keeps (fun X => X = b2) W (W.setCell ⟨b2, 0, none⟩ (.int .i64 0)) := (Keeps.refl (fun X => X = b2) W).setCell (p := ⟨b2, 0, none⟩) (.inl rfl) _
  exact ⟨hk.at h.b0 (by omega), hk.at h.b1 (by omega), heap_set h.b2 0 _, hk.at h.b3 (by omega), h.ms.keep (hk.mono fun X _ e => by omega), h.keep.trans (hk.below h.keep.size fun X _ e => by omega)⟩
theorem res_parse (W : World) (T : Array Value) (b0 b1 b2 b3 : Nat) (t l o ch : Value) (tick : Int) (h2 : T.getD 2 undef = .pointer (some ⟨b0, 0, none⟩)) (h3 : T.getD 3 undef = .pointer (some ⟨b1, 0, none⟩)) (h4 : T.getD 4 undef = .pointer (some ⟨b2, 0, none⟩)) (h5 : T.getD 5 undef = .pointer (some ⟨b3, 0, none⟩))
    (c0 : W.heap[b0]? = some (.cells #[t, l, o, .int .i64 tick] 26 (0, 0))) (c1 : W.heap[b1]? = some (.cells #[ch] 27 (0, 0))) (c2 : W.heap[b2]? = some (.cells #[.int .i64 0] 3 (0, 0))) (c3 : W.heap[b3]? = some (.cells #[.int .i64 0] 34 (0, 0))) :
    (results Try.f13 T).run Try.prog W = .ok (.tuple #[.agg #[t, l, o, .int .i64 tick], ch, .int .i64 0, .int .i64 0]) W := by
  simp only [Array.getD_eq_getD_getElem?] at h2 h3 h4 h5
  have e0 : W.cell? ⟨b0, 0, none⟩ = some t := cell_of c0 0
  have e1 : W.cell? ⟨b0, 1, none⟩ = some l := cell_of c0 1
  have e2 : W.cell? ⟨b0, 2, none⟩ = some o := cell_of c0 2
  have e3 : W.cell? ⟨b0, 3, none⟩ = some (.int .i64 tick) := cell_of c0 3
  have e4 : W.cell? ⟨b1, 0, none⟩ = some ch := cell_of c1 0
  have e5 : W.cell? ⟨b2, 0, none⟩ = some (.int .i64 0) := cell_of c2 0
  have e6 : W.cell? ⟨b3, 0, none⟩ = some (.int .i64 0) := cell_of c3 0
  clear c0 c1 c2 c3
  simp [results, Try.results13, h2, h3, h4, h5, asAddr, go_sem, e0, e1, e2, e3, e4, e5, e6]
set_option maxRecDepth 100000 in
set_option maxHeartbeats 8000000 in
/-- **A script of good rows is parsed.** -/
theorem parse_rows (w : World) (rs : List RowT) (hlen : (catL (rs.map wordsR)).length ≤ 65536) (hok : OkS ms0 rs) :
    Calls Try.prog 13 #[.string ⟨(catL (rs.map wordsR)).toArray⟩] w fun e w' => ∃ (t l o ch ow : Value) (p Bk : Nat) (m : MS (PD × Value)), e = .returned (.tuple #[.agg #[t, l, o, .int .i64 m.tick], ch, .int .i64 0, .int .i64 0]) ∧
      MsW w' p p m t l o ch ow Bk ∧ m.map Prod.fst = runP ms0 rs ∧ w.heap.size ≤ p ∧ Below w.heap.size w w' := by
  have hmany : rs.length ≤ 65536 := by have := catL_many (rs.map wordsR); rw [List.length_map] at this; omega
  have hg : ∀ ws, ws ∈ rs.map wordsR → GoodW ws := fun ws h => by obtain ⟨r, _, rfl⟩ := List.mem_map.1 h; exact wordsR_good r
  have HALL := Lib.hid (fun (W : World) => all_any W (catL (rs.map wordsR)) (by omega) (numW 1 (rs.map wordsR)) (lines_cat _ 1 hg) (by rw [numW_len, List.length_map]; omega) (fun x hx => by have := numW_mem _ 1 x hx; omega))
  have hrw := rows_cat (rs.map wordsR) 1 hg
  rw [hrw] at HALL
  clear hg hrw
  have hsz : (⟨(catL (rs.map wordsR)).toArray⟩ : ByteArray).size = (catL (rs.map wordsR)).length := str_size _
  generalize (⟨(catL (rs.map wordsR)).toArray⟩ : ByteArray) = S at HALL hsz ⊢
  have hbig : ((S.size : Int) > 65536) = False := by simp; omega
  have hbig2 : decide ((65536 : Int) < (S.size : Int)) = false := by simp; omega
  have hbig3 : ((65536 : Int) < (S.size : Int)) = False := by simp; omega
  have hbig4 : (65536 < S.size) = False := by simp; omega
  have hmf : ∀ (fn : Fn) (first cap : Array Value) (w : World), (Instr.makeFunc fn first cap).run Try.prog w = .ok (.func fn first cap) w := fun _ _ _ _ => rfl
  clear hsz hlen
  go_enter_defers Try.func13, Try.ntmps13
  go_wp2_with fail
  refine wp_scope_again 0 (fun _ _ => False) (fun _ _ => 0) rfl (fun _ _ h => h.elim) ?_
  intro _
  go_wp2_with fail
  obtain ⟨h0, h1, h2, h3, h4, hbl, hsz⟩ := five_boxes w
  have l1 : w.heap.size < w.heap.size + 1 := by omega
  have l2 : w.heap.size + 1 < w.heap.size + 1 + 1 := by omega
  have l3 : w.heap.size + 1 + 1 < w.heap.size + 1 + 1 + 1 := by omega
  have l4 : w.heap.size + 1 + 1 + 1 < w.heap.size + 1 + 1 + 1 + 1 := by omega
  generalize (((((w.alloc (.cells #[.slice none 0 0, .slice none 0 0, .slice none 0 0, .int .i64 0] 26)).alloc (.cells #[.slice none 0 0] 27)).alloc (.cells #[.int .i64 0] 3)).alloc (.cells #[.int .i64 0] 34)).alloc (.cells (parC (.slice none 0 0) (.slice none 0 0) (.slice none 0 0) 0 (.slice none 0 0) false (.pointer none)) 69)) = W5 at h0 h1 h2 h3 h4 hbl hsz ⊢
  generalize w.heap.size + 1 + 1 + 1 + 1 = p at *
  generalize w.heap.size + 1 + 1 + 1 = b3 at *
  generalize w.heap.size + 1 + 1 = b2 at *
  generalize w.heap.size + 1 = b1 at *
  refine (kinds_any _ _).mono ?_
  rintro e1 w1 ⟨rfl, hm, k1⟩
  generalize W5.heap.size = mb at *
  have HM := Lib.hid hm
  have H0 := Lib.hid (k1.at h0 fun h => h)
  have H1 := Lib.hid (k1.at h1 fun h => h)
  have H2 := Lib.hid (k1.at h2 fun h => h)
  have H3 := Lib.hid (k1.at h3 fun h => h)
  have H4 := Lib.hid (k1.at h4 fun h => h)
  have HBL := Lib.hid (hbl.trans (k1.below (by have := hbl.size; exact this) fun _ _ h => h.elim))
  have hmb := lt_of hm
  clear h0 h1 h2 h3 h4 hbl k1 hm
  go_wp2_with fail
  refine (HALL.out _).mono ?_
  rintro e2 w2 ⟨v, R, rfl, hR, hrows, hwords, hb2⟩
  have hRl : R.length = rs.length := by
    have h1 : (R.map keyR).length = (rowW 1 (rs.map wordsR)).length := by rw [hR]
    rw [List.length_map, rowW_len, List.length_map] at h1
    exact h1
  obtain ⟨a, c, hv⟩ := own_slice hrows
  rw [hRl] at hv
  have HR := Lib.hid hR
  have HRL := Lib.hid hRl
  have HO := Lib.hid (show Ord5 w b1 b2 b3 p mb w1.heap.size from ⟨l1, l2, l3, l4, hsz, by omega⟩)
  have HPA := Lib.hid (show PaW w b1 b2 b3 rs (runP ms0 rs) v R p mb w1.heap.size 0 w2 from ⟨Below.at hb2 H0.out (by omega), Below.at hb2 H1.out (by omega), ⟨0, Below.at hb2 H2.out (by omega)⟩, Below.at hb2 H3.out (by omega), Below.at hb2 HM.out (by omega), hrows, hwords, ⟨ms0, MsE.start (Below.at hb2 H4.out (by omega)), by rw [List.drop_zero]; exact hok, by rw [List.drop_zero]⟩, HBL.out.trans ⟨hb2.os, hb2.tape, hb2.output, hb2.size, fun j hj => hb2.block j (by omega)⟩⟩)
  clear hrows hwords hb2 hR HALL H0 H1 H2 H3 H4 HM HBL hok hRl
  rw [hv]
  have HV := Lib.hid hv
  clear hv
  obtain ⟨n, hn⟩ : ∃ n, n = rs.length := ⟨_, rfl⟩
  rw [← hn] at HRL ⊢ hmany
  rw [← hn] at HV
  have HN := Lib.hid hn
  clear hn
  generalize w1.heap.size = Br at *
  go_wp2_with fail
  go_step3
  go_wp2_with fail
  go_loopw [9] (fun i wr => ∃ (k : Nat), k ≤ n ∧ i = .int .i64 (k : Int) ∧ PaW w b1 b2 b3 rs (runP ms0 rs) v R p mb Br k wr) (fun i _ => n - (intOf i).toNat)
  case atStart => exact ⟨0, by omega, rfl, HPA.out⟩
  case round =>
    obtain ⟨k, hk, rfl, hpa⟩ := hrel
    clear HPA
    have HP := Lib.hid hpa
    clear hpa
    rcases Nat.lt_or_ge k n with hlt | hge
    · obtain ⟨r, hr⟩ : ∃ r, rs[k]? = some r := ⟨_, List.getElem?_eq_getElem (by rw [HN.out] at hlt; exact hlt)⟩
      obtain ⟨rd, hrd, hkey⟩ : ∃ rd, R[k]? = some rd ∧ keyR rd = (1 + k, strW (wordsR r)) := by
        have h1 := congrArg (fun l => l[k]?) HR.out
        simp only [List.getElem?_map, rowW_at, hr, Option.map_some] at h1
        cases h2 : R[k]? with
        | none => rw [h2] at h1; cases h1
        | some rd => rw [h2] at h1; exact ⟨rd, rfl, Option.some.inj h1⟩
      have hws : rd.ws = strW (wordsR r) := congrArg Prod.snd hkey
      have hrows := HP.out.rows
      rw [HV.out] at hrows
      obtain ⟨g, rfl⟩ : ∃ g, a = some ⟨g, 0, none⟩ := by
        rcases hrows.2 with ⟨_, h2⟩ | ⟨g, cap, cur, h2, _⟩
        · rw [HRL.out] at h2; omega
        · injection h2 with h2 _ _
          exact ⟨g, h2⟩
      obtain ⟨cur, hg, hgB, hcell, _⟩ := own_open hrows
      obtain ⟨hc1, hc2⟩ := flatR_at hrd
      have r1 : wr.cell? ⟨g, k * 2, none⟩ = some (.int .i64 (rd.n : Int)) := (cell_of hg _).trans (hcell _ _ hc1)
      have r2 : wr.cell? ⟨g, k * 2 + 1, none⟩ = some (.slice (some ⟨rd.A, 0, none⟩) rd.ws.length rd.ws.length) := (cell_of hg _).trans (hcell _ _ hc2)
      have hwa := HP.out.words rd (List.mem_of_getElem? hrd)
      have r3 : wr.cell? ⟨rd.A, 0, none⟩ = some (.string (word0 r)) := hwa.cell 0 _ (by rw [hws]; exact word0_at r)
      obtain ⟨n0, hb2⟩ := HP.out.b2
      have q0 : wr.cell? ⟨b2, 0, none⟩ = some (.int .i64 n0) := cell_of hb2 0
      have q1 := free_of hb2 0
      have q2 := lt_of hb2
      have lg := lt_of hg
      have lA := hwa.lt
      have n1 : g ≠ b2 := by have := HO.out.l3; have := HO.out.l4; have := HO.out.l6; omega
      have n2 : rd.A ≠ b2 := by
        rintro e
        obtain ⟨cur2, h1, _⟩ := hwa
        rw [e, hb2] at h1
        injection h1 with h1
        injection h1 with _ h3
        exact absurd h3 (by decide)
      have n1' := n1.symm
      have n2' := n2.symm
      have d1 : ((k : Int) == (n : Int)) = false := by rw [beq_eq_false_iff_ne]; omega
      have HL := Lib.hid (HP.out.line HO.out (rd.n : Int))
      have HWS := Lib.hid hws
      have HRR := Lib.hid hr
      have hml : 0 < rd.ws.length := by rw [hws]; cases r <;> simp [strW, wordsR, wRow, wordsC]
      have hmll : rd.ws.length = (strW (wordsR r)).length := by rw [hws]
      have hrdA : WordsAt (wr.setCell ⟨b2, 0, none⟩ (.int .i64 (rd.n : Int))) rd.A (strW (wordsR r)) := by rw [← hws]; exact HL.out.words rd (List.mem_of_getElem? hrd)
      have HOKR := Lib.hid (show ∀ q, OkS q (rs.drop k) → OkR q r from fun q hq => by
        have hlt2 : k < rs.length := by rw [HN.out] at hlt; exact hlt
        rw [List.drop_eq_getElem_cons hlt2] at hq
        rw [List.getElem?_eq_getElem hlt2] at hr
        rw [← Option.some.inj hr]
        exact hq.1)
      clear hrows hg hgB hcell hc1 hc2 hwa hb2 hws hr hrd hkey
      generalize (rd.n : Int) = N at *
      generalize rd.ws.length = ml at *
      generalize rd.A = A at *
      have HMLL := Lib.hid hmll
      have HRD := Lib.hid hrdA
      clear hmll hrdA
      obtain ⟨q, hms, hq⟩ := HL.out.ms
      have HQ := Lib.hid hq
      have HMS := Lib.hid hms
      clear hq hms
      have HROW := Lib.hid (fun (W : World) (h : MsE W p p q) (hw : WordsAt W A (strW (wordsR r))) => row_any W p p q N A ml r HMLL.out h hw (HOKR.out q HQ.out.1))
      have hcf := enter_any r
      cases hcall : isCall r with
      | false =>
        have hlk := look_hit r hcall p mb _ HL.out.map
        generalize fnR r = K at hcf HROW hlk
        go_wp2_with fail
        refine (HROW.out _ HMS.out HRD.out).mono ?_
        rintro e3 w3 hpost
        obtain rfl := hpost.1
        have HL3 := Lib.hid (HL.out.step HO.out HRR.out HQ.out hpost)
        clear hpost r1 r2 r3 q0 q1 q2 lg lA hlk
        go_wp2_with fail
        go_roundw
        case rel => exact ⟨k + 1, hlt, by go_num, HL3.out⟩
        case measure => simp [intOf]; omega
      | true =>
        have hfr := fnR_call r hcall
        have hlk := look_miss r hcall p mb _ HL.out.map
        rw [hfr] at hcf HROW
        clear hfr
        go_wp2_with fail
        refine (HROW.out _ HMS.out HRD.out).mono ?_
        rintro e3 w3 hpost
        obtain rfl := hpost.1
        have HL3 := Lib.hid (HL.out.step HO.out HRR.out HQ.out hpost)
        clear hpost r1 r2 r3 q0 q1 q2 lg lA hlk
        go_wp2_with fail
        go_roundw
        case rel => exact ⟨k + 1, hlt, by go_num, HL3.out⟩
        case measure => simp [intOf]; omega
    · obtain rfl : k = n := by omega
      have d1 : ((k : Int) == (k : Int)) = true := by simp
      obtain ⟨q, hms, hq⟩ := HP.out.ms
      rw [HN.out, List.drop_length] at hq
      have hq2 : q = runP ms0 rs := hq.2
      subst hq2
      obtain ⟨m, t, l, o, ch, ow, Bk, hm, hmq⟩ := hms
      obtain ⟨ta, tc, rfl⟩ := own_slice hm.tr
      obtain ⟨la, lc, rfl⟩ := own_slice hm.lr
      obtain ⟨oa, oc, rfl⟩ := own_slice hm.or
      obtain ⟨ca, cc, rfl⟩ := own_slice hm.cr
      obtain ⟨n0, hb2⟩ := HP.out.b2
      have HMW := Lib.hid (show Keeps (fun X => X < p) wr wr.drew from (Keeps.refl _ wr).drew)
      have HM := Lib.hid hm
      have HMQ := Lib.hid hmq
      have HB2 := Lib.hid hb2
      have y0 : wr.cell? ⟨p, 0, none⟩ = some (.slice ta m.allT.length tc) := cell_of hm.par 0
      have y1 : wr.cell? ⟨p, 1, none⟩ = some (.slice la m.allV.length lc) := cell_of hm.par 1
      have y2 : wr.cell? ⟨p, 2, none⟩ = some (.slice oa m.O.length oc) := cell_of hm.par 2
      have y3 : wr.cell? ⟨p, 3, none⟩ = some (.int .i64 m.tick) := cell_of hm.par 3
      have y4 : wr.cell? ⟨p, 4, none⟩ = some (.slice ca m.C.length cc) := cell_of hm.par 4
      have ly := lt_of hm.par
      have x0 : wr.cell? ⟨w.heap.size, 0, none⟩ = some (.slice none 0 0) := cell_of HP.out.b0 0
      have x1 : wr.cell? ⟨w.heap.size, 1, none⟩ = some (.slice none 0 0) := cell_of HP.out.b0 1
      have x2 : wr.cell? ⟨w.heap.size, 2, none⟩ = some (.slice none 0 0) := cell_of HP.out.b0 2
      have x3 : wr.cell? ⟨w.heap.size, 3, none⟩ = some (.int .i64 0) := cell_of HP.out.b0 3
      have v0 := free_of HP.out.b0 0
      have v1 := free_of HP.out.b0 1
      have v2 := free_of HP.out.b0 2
      have v3 := free_of HP.out.b0 3
      have lv := lt_of HP.out.b0
      have u0 : wr.cell? ⟨b1, 0, none⟩ = some (.slice none 0 0) := cell_of HP.out.b1 0
      have u1 := free_of HP.out.b1 0
      have lu := lt_of HP.out.b1
      have z0 : wr.cell? ⟨b2, 0, none⟩ = some (.int .i64 n0) := cell_of hb2 0
      have z1 := free_of hb2 0
      have lz := lt_of hb2
      have j0 : wr.cell? ⟨b3, 0, none⟩ = some (.int .i64 0) := cell_of HP.out.b3 0
      have j1 := free_of HP.out.b3 0
      have lj := lt_of HP.out.b3
      clear hm hmq hb2 hq
      go_wp2_with fail
      go_region
      clear y0 y1 y2 y3 y4 ly x0 x1 x2 x3 v0 v1 v2 v3 lv u0 u1 lu z0 z1 lz j0 j1 lj
      have HOUT := Lib.hid (HP.out.out HO.out HM.out HB2.out)
      generalize ((((((((wr.setCell ⟨w.heap.size, 0, none⟩ (.slice ta m.allT.length tc)).setCell ⟨w.heap.size, 1, none⟩ (.slice la m.allV.length lc)).setCell ⟨w.heap.size, 2, none⟩ (.slice oa m.O.length oc)).setCell ⟨w.heap.size, 3, none⟩ (.int .i64 m.tick)).setCell ⟨b1, 0, none⟩ (.slice ca m.C.length cc)).setCell ⟨b2, 0, none⟩ (.int .i64 n0)).setCell ⟨b3, 0, none⟩ (.int .i64 0)).drew) = W8 at HOUT ⊢
      have HL1 := HO.out.l4
      go_wp2_with fail
      simp only [Exit.jump]
      refine leaves_cons (f := 26) (args := #[.pointer (some ⟨b2, 0, none⟩), .pointer (some ⟨w.heap.size, 0, none⟩), .pointer (some ⟨b1, 0, none⟩), .pointer (some ⟨b3, 0, none⟩)]) (by simp) (by simp [go_sem]) ?_
      refine (idle_any W8 b2 n0 _ _ _ HOUT.out.b2).mono ?_
      rintro e9 u9 w9 ⟨rfl, rfl, rfl⟩
      have HO9 := Lib.hid (HOUT.out.zero HO.out)
      clear HOUT
      generalize (W8.setCell ⟨b2, 0, none⟩ (.int .i64 0)) = W9 at HO9 ⊢
      refine ⟨_, res_parse W9 _ w.heap.size b1 b2 b3 (.slice ta m.allT.length tc) (.slice la m.allV.length lc) (.slice oa m.O.length oc) (.slice ca m.C.length cc) m.tick rfl rfl rfl rfl HO9.out.b0 HO9.out.b1 HO9.out.b2 HO9.out.b3, ?_⟩
      exact ⟨_, _, _, _, ow, p, Bk, m, rfl, HO9.out.ms, HMQ.out, by have := HO.out.l1; have := HO.out.l2; have := HO.out.l3; omega, HO9.out.keep⟩
end Go.Proofs.Ytdjfelabdofaaaa
