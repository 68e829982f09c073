import Derived.Test.YtfniicgfnlklbaaQRe
import Derived.Test.YtfniicgfnlklbaaWordRefA
namespace Go.Proofs.Ytfniicgfnlklbaa
open Go.ChangeShapes Go.WideShapes Go.ChangeAt Go.RowKit
set_option linter.unusedVariables false
set_option linter.unusedSimpArgs false
/-- The tasks of a priority, in the order in which they came. -/
def rowsR (R : List (Nat × Nat)) (p : Nat) : List Nat := (R.filter fun a => decide (a.2 = p)).map (·.1)
theorem rowsR_step (R : List (Nat × Nat)) (p k : Nat) (x : Nat × Nat) (h : R[k]? = some x) : rowsR (R.take (k + 1)) p = rowsR (R.take k) p ++ (if x.2 = p then [x.1] else []) := by
  unfold rowsR
  rw [List.take_add_one, h]
  simp only [Option.toList, List.filter_append, List.map_append]
  congr 1
  by_cases e : x.2 = p <;> simp [e]
theorem rowsR_len (R : List (Nat × Nat)) (p : Nat) : (rowsR R p).length ≤ R.length := by
  unfold rowsR
  rw [List.length_map]
  exact List.length_filter_le _ _
/-- The word of the priorities. -/
def orsQ : List (Nat × Nat) → Nat
  | R => R.foldl (fun B a => setB B (a.2 : Int)) 0
theorem orsQ_step (R : List (Nat × Nat)) (k : Nat) (x : Nat × Nat) (h : R[k]? = some x) : orsQ (R.take (k + 1)) = setB (orsQ (R.take k)) (x.2 : Int) := by
  unfold orsQ
  rw [List.take_add_one, h]
  simp only [Option.toList, List.foldl_append, List.foldl_cons, List.foldl_nil]
theorem foldl_lt (R : List (Nat × Nat)) : ∀ B, B < 4294967296 → R.foldl (fun B a => setB B (a.2 : Int)) B < 4294967296 := by
  induction R with
  | nil => exact fun B h => h
  | cons a R ih => exact fun B h => ih _ (setB_lt h _)
theorem orsQ_lt (R : List (Nat × Nat)) : orsQ R < 4294967296 := foldl_lt R 0 (by omega)
theorem foldl_bit (R : List (Nat × Nat)) (j : Nat) (hj : j < 32) : ∀ B, (R.foldl (fun B a => setB B (a.2 : Int)) B).testBit j = (B.testBit j || R.any fun a => decide (a.2 = j)) := by
  induction R with
  | nil => intro B; simp
  | cons a R ih =>
    intro B
    rw [List.foldl_cons, ih, setB_testBit, List.any_cons, Bool.or_assoc]
    congr 2
    by_cases e : a.2 = j
    · rw [decide_eq_true e, decide_eq_true (by omega)]
    · rw [decide_eq_false e, decide_eq_false (by omega)]
theorem orsQ_bit (R : List (Nat × Nat)) (j : Nat) (hj : j < 32) : (orsQ R).testBit j = R.any fun a => decide (a.2 = j) := by
  unfold orsQ
  rw [foldl_bit R j hj]
  simp
theorem q_head {w : World} {B m t0 : Nat} {ts : List Nat} {E : TypeId} {v : Value} (h : w.ownsRow B E 1 v m (ints (t0 :: ts))) (hm : 0 < m) : ∃ a c b, v = .slice a m c ∧ a = some ⟨b, 0, none⟩ ∧ w.cell? ⟨b, 0, none⟩ = some (.int .i64 (t0 : Int)) ∧ b < w.heap.size := by
  obtain ⟨h1, h | ⟨g, cap, cur, rfl, hg, hb, hc1, hc2, hs, ht⟩⟩ := h
  · omega
  · refine ⟨_, cap, g, rfl, rfl, ?_, lt_of hb⟩
    have e : (cur.toList.take (m * 1))[0]? = (ints (t0 :: ts))[0]? := by rw [ht]
    rw [List.getElem?_take, if_pos (by omega)] at e
    have e1 : w.cell? ⟨g, 0, none⟩ = cur[0]? := by simp [World.cell?, hb]
    rw [e1]
    simpa [ints] using e
theorem grown_box {w wr w2 : World} {v : Value} {n g : Nat} {xs : List Value} {T U : TypeId} {x y : Value} (hown : wr.ownsRow w.heap.size T 1 v n xs) (hb : wr.heap[g]? = some (.cells #[x] U (0, 0))) (hne : T ≠ U) (hg : (wr.alloc (.cells #[y] T)).grownBy w2 v.ownBlock) : w2.heap[g]? = some (.cells #[x] U (0, 0)) := by
  have hl := lt_of hb
  rw [hg.block g (by simp; omega) fun e => q_apart hown hb hne e.symm]
  exact heap_old hb _
section
variable (A : Option Addr) (c : Nat) (R : List (Nat × Nat)) (w : World)
set_option maxRecDepth 20000 in
set_option maxHeartbeats 1000000 in
theorem qlist_any (hn : R.length ≤ 16) (h : QR w A c R) :
    Calls Try.prog 22 #[.agg #[.slice A R.length c]] w fun e w' => ∃ v, e = .returned v ∧ w'.ownsRow w.heap.size 3 1 v (flat (rowsR R) 0).length (ints (flat (rowsR R) 0)) ∧ Keeps (fun _ => False) w w' := by
  have HL := Lib.hid (fun p => Nat.le_trans (rowsR_len R p) hn)
  obtain ⟨n, hne⟩ : ∃ n, R.length = n := ⟨_, rfl⟩
  rw [hne] at hn ⊢
  have HN := Lib.hid hne
  have HR := Lib.hid h
  clear h hne
  go_enter Try.func22, Try.ntmps22
  go_wp2_with fail
  obtain ⟨wo, rfl⟩ : ∃ wo : World, wo = w := ⟨_, rfl⟩
  go_loopw [3, 4] (fun v i wr => ∃ p : Nat, p ≤ 32 ∧ i = .int .i64 ((p : Int) - 1) ∧ wr.ownsRow wo.heap.size 3 1 v (flat (rowsR R) p).length (ints (flat (rowsR R) p)) ∧ wr.heap[wo.heap.size]? = some (.cells #[.slice A n c] 35 (0, 0)) ∧ Keeps (fun _ => False) wo wr) (fun _ i _ => ((intOf i) + 1).toNat)
  case atStart => exact ⟨32, by omega, rfl, by rw [flat_top]; exact World.ownsRow_nil _ _ _ _, heap_new _ _, (Keeps.refl _ _).alloc _⟩
  case round =>
  obtain ⟨p, hp, rfl, hown, hbx, hK⟩ := hrel
  rcases p with _ | p
  · have HF := Lib.hid (And.intro hown hK)
    have d0 : decide ((0 : Int) ≤ ((0 : Nat) : Int) - 1) = false := rfl
    clear hown hbx hK
    go_wp2
    go_ret
    exact ⟨_, rfl, HF.out⟩
  · have z0 : (((p + 1 : Nat) : Int) - 1) = (p : Int) := by omega
    rw [z0]
    have d0 : decide ((0 : Int) ≤ (p : Int)) = true := decide_eq_true (by omega)
    have HW := Lib.hid (And.intro hown (And.intro hbx hK))
    clear hown hbx hK z0
    go_wp2_with fail
    go_loopw [3, 5] (fun v i wr => ∃ k : Nat, k ≤ n ∧ i = .int .i64 (k : Int) ∧ wr.ownsRow wo.heap.size 3 1 v (flat (rowsR R) (p + 1) ++ rowsR (R.take k) p).length (ints (flat (rowsR R) (p + 1) ++ rowsR (R.take k) p)) ∧ wr.heap[wo.heap.size]? = some (.cells #[.slice A n c] 35 (0, 0)) ∧ Keeps (fun _ => False) wo wr) (fun _ i _ => n - (intOf i).toNat)
    case atStart => exact ⟨0, by omega, rfl, by rw [List.take_zero, show rowsR [] p = [] from rfl, List.append_nil]; exact HW.out.1, HW.out.2.1, HW.out.2.2⟩
    case round =>
    obtain ⟨k, hk, rfl, hown, hbx, hK⟩ := hrel
    have q0 : wr.cell? ⟨wo.heap.size, 0, none⟩ = some (.slice A n c) := cell_of hbx 0
    have lb := lt_of hbx
    by_cases hlt : k < n
    · obtain ⟨x, hx⟩ : ∃ x, R[k]? = some x := ⟨_, List.getElem?_eq_getElem (by rw [HN.out]; exact hlt)⟩
      obtain ⟨b, rfl, hb, z0, z1⟩ := (HR.out.none hK).get k x hx
      have hst := rowsR_step R p k x hx
      by_cases he : x.2 = p
      · rw [if_pos he] at hst
        have d1 : ((x.2 : Int) == (p : Int)) = true := beq_iff_eq.mpr (by omega)
        have d2 : (x.2 == p) = true := beq_iff_eq.mpr he
        have d3 : (x.2 = p) = True := eq_true he
        have hlen : (flat (rowsR R) (p + 1) ++ rowsR (R.take k) p).length ≤ 1000 := by
          have h1 := flat_len (rowsR R) (fun q _ => HL.out q) (32 - (p + 1)) (p + 1) (by omega)
          have h2 := rowsR_len (R.take k) p
          have h3 : (R.take k).length ≤ k := by simp; omega
          rw [List.length_append]
          omega
        have HRr := Lib.hid (And.intro hown (And.intro hbx hK))
        have hsz := hK.size
        have HST := Lib.hid hst
        obtain ⟨i0, hi0, hz0, hz1, hz2⟩ := info_parts Try.infoR
        clear hown hbx hK hst hx he
        go_wp2_with (at_builtin; refine wpList_append_own _ rfl (.tmp 25) (.tmp 32) 49 rfl wo.heap.size 3 i0 (.int .i64 0) 1 8 Try.underlying49 hi0 hz0 hz1 hz2 rfl (by decide) _ _ _ rfl (HRr.out.1.alloc _) ⟨wr.heap.size, 0, none⟩ 1 1 [.int .i64 (x.1 : Int)] rfl rfl (new_one _ _ _) (by simp [Value.oneCell']) (by unfold maxLen; omega) (by omega) (by simp; omega) ?_; intro v2 w2 hown2 hgrow _; have hb2 := (HRr.out.2.2.none.alloc hsz (.cells #[Value.int .i64 (x.1 : Int)] 3)).grown hgrow (by simp; omega) (fun k hk => (HRr.out.1.lt k hk).1); have hbx2 := grown_box (T := 3) HRr.out.1 HRr.out.2.1 (by decide) hgrow; have lb2 := lt_of hbx2; have H2 := Lib.hid (And.intro hown2 (And.intro hbx2 (Keeps.ofBelow hb2))); clear hown2 hgrow hb2 hbx2)
        go_roundw
        case rel =>
          refine ⟨k + 1, by omega, by go_num, ?_, H2.out.2.1, H2.out.2.2⟩
          rw [HST.out, ← List.append_assoc]
          have := H2.out.1
          simpa [ints, Nat.add_assoc] using this
        case measure => simp [intOf]; omega
      · rw [if_neg he, List.append_nil] at hst
        have d1 : ((x.2 : Int) == (p : Int)) = false := beq_eq_false_iff_ne.mpr (by omega)
        have d2 : (x.2 == p) = false := beq_eq_false_iff_ne.mpr he
        have d3 : (x.2 = p) = False := eq_false he
        have HRr := Lib.hid (And.intro hown (And.intro hbx hK))
        have HST := Lib.hid hst
        clear hown hbx hK hst hx he
        go_wp2_with fail
        go_roundw
        case rel => exact ⟨k + 1, by omega, by go_num, by rw [HST.out]; exact HRr.out.1, HRr.out.2.1, HRr.out.2.2⟩
        case measure => simp [intOf]; omega
    · obtain rfl : k = n := by omega
      have e : flat (rowsR R) p = flat (rowsR R) (p + 1) ++ rowsR (R.take k) p := by
        rw [flat_down (rowsR R) p (by omega), List.take_of_length_le (by rw [HN.out]; exact Nat.le_refl _)]
      rw [← e] at hown
      have HRr := Lib.hid (And.intro hown (And.intro hbx hK))
      have W5 : IntKind.i64.wrap ((p : Int) - 1) = (p : Int) - 1 := IntWalk.i64_in _ ⟨by omega, by omega⟩
      clear hown hbx hK e
      go_wp2_with fail
      go_roundw
      case rel => exact ⟨p, by omega, by go_num, HRr.out.1, HRr.out.2.1, HRr.out.2.2⟩
      case measure => simp [intOf]
set_option maxRecDepth 20000 in
theorem qfirst_any (hn : R.length ≤ 16) (h : QR w A c R) :
    Calls Try.prog 14 #[.agg #[.slice A R.length c]] w fun e w' => e = .returned (.tuple #[.int .i64 ((flat (rowsR R) 0).headD 0 : Int), .bool (!(flat (rowsR R) 0).isEmpty)]) ∧ Keeps (fun _ => False) w w' := by
  have HL := Lib.hid (fun w1 h1 => qlist_any A c R w1 hn h1)
  have HR := Lib.hid h
  generalize R.length = n at HL ⊢
  clear h hn
  rcases hl : flat (rowsR R) 0 with _ | ⟨t0, ts⟩
  · rw [hl] at HL
    go_enter Try.func14, Try.ntmps14
    go_wp2_with fail
    refine (HL.out _ (HR.out.none ((Keeps.refl _ _).alloc _))).mono ?_
    rintro e w1 ⟨v, rfl, hown, k1⟩
    rw [ints_nums] at hown
    obtain ⟨a, c', rfl, _⟩ := Row.ofOwn hown
    have HK := Lib.hid k1
    clear hown k1
    go_wp2
    exact bodyPost_ret (v := .tuple #[.int .i64 0, .bool false]) (by simp [results, Try.results14, go_sem]) rfl ⟨rfl, ((Keeps.refl _ _).alloc _).trans HK.out⟩
  · rw [hl] at HL
    have d0 : ((((t0 :: ts).length : Nat) : Int) == 0) = false := beq_eq_false_iff_ne.mpr (by simp; omega)
    have d1 : 0 < (t0 :: ts).length := by simp
    have HG := Lib.hid (show ((t0 :: ts).getD 0 0) = t0 from rfl)
    obtain ⟨m, hm⟩ : ∃ m, (t0 :: ts).length = m := ⟨_, rfl⟩
    rw [hm] at HL d0 d1
    clear hm
    go_enter Try.func14, Try.ntmps14
    go_wp2_with fail
    refine (HL.out _ (HR.out.none ((Keeps.refl _ _).alloc _))).mono ?_
    rintro e w1 ⟨v, rfl, hown, k1⟩
    obtain ⟨a, c', b, rfl, rfl, c0, hlt⟩ := q_head hown d1
    have HK := Lib.hid k1
    clear hown k1
    go_wp2
    exact bodyPost_ret (v := .tuple #[.int .i64 (t0 : Int), .bool true]) (by simp [results, Try.results14, go_sem]) rfl ⟨rfl, ((Keeps.refl _ _).alloc _).trans HK.out⟩
set_option maxRecDepth 20000 in
set_option maxHeartbeats 1000000 in
theorem qbits_any (hn : R.length ≤ 16) (h : QR w A c R) :
    ∃ B : Nat, B < 4294967296 ∧ (∀ j, j < 32 → B.testBit j = R.any fun a => decide (a.2 = j)) ∧ Calls Try.prog 18 #[.agg #[.slice A R.length c]] w fun e w' => e = .returned (.int .u32 (B : Int)) ∧ Keeps (fun _ => False) w w' := by
  refine ⟨orsQ R, orsQ_lt R, fun j hj => orsQ_bit R j hj, ?_⟩
  obtain ⟨n, hne⟩ : ∃ n, R.length = n := ⟨_, rfl⟩
  rw [hne] at hn ⊢
  have HN := Lib.hid hne
  have HR := Lib.hid h
  clear h hne
  go_enter Try.func18, Try.ntmps18
  go_wp2_with fail
  obtain ⟨wo, rfl⟩ : ∃ wo : World, wo = w := ⟨_, rfl⟩
  go_loopw [3, 4] (fun z i wr => ∃ k : Nat, k ≤ n ∧ i = .int .i64 (k : Int) ∧ z = .int .u32 (orsQ (R.take k) : Int) ∧ wr.heap[wo.heap.size]? = some (.cells #[.slice A n c] 35 (0, 0)) ∧ Keeps (fun _ => False) wo wr) (fun _ i _ => n - (intOf i).toNat)
  case atStart => exact ⟨0, by omega, rfl, rfl, heap_new _ _, (Keeps.refl _ _).alloc _⟩
  case round =>
  obtain ⟨k, hk, rfl, rfl, hbx, hK⟩ := hrel
  have q0 : wr.cell? ⟨wo.heap.size, 0, none⟩ = some (.slice A n c) := cell_of hbx 0
  have lb := lt_of hbx
  by_cases hlt : k < n
  · obtain ⟨x, hx⟩ : ∃ x, R[k]? = some x := ⟨_, List.getElem?_eq_getElem (by rw [HN.out]; exact hlt)⟩
    obtain ⟨b, rfl, hb, z0, z1⟩ := (HR.out.none hK).get k x hx
    have HB := Lib.hid (And.intro hbx hK)
    have HST := Lib.hid (orsQ_step R k x hx)
    have hlt2 := orsQ_lt (R.take k)
    generalize orsQ (R.take k) = B at hlt2 HST ⊢
    clear hbx hK hx
    go_wp2_with fail
    refine (rput_any B (x.2 : Int) true wr hlt2).mono ?_
    rintro e w2 ⟨rfl, k2⟩
    have HB2 := Lib.hid (And.intro (k2.at HB.out.1 fun h => h) (HB.out.2.trans k2))
    clear k2
    rw [if_pos rfl]
    go_wp2_with fail
    go_roundw
    case rel => exact ⟨k + 1, by omega, by go_num, by rw [HST.out], HB2.out.1, HB2.out.2⟩
    case measure => simp [intOf]; omega
  · obtain rfl : k = n := by omega
    have HB := Lib.hid hK
    have e : R.take k = R := List.take_of_length_le (by rw [HN.out]; exact Nat.le_refl _)
    rw [e]
    clear hbx hK e
    go_wp2
    go_ret
    exact ⟨rfl, HB.out⟩
end
end Go.Proofs.Ytfniicgfnlklbaa
