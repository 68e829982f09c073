import Derived.Test.YtffhmlngnnfaeaaDoorWordRef
namespace Go.Proofs.YtffhmlngnnfaeaaDoor
open Go.ChangeShapes Go.WideShapes Go.ChangeAt Go.RowKit
set_option linter.unusedVariables false
theorem own_keeps {w w' : World} {B : Nat} {E : TypeId} {v : Value} {n s : Nat} {xs : List Value} (h : w.ownsRow B E s v n xs) (hk : Keeps (fun _ => False) w w') : w'.ownsRow B E s v n xs := by
  obtain ⟨h1, h | ⟨g, cap, cur, hv, hg, hb, hr⟩⟩ := h
  · exact ⟨h1, .inl h⟩
  · exact ⟨h1, .inr ⟨g, cap, cur, hv, hg, hk.at hb fun h => h, hr⟩⟩
theorem Keeps.ofBelow {w w' : World} (h : Below w.heap.size w w') : Keeps (fun _ => False) w w' := ⟨h.os, h.tape, h.output, h.size, fun k hk _ => h.block k hk⟩
/-- The bits below k. -/
def bitsTo (x k : Nat) : List Nat := (List.range k).filter x.testBit
theorem bitsTo_succ (x k : Nat) : bitsTo x (k + 1) = bitsTo x k ++ (if x.testBit k then [k] else []) := by
  unfold bitsTo
  rw [List.range_succ, List.filter_append]
  congr 1
  cases h : x.testBit k <;> simp [h]
theorem bitsTo_len (x k : Nat) : (bitsTo x k).length ≤ k := by
  have := List.length_filter_le x.testBit (List.range k)
  simpa [bitsTo] using this

theorem rlist_any (x : Nat) (w : World) (hx : x < 4294967296) :
    Calls Tryd.prog 16 #[.int .u32 x] w fun e w' => ∃ v, e = .returned v ∧ w'.ownsRow w.heap.size 3 1 v (bitsL x).length (ints (bitsL x)) ∧ Below w.heap.size w w' := by
  go_enter Tryd.func16, Tryd.ntmps16
  go_wp2_with fail
  obtain ⟨wo, rfl⟩ : ∃ wo : World, wo = w := ⟨_, rfl⟩
  go_loopw [3, 4] (fun v i wr => ∃ k : Nat, k ≤ 32 ∧ i = .int .i64 k ∧ wr.ownsRow wo.heap.size 3 1 v (bitsTo x k).length (ints (bitsTo x k)) ∧ Below wo.heap.size wo wr) (fun _ i _ => 32 - (intOf i).toNat)
  case atStart => exact ⟨0, by omega, rfl, World.ownsRow_nil _ _ _ _, Below.refl _ _⟩
  case round =>
    obtain ⟨k, hk, rfl, hown, hb⟩ := hrel
    by_cases hlt : k < 32
    · have hs := hb.size
      have hn := hasB_nat (w := x) hlt
      have hbs := bitsTo_succ x k
      have hbl := bitsTo_len x k
      have HN := Lib.hid hn
      have HBS := Lib.hid hbs
      have HO := Lib.hid hown
      have HB := Lib.hid hb
      clear hn hbs hown hb
      go_wp2_with fail
      refine (rhas_any x _ _ hx).mono ?_
      rintro e w1 ⟨rfl, hK⟩
      rw [HN.out]
      have hs1 := hK.size
      have hown1 := own_keeps HO.out hK
      have hb1 := HB.out.trans (hK.none.mono hs)
      clear HO HB hK
      cases hbit : x.testBit k
      · have HBIT := Lib.hid hbit
        clear hbit
        go_wp2
        go_roundw
        case rel =>
          refine ⟨k + 1, by omega, by go_num, ?_, hb1⟩
          rw [HBS.out, HBIT.out]
          simpa using hown1
        case measure => simp [intOf]; omega
      · have HBIT := Lib.hid hbit
        clear hbit
        obtain ⟨i0, hi, hz0, hz1, hz2⟩ := info_parts Tryd.info3
        go_wp2_with (at_builtin; refine wpList_append_own _ rfl (.tmp 12) (.tmp 14) 23 rfl wo.heap.size 3 i0 (.int .i64 0) 1 8 Tryd.underlying23 hi hz0 hz1 hz2 rfl (by decide) _ _ _ rfl (hown1.alloc _) ⟨w1.heap.size, 0, none⟩ 1 1 [.int .i64 k] rfl rfl ?c1 ?c2 ?c3 ?c4 ?c5 ?_)
        case c1 => exact new_one _ _ _
        case c2 => simp [Value.oneCell']
        case c3 => unfold maxLen; omega
        case c4 => omega
        case c5 => simp; omega
        intro v' w2 hown2 hgrow _
        have hb2 := (hb1.alloc hb1.size (.cells #[Value.int .i64 (k : Int)] 3)).grown hgrow (by simp; omega) (fun j hj => (hown1.lt j hj).1)
        have hown3 : w2.ownsRow wo.heap.size 3 1 v' (bitsTo x (k + 1)).length (ints (bitsTo x (k + 1))) := by
          rw [HBS.out, HBIT.out]
          simpa [ints] using hown2
        clear hgrow hown2 hown1
        go_wp2
        go_roundw
        case rel => exact ⟨k + 1, by omega, by go_num, hown3, hb2⟩
        case measure => simp [intOf]; omega
    · obtain rfl : k = 32 := by omega
      have e : bitsTo x 32 = bitsL x := rfl
      rw [e] at hown
      clear e
      go_wp2
      go_ret
      exact ⟨_, rfl, hown, hb⟩
/-- What reading a row gives. -/
theorem own_cell {w : World} {B : Nat} {E : TypeId} {v : Value} {xs : List Value} (h : w.ownsRow B E 1 v xs.length xs) (hp : 0 < xs.length) :
    ∃ g cap, v = .slice (some ⟨g, 0, none⟩) xs.length cap ∧ B ≤ g ∧ g < w.heap.size ∧ ∀ i, i < xs.length → w.cell? ⟨g, i, none⟩ = xs[i]? := by
  obtain ⟨h1, h | ⟨g, cap, cur, rfl, hg, hb, hc1, hc2, hs, ht⟩⟩ := h
  · omega
  · refine ⟨g, cap, rfl, hg, lt_of hb, fun i hi => ?_⟩
    have e : w.cell? ⟨g, i, none⟩ = cur[i]? := by simp [World.cell?, hb]
    have e2 : (cur.toList.take (xs.length * 1))[i]? = xs[i]? := by rw [ht]
    rw [List.getElem?_take, if_pos (by omega)] at e2
    rw [e]
    simpa using e2
theorem own_zero {w : World} {B : Nat} {E : TypeId} {v : Value} (h : w.ownsRow B E 1 v 0 []) : ∃ a cap, v = .slice a 0 cap := owns_slice h
end Go.Proofs.YtffhmlngnnfaeaaDoor
