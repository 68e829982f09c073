import Derived.Test.YtilbendneahikaaNumS
namespace Go.Proofs.Ytilbendneahikaa
open Go.ChangeShapes Go.WideShapes Go.ChangeAt Go.RowKit
set_option linter.unusedVariables false
set_option linter.unusedSimpArgs false
set_option maxRecDepth 100000 in
set_option maxHeartbeats 2000000 in
/-- The document's Split: the numbers, or the first fault. -/
theorem rsplit_any (w : World) (s sep : List UInt8) (hsep : 0 < sep.length) (hs0 : 0 < s.length) (hsM : s.length ≤ 1000) (hbM : sep.length ≤ 1000)
    (L : List (List UInt8)) (hL : Cuts sep (fun r => Lib.index r sep) L s) (a b : Int) (hok : ∀ p, p ∈ L → p.length < 1000000) (hLl : L.length < 1000000) :
    Calls Try.prog 14 #[.string ⟨s.toArray⟩, .string ⟨sep.toArray⟩, .int .i64 a, .int .i64 b] w fun e w' => ∃ v, e = .returned (.tuple #[v, .int .i64 (splF a b L)]) ∧ w'.ownsRow w.heap.size 3 1 v (splN a b L).length (cellsI (splN a b L)) ∧ Below w.heap.size w w' := by
  obtain ⟨i0, hi, hz0, hz1, hz2⟩ := info_parts info_int
  have e1 : (ByteArray.mk s.toArray).toList = s := ByteArray.toList_mk _
  have e2 : (ByteArray.mk sep.toArray).toList = sep := ByteArray.toList_mk _
  have e3 : (ByteArray.mk #[]).toList = [] := ByteArray.toList_mk []
  have g1 : (s == ([] : List UInt8)) = false := by cases s with | nil => cases hs0 | cons x t => rfl
  have g2 : (sep == ([] : List UInt8)) = false := by cases sep with | nil => cases hsep | cons x t => rfl
  have hSz := str_size s
  have hTz := str_size sep
  have HM := Lib.hid (fun (w : World) (i j : Nat) (hij : i ≤ j) (hj : j ≤ s.length) => str_mid w s i j hij hj)
  have HI := Lib.hid (And.intro hi (And.intro hz0 (And.intro hz1 hz2)))
  have HL := Lib.hid (And.intro hL (And.intro hok hLl))
  clear hL hi hz0 hz1 hz2 hok hLl
  generalize (⟨s.toArray⟩ : ByteArray) = S at e1 HM hSz ⊢
  generalize (⟨sep.toArray⟩ : ByteArray) = T at e2 hTz ⊢
  go_enter Try.func14, Try.ntmps14
  go_wp2_with fail
  obtain ⟨wo, rfl⟩ : ∃ wo : World, wo = w := ⟨_, rfl⟩
  go_loopw [10, 11, 12] (fun v fr i wr => ∃ (k f : Nat) (pre ps : List (List UInt8)), i = .int .i64 k ∧ fr = .int .i64 f ∧ L = pre ++ ps ∧ (∀ p, p ∈ pre → (parP p a b).2 = 0) ∧ wr.ownsRow wo.heap.size 3 1 v pre.length (cellsI (pre.map (fun p => (parP p a b).1))) ∧ Below wo.heap.size wo wr ∧ f ≤ 3000 ∧
    ((k ≤ s.length ∧ AtS s sep f k ps) ∨ (k = s.length + 1 ∧ ps = []))) (fun _ _ i _ => s.length + 1 - (intOf i).toNat)
  case atStart => exact ⟨0, 0, [], L, rfl, rfl, rfl, (fun p hp => by cases hp), World.ownsRow_nil _ _ _ _, Below.refl _ _, by omega, .inl ⟨by omega, HL.out.1, by omega, fun p t _ => by omega⟩⟩
  case round =>
    obtain ⟨k, f, pre, ps, rfl, rfl, hps, hall, hown, hB, hf, hk⟩ := hrel
    rename_i wr
    have HR := Lib.hid (And.intro hps (And.intro hall (And.intro hown hB)))
    clear hps hall
    rcases hk with ⟨hk, hat⟩ | ⟨rfl, rfl⟩
    · by_cases h1 : k < f
      · have HA := Lib.hid (hat.skip h1)
        have hfl := hat.le
        clear hown hB hat
        have d1 : decide ((k : Int) < (f : Int)) = true := decide_eq_true (by omega)
        have d0 : decide (k ≤ s.length) = true := decide_eq_true (by omega)
        go_wp2_with fail
        go_roundw
        case rel => exact ⟨k + 1, f, pre, ps, by go_num, rfl, HR.out.1, HR.out.2.1, HR.out.2.2.1, HR.out.2.2.2, hf, .inl ⟨by omega, HA.out⟩⟩
        case measure => simp [intOf]; omega
      · have hfl := hat.le
        have d1 : decide ((k : Int) < (f : Int)) = false := decide_eq_false (by omega)
        have d1' : decide (k < f) = false := decide_eq_false (by omega)
        have d0 : decide (k ≤ s.length) = true := decide_eq_true (by omega)
        by_cases hroom : k < s.length ∧ s.length < k + sep.length
        · have HA := Lib.hid (hat.room (by omega) hroom.1 hroom.2)
          have d2 : decide (k < s.length) = true := decide_eq_true hroom.1
          have d2' : decide ((k : Int) < (s.length : Int)) = true := decide_eq_true (by omega)
          have d3 : decide ((s.length : Int) < (k : Int) + (sep.length : Int)) = true := decide_eq_true (by omega)
          clear hown hB hat
          go_wp2_with fail
          go_roundw
          case rel => exact ⟨k + 1, f, pre, ps, by go_num, rfl, HR.out.1, HR.out.2.1, HR.out.2.2.1, HR.out.2.2.2, hf, .inl ⟨by omega, HA.out⟩⟩
          case measure => simp [intOf]; omega
        by_cases hmiss : k < s.length ∧ ((s.drop k).take sep.length == sep) = false
        · have hkl : k + sep.length ≤ s.length := by omega
          have HA := Lib.hid (hat.miss (by omega) hmiss.1 hkl hmiss.2)
          have d2 : decide (k < s.length) = true := decide_eq_true hmiss.1
          have d2' : decide ((k : Int) < (s.length : Int)) = true := decide_eq_true (by omega)
          have d3 : decide ((s.length : Int) < (k : Int) + (sep.length : Int)) = false := decide_eq_false (by omega)
          have hsl := HM.out wr k (k + sep.length) (by omega) hkl
          rw [show k + sep.length - k = sep.length by omega, Int.natCast_add] at hsl
          have e4 : (ByteArray.mk ((s.drop k).take sep.length).toArray).toList = (s.drop k).take sep.length := ByteArray.toList_mk _
          have g4 := hmiss.2
          have hk1 := hmiss.1
          clear hown hB hat hmiss hroom
          generalize (⟨((s.drop k).take sep.length).toArray⟩ : ByteArray) = X at hsl e4
          generalize (s.drop k).take sep.length = xs at e4 g4
          have g5 : (xs != sep) = true := by simp only [bne, g4]; rfl
          go_wp2_with fail
          go_roundw
          case rel => exact ⟨k + 1, f, pre, ps, by go_num, rfl, HR.out.1, HR.out.2.1, HR.out.2.2.1, HR.out.2.2.2, hf, .inl ⟨by omega, HA.out⟩⟩
          case measure => simp [intOf]; omega
        have hhit : k = s.length ∨ (k < s.length ∧ k + sep.length ≤ s.length ∧ ((s.drop k).take sep.length == sep) = true) := by
          by_cases hks : k = s.length
          · exact .inl hks
          · refine .inr ⟨by omega, by omega, ?_⟩
            cases hh : ((s.drop k).take sep.length == sep) with
            | true => rfl
            | false => exact absurd ⟨by omega, hh⟩ hmiss
        obtain ⟨t, hpst, hnext⟩ := hat.hit hsep (by omega) hhit
        have hP := HM.out wr f k (by omega) hk
        have HPS := Lib.hid hpst
        have hpl : ((s.drop f).take (k - f)).length < 1000000 := HL.out.2.1 _ (by rw [HR.out.1, hpst]; simp)
        have HPr := Lib.hid (fun w => rparse_any w _ hpl a b)
        have HN := Lib.hid hnext
        have hml : pre.length < 1000000 := by have := HL.out.2.2; rw [HR.out.1, List.length_append] at this; omega
        clear hat hroom hmiss hpst hnext hpl
        have HX := Lib.hid (⟨_, rfl⟩ : ∃ p, p = (s.drop f).take (k - f))
        generalize hp : (s.drop f).take (k - f) = p at hP HPr HPS
        have Hp := Lib.hid hp
        clear hp HX
        generalize (⟨p.toArray⟩ : ByteArray) = PB at hP HPr
        have HPP := Lib.hid (show parP p a b = ((parP p a b).1, (parP p a b).2) from rfl)
        generalize hx : (parP p a b).1 = x at HPr
        generalize hy : (parP p a b).2 = y at HPr
        have HXY := Lib.hid (And.intro hx hy)
        clear hx hy HPP
        have HO := Lib.hid (And.intro hown hB)
        clear hown hB
        rcases hhit with hks | ⟨hks, hkl, hkm⟩
        · have d2 : decide (k < s.length) = false := decide_eq_false (by omega)
          have d2' : decide ((k : Int) < (s.length : Int)) = false := decide_eq_false (by omega)
          replace hks := Lib.hid hks
          go_wp2_with fail
          refine (HPr.out _).mono ?_
          rintro e w3 ⟨rfl, hw3⟩
          have hw3' := hw3.symm
          subst hw3'
          by_cases hy0 : y = 0
          · subst hy0
            have hown := HO.out.1
            have hbsz := HO.out.2.size
            obtain ⟨hi, hz0, hz1, hz2⟩ := HI.out
            go_wp2_with (at_builtin; refine wpList_append_own _ rfl _ _ 31 rfl wo.heap.size 3 i0 (.int .i64 0) 1 8 Try.underlying31 hi hz0 hz1 hz2 rfl (by decide) _ _ _ rfl (hown.alloc _) ⟨wr.heap.size, 0, none⟩ 1 1 [.int .i64 x] rfl rfl ?c1 ?c2 ?c3 ?c4 ?c5 ?_)
            case c1 => exact cell_one_new _ _ _
            case c2 => simp [Value.oneCell']
            case c3 => unfold maxLen; omega
            case c4 => omega
            case c5 => simp; omega
            intro v' w4 hown' hgrow _
            obtain ⟨g', cap', rfl⟩ := ownsRow_succ hown'
            have HW := Lib.hid (And.intro hown' ((HO.out.2.alloc hbsz _).grown hgrow (by simp; omega) (fun j hj => (hown.lt j hj).1)))
            clear hown hown' hgrow hi hz0 hz1 hz2
            go_wp2_with fail
            go_roundw
            case rel =>
              refine ⟨k + 1, k + sep.length, pre ++ [p], t, by go_num, by go_num, by rw [HR.out.1, HPS.out]; simp, fun q hq => ?_, ?_, HW.out.2, by omega, ?_⟩
              · rcases List.mem_append.1 hq with hq | hq
                · exact HR.out.2.1 q hq
                · simp at hq; subst hq; exact HXY.out.2
              · have h := HW.out.1
                rw [List.length_append, List.map_append, show cellsI (List.map (fun p => (parP p a b).1) pre ++ List.map (fun p => (parP p a b).1) [p]) = cellsI (List.map (fun p => (parP p a b).1) pre) ++ [.int .i64 x] by rw [← HXY.out.1]; simp [cellsI]]
                exact h
              · rcases HN.out with ⟨h1, h2⟩ | ⟨h1, h2, _⟩
                · exact .inr ⟨by omega, h1⟩
                · exact .inl ⟨by omega, h1⟩
            case measure => simp [intOf]; omega
          · have HF := Lib.hid (show splF a b L = y from by
              rw [HR.out.1, HPS.out, splF_pre (by rw [HXY.out.2]; exact hy0) HR.out.2.1]; exact HXY.out.2)
            have HNN := Lib.hid (show splN a b L = [] from by unfold splN; rw [if_neg (by rw [HF.out]; exact hy0)])
            have hy1 : (y == 0) = false := by simpa using hy0
            have hy2 : (y != 0) = true := by simp only [bne, hy1]; rfl
            clear hy0
            go_wp2_with fail
            refine bodyPost_ret (v := .tuple #[.slice none 0 0, .int .i64 y]) (by simp [results, Try.results14, go_sem]) rfl ?_
            exact ⟨_, by rw [HF.out], by rw [HNN.out]; exact World.ownsRow_nil _ _ _ _, HO.out.2⟩
        · have d2 : decide (k < s.length) = true := decide_eq_true hks
          have d2' : decide ((k : Int) < (s.length : Int)) = true := decide_eq_true (by omega)
          have d3 : decide ((s.length : Int) < (k : Int) + (sep.length : Int)) = false := decide_eq_false (by omega)
          have hsl := HM.out wr k (k + sep.length) (by omega) hkl
          rw [show k + sep.length - k = sep.length by omega, Int.natCast_add] at hsl
          have e4 : (ByteArray.mk ((s.drop k).take sep.length).toArray).toList = (s.drop k).take sep.length := ByteArray.toList_mk _
          generalize (⟨((s.drop k).take sep.length).toArray⟩ : ByteArray) = X at hsl e4
          generalize (s.drop k).take sep.length = xs at e4 hkm
          have g5 : (xs != sep) = false := by simp only [bne, hkm]; rfl
          replace hks := Lib.hid hks
          go_wp2_with fail
          refine (HPr.out _).mono ?_
          rintro e w3 ⟨rfl, hw3⟩
          have hw3' := hw3.symm
          subst hw3'
          by_cases hy0 : y = 0
          · subst hy0
            have hown := HO.out.1
            have hbsz := HO.out.2.size
            obtain ⟨hi, hz0, hz1, hz2⟩ := HI.out
            go_wp2_with (at_builtin; refine wpList_append_own _ rfl _ _ 31 rfl wo.heap.size 3 i0 (.int .i64 0) 1 8 Try.underlying31 hi hz0 hz1 hz2 rfl (by decide) _ _ _ rfl (hown.alloc _) ⟨wr.heap.size, 0, none⟩ 1 1 [.int .i64 x] rfl rfl ?c1 ?c2 ?c3 ?c4 ?c5 ?_)
            case c1 => exact cell_one_new _ _ _
            case c2 => simp [Value.oneCell']
            case c3 => unfold maxLen; omega
            case c4 => omega
            case c5 => simp; omega
            intro v' w4 hown' hgrow _
            obtain ⟨g', cap', rfl⟩ := ownsRow_succ hown'
            have HW := Lib.hid (And.intro hown' ((HO.out.2.alloc hbsz _).grown hgrow (by simp; omega) (fun j hj => (hown.lt j hj).1)))
            clear hown hown' hgrow hi hz0 hz1 hz2
            go_wp2_with fail
            go_roundw
            case rel =>
              refine ⟨k + 1, k + sep.length, pre ++ [p], t, by go_num, by go_num, by rw [HR.out.1, HPS.out]; simp, fun q hq => ?_, ?_, HW.out.2, by omega, ?_⟩
              · rcases List.mem_append.1 hq with hq | hq
                · exact HR.out.2.1 q hq
                · simp at hq; subst hq; exact HXY.out.2
              · have h := HW.out.1
                rw [List.length_append, List.map_append, show cellsI (List.map (fun p => (parP p a b).1) pre ++ List.map (fun p => (parP p a b).1) [p]) = cellsI (List.map (fun p => (parP p a b).1) pre) ++ [.int .i64 x] by rw [← HXY.out.1]; simp [cellsI]]
                exact h
              · rcases HN.out with ⟨h1, h2⟩ | ⟨h1, h2, _⟩
                · exact .inr ⟨by omega, h1⟩
                · exact .inl ⟨by omega, h1⟩
            case measure => simp [intOf]; omega
          · have HF := Lib.hid (show splF a b L = y from by
              rw [HR.out.1, HPS.out, splF_pre (by rw [HXY.out.2]; exact hy0) HR.out.2.1]; exact HXY.out.2)
            have HNN := Lib.hid (show splN a b L = [] from by unfold splN; rw [if_neg (by rw [HF.out]; exact hy0)])
            have hy1 : (y == 0) = false := by simpa using hy0
            have hy2 : (y != 0) = true := by simp only [bne, hy1]; rfl
            clear hy0
            go_wp2_with fail
            refine bodyPost_ret (v := .tuple #[.slice none 0 0, .int .i64 y]) (by simp [results, Try.results14, go_sem]) rfl ?_
            exact ⟨_, by rw [HF.out], by rw [HNN.out]; exact World.ownsRow_nil _ _ _ _, HO.out.2⟩
    · have d0 : decide (s.length + 1 ≤ s.length) = false := decide_eq_false (by omega)
      have d0' : decide ((s.length : Int) + 1 ≤ (s.length : Int)) = false := decide_eq_false (by omega)
      have hL : L = pre := by rw [HR.out.1, List.append_nil]
      have HF := Lib.hid (show splF a b L = 0 from by rw [hL]; exact splF_all HR.out.2.1)
      have HNN := Lib.hid (show splN a b L = pre.map (fun p => (parP p a b).1) from by unfold splN; rw [if_pos HF.out, hL])
      clear hown hB hL
      go_wp2_with fail
      refine bodyPost_ret (v := .tuple #[_, .int .i64 0]) (by simp [results, Try.results14, go_sem]; rfl) rfl ?_
      exact ⟨_, by rw [HF.out], by rw [HNN.out, List.length_map]; exact HR.out.2.2.1, HR.out.2.2.2⟩
end Go.Proofs.Ytilbendneahikaa
