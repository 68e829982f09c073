import Derived.Test.YtilbendneahikaaNumH
import Derived.Test.YtilbendneahikaaShelf
import Derived.Test.YtilbendneahikaaSame
namespace Go.Proofs.Ytilbendneahikaa
open Go.ChangeShapes Go.WideShapes Go.ChangeAt Go.RowKit
set_option linter.unusedVariables false
set_option linter.unusedSimpArgs false
theorem parP_u32 (l : List UInt8) : 0 ≤ (parP l 0 4294967295).1 ∧ (parP l 0 4294967295).1 ≤ 4294967295 := by
  unfold parP
  cases valP l with
  | none => simp
  | some n => by_cases h : n < 0 ∨ 4294967295 < n <;> simp [h] <;> omega
set_option maxRecDepth 20000 in
theorem word_any (w : World) (l : List UInt8) (hl : l.length < 1000000) :
    Calls Try.prog 9 #[.string ⟨l.toArray⟩] w fun e w' => e = .returned (.tuple #[.int .u32 (parP l 0 4294967295).1, .int .i64 (parP l 0 4294967295).2]) ∧ Keeps (fun _ => False) w w' := by
  have HC := Lib.hid (parse_any w l hl 0 4294967295 (by omega) (by omega))
  obtain ⟨u0, u1⟩ := parP_u32 l
  generalize (⟨l.toArray⟩ : ByteArray) = B at HC ⊢
  generalize (parP l 0 4294967295).1 = x at *
  generalize (parP l 0 4294967295).2 = y at *
  go_enter Try.func9, Try.ntmps9
  go_wp2_with fail
  refine HC.out.mono ?_
  rintro e1 w1 ⟨rfl, hk⟩
  have HK := Lib.hid hk
  clear hk
  go_wp2_with fail
  refine bodyPost_ret (v := .tuple #[.int .u32 x, .int .i64 y]) (by simp [results, Try.results9, go_sem]) rfl ?_
  exact ⟨rfl, HK.out⟩
set_option maxRecDepth 20000 in
theorem rword_any (w : World) (l : List UInt8) (hl : l.length < 1000000) :
    Calls Try.prog 10 #[.string ⟨l.toArray⟩] w fun e w' => e = .returned (.tuple #[.int .u32 (parP l 0 4294967295).1, .int .i64 (parP l 0 4294967295).2]) ∧ w' = w := by
  have HC := Lib.hid (rparse_any w l hl 0 4294967295)
  obtain ⟨u0, u1⟩ := parP_u32 l
  generalize (⟨l.toArray⟩ : ByteArray) = B at HC ⊢
  generalize (parP l 0 4294967295).1 = x at *
  generalize (parP l 0 4294967295).2 = y at *
  go_enter Try.func10, Try.ntmps10
  go_wp2_with fail
  refine HC.out.mono ?_
  rintro e1 w1 ⟨rfl, rfl⟩
  go_wp2_with fail
  refine bodyPost_ret (v := .tuple #[.int .u32 x, .int .i64 y]) (by simp [results, Try.results10, go_sem]) rfl ?_
  exact ⟨rfl, rfl⟩
theorem par_bad : parP [45, 48, 55] (-99) 99 = (0, 3) := by
  have h1 : sgn [45, 48, 55] = -7 := by decide
  have h2 : prnL (-7) = [45, 55] := by unfold prnL; rw [if_pos (by decide)]; show 45 :: digL 7 = _; rw [digL_small (by decide)]; rfl
  have h : okL [45, 48, 55] = false := by unfold okL; rw [h1, h2]; decide
  unfold parP valP
  rw [h]
  rfl
theorem par_one : parP [49] 0 9 = (1, 0) := by
  have h1 : sgn [49] = 1 := by decide
  have h2 : prnL 1 = [49] := by unfold prnL; rw [if_neg (by decide)]; show digL 1 = _; rw [digL_small (by decide)]; rfl
  have h : okL [49] = true := by unfold okL; rw [h1, h2]; decide
  unfold parP valP
  rw [h, h1]
  rfl
theorem par_two : parP [50] 0 9 = (2, 0) := by
  have h1 : sgn [50] = 2 := by decide
  have h2 : prnL 2 = [50] := by unfold prnL; rw [if_neg (by decide)]; show digL 2 = _; rw [digL_small (by decide)]; rfl
  have h : okL [50] = true := by unfold okL; rw [h1, h2]; decide
  unfold parP valP
  rw [h, h1]
  rfl
theorem split_alive (w : World) :
    Calls Try.prog 13 #[.string ⟨[49, 32, 50].toArray⟩, .string ⟨[32].toArray⟩, .int .i64 0, .int .i64 9] w fun e w' => ∃ g cap, e = .returned (.tuple #[.slice (some ⟨g, 0, none⟩) 2 cap, .int .i64 0]) ∧ w'.cell? ⟨g, 0, none⟩ = some (.int .i64 1) ∧ w'.cell? ⟨g, 1, none⟩ = some (.int .i64 2) ∧ g < w'.heap.size ∧ Below w.heap.size w w' := by
  refine (split_good w [49, 32, 50] [32] (fun r => Lib.indexByte r 32) 100 (by decide) (by decide) (by decide) (by decide) (by decide)
    (fun r W _ => Try.strings_Index_one ⟨r.toArray⟩ 32 W) [[49], [50]] ⟨[50], rfl, by decide, rfl, by decide⟩ 0 9 (by omega) (by omega) (fun p => sgn p) (fun p hp => ?_) (by decide)).mono ?_
  · rcases List.mem_cons.1 hp with rfl | hp
    · exact ⟨by decide, by rw [par_one]; rfl⟩
    · obtain rfl := List.mem_singleton.1 hp
      exact ⟨by decide, by rw [par_two]; rfl⟩
  · rintro e w' ⟨v, rfl, hrow, hB⟩
    obtain ⟨g, cap, rfl⟩ := ownsRow_succ (k := 1) hrow
    have h := hrow.cells (g := g) rfl
    exact ⟨g, cap, rfl, h 0 _ rfl, h 1 _ rfl, (hrow.lt g rfl).2, hB⟩
set_option maxRecDepth 20000 in
set_option maxHeartbeats 1000000 in
theorem alive01_any (w : World) : Calls Try.prog 6 #[] w fun e w' => e = .returned (.bool true) ∧ Below w.heap.size w w' := by
  have HP := Lib.hid (parse_any w [45, 48, 55] (by decide) (-99) 99 (by omega) (by omega))
  rw [par_bad] at HP
  go_enter Try.func6, Try.ntmps6
  go_wp2_with fail
  refine HP.out.mono ?_
  rintro e1 w1 ⟨rfl, hk⟩
  have HK := Lib.hid hk
  clear hk
  go_wp2_with fail
  refine (split_alive w1).mono ?_
  rintro e2 w2 ⟨g, cap, rfl, c0, c1, lg, hB⟩
  have HB := Lib.hid (And.intro c0 (And.intro c1 (And.intro lg hB)))
  clear hB c0 c1 lg
  go_wp2_with fail
  refine (rsame_some g 0 w2.heap.size 0 2 cap 2 (fun i => if i = 0 then 1 else 2) _ (by unfold maxLen; omega) (fun i hi => ?_) (fun i hi => ?_)).mono ?_
  · have e : (w2.alloc (Obj.cells #[Value.int IntKind.i64 1, Value.int IntKind.i64 2] 3)).cell? ⟨g, 0 + i, none⟩ = w2.cell? ⟨g, 0 + i, none⟩ := by
      unfold World.cell?
      rw [Below.heap_alloc _ _ _ HB.out.2.2.1]
    rw [e]
    match i, hi with
    | 0, _ => exact HB.out.1
    | 1, _ => exact HB.out.2.1
  · rw [cell_of (heap_new w2 _) (0 + i)]
    match i, hi with
    | 0, _ => rfl
    | 1, _ => rfl
  · rintro e3 w3 ⟨rfl, k3⟩
    have HF := Lib.hid ((HK.out.none.trans (HB.out.2.2.2.mono HK.out.size)).trans ((((Below.refl w.heap.size w2).alloc (Nat.le_trans HK.out.size HB.out.2.2.2.size) _).trans (k3.none.mono (by rw [World.size_alloc]; exact Nat.le_succ_of_le (Nat.le_trans HK.out.size HB.out.2.2.2.size))))))
    clear k3
    go_wp2_with fail
    go_ret
    exact ⟨rfl, HF.out⟩
end Go.Proofs.Ytilbendneahikaa
