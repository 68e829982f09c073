import Derived.Test.YtilbendneahikaaRowE
import Derived.Test.YtilbendneahikaaSame
namespace Go.Proofs.Ytilbendneahikaa
open Go.ChangeShapes Go.WideShapes Go.ChangeAt Go.RowKit
set_option linter.unusedVariables false
set_option linter.unusedSimpArgs false
theorem rtexts_some (g0 o0 g1 o1 n c0 c1 : Nat) (F : Nat → ByteArray) (w : World) (hn : n ≤ maxLen) (h0 : ∀ i, i < n → w.cell? ⟨g0, o0 + i, none⟩ = some (.string (F i))) (h1 : ∀ i, i < n → w.cell? ⟨g1, o1 + i, none⟩ = some (.string (F i))) :
    Calls Try.prog 34 #[.slice (some ⟨g0, o0, none⟩) n c0, .slice (some ⟨g1, o1, none⟩) n c1] w fun e w' => e = .returned (.bool true) ∧ Keeps (fun _ => False) w w' := by
  unfold maxLen at hn
  have H0 := Lib.hid h0
  have H1 := Lib.hid h1
  clear h0 h1
  go_enter Try.func34, Try.ntmps34
  go_wp2_with fail
  obtain ⟨wo, rfl⟩ : ∃ wo : World, wo = w := ⟨_, rfl⟩
  go_loopw [5] (fun i wr => ∃ k m : Nat, k ≤ n ∧ i = .int .i64 k ∧ wr = wo.drewN m) (fun i _ => n - (intOf i).toNat)
  case atStart => exact ⟨0, 0, by omega, rfl, rfl⟩
  case round =>
    obtain ⟨k, m, hk, rfl, rfl⟩ := hrel
    by_cases hlt : k < n
    · have c0 : wo.cell? ⟨g0, o0 + k, none⟩ = some (.string (F k)) := H0.out k hlt
      have c1 : wo.cell? ⟨g1, o1 + k, none⟩ = some (.string (F k)) := H1.out k hlt
      go_wp2_with fail
      go_quiet (fail)
      go_wp2
      go_roundw
      case rel => exact ⟨k + 1, m + nq, by omega, by go_num, rfl⟩
      case measure => simp [intOf]; omega
    · obtain rfl : k = n := by omega
      go_wp2
      go_ret
      exact ⟨rfl, (Keeps.refl _ _).drewN m⟩
theorem alive_rows : rowsOf [(1, [97, 32, 98]), (2, [35, 32, 99])] = [(1, [⟨#[97]⟩, ⟨#[98]⟩])] := by kernel_rfl
set_option maxRecDepth 20000 in
set_option maxHeartbeats 1000000 in
theorem alive03_any (w : World) : Calls Try.prog 21 #[] w fun e w' => e = .returned (.bool true) ∧ Below w.heap.size w w' := by
  have HA := Lib.hid (all_any w [97, 32, 98, 10, 35, 32, 99] (by simp) [(1, [97, 32, 98]), (2, [35, 32, 99])] ⟨rfl, by simp, rfl, rfl, by simp [cutAt], rfl, rfl⟩ (by simp) (by intro x hx; simp at hx; rcases hx with rfl | rfl <;> simp))
  go_enter Try.func21, Try.ntmps21
  go_wp2_with fail
  refine HA.out.mono ?_
  rintro e1 w1 ⟨v, R, rfl, hR, hown, hws, hB⟩
  rw [alive_rows] at hR
  obtain ⟨r, rfl⟩ : ∃ r, R = [r] := List.length_eq_one_iff.1 (by have h := congrArg List.length hR; simpa using h)
  obtain ⟨n, A, ws⟩ := r
  simp [keyR] at hR
  obtain ⟨rfl, rfl⟩ := hR
  obtain ⟨g, cap, rfl⟩ := ownsRow_succ (k := 0) hown
  have q0 := hown.cells (g := g) rfl 0 (.int .i64 1) rfl
  have q1 := hown.cells (g := g) rfl 1 (.slice (some ⟨A, 0, none⟩) 2 2) rfl
  have q0 : w1.cell? ⟨g, 0, none⟩ = some (.int .i64 1) := q0
  have q1 : w1.cell? ⟨g, 1, none⟩ = some (.slice (some ⟨A, 0, none⟩) 2 2) := q1
  have hwa := hws _ (List.mem_singleton.2 rfl)
  have HW := Lib.hid (And.intro hwa (And.intro hwa.lt (And.intro hB (hown.lt g rfl).2)))
  clear hwa hws hown hB
  go_wp2_with fail
  refine (rtexts_some A 0 w1.heap.size 0 2 2 2 (fun i => if i = 0 then ⟨#[97]⟩ else ⟨#[98]⟩) _ (by unfold maxLen; omega) (fun i hi => ?_) (fun i hi => ?_)).mono ?_
  · have e : (w1.alloc (Obj.cells #[Value.string ⟨#[97]⟩, Value.string ⟨#[98]⟩] 9)).cell? ⟨A, 0 + i, none⟩ = w1.cell? ⟨A, 0 + i, none⟩ := by
      unfold World.cell?
      rw [Below.heap_alloc _ _ _ HW.out.2.1]
    rw [e]
    match i, hi with
    | 0, _ => exact HW.out.1.cell 0 _ rfl
    | 1, _ => exact HW.out.1.cell 1 _ rfl
  · rw [cell_of (heap_new w1 _) (0 + i)]
    match i, hi with
    | 0, _ => rfl
    | 1, _ => rfl
  · rintro e3 w3 ⟨rfl, k3⟩
    have HF := Lib.hid (HW.out.2.2.1.trans (((Below.refl w.heap.size w1).alloc HW.out.2.2.1.size _).trans (k3.none.mono (by rw [World.size_alloc]; exact Nat.le_succ_of_le HW.out.2.2.1.size))))
    clear k3
    go_wp2_with fail
    go_ret
    exact ⟨rfl, HF.out⟩
end Go.Proofs.Ytilbendneahikaa
