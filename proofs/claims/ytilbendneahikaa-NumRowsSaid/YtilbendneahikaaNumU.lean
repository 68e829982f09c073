import Derived.Test.YtilbendneahikaaNumT
import Derived.Test.YtilbendneahikaaNumI
namespace Go.Proofs.Ytilbendneahikaa
open Go.ChangeShapes Go.WideShapes Go.ChangeAt Go.RowKit Go.Shelf
attribute [local go_sem] Oper.semAt_some
attribute [local go_sem ↓ 2000] app_pre
attribute [local go_sem] app_run
set_option linter.unusedVariables false
set_option linter.unusedSimpArgs false
theorem split_bad (w : World) (B : ByteArray) (a b : Int) (hB : (B.toList == ([] : List UInt8)) = false) :
    Calls Try.prog 13 #[.string B, .string ⟨#[]⟩, .int .i64 a, .int .i64 b] w fun e w' => e = .returned (.tuple #[.slice none 0 0, .int .i64 3]) ∧ Below w.heap.size w w' := by
  have e3 : (ByteArray.mk #[]).toList = [] := ByteArray.toList_mk []
  refine (callsIn_wide (n := 9)).1 ?_
  refine callsIn_of_wp_marks Try.func13 rfl trivial ?_ rfl
  simp only [Try.ntmps13, List.size_toArray, List.length_cons, List.length_nil, Nat.reduceAdd, Nat.reduceSub, Array.replicate_succ, Array.replicate_zero, List.push_toArray, List.append_toArray, List.nil_append, List.cons_append]
  gi_wp2
  refine wpIn_scope_ghost 0 (fun _ _ _ => False) rfl (fun _ _ _ h => h.elim) ?_
  intro _
  gi_wp2
  simp only [Exit.jump]
  exact ⟨.tuple #[.slice none 0 0, .int .i64 3], by simp [results, Try.results13, go_sem], rfl, ((Below.refl _ w).alloc (Nat.le_refl _) _).alloc (by simp) _⟩
theorem split_none (w : World) (B : ByteArray) (a b : Int) :
    Calls Try.prog 13 #[.string ⟨#[]⟩, .string B, .int .i64 a, .int .i64 b] w fun e w' => e = .returned (.tuple #[.slice none 0 0, .int .i64 0]) ∧ Below w.heap.size w w' := by
  have e3 : (ByteArray.mk #[]).toList = [] := ByteArray.toList_mk []
  refine (callsIn_wide (n := 9)).1 ?_
  refine callsIn_of_wp_marks Try.func13 rfl trivial ?_ rfl
  simp only [Try.ntmps13, List.size_toArray, List.length_cons, List.length_nil, Nat.reduceAdd, Nat.reduceSub, Array.replicate_succ, Array.replicate_zero, List.push_toArray, List.append_toArray, List.nil_append, List.cons_append]
  gi_wp2
  refine wpIn_scope_ghost 0 (fun _ _ _ => False) rfl (fun _ _ _ h => h.elim) ?_
  intro _
  gi_wp2
  simp only [Exit.jump]
  exact ⟨.tuple #[.slice none 0 0, .int .i64 0], by simp [results, Try.results13, go_sem], rfl, ((Below.refl _ w).alloc (Nat.le_refl _) _).alloc (by simp) _⟩
/-- What Split gives: a fault and a row. -/
def SplitSays (w : World) (f : Int) (N : List Int) (e : Ending) (w' : World) : Prop :=
  ∃ v, e = .returned (.tuple #[v, .int .i64 f]) ∧ w'.ownsRow w.heap.size 3 1 v N.length (cellsI N) ∧ Below w.heap.size w w'
theorem both_split (s sep : List UInt8) (hs : s.length ≤ 1000) (hb : sep.length ≤ 1000) (a b : Int) (ha : -9223372036854775808 ≤ a ∧ a ≤ 9223372036854775807) (hbb : -9223372036854775808 ≤ b ∧ b ≤ 9223372036854775807) :
    ∃ (f : Int) (N : List Int), N.length ≤ 1001 ∧
      (∀ (w : World) (m : Int), 0 < w.heap.size → w.cell? ⟨0, 0, none⟩ = some (.int .i64 m) → Calls Try.prog 13 #[.string ⟨s.toArray⟩, .string ⟨sep.toArray⟩, .int .i64 a, .int .i64 b] w (SplitSays w f N)) ∧
      (∀ w : World, Calls Try.prog 14 #[.string ⟨s.toArray⟩, .string ⟨sep.toArray⟩, .int .i64 a, .int .i64 b] w (SplitSays w f N)) := by
  cases s with
  | nil =>
    refine ⟨0, [], by simp, fun w m hg hm => (split_none w _ a b).mono ?_, fun w => (rsplit_none w _ a b).mono ?_⟩
    · rintro e w' ⟨rfl, hB⟩; exact ⟨_, rfl, World.ownsRow_nil _ _ _ _, hB⟩
    · rintro e w' ⟨rfl, rfl⟩; exact ⟨_, rfl, World.ownsRow_nil _ _ _ _, Below.refl _ _⟩
  | cons x t =>
    have hB : ((ByteArray.mk (x :: t).toArray).toList == ([] : List UInt8)) = false := by rw [ByteArray.toList_mk]; rfl
    cases sep with
    | nil =>
      refine ⟨3, [], by simp, fun w m hg hm => (split_bad w _ a b hB).mono ?_, fun w => (rsplit_bad w _ a b hB).mono ?_⟩
      · rintro e w' ⟨rfl, hB⟩; exact ⟨_, rfl, World.ownsRow_nil _ _ _ _, hB⟩
      · rintro e w' ⟨rfl, rfl⟩; exact ⟨_, rfl, World.ownsRow_nil _ _ _ _, Below.refl _ _⟩
    | cons y u =>
      obtain ⟨L, hL, hLl, hLp⟩ := cuts_ex (y :: u) (by simp) _ (x :: t) (Nat.le_refl _)
      have h1 : ∀ p, p ∈ L → p.length < 1000000 := fun p hp => by have := hLp p hp; omega
      refine ⟨splF a b L, splN a b L, ?_, fun w m hg hm => ?_, fun w => ?_⟩
      · unfold splN
        split
        · rw [List.length_map]; omega
        · simp
      · exact split_any w (x :: t) (y :: u) _ 1000 (by decide) (by simp) (by simp) hs hb (fun W => W.cell? ⟨0, 0, none⟩ = some (.int .i64 m)) (fun A B h hA => (h.cell (p := ⟨0, 0, none⟩) hg).trans hA) hm
          (fun r W hW hr => Try.strings_Index ⟨r.toArray⟩ ⟨(y :: u).toArray⟩ m W (by rw [str_size]; omega) hW) L hL a b ha hbb h1 (by omega)
      · exact rsplit_any w (x :: t) (y :: u) (by simp) (by simp) hs hb L hL a b h1 (by omega)
end Go.Proofs.Ytilbendneahikaa
