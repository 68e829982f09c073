import Derived.Test.YtnogdeihiiejkaaPlG
namespace Go.Proofs.Ytnogdeihiiejkaa
open Go.ChangeShapes Go.WideShapes Go.ChangeAt Go.RowKit
set_option linter.unusedVariables false
set_option linter.unusedSimpArgs false
theorem bad_zero {c : CfD} (h : (badOf c).1 = 0) : badOf c = (0, 0, 0) := by
  unfold badOf at h ⊢
  by_cases h1 : (bad1 c).1 = 0
  · rw [if_pos h1] at h ⊢
    by_cases h2 : (bad2 c).1 = 0
    · rw [if_pos h2] at h ⊢
      by_cases h3 : (bad3 c).1 = 0
      · rw [if_pos h3] at h ⊢
        exact eachV_zero h
      · rw [if_neg h3] at h; exact absurd h h3
    · rw [if_neg h2] at h; exact absurd h h2
  · rw [if_neg h1] at h; exact absurd h h1
theorem sets_all {w : World} {b : Nat} {cs : Array Value} {T : TypeId} {fr : Nat × Nat} (vs : List Value) (h : w.heap[b]? = some (.cells cs T fr)) (hs : cs.size = vs.length) : (w.setCells b 0 vs).heap[b]? = some (.cells vs.toArray T fr) := by
  rw [heap_sets vs 0 w b cs T fr h]
  congr 2
  apply Array.ext_getElem?
  intro i
  by_cases hi : i < vs.length
  · have := setsA_in vs cs 0 i vs[i] (by omega) (List.getElem?_eq_getElem hi)
    rw [Nat.zero_add] at this
    rw [this]
    simp [hi]
  · rw [Array.getElem?_eq_none (by rw [setsA_size]; omega), Array.getElem?_eq_none (by simp; omega)]
theorem plan_info : (Try.prog.info? 33).map (·.size) = some 5 := by kernel_rfl
theorem res_plan (w : World) (T : Array Value) (b : Nat) (cs : List Value) (r : Bool) (h2 : T.getD 2 undef = .pointer (some ⟨b, 0, none⟩)) (h3 : T.getD 3 undef = .bool r) (h : (loadVar 33 ⟨b, 0, none⟩).run Try.prog w = .ok (.agg cs.toArray) w) :
    (results Try.f6 T).run Try.prog w = .ok (.tuple #[.agg cs.toArray, .bool r]) w := by
  simp only [Array.getD_eq_getD_getElem?] at h2 h3
  simp [results, Try.results6, h2, h3, asAddr, h, Sem.run_bind, Sem.run_pure]
theorem load_plan {w : World} {b : Nat} {vs : List Value} (h : w.heap[b]? = some (.cells vs.toArray 33 (0, 0))) (hl : vs.length = 5) : (loadVar 33 ⟨b, 0, none⟩).run Try.prog w = .ok (.agg vs.toArray) w :=
  run_loadVar_mid w b 0 33 vs _ (fun j v hv => by
    rw [cell_of h (0 + j), show 0 + j = j by omega]
    simpa using hv) Try.underlying33 rfl (by rw [hl]; exact plan_info)
@[reducible] def planL (v0 v1 : Value) (t : Int) (v3 : Value) (n : Int) : List Value := [v0, v1, .int .i64 t, v3, .int .i64 n]
set_option maxHeartbeats 4000000 in
theorem plan_bad (c : CfD) (w : World) (hc : CfIn w c) (ho : c.Ok) (hv : badOf c ≠ (0, 0, 0)) :
    Calls Try.prog 6 #[.agg c.cells] w fun e w' => e = .returned (.tuple #[.agg #[.slice none 0 0, .slice none 0 0, .int .i64 0, .slice none 0 0, .int .i64 0], .bool false]) ∧ Keeps (fun _ => False) w w' := by
  have HCK := Lib.hid (fun W (k : Keeps (fun _ => False) w W) => check_any c W (hc.none k) ho)
  have HB := Lib.hid ((((Has.start w).alloc (.cells c.cells 26)).alloc (.cells (planL (.slice none 0 0) (.slice none 0 0) 0 (.slice none 0 0) 0).toArray 33)).eq (M := [(w.heap.size + 1, .cells (planL (.slice none 0 0) (.slice none 0 0) 0 (.slice none 0 0) 0).toArray 33), (w.heap.size, .cells c.cells 26)]) (by simp))
  have HV := Lib.hid hv
  clear hc ho hv
  go_enter Try.func6, Try.ntmps6
  go_wp2_with fail
  refine (HCK.out _ HB.out.keeps).mono ?_
  rintro e1 w1 ⟨rfl, k1⟩
  replace HB := Lib.hid (HB.out.none k1)
  clear k1
  have hz : (badOf c).1 ≠ 0 := fun e => HV.out (bad_zero e)
  generalize badOf c = B at *
  obtain ⟨b0, b1, b2⟩ := B
  have hb0 : (b0 == 0) = false := beq_eq_false_iff_ne.mpr hz
  have hb1 : (b0 = 0) = False := eq_false hz
  clear hz HV
  have HTH := Lib.hid (there_of (HB.out.at 0 rfl) 0 5 (by simp))
  obtain ⟨W5, hW5⟩ : ∃ W5, W5 = w1.setCells (w.heap.size + 1) 0 (#[.slice none 0 0, .slice none 0 0, .int .i64 0, .slice none 0 0, .int .i64 0] : Array Value).toList := ⟨_, rfl⟩
  have HW5 := Lib.hid hW5
  have HG5 := Lib.hid (show W5.heap[w.heap.size + 1]? = some (.cells (planL (.slice none 0 0) (.slice none 0 0) 0 (.slice none 0 0) 0).toArray 33 (0, 0)) by rw [hW5]; exact sets_all _ (HB.out.at 0 rfl) (by simp))
  have HK5 := Lib.hid (show Keeps (fun _ => False) w W5 from HB.out.keeps.far (S := fun j => j = w.heap.size + 1) (by rw [hW5]; exact Keeps.sets (S := fun j => j = w.heap.size + 1) (.inl rfl) _ _ _ (Keeps.refl _ _)) (fun j e => by omega))
  clear hW5
  go_wp2_with (refine wpList_store_mid rfl 33 (.tmp 2) (.tmp 16) rfl (w.heap.size + 1) 0 #[.slice none 0 0, .slice none 0 0, .int .i64 0, .slice none 0 0, .int .i64 0] rfl rfl HTH.out plan_info (by simp [Value.oneCell']) ?_; rw [← HW5.out])
  refine bodyPost_ret (v := .tuple #[.agg #[.slice none 0 0, .slice none 0 0, .int .i64 0, .slice none 0 0, .int .i64 0], .bool false]) (res_plan W5 _ (w.heap.size + 1) _ _ rfl rfl (load_plan HG5.out rfl)) rfl ⟨rfl, HK5.out⟩
end Go.Proofs.Ytnogdeihiiejkaa
