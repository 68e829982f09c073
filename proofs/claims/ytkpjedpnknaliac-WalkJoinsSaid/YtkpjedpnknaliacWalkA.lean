import Derived.Test.YtkpjedpnknaliacWalkC
import Derived.Test.YtkpjedpnknaliacAgain
import Derived.Laws.EntriesVeiled
import Derived.Laws.NewBlocks
import Derived.Deep.RegionWith
import Derived.Deep.WholeRow
namespace Go.Proofs.Ytkpjedpnknaliac
open Go.ChangeShapes Go.WideShapes Go.ChangeAt Go.RowKit
set_option linter.unusedVariables false
set_option linter.unusedSimpArgs false
theorem wOwn_any (a b t : Int) (w : World) :
    Calls Try.prog 13 #[.agg #[.int .i64 a, .int .i64 b, .int .i64 t]] w fun e w' => e = .returned (.agg #[.int .i64 a, .int .i64 b, .int .i64 t]) ∧ Keeps (fun _ => False) w w' := by
  go_enter Try.func13, Try.ntmps13
  go_wp2
  refine bodyPost_ret (v := .agg #[.int .i64 a, .int .i64 b, .int .i64 t]) (by simp [results, Try.results13, go_sem]) rfl ⟨rfl, ?_⟩
  exact ((Keeps.refl _ _).alloc _).alloc _
theorem wback_any (a b t : Int) (w : World) :
    Calls Try.prog 17 #[.agg #[.int .i64 a, .int .i64 b, .int .i64 t]] w fun e w' => e = .returned (.agg #[.int .i64 a, .int .i64 b, .int .i64 t]) ∧ Keeps (fun _ => False) w w' := by
  go_enter Try.func17, Try.ntmps17
  go_wp2
  refine bodyPost_ret (v := .agg #[.int .i64 a, .int .i64 b, .int .i64 t]) (by simp [results, Try.results17, go_sem]) rfl ⟨rfl, ?_⟩
  exact ((Keeps.refl _ _).alloc _).alloc _
theorem wmove_4 (w : World) :
    Calls Try.prog 65 #[.agg #[.int .i64 0, .int .i64 (-1), .int .i64 4, .int .i64 0, .int .i64 0, .int .u32 0, .int .u32 0, .int .u32 0, .int .u32 0, .int .u32 0, .int .i64 0, .int .i64 0, .int .u32 0, .int .u32 0, .int .i64 0, .int .u32 0, .int .u32 0, .int .u32 0, .int .u32 0, .int .i64 0, .int .i64 0, .int .i64 0, .int .u32 0]] w fun e w' => e = .returned (.agg #[.int .i64 0, .int .i64 0, .int .i64 1]) ∧ Keeps (fun _ => False) w w' := by
  go_enter Try.func65, Try.ntmps65
  go_wp2
  refine bodyPost_ret (v := .agg #[.int .i64 0, .int .i64 0, .int .i64 1]) (by simp [results, Try.results65, go_sem]) rfl ⟨rfl, ?_⟩
  exact ((Keeps.refl _ _).alloc _).alloc _
theorem wmove_2 (w : World) :
    Calls Try.prog 65 #[.agg #[.int .i64 0, .int .i64 (-1), .int .i64 2, .int .i64 0, .int .i64 0, .int .u32 0, .int .u32 0, .int .u32 0, .int .u32 0, .int .u32 0, .int .i64 0, .int .i64 0, .int .u32 0, .int .u32 0, .int .i64 0, .int .u32 0, .int .u32 0, .int .u32 0, .int .u32 0, .int .i64 0, .int .i64 0, .int .i64 0, .int .u32 0]] w fun e w' => e = .returned (.agg #[.int .i64 1, .int .i64 0, .int .i64 0]) ∧ Keeps (fun _ => False) w w' := by
  go_enter Try.func65, Try.ntmps65
  go_wp2
  refine bodyPost_ret (v := .agg #[.int .i64 1, .int .i64 0, .int .i64 0]) (by simp [results, Try.results65, go_sem]) rfl ⟨rfl, ?_⟩
  exact ((Keeps.refl _ _).alloc _).alloc _
theorem wmove_5 (w : World) :
    Calls Try.prog 65 #[.agg #[.int .i64 0, .int .i64 (-1), .int .i64 5, .int .i64 0, .int .i64 0, .int .u32 0, .int .u32 0, .int .u32 0, .int .u32 0, .int .u32 0, .int .i64 0, .int .i64 0, .int .u32 0, .int .u32 0, .int .i64 0, .int .u32 0, .int .u32 0, .int .u32 0, .int .u32 0, .int .i64 0, .int .i64 0, .int .i64 0, .int .u32 0]] w fun e w' => e = .returned (.agg #[.int .i64 0, .int .i64 0, .int .i64 3]) ∧ Keeps (fun _ => False) w w' := by
  go_enter Try.func65, Try.ntmps65
  go_wp2
  refine bodyPost_ret (v := .agg #[.int .i64 0, .int .i64 0, .int .i64 3]) (by simp [results, Try.results65, go_sem]) rfl ⟨rfl, ?_⟩
  exact ((Keeps.refl _ _).alloc _).alloc _
theorem yieldsIf_load_row {P : Program} {ops : Array Oper} {S : World → Prop} {op : Oper} {a : Act} (hw : Region.wanted op (yielded ops a.tmps) = true) (ty : TypeId) (x : Operand) (ho : op.op = .load ty x)
    (g : Nat) (hx : a.eval x = .pointer (some ⟨g, 0, none⟩)) (t : TypeId) (cs : Array Value) (fr : Nat × Nat) (d : TypeDesc) (hS : ∀ w, S w → w.heap[g]? = some (.cells cs t fr))
    (hu : P.underlying ty = some d) (hd : (match d with | .struct _ | .array _ _ => true | _ => false) = true) (hi : (P.info? ty).map (·.size) = some cs.size) : YieldsIf P ops S op (.agg cs) a :=
  .inl ⟨hw, fun w hw' => by
    unfold execOp
    simp only [ho, hx, Instr.loadAt, Instr.sureAddr, Sem.run_bind, Sem.run_pure, Result.andThen_ok, run_loadVar_row w g t ty cs fr d (hS w hw') hu hd hi]⟩
theorem ev_info : (Try.prog.info? 91).map (·.size) = some 23 := by kernel_rfl
/-- What a step of the walk stands on. -/
structure SBox (w wr : World) (C N : Nat) (a b t k : Int) : Prop where
  keeps : Keeps (fun _ => False) w wr
  c : wr.heap[C]? = some (.cells #[.func (.func 38) #[] #[]] 108 (0, 0))
  n : wr.heap[N]? = some (.cells #[.int .i64 a, .int .i64 b, .int .i64 t] 53 (0, 0))
  e : wr.heap[w.heap.size]? = some (.cells #[.int .i64 0, .int .i64 (-1), .int .i64 k, .int .i64 0, .int .i64 0, .int .u32 0, .int .u32 0, .int .u32 0, .int .u32 0, .int .u32 0, .int .i64 0, .int .i64 0, .int .u32 0, .int .u32 0, .int .i64 0, .int .u32 0, .int .u32 0, .int .u32 0, .int .u32 0, .int .i64 0, .int .i64 0, .int .i64 0, .int .u32 0] 91 (0, 0))
  r : wr.heap[w.heap.size + 1]? = some (.cells #[.int .i64 0, .int .i64 0, .int .i64 0] 53 (0, 0))
theorem SBox.none {w w1 w2 : World} {C N : Nat} {a b t k : Int} (h : SBox w w1 C N a b t k) (kk : Keeps (fun _ => False) w1 w2) : SBox w w2 C N a b t k :=
  ⟨h.keeps.trans kk, kk.at h.c fun h => h, kk.at h.n fun h => h, kk.at h.e fun h => h, kk.at h.r fun h => h⟩
theorem SBox.new (w : World) (C N : Nat) (a b t k : Int) (hC : w.heap[C]? = some (.cells #[.func (.func 38) #[] #[]] 108 (0, 0))) (hN : w.heap[N]? = some (.cells #[.int .i64 a, .int .i64 b, .int .i64 t] 53 (0, 0))) : SBox w ((w.alloc (.cells #[.int .i64 0, .int .i64 (-1), .int .i64 k, .int .i64 0, .int .i64 0, .int .u32 0, .int .u32 0, .int .u32 0, .int .u32 0, .int .u32 0, .int .i64 0, .int .i64 0, .int .u32 0, .int .u32 0, .int .i64 0, .int .u32 0, .int .u32 0, .int .u32 0, .int .u32 0, .int .i64 0, .int .i64 0, .int .i64 0, .int .u32 0] 91)).alloc (.cells #[.int .i64 0, .int .i64 0, .int .i64 0] 53)) C N a b t k := by
  obtain ⟨h1, h2, h3⟩ := kept2 (Keeps.refl (fun _ => False) ((w.alloc (.cells #[.int .i64 0, .int .i64 (-1), .int .i64 k, .int .i64 0, .int .i64 0, .int .u32 0, .int .u32 0, .int .u32 0, .int .u32 0, .int .u32 0, .int .i64 0, .int .i64 0, .int .u32 0, .int .u32 0, .int .i64 0, .int .u32 0, .int .u32 0, .int .u32 0, .int .u32 0, .int .i64 0, .int .i64 0, .int .i64 0, .int .u32 0] 91)).alloc (.cells #[.int .i64 0, .int .i64 0, .int .i64 0] 53)))
  exact ⟨h3, heap_old (heap_old hC _) _, heap_old (heap_old hN _) _, h1, h2⟩
/-- The cells of an event in a variable. -/
theorem ev_at {w : World} {b : Nat} {k : Int} {E : TypeId} (h : w.heap[b]? = some (.cells #[.int .i64 0, .int .i64 (-1), .int .i64 k, .int .i64 0, .int .i64 0, .int .u32 0, .int .u32 0, .int .u32 0, .int .u32 0, .int .u32 0, .int .i64 0, .int .i64 0, .int .u32 0, .int .u32 0, .int .i64 0, .int .u32 0, .int .u32 0, .int .u32 0, .int .u32 0, .int .i64 0, .int .i64 0, .int .i64 0, .int .u32 0] E (0, 0))) : w.cell? ⟨b, 0, none⟩ = some (.int .i64 0) ∧ w.cell? ⟨b, 1, none⟩ = some (.int .i64 (-1)) ∧ w.cell? ⟨b, 2, none⟩ = some (.int .i64 k) ∧ w.cell? ⟨b, 3, none⟩ = some (.int .i64 0) ∧ w.cell? ⟨b, 4, none⟩ = some (.int .i64 0) ∧ w.cell? ⟨b, 5, none⟩ = some (.int .u32 0) ∧ w.cell? ⟨b, 6, none⟩ = some (.int .u32 0) ∧ w.cell? ⟨b, 7, none⟩ = some (.int .u32 0) ∧ w.cell? ⟨b, 8, none⟩ = some (.int .u32 0) ∧ w.cell? ⟨b, 9, none⟩ = some (.int .u32 0) ∧ w.cell? ⟨b, 10, none⟩ = some (.int .i64 0) ∧ w.cell? ⟨b, 11, none⟩ = some (.int .i64 0) ∧ w.cell? ⟨b, 12, none⟩ = some (.int .u32 0) ∧ w.cell? ⟨b, 13, none⟩ = some (.int .u32 0) ∧ w.cell? ⟨b, 14, none⟩ = some (.int .i64 0) ∧ w.cell? ⟨b, 15, none⟩ = some (.int .u32 0) ∧ w.cell? ⟨b, 16, none⟩ = some (.int .u32 0) ∧ w.cell? ⟨b, 17, none⟩ = some (.int .u32 0) ∧ w.cell? ⟨b, 18, none⟩ = some (.int .u32 0) ∧ w.cell? ⟨b, 19, none⟩ = some (.int .i64 0) ∧ w.cell? ⟨b, 20, none⟩ = some (.int .i64 0) ∧ w.cell? ⟨b, 21, none⟩ = some (.int .i64 0) ∧ w.cell? ⟨b, 22, none⟩ = some (.int .u32 0) :=
  ⟨cell_of h 0, cell_of h 1, cell_of h 2, cell_of h 3, cell_of h 4, cell_of h 5, cell_of h 6, cell_of h 7, cell_of h 8, cell_of h 9, cell_of h 10, cell_of h 11, cell_of h 12, cell_of h 13, cell_of h 14, cell_of h 15, cell_of h 16, cell_of h 17, cell_of h 18, cell_of h 19, cell_of h 20, cell_of h 21, cell_of h 22⟩
set_option maxRecDepth 20000 in
set_option maxHeartbeats 1000000 in
theorem wstep_any (k a b t c d u p q v : Int) (C N : Nat) (w : World) (hC : w.heap[C]? = some (.cells #[.func (.func 38) #[] #[]] 108 (0, 0))) (hN : w.heap[N]? = some (.cells #[.int .i64 a, .int .i64 b, .int .i64 t] 53 (0, 0)))
    (hm : ∀ w, Calls Try.prog 65 #[.agg #[.int .i64 0, .int .i64 (-1), .int .i64 k, .int .i64 0, .int .i64 0, .int .u32 0, .int .u32 0, .int .u32 0, .int .u32 0, .int .u32 0, .int .i64 0, .int .i64 0, .int .u32 0, .int .u32 0, .int .i64 0, .int .u32 0, .int .u32 0, .int .u32 0, .int .u32 0, .int .i64 0, .int .i64 0, .int .i64 0, .int .u32 0]] w fun e w' => e = .returned (.agg #[.int .i64 c, .int .i64 d, .int .i64 u]) ∧ Keeps (fun _ => False) w w')
    (ht : ∀ w, Calls Try.prog 38 #[.agg #[.int .i64 a, .int .i64 b, .int .i64 t], .agg #[.int .i64 c, .int .i64 d, .int .i64 u]] w fun e w' => e = .returned (.agg #[.int .i64 p, .int .i64 q, .int .i64 v]) ∧ Keeps (fun _ => False) w w') :
    Calls Try.prog 64 #[.agg #[.int .i64 0, .int .i64 (-1), .int .i64 k, .int .i64 0, .int .i64 0, .int .u32 0, .int .u32 0, .int .u32 0, .int .u32 0, .int .u32 0, .int .i64 0, .int .i64 0, .int .u32 0, .int .u32 0, .int .i64 0, .int .u32 0, .int .u32 0, .int .u32 0, .int .u32 0, .int .i64 0, .int .i64 0, .int .i64 0, .int .u32 0], .pointer (some ⟨C, 0, none⟩), .pointer (some ⟨N, 0, none⟩)] w fun e w' => e = .returned (.agg #[.int .i64 p, .int .i64 q, .int .i64 v]) ∧ w'.heap[N]? = some (.cells #[.int .i64 p, .int .i64 q, .int .i64 v] 53 (0, 0)) ∧ Keeps (fun k => k = N) w w' := by
  have HM := Lib.hid hm
  have HT := Lib.hid ht
  have c0 : w.cell? ⟨C, 0, none⟩ = some (.func (.func 38) #[] #[]) := cell_of hC 0
  obtain ⟨n0, n1, n2, _, _, _, lN⟩ := three_cells hN
  have lC := lt_of hC
  have hne : w.heap.size ≠ N := by omega
  have hN1 : N ≠ w.heap.size + 1 := by omega
  have hle : w.heap.size ≤ w.heap.size + 1 := by omega
  have hN2 : w.heap.size + 1 ≠ N := by omega
  have hCN : C ≠ N := by rintro rfl; rw [hC] at hN; cases hN
  have HC := Lib.hid hC
  have HN := Lib.hid hN
  have HW := Lib.hid ((SBox.new w C N a b t k hC hN).none (Keeps.refl _ _).drew)
  clear hm ht hC hN
  go_enter Try.func64, Try.ntmps64
  go_wp2_with fail
  refine wp_region_noPanic ?_
  refine wp_region_held_drew (S := fun w' => w'.heap[C]? = some (.cells #[.func (.func 38) #[] #[]] 108 (0, 0)) ∧ w'.heap[w.heap.size]? = some (.cells #[.int .i64 0, .int .i64 (-1), .int .i64 k, .int .i64 0, .int .i64 0, .int .u32 0, .int .u32 0, .int .u32 0, .int .u32 0, .int .u32 0, .int .i64 0, .int .i64 0, .int .u32 0, .int .u32 0, .int .i64 0, .int .u32 0, .int .u32 0, .int .u32 0, .int .u32 0, .int .i64 0, .int .i64 0, .int .i64 0, .int .u32 0] 91 (0, 0))) (by kernel_rfl) ?_ (fun hHeld => ?_)
  · exact ⟨HW.out.c, HW.out.e⟩
  refine wpAnyH_take (i := 0) (v := .func (.func 38) #[] #[]) rfl (by kernel_rfl) (by kernel_rfl) (by kernel_rfl) (fun _ _ _ h => h) (Or.inl ⟨by rfl, ?_⟩) (by assumption) ?_
  · (intro w hSw; have q0 := cell_of hSw.1 0; go_simp; try with_reducible rfl)
  simp only [Act.put, List.getElem_toArray, List.getElem_cons_zero, List.getElem_cons_succ, List.setIfInBounds_toArray, List.set_cons_zero, List.set_cons_succ]
  refine wpAnyH_take (i := 2) (v := .agg #[.int .i64 0, .int .i64 (-1), .int .i64 k, .int .i64 0, .int .i64 0, .int .u32 0, .int .u32 0, .int .u32 0, .int .u32 0, .int .u32 0, .int .i64 0, .int .i64 0, .int .u32 0, .int .u32 0, .int .i64 0, .int .u32 0, .int .u32 0, .int .u32 0, .int .u32 0, .int .i64 0, .int .i64 0, .int .i64 0, .int .u32 0]) rfl (by kernel_rfl) (by kernel_rfl) (by kernel_rfl) (fun _ _ _ h => h) (yieldsIf_load_row (by rfl) 91 _ rfl w.heap.size rfl 91 #[.int .i64 0, .int .i64 (-1), .int .i64 k, .int .i64 0, .int .i64 0, .int .u32 0, .int .u32 0, .int .u32 0, .int .u32 0, .int .u32 0, .int .i64 0, .int .i64 0, .int .u32 0, .int .u32 0, .int .i64 0, .int .u32 0, .int .u32 0, .int .u32 0, .int .u32 0, .int .i64 0, .int .i64 0, .int .i64 0, .int .u32 0] (0, 0) _ (fun w h => h.2) Try.underlying91 rfl ev_info) (by assumption) ?_
  simp only [Act.put, List.getElem_toArray, List.getElem_cons_zero, List.getElem_cons_succ, List.setIfInBounds_toArray, List.set_cons_zero, List.set_cons_succ]
  refine wpAnyH_ready (rs := [1, 3]) (by kernel_rfl) (by simp) ?_
  refine AllReadyH.cons rfl (fun K hK => ?_) (AllReadyH.cons rfl (fun K hK => ?_) AllReadyH.nil)
  · go_simp
    refine hK.out _ _ ?_ (fun hHeld => ?_)
    · ((try dsimp only); exact ⟨HW.out.c, HW.out.e⟩)
    clear hK K
    try simp only [Act.put, List.getElem_toArray, List.getElem_cons_zero, List.getElem_cons_succ, List.setIfInBounds_toArray, List.set_cons_zero, List.set_cons_succ]
    refine wpAnyH_ready (rs := [3]) (by kernel_rfl) (by simp) ?_
    refine AllReadyH.cons rfl (fun K hK => ?_) AllReadyH.nil
    go_simp
    (go_at_call 65; refine (HM.out _).mono ?_; rintro e w3 ⟨rfl, k3⟩; replace HW := Lib.hid (HW.out.none k3); obtain ⟨n0, n1, n2, f0, f1, f2, lN⟩ := three_cells HW.out.n; clear k3)
    go_wp2_with fail
    refine hK.out _ _ ?_ (fun hHeld => ?_)
    · ((try dsimp only); exact ⟨HW.out.c, HW.out.e⟩)
    clear hK K
    try simp only [Act.put, List.getElem_toArray, List.getElem_cons_zero, List.getElem_cons_succ, List.setIfInBounds_toArray, List.set_cons_zero, List.set_cons_succ]
    refine wpAnyH_ready (rs := [4]) (by kernel_rfl) (by simp) ?_
    refine AllReadyH.cons rfl (fun K hK => ?_) AllReadyH.nil
    go_simp
    (go_at_call 38; refine (HT.out _).mono ?_; rintro e w4 ⟨rfl, k4⟩; replace HW := Lib.hid (HW.out.none k4); obtain ⟨n0, n1, n2, f0, f1, f2, lN⟩ := three_cells HW.out.n; obtain ⟨r0, r1, r2, g0, g1, g2, lr⟩ := three_cells HW.out.r; clear k4)
    go_wp2_with fail
    refine hK.out _ _ ?_ (fun hHeld => ?_)
    · ((try dsimp only); exact ⟨HW.out.c, HW.out.e⟩)
    clear hK K
    try simp only [Act.put, List.getElem_toArray, List.getElem_cons_zero, List.getElem_cons_succ, List.setIfInBounds_toArray, List.set_cons_zero, List.set_cons_succ]
    refine wpAnyH_ready (rs := [5]) (by kernel_rfl) (by simp) ?_
    refine AllReadyH.cons rfl (fun K hK => ?_) AllReadyH.nil
    go_simp
    refine hK.out _ _ ?_ (fun hHeld => ?_)
    · ((try dsimp only); exact ⟨heap_other (heap_other (heap_other HW.out.c hCN _) hCN _) hCN _, heap_other (heap_other (heap_other HW.out.e hne _) hne _) hne _⟩)
    clear hK K
    refine wpAnyH_done (by kernel_rfl) ?_ _
    refine NoPanic.normal ?_
    clear hHeld
    go_wp2
    refine bodyPost_ret (v := .agg #[.int .i64 p, .int .i64 q, .int .i64 v]) (by simp [results, Try.results64, go_sem, *]) rfl ⟨rfl, ?_, ?_⟩
    · exact heap_other (heap_other (heap_other (heap_set (heap_set (heap_set HW.out.n 0 (.int .i64 p)) 1 (.int .i64 q)) 2 (.int .i64 v)) hN1 _) hN1 _) hN1 _
    · exact ((((((HW.out.keeps.mono (T := fun k => k = N) (fun _ _ h => h.elim)).setCell (p := ⟨N, 0, none⟩) (.inl rfl) _).setCell (p := ⟨N, 1, none⟩) (.inl rfl) _).setCell (p := ⟨N, 2, none⟩) (.inl rfl) _).setCell (p := ⟨w.heap.size + 1, 0, none⟩) (.inr hle) _).setCell (p := ⟨w.heap.size + 1, 1, none⟩) (.inr hle) _).setCell (p := ⟨w.heap.size + 1, 2, none⟩) (.inr hle) _
  · go_simp
    (go_at_call 65; refine (HM.out _).mono ?_; rintro e w3 ⟨rfl, k3⟩; replace HW := Lib.hid (HW.out.none k3); obtain ⟨n0, n1, n2, f0, f1, f2, lN⟩ := three_cells HW.out.n; clear k3)
    go_wp2_with fail
    refine hK.out _ _ ?_ (fun hHeld => ?_)
    · ((try dsimp only); exact ⟨HW.out.c, HW.out.e⟩)
    clear hK K
    try simp only [Act.put, List.getElem_toArray, List.getElem_cons_zero, List.getElem_cons_succ, List.setIfInBounds_toArray, List.set_cons_zero, List.set_cons_succ]
    refine wpAnyH_ready (rs := [1]) (by kernel_rfl) (by simp) ?_
    refine AllReadyH.cons rfl (fun K hK => ?_) AllReadyH.nil
    go_simp
    refine hK.out _ _ ?_ (fun hHeld => ?_)
    · ((try dsimp only); exact ⟨HW.out.c, HW.out.e⟩)
    clear hK K
    try simp only [Act.put, List.getElem_toArray, List.getElem_cons_zero, List.getElem_cons_succ, List.setIfInBounds_toArray, List.set_cons_zero, List.set_cons_succ]
    refine wpAnyH_ready (rs := [4]) (by kernel_rfl) (by simp) ?_
    refine AllReadyH.cons rfl (fun K hK => ?_) AllReadyH.nil
    go_simp
    (go_at_call 38; refine (HT.out _).mono ?_; rintro e w4 ⟨rfl, k4⟩; replace HW := Lib.hid (HW.out.none k4); obtain ⟨n0, n1, n2, f0, f1, f2, lN⟩ := three_cells HW.out.n; obtain ⟨r0, r1, r2, g0, g1, g2, lr⟩ := three_cells HW.out.r; clear k4)
    go_wp2_with fail
    refine hK.out _ _ ?_ (fun hHeld => ?_)
    · ((try dsimp only); exact ⟨HW.out.c, HW.out.e⟩)
    clear hK K
    try simp only [Act.put, List.getElem_toArray, List.getElem_cons_zero, List.getElem_cons_succ, List.setIfInBounds_toArray, List.set_cons_zero, List.set_cons_succ]
    refine wpAnyH_ready (rs := [5]) (by kernel_rfl) (by simp) ?_
    refine AllReadyH.cons rfl (fun K hK => ?_) AllReadyH.nil
    go_simp
    refine hK.out _ _ ?_ (fun hHeld => ?_)
    · ((try dsimp only); exact ⟨heap_other (heap_other (heap_other HW.out.c hCN _) hCN _) hCN _, heap_other (heap_other (heap_other HW.out.e hne _) hne _) hne _⟩)
    clear hK K
    refine wpAnyH_done (by kernel_rfl) ?_ _
    refine NoPanic.normal ?_
    clear hHeld
    go_wp2
    refine bodyPost_ret (v := .agg #[.int .i64 p, .int .i64 q, .int .i64 v]) (by simp [results, Try.results64, go_sem, *]) rfl ⟨rfl, ?_, ?_⟩
    · exact heap_other (heap_other (heap_other (heap_set (heap_set (heap_set HW.out.n 0 (.int .i64 p)) 1 (.int .i64 q)) 2 (.int .i64 v)) hN1 _) hN1 _) hN1 _
    · exact ((((((HW.out.keeps.mono (T := fun k => k = N) (fun _ _ h => h.elim)).setCell (p := ⟨N, 0, none⟩) (.inl rfl) _).setCell (p := ⟨N, 1, none⟩) (.inl rfl) _).setCell (p := ⟨N, 2, none⟩) (.inl rfl) _).setCell (p := ⟨w.heap.size + 1, 0, none⟩) (.inr hle) _).setCell (p := ⟨w.heap.size + 1, 1, none⟩) (.inr hle) _).setCell (p := ⟨w.heap.size + 1, 2, none⟩) (.inr hle) _

end Go.Proofs.Ytkpjedpnknaliac
