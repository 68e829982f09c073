import Derived.Test.YtkpjedpnknaliacWalkS
import Derived.Test.YtkpjedpnknaliacWalkW
import Derived.Test.YtkpjedpnknaliacHas
namespace Go.Proofs.Ytkpjedpnknaliac
open Go.ChangeShapes Go.WideShapes Go.ChangeAt Go.RowKit
set_option linter.unusedVariables false
set_option linter.unusedSimpArgs false
theorem pair_then (a b t c d u : Int) : ∃ (p q v : Int) (r : Bool), (∀ w, Calls Try.prog 12 #[.agg #[.int .i64 a, .int .i64 b, .int .i64 t], .agg #[.int .i64 c, .int .i64 d, .int .i64 u]] w fun e w' => e = .returned (.tuple #[.agg #[.int .i64 p, .int .i64 q, .int .i64 v], .bool r]) ∧ Keeps (fun _ => False) w w') ∧
    (∀ w, Calls Try.prog 14 #[.agg #[.int .i64 a, .int .i64 b, .int .i64 t], .agg #[.int .i64 c, .int .i64 d, .int .i64 u]] w fun e w' => e = .returned (.tuple #[.agg #[.int .i64 p, .int .i64 q, .int .i64 v], .bool r]) ∧ Keeps (fun _ => False) w w') := by
  cases h : (rightW a b t && rightW c d u)
  · exact ⟨0, 0, 0, false, fun w => wThen_no a b t c d u w h, fun w => rThen_no a b t c d u w h⟩
  · rw [Bool.and_eq_true] at h
    have hb := rightW_bds h.1
    obtain ⟨n, rfl⟩ : ∃ n : Nat, t = (n : Int) := ⟨t.toNat, by omega⟩
    obtain ⟨r, hr⟩ : ∃ r, r = rightW (a + (turnN n (c, d)).1) (b + (turnN n (c, d)).2) (((n : Int) + u).tmod 4) := ⟨_, rfl⟩
    refine ⟨if r then a + (turnN n (c, d)).1 else 0, if r then b + (turnN n (c, d)).2 else 0, if r then ((n : Int) + u).tmod 4 else 0, r, fun w => (wThen_yes a b c d u n w h.1 h.2).mono fun e w' hh => ?_, fun w => (rThen_yes a b c d u n w h.1 h.2).mono fun e w' hh => ?_⟩
    all_goals
      obtain ⟨p, q, v, s, he, hs, hp, hq, hv, hk⟩ := hh
      rw [← hr] at hs
      subst hs; subst hp; subst hq; subst hv
      exact ⟨he, hk⟩
theorem pair_back (a b t : Int) : ∃ (p q v : Int) (r : Bool), (∀ w, Calls Try.prog 15 #[.agg #[.int .i64 a, .int .i64 b, .int .i64 t]] w fun e w' => e = .returned (.tuple #[.agg #[.int .i64 p, .int .i64 q, .int .i64 v], .bool r]) ∧ Keeps (fun _ => False) w w') ∧
    (∀ w, Calls Try.prog 16 #[.agg #[.int .i64 a, .int .i64 b, .int .i64 t]] w fun e w' => e = .returned (.tuple #[.agg #[.int .i64 p, .int .i64 q, .int .i64 v], .bool r]) ∧ Keeps (fun _ => False) w w') := by
  cases h : rightW a b t
  · exact ⟨0, 0, 0, false, fun w => wBack_no a b t w h, fun w => rBack_no a b t w h⟩
  · have hb := rightW_bds h
    obtain ⟨n, rfl⟩ : ∃ n : Nat, t = (n : Int) := ⟨t.toNat, by omega⟩
    have hn : n ≤ 3 := by omega
    have key : (4 - (n : Int)).tmod 4 = ((turns (-(n : Int)) : Nat) : Int) := by
      match n, hn with
      | 0, _ => rfl
      | 1, _ => rfl
      | 2, _ => rfl
      | 3, _ => rfl
    exact ⟨_, _, _, true, fun w => wBack_yes a b n _ w h key (turns_le _), fun w => rBack_yes a b n _ w h key (turns_le _) rfl⟩
theorem six_cells {w : World} {b g : Nat} {x y z x' y' z' : Value} {E F : TypeId} (h : w.heap[b]? = some (.cells #[x, y, z] E (0, 0))) (h' : w.heap[g]? = some (.cells #[x', y', z'] F (0, 0))) :
    w.cell? ⟨b, 0, none⟩ = some x ∧ w.cell? ⟨b, 1, none⟩ = some y ∧ w.cell? ⟨b, 2, none⟩ = some z ∧ w.cell? ⟨g, 0, none⟩ = some x' ∧ w.cell? ⟨g, 1, none⟩ = some y' ∧ w.cell? ⟨g, 2, none⟩ = some z' :=
  ⟨cell_of h 0, cell_of h 1, cell_of h 2, cell_of h' 0, cell_of h' 1, cell_of h' 2⟩
theorem fifteen_cells {w : World} {b1 b2 b3 b4 b5 : Nat} {x1 y1 z1 x2 y2 z2 x3 y3 z3 x4 y4 z4 x5 y5 z5 : Value} {E1 E2 E3 E4 E5 : TypeId} (h1 : w.heap[b1]? = some (.cells #[x1, y1, z1] E1 (0, 0))) (h2 : w.heap[b2]? = some (.cells #[x2, y2, z2] E2 (0, 0))) (h3 : w.heap[b3]? = some (.cells #[x3, y3, z3] E3 (0, 0))) (h4 : w.heap[b4]? = some (.cells #[x4, y4, z4] E4 (0, 0))) (h5 : w.heap[b5]? = some (.cells #[x5, y5, z5] E5 (0, 0))) :
    w.cell? ⟨b1, 0, none⟩ = some x1 ∧ w.cell? ⟨b1, 1, none⟩ = some y1 ∧ w.cell? ⟨b1, 2, none⟩ = some z1 ∧ w.cell? ⟨b2, 0, none⟩ = some x2 ∧ w.cell? ⟨b2, 1, none⟩ = some y2 ∧ w.cell? ⟨b2, 2, none⟩ = some z2 ∧ w.cell? ⟨b3, 0, none⟩ = some x3 ∧ w.cell? ⟨b3, 1, none⟩ = some y3 ∧ w.cell? ⟨b3, 2, none⟩ = some z3 ∧ w.cell? ⟨b4, 0, none⟩ = some x4 ∧ w.cell? ⟨b4, 1, none⟩ = some y4 ∧ w.cell? ⟨b4, 2, none⟩ = some z4 ∧ w.cell? ⟨b5, 0, none⟩ = some x5 ∧ w.cell? ⟨b5, 1, none⟩ = some y5 ∧ w.cell? ⟨b5, 2, none⟩ = some z5 :=
  ⟨cell_of h1 0, cell_of h1 1, cell_of h1 2, cell_of h2 0, cell_of h2 1, cell_of h2 2, cell_of h3 0, cell_of h3 1, cell_of h3 2, cell_of h4 0, cell_of h4 1, cell_of h4 2, cell_of h5 0, cell_of h5 1, cell_of h5 2⟩
theorem Has.put3 {w w1 : World} {X : Nat} {x y z x' y' z' : Value} {E : TypeId} {L : List (Nat × Obj)} (h : Has w w1 ((X, .cells #[x, y, z] E (0, 0)) :: L)) (hX : w.heap.size ≤ X) (hL' : ∀ o ∈ L, o.2 ≠ .cells #[x, y, z] E (0, 0)) : Has w (((w1.setCell ⟨X, 0, Option.none⟩ x').setCell ⟨X, 1, Option.none⟩ y').setCell ⟨X, 2, Option.none⟩ z') ((X, .cells #[x', y', z'] E (0, 0)) :: L) := by
  have hL : ∀ o ∈ L, o.1 ≠ X := fun o ho e => hL' o ho (by
    have h1 := h.all o (.tail _ ho)
    rw [e, h.hd] at h1
    exact (Option.some.inj h1).symm)
  exact ⟨((h.keeps.setCell (p := ⟨X, 0, Option.none⟩) (.inr hX) _).setCell (p := ⟨X, 1, Option.none⟩) (.inr hX) _).setCell (p := ⟨X, 2, Option.none⟩) (.inr hX) _, fun o ho => by
    rcases List.mem_cons.1 ho with rfl | ho
    · exact heap_set (heap_set (heap_set h.hd 0 x') 1 y') 2 z'
    · exact heap_other (heap_other (heap_other (h.all o (.tail _ ho)) (hL o ho) _) (hL o ho) _) (hL o ho) _⟩
set_option maxRecDepth 20000 in
set_option maxHeartbeats 4000000 in
theorem walkJoins_plain (a b t c d u : Int) (w : World) :
    Calls Try.prog 5 #[.agg #[.int .i64 a, .int .i64 b, .int .i64 t], .agg #[.int .i64 c, .int .i64 d, .int .i64 u]] w fun e w' => e = .returned (.bool true) ∧ Keeps (fun _ => False) w w' := by
  obtain ⟨p, q, v, r, gt, rt⟩ := pair_then a b t c d u
  obtain ⟨p', q', v', r', gb, rb⟩ := pair_back a b t
  have PT := Lib.hid (And.intro gt rt)
  have PB := Lib.hid (And.intro gb rb)
  have HB := Lib.hid (((Has.start w).alloc (.cells #[.int .i64 a, .int .i64 b, .int .i64 t] 50)).alloc (.cells #[.int .i64 c, .int .i64 d, .int .i64 u] 50) |>.drew)
  rw [show (w.alloc (.cells #[.int .i64 a, .int .i64 b, .int .i64 t] 50)).heap.size = w.heap.size + 1 by simp] at HB
  have HSZ : ((w.alloc (.cells #[.int .i64 a, .int .i64 b, .int .i64 t] 50)).alloc (.cells #[.int .i64 c, .int .i64 d, .int .i64 u] 50)).drew.heap.size = w.heap.size + 1 + 1 := by simp [World.drew]
  clear gt rt gb rb
  go_enter Try.func5, Try.ntmps5
  go_wp2_with fail
  rename_i K hK
  have REST : ∀ (X : Nat) (wr : World) (u13 u14 u15 u16 u17 u18 u19 u20 : Value), Has w wr [(X, .cells #[.int .i64 p, .int .i64 q, .int .i64 v] 53 (0, 0)), (w.heap.size + 1, .cells #[.int .i64 c, .int .i64 d, .int .i64 u] 50 (0, 0)), (w.heap.size, .cells #[.int .i64 a, .int .i64 b, .int .i64 t] 50 (0, 0))] → K { tmps := #[.agg #[.int .i64 a, .int .i64 b, .int .i64 t], .agg #[.int .i64 c, .int .i64 d, .int .i64 u], .pointer (some ⟨w.heap.size, 0, none⟩), .pointer (some ⟨w.heap.size + 1, 0, none⟩), .bool false, .pointer (some ⟨X, 0, none⟩), .bool r, undef, undef, undef, undef, undef, undef, u13, u14, u15, u16, u17, u18, u19, u20, undef, undef, undef, undef, undef, undef, undef, undef, undef, undef, undef, undef, undef, undef, undef, undef, undef, undef, undef, undef, undef, undef, undef, undef, undef, undef, undef, undef, undef, undef, undef, undef, undef, undef, undef, undef, undef, undef, undef, undef, undef, undef, undef, undef, undef, undef, undef, undef], defers := [] } wr := by
    intro X wr u13 u14 u15 u16 u17 u18 u19 u20 HX
    replace HX := Lib.hid HX
    refine hK _ _ ?_
    clear hK HB
    obtain ⟨x0, x1, x2, _, _, _, l1⟩ := three_cells (HX.out.at 2 rfl)
    obtain ⟨y0, y1, y2, _, _, _, l2⟩ := three_cells (HX.out.at 1 rfl)
    go_wp2_with fail
    refine (PT.out.2 _).mono ?_
    rintro e w4 ⟨rfl, k4⟩
    replace HX := Lib.hid ((HX.out.none k4).alloc (.cells #[.int .i64 p, .int .i64 q, .int .i64 v] 50))
    clear k4 x0 x1 x2 y0 y1 y2
    obtain ⟨x0, x1, x2, _, _, _, l3⟩ := three_cells (HX.out.at 3 rfl)
    go_wp2_with fail
    refine (wOwn_any _ _ _ _).mono ?_
    rintro e w5 ⟨rfl, k5⟩
    replace HX := Lib.hid (HX.out.none k5)
    clear k5 x0 x1 x2
    go_wp2_with fail
    refine (PB.out.1 _).mono ?_
    rintro e w6 ⟨rfl, k6⟩
    replace HX := Lib.hid ((HX.out.none k6).alloc (.cells #[.int .i64 p', .int .i64 q', .int .i64 v'] 53))
    clear k6
    obtain ⟨x0, x1, x2, _, _, _, l4⟩ := three_cells (HX.out.at 4 rfl)
    go_wp2_with fail
    refine (PB.out.2 _).mono ?_
    rintro e w7 ⟨rfl, k7⟩
    replace HX := Lib.hid ((HX.out.none k7).alloc (.cells #[.int .i64 p', .int .i64 q', .int .i64 v'] 50) |>.drew)
    clear k7 x0 x1 x2
    obtain ⟨a0, a1, a2, _, _, _, la⟩ := three_cells (HX.out.at 5 rfl)
    obtain ⟨x0, x1, x2, _, _, _, lx⟩ := three_cells (HX.out.at 3 rfl)
    obtain ⟨y0, y1, y2, _, _, _, ly⟩ := three_cells (HX.out.at 2 rfl)
    obtain ⟨z0, z1, z2, _, _, _, lz⟩ := three_cells (HX.out.at 1 rfl)
    obtain ⟨v0, v1, v2, _, _, _, lv⟩ := three_cells (HX.out.at 0 rfl)
    go_wp2_with fail
    clear a0 a1 a2 x0 x1 x2 y0 y1 y2 z0 z1 z2 v0 v1 v2
    go_region_held3 (fun w' => w'.cell? ⟨w.heap.size, 0, none⟩ = some (.int .i64 a) ∧ w'.cell? ⟨w.heap.size, 1, none⟩ = some (.int .i64 b) ∧ w'.cell? ⟨w.heap.size, 2, none⟩ = some (.int .i64 t) ∧ w'.cell? ⟨X, 0, none⟩ = some (.int .i64 p) ∧ w'.cell? ⟨X, 1, none⟩ = some (.int .i64 q) ∧ w'.cell? ⟨X, 2, none⟩ = some (.int .i64 v) ∧ w'.cell? ⟨w4.heap.size, 0, none⟩ = some (.int .i64 p) ∧ w'.cell? ⟨w4.heap.size, 1, none⟩ = some (.int .i64 q) ∧ w'.cell? ⟨w4.heap.size, 2, none⟩ = some (.int .i64 v) ∧ w'.cell? ⟨w6.heap.size, 0, none⟩ = some (.int .i64 p') ∧ w'.cell? ⟨w6.heap.size, 1, none⟩ = some (.int .i64 q') ∧ w'.cell? ⟨w6.heap.size, 2, none⟩ = some (.int .i64 v') ∧ w'.cell? ⟨w7.heap.size, 0, none⟩ = some (.int .i64 p') ∧ w'.cell? ⟨w7.heap.size, 1, none⟩ = some (.int .i64 q') ∧ w'.cell? ⟨w7.heap.size, 2, none⟩ = some (.int .i64 v'))
      (first
        | exact fifteen_cells (HX.out.at 5 rfl) (HX.out.at 3 rfl) (HX.out.at 2 rfl) (HX.out.at 1 rfl) (HX.out.at 0 rfl)
        | go_keep)
      (first
        | (go_at_call 17; refine (wback_any _ _ _ _).mono ?_; rintro e w8 ⟨rfl, k8⟩; replace HX := Lib.hid (HX.out.none k8); clear k8)
        | (go_at_call 13; refine (wOwn_any _ _ _ _).mono ?_; rintro e w8 ⟨rfl, k8⟩; replace HX := Lib.hid (HX.out.none k8); clear k8)
        | (go_at_call 18; refine (wright_any _ _ _ _).mono ?_; rintro e w8 ⟨rfl, k8⟩; replace HX := Lib.hid (HX.out.none k8); clear k8)
        | (go_at_call 19; refine (rrightw_any _ _ _ _).mono ?_; rintro e w8 ⟨rfl, k8⟩; replace HX := Lib.hid (HX.out.none k8); clear k8)
        | (go_at_call 20; refine (walive_any _).mono ?_; rintro e w8 ⟨rfl, k8⟩; replace HX := Lib.hid (HX.out.none k8); clear k8))
    all_goals
      go_wp2
      go_ret
      exact ⟨rfl, HX.out.keeps⟩
  clear hK
  go_region_held3 (fun w' => w'.cell? ⟨w.heap.size, 0, none⟩ = some (.int .i64 a) ∧ w'.cell? ⟨w.heap.size, 1, none⟩ = some (.int .i64 b) ∧ w'.cell? ⟨w.heap.size, 2, none⟩ = some (.int .i64 t) ∧ w'.cell? ⟨w.heap.size + 1, 0, none⟩ = some (.int .i64 c) ∧ w'.cell? ⟨w.heap.size + 1, 1, none⟩ = some (.int .i64 d) ∧ w'.cell? ⟨w.heap.size + 1, 2, none⟩ = some (.int .i64 u))
    (first
      | exact six_cells (HB.out.at 1 rfl) (HB.out.at 0 rfl)
      | exact six_cells (HB.out.at 2 rfl) (HB.out.at 1 rfl)
      | exact six_cells ((HB.out.alloc _).at 2 rfl) ((HB.out.alloc _).at 1 rfl)
      | exact six_cells ((HB.out.put3 lX (by simp)).at 2 rfl) ((HB.out.put3 lX (by simp)).at 1 rfl)
      | go_keep)
    (first
      | (go_at_call 13; refine (wOwn_any _ _ _ _).mono ?_; rintro e w3 ⟨rfl, k3⟩; (first | (replace HB := Lib.hid (HB.out.none k3)) | (have lX := HB.out.keeps.size; replace HB := Lib.hid ((HB.out.alloc _).none k3); (try rw [HSZ] at HB lX))); clear k3; obtain ⟨z0, z1, z2, f0, f1, f2, lz⟩ := three_cells (HB.out.at 0 rfl))
      | (go_at_call 12; refine (PT.out.1 _).mono ?_; rintro e w3 ⟨rfl, k3⟩; (first | (replace HB := Lib.hid (HB.out.none k3)) | (have lX := HB.out.keeps.size; replace HB := Lib.hid ((HB.out.alloc _).none k3); (try rw [HSZ] at HB lX))); clear k3; obtain ⟨z0, z1, z2, f0, f1, f2, lz⟩ := three_cells (HB.out.at 0 rfl)))
  all_goals
    go_wp2_with fail
    first | exact HB.out.alloc _ | exact HB.out.put3 lX (by simp)
end Go.Proofs.Ytkpjedpnknaliac
