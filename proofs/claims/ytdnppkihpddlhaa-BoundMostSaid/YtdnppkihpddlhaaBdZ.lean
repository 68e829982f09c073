import Derived.Test.YtdnppkihpddlhaaBdY
import Derived.Test.YtdnppkihpddlhaaPlD
import Derived.Deep.RegionHeld3
namespace Go.Proofs.Ytdnppkihpddlhaa
open Go.ChangeShapes Go.WideShapes Go.ChangeAt Go.RowKit
set_option linter.unusedVariables false
set_option linter.unusedSimpArgs false
set_option maxRecDepth 100000
theorem places_one {w : World} {g : Nat} {F : Nat → Nat → Int} (h : PlacesAt w g 1 F) : w.heap[g]? = some (.cells (plC (F 0)) 41 (0, 0)) := by
  obtain ⟨cs, h1, h2, h3⟩ := h
  have e : cs = plC (F 0) := by
    apply Array.ext
    · exact h2
    · intro i h5 h6
      have h7 := h3 0 (by omega) i ((plC (F 0))[i]) (by rw [Array.getElem?_toList]; exact Array.getElem?_eq_getElem h6)
      rw [Nat.zero_mul, Nat.zero_add, Array.getElem?_eq_getElem h5] at h7
      exact Option.some.inj h7
  rw [← e]; exact h1
theorem iface_neq (T : TypeId) (b : Nat) (w : World) : (binOp .neq 37 (.iface T (.pointer (some ⟨b, 0, none⟩))) .nilIface).run Try.prog w = .ok (.bool true) w := by kernel_rfl
theorem iface_eql (T : TypeId) (b : Nat) (w : World) : (binOp .eql 37 (.iface T (.pointer (some ⟨b, 0, none⟩))) .nilIface).run Try.prog w = .ok (.bool false) w := by kernel_rfl
theorem nil_neq (w : World) : (binOp .neq 37 .nilIface .nilIface).run Try.prog w = .ok (.bool false) w := by kernel_rfl
theorem known_acts {k : Int} (p : Nat → Int) (h : knownP k = false) : actsP k p = 0 := by
  unfold knownP at h
  rw [decide_eq_false_iff_not] at h
  unfold actsP ringA fourA lockA flagA
  repeat' split
  all_goals (first | rfl | omega)
theorem rout_form {E : Prop} {k : Int} {p : Nat → Int} {w w' : World} {e : Ending} (h : RoutQ E k p w e w') : ∃ v, e = .returned v ∧ Keeps (fun _ => False) w w' ∧ ((v = .nilIface ∧ actsP k p = 0) ∨ (∃ T b, v = .iface T (.pointer (some ⟨b, 0, none⟩)) ∧ MachOf E k (p 3) (actsP k p) w (.returned v) w')) := by
  rcases h with ⟨rfl, h⟩ | ⟨h0, T, b, fA, fT, fR, I, D, rfl, h⟩
  · exact ⟨_, rfl, h.2, .inl ⟨rfl, h.1⟩⟩
  · exact ⟨_, rfl, h.2.2.2, .inr ⟨T, b, rfl, ⟨T, b, fA, fT, fR, I, D, rfl, h⟩⟩⟩
theorem machOf_low {E : Prop} {k W most : Int} {w0 w w' : World} {e : Ending} (h : MachOf E k W most w e w') (k0 : Keeps (fun _ => False) w0 w) : MachOf E k W most w0 e w' := by
  obtain ⟨T, b, fA, fT, fR, I, D, h1, h2, h3, h4, h5⟩ := h
  exact ⟨T, b, fA, fT, fR, I, D, h1, h2, h3, Nat.le_trans k0.size h4, k0.trans h5⟩
set_option maxHeartbeats 4000000 in
theorem routine_no (E : Prop) (k n : Int) (V p : Nat → Int) (w : World) (g c : Nat) (hg : w.heap[g]? = some (.cells (plC p) 41 (0, 0))) (hp : PlOk p) (hk : knownP k = false) : Calls Try.prog 8 #[.slice (some ⟨g, 0, none⟩) 1 c, .agg (clC k 0 V n)] w (MachOf E k (p 3) (actsP k p) w) := by
  have HKK := Lib.hid hk
  have HN := Lib.hid (known_acts p hk)
  clear hk hp
  obtain ⟨W1, hW1⟩ : ∃ W, W = w.alloc (.cells (clC k 0 V n) 28) := ⟨_, rfl⟩
  have h1 := ((Has.start w).old hg).alloc (.cells (clC k 0 V n) 28)
  rw [← hW1] at h1
  have HB := Lib.hid h1
  have HW := Lib.hid hW1
  have HKN := Lib.hid (fun W => known_any k W)
  obtain ⟨k0, k1, k2, k3, k4, k5, k6⟩ := seven_cells (h1.at 0 rfl)
  have l1 := lt_of (h1.at 0 rfl)
  clear h1 hW1 hg
  go_enter Try.func8, Try.ntmps8
  go_wp2_with (first
    | (refine Great.wpList_boxTo rfl 28 (.tmp 1) rfl (some 3) rfl w.heap.size rfl (clC k 0 V n) rfl ?_; rw [← HW.out]))
  refine (HKN.out _).mono ?_
  rintro e w1 ⟨rfl, hw1⟩
  subst hw1
  rw [HKK.out]
  go_wp2_with fail
  go_ret
  have hm := ref_mach E k (p 3) 1 (by omega) w1.heap.size
  rw [← HN.out] at hm
  exact machOf_mk hm (.inr ⟨rfl, heap_new _ _⟩) HB.out.keeps.size (HB.out.keeps.alloc _)
set_option maxHeartbeats 4000000 in
theorem routine_yes (E : Prop) (k n : Int) (V p : Nat → Int) (w : World) (g c : Nat) (hg : w.heap[g]? = some (.cells (plC p) 41 (0, 0))) (hp : PlOk p) (hk : knownP k = true) : Calls Try.prog 8 #[.slice (some ⟨g, 0, none⟩) 1 c, .agg (clC k 0 V n)] w (MachOf E k (p 3) (actsP k p) w) := by
  have HKK := Lib.hid hk
  have HR := Lib.hid (fun W => rout_any E k 0 n V p W hp)
  clear hk hp
  obtain ⟨W1, hW1⟩ : ∃ W, W = w.alloc (.cells (clC k 0 V n) 28) := ⟨_, rfl⟩
  have h1 := ((Has.start w).old hg).alloc (.cells (clC k 0 V n) 28)
  rw [← hW1] at h1
  have HB := Lib.hid h1
  have HW := Lib.hid hW1
  have HKN := Lib.hid (fun W => known_any k W)
  obtain ⟨k0, k1, k2, k3, k4, k5, k6⟩ := seven_cells (h1.at 0 rfl)
  have l1 := lt_of (h1.at 0 rfl)
  clear h1 hW1 hg
  go_enter Try.func8, Try.ntmps8
  go_wp2_with (first
    | (refine Great.wpList_boxTo rfl 28 (.tmp 1) rfl (some 3) rfl w.heap.size rfl (clC k 0 V n) rfl ?_; rw [← HW.out]))
  refine (HKN.out _).mono ?_
  rintro e w1 ⟨rfl, hw1⟩
  subst hw1
  rw [HKK.out]
  obtain ⟨c0, c1, c2, c3, c4⟩ := five_cells (HB.out.at 1 rfl)
  have l0 := lt_of (HB.out.at 1 rfl)
  have HS := Lib.hid (And.intro (five_cells (HB.out.at 1 rfl)) (seven_cells (HB.out.at 0 rfl)))
  go_wp2_with fail
  go_region_held3 (fun w' => (w'.cell? ⟨g, 0, none⟩ = some (.int .i64 (p 0)) ∧ w'.cell? ⟨g, 1, none⟩ = some (.int .i64 (p 1)) ∧ w'.cell? ⟨g, 2, none⟩ = some (.int .i64 (p 2)) ∧ w'.cell? ⟨g, 3, none⟩ = some (.int .i64 (p 3)) ∧ w'.cell? ⟨g, 4, none⟩ = some (.int .i64 (p 4))) ∧ w'.cell? ⟨w.heap.size, 0, none⟩ = some (.int .i64 k) ∧ w'.cell? ⟨w.heap.size, 1, none⟩ = some (.int .i64 0) ∧ w'.cell? ⟨w.heap.size, 2, none⟩ = some (.int .u32 (V 0)) ∧ w'.cell? ⟨w.heap.size, 3, none⟩ = some (.int .u32 (V 1)) ∧ w'.cell? ⟨w.heap.size, 4, none⟩ = some (.int .u32 (V 2)) ∧ w'.cell? ⟨w.heap.size, 5, none⟩ = some (.int .u32 (V 3)) ∧ w'.cell? ⟨w.heap.size, 6, none⟩ = some (.int .u32 n))
    (first
      | exact HS.out
      | exact C9.out
      | go_keep)
    (first
      | (go_at_call 16; refine (HR.out _).mono ?_; rintro e9 w9 h9; obtain ⟨v, rfl, k9, h9⟩ := rout_form h9; have H9 := Lib.hid h9; have K9 := Lib.hid k9; have C9 := Lib.hid (And.intro (five_cells (K9.out.at (show w1.drew.heap[g]? = _ from HB.out.at 1 rfl) fun h => h)) (seven_cells (K9.out.at (show w1.drew.heap[w.heap.size]? = _ from HB.out.at 0 rfl) fun h => h))); clear h9 k9)
      | fail)
  all_goals
    have HKA := Lib.hid (HB.out.keeps.drew.trans K9.out)
    rcases H9.out with ⟨rfl, h0⟩ | ⟨T, b, rfl, hm⟩
    · have HN := Lib.hid h0
      have hq := fun w => nil_neq w
      clear h0 k0 k1 k2 k3 k4 k5 k6 c0 c1 c2 c3 c4 l0 l1
      go_wp2_with fail
      go_ret
      have hm := ref_mach E k (p 3) 12 (by omega) w9.heap.size
      rw [← HN.out] at hm
      exact machOf_mk hm (.inr ⟨rfl, heap_new _ _⟩) HKA.out.size (HKA.out.alloc _)
    · have HM := Lib.hid hm
      have hq := fun w => iface_neq T b w
      clear hm k0 k1 k2 k3 k4 k5 k6 c0 c1 c2 c3 c4 l0 l1
      go_wp2_with fail
      go_ret
      exact machOf_low HM.out HB.out.keeps.drew
theorem routine_any (E : Prop) (k n : Int) (V p : Nat → Int) (w : World) (g c : Nat) (hg : w.heap[g]? = some (.cells (plC p) 41 (0, 0))) (hp : PlOk p) : Calls Try.prog 8 #[.slice (some ⟨g, 0, none⟩) 1 c, .agg (clC k 0 V n)] w (MachOf E k (p 3) (actsP k p) w) := by
  cases hk : knownP k
  · exact routine_no E k n V p w g c hg hp hk
  · exact routine_yes E k n V p w g c hg hp hk
end Go.Proofs.Ytdnppkihpddlhaa
