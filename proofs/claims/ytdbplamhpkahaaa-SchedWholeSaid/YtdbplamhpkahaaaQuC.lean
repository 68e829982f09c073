import Derived.Test.YtdbplamhpkahaaaQuL
import Derived.Test.YtdbplamhpkahaaaQuN
import Derived.Test.YtdbplamhpkahaaaQuD
namespace Go.Proofs.Ytdbplamhpkahaaa
open Go.RowKit Go.Shelf
set_option linter.unusedVariables false
attribute [local go_sem] Oper.semAt_some
theorem owns_slice {w : World} {B : Nat} {E : TypeId} {s : Nat} {v : Value} {n : Nat} {xs : List Value} (h : w.ownsRow B E s v n xs) : ∃ a c, v = .slice a n c := by
  obtain ⟨_, h | ⟨g, cap, cur, rfl, _⟩⟩ := h
  · exact ⟨none, 0, by rw [h.1, h.2]⟩
  · exact ⟨_, cap, rfl⟩
set_option maxRecDepth 20000 in
theorem Len_any (p : Option Addr) (L : List QN) (w : World) (hQ : QP w p L) (hlen : L.length < 1000000) :
    Calls Try.prog 35 #[.pointer p] w fun e W' => e = .returned (.int .i64 (L.length : Int)) ∧ Below w.heap.size w W' := by
  have HL := Lib.hid (List_any p L w hQ hlen)
  clear hQ
  go_enter Try.func35, Try.ntmps35
  go_wp2_with fail
  refine HL.out.mono ?_
  rintro e w2 ⟨v, rfl, ho, k2⟩
  obtain ⟨a, c, rfl⟩ := owns_slice ho
  clear ho
  go_wp2
  go_ret
  exact ⟨rfl, k2⟩
set_option maxRecDepth 20000 in
theorem Copy_nil (w : World) :
    Calls Try.prog 32 #[.pointer none] w fun e W' => e = .returned (.pointer none) ∧ Below w.heap.size w W' := by
  go_enter Try.func32, Try.ntmps32
  go_wp2
  go_ret
  exact ⟨rfl, Below.refl _ _⟩
/-- A wait joins a list of waits, unless its task has one. -/
def joinW (M : List (Int × Int × Int × Nat)) (v : Int × Int × Int × Nat) : List (Int × Int × Int × Nat) := if M.any (fun u => u.1 == v.1) then M else M ++ [v]
def joinAll (M : List (Int × Int × Int × Nat)) : List (Int × Int × Int × Nat) := M.foldl joinW []
theorem joinAll_snoc (M : List (Int × Int × Int × Nat)) (v : Int × Int × Int × Nat) : joinAll (M ++ [v]) = joinW (joinAll M) v := by simp [joinAll]
theorem fnd_isSome (M : List QN) (t : Int) : (fnd M t).isSome = (M.map QN.wait).any (fun u => u.1 == t) := by
  rw [Bool.eq_iff_iff, fnd, List.find?_isSome, List.any_map]
  simp [QN.wait]
/-- A copy under way. -/
structure CopyAt (w W : World) (C : Nat) (M : List (Int × Int × Int × Nat)) : Prop where
  ring : ∃ N h, IsQ W C N h ∧ N.map QN.wait = M ∧ ∀ x, x ∈ N → w.heap.size ≤ x.g
  low : w.heap.size ≤ C
theorem RS_cells {W : World} {Q : Nat} {L : List QN} {h : Bool} (hq : IsQ W Q L h) {k : Nat} (hk : RS Q L k) : ∃ cs, W.heap[k]? = some (.cells cs 61 (0, 0)) ∨ W.heap[k]? = some (.cells cs 59 (0, 0)) := by
  rcases hk with rfl | ⟨y, hy, rfl⟩
  · exact ⟨_, .inl hq.head⟩
  · obtain ⟨i, hi⟩ := List.getElem?_of_mem hy
    exact ⟨_, .inr (hq.node i y hi)⟩
theorem CopyAt.drew {w W : World} {C : Nat} {M : List (Int × Int × Int × Nat)} (h : CopyAt w W C M) : CopyAt w W.drew C M := by
  obtain ⟨⟨N, h, hq, hN, hlow⟩, hC⟩ := h
  exact ⟨⟨N, h, ⟨hq.head, hq.node, hq.inj, hq.ever⟩, hN, hlow⟩, hC⟩
theorem copyAt_own {β : Type} (w : World) (C : Nat) (f : β → List (Int × Int × Int × Nat)) : Own (fun s W => CopyAt w W C (f s)) := fun s X Y row hs hg hrow => by
  obtain ⟨⟨N, h, hq, hN, hlow⟩, hC⟩ := hs
  refine ⟨⟨N, h, ⟨?_, fun i x hi => ?_, hq.inj, hq.ever⟩, hN, hlow⟩, hC⟩
  · exact cells_own (β := Unit) _ _ _ () X Y row hq.head hg hrow
  · exact cells_own (β := Unit) _ _ _ () X Y row (hq.node i x hi) hg hrow
theorem copy_add (w W : World) (C : Nat) (M : List (Int × Int × Int × Nat)) (t k o : Int) (m : Nat) (h : CopyAt w W C M) (hb : Below w.heap.size w W) (ht : 0 ≤ t ∧ t < 16) :
    Calls Try.prog 31 #[.pointer (some ⟨C, 0, none⟩), av t k o m] W fun e W' => e = .returned (.bool (!(M.any (fun u => u.1 == t)))) ∧ CopyAt w W' C (joinW M (t, k, o, m)) ∧ Below w.heap.size W W' ∧ KeepsOthers W W' ∧ ∀ (B : Nat) (T : TypeId) (v : Value), T ≠ 61 → T ≠ 59 → Boxed W B T v → Boxed W' B T v := by
  obtain ⟨⟨N, h, hq, hN, hlow⟩, hC⟩ := h
  have hany := fnd_isSome N t
  rw [hN] at hany
  cases hf : fnd N t with
  | some y =>
    rw [hf] at hany
    refine (Add_twice C N h t k o m W hq ht y hf).mono ?_
    rintro e W' ⟨rfl, hk⟩
    refine ⟨by rw [← hany]; rfl, ⟨⟨N, h, hq.below (Nat.le_refl _) hk, ?_, hlow⟩, hC⟩, hk.mono hb.size, ⟨hk.size, fun j o hj _ => at_below hk hj (lt_of hj)⟩, fun B T v _ _ hv => at_below hk hv hv.lt⟩
    rw [hN, joinW, ← hany]; rfl
  | none =>
    rw [hf] at hany
    refine (Add_yes C N h t k o m W hq ht hf).mono ?_
    rintro e W' ⟨rfl, g, hg, hq', hk⟩
    refine ⟨by rw [← hany]; rfl, ⟨⟨_, true, hq', ?_, ?_⟩, hC⟩, ?_, ⟨hk.size, fun j o hj ho => ?_⟩, fun B T v h1 h2 hv => ?_⟩
    · rw [List.map_append, hN, joinW, ← hany]; rfl
    · intro x hx
      rcases List.mem_append.1 hx with h1 | h1
      · exact hlow x h1
      · simp at h1; subst h1; exact Nat.le_trans hb.size hg
    · refine hk.below hb.size fun j hj hs => ?_
      rcases hs with rfl | ⟨y, hy, rfl⟩
      · exact hC
      · exact hlow y hy
    · refine hk.at hj fun hs => ?_
      obtain ⟨cs, h1 | h1⟩ := RS_cells hq hs
      · rw [hj] at h1; cases h1; cases ho
      · rw [hj] at h1; cases h1; cases ho
    · refine hk.at hv fun hs => ?_
      obtain ⟨cs, h3 | h3⟩ := RS_cells hq hs
      · rw [show W.heap[B]? = _ from hv] at h3; injection h3 with h3; injection h3 with _ h3 _; exact h1 h3
      · rw [show W.heap[B]? = _ from hv] at h3; injection h3 with h3; injection h3 with _ h3 _; exact h2 h3
set_option maxRecDepth 100000 in
set_option maxHeartbeats 2000000 in
theorem Copy_any (Q : Nat) (L : List QN) (h : Bool) (w : World) (hq : IsQ w Q L h) (hr : ∀ x, x ∈ L → 0 ≤ x.t ∧ x.t < 16) :
    Calls Try.prog 32 #[.pointer (some ⟨Q, 0, none⟩)] w fun e W' => e = .returned (.pointer (some ⟨w.heap.size, 0, none⟩)) ∧ CopyAt w W' w.heap.size (joinAll (L.map QN.wait)) ∧ Below w.heap.size w W' := by
  have hQ : QP w (some ⟨Q, 0, none⟩) L := .inr ⟨Q, h, rfl, hq⟩
  have hf1 : Fence.wide.fn 73 := trivial
  refine (callsIn_wide (n := 9)).1 ?_
  refine callsIn_of_wp_marks Try.func32 rfl trivial ?_ rfl
  simp only [Try.ntmps32, List.size_toArray, List.length_cons, List.length_nil, Nat.reduceAdd, Nat.reduceSub, Array.replicate_succ, Array.replicate_zero, List.push_toArray, List.append_toArray, List.nil_append, List.cons_append]
  gi_wp2_with (gi_at_call 73; refine (links_in _ _ _).mono ?_; rintro e w' ⟨rfl, rfl⟩)
  obtain ⟨w3, hw3⟩ : ∃ w3, (((w.alloc (.cells #[.int .i64 0, .int .i64 0, .int .i64 0, .int .u32 0, .pointer none, .pointer none] 61)).alloc (.cells #[.pointer (some ⟨w.heap.size, 0, none⟩)] 54)).alloc (.cells #[.pointer (some ⟨Q, 0, none⟩)] 54)) = w3 := ⟨_, rfl⟩
  have hs3 : w3.heap.size = w.heap.size + 3 := by rw [← hw3]; simp
  have hb3 : Below w.heap.size w w3 := by rw [← hw3]; exact (((Below.refl _ _).alloc (Nat.le_refl _) _).alloc (by simp) _).alloc (by simp; omega) _
  have hc3 : CopyAt w w3 w.heap.size [] := by
    rw [← hw3]
    exact ⟨⟨[], false, ⟨heap_old (heap_old (heap_new _ _) _) _, fun i x hi => by simp at hi, fun i j a b hi => by simp at hi, fun _ => rfl⟩, rfl, fun x hx => by cases hx⟩, Nat.le_refl _⟩
  have hp3 : Boxed w3 (w.heap.size + 1) 54 (.pointer (some ⟨w.heap.size, 0, none⟩)) := by
    rw [← hw3]
    have := (Boxed.new (w.alloc (.cells #[.int .i64 0, .int .i64 0, .int .i64 0, .int .u32 0, .pointer none, .pointer none] 61)) 54 (.pointer (some ⟨w.heap.size, 0, none⟩))).alloc (.cells #[.pointer (some ⟨Q, 0, none⟩)] 54)
    simpa using this
  have hq3 : Boxed w3 (w.heap.size + 1 + 1) 54 (.pointer (some ⟨Q, 0, none⟩)) := by
    rw [← hw3]
    have := Boxed.new ((w.alloc (.cells #[.int .i64 0, .int .i64 0, .int .i64 0, .int .u32 0, .pointer none, .pointer none] 61)).alloc (.cells #[.pointer (some ⟨w.heap.size, 0, none⟩)] 54)) 54 (.pointer (some ⟨Q, 0, none⟩))
    simpa using this
  rw [hw3]
  clear hw3
  refine wpIn_rangeFunc_ownG (n := 9) (F := Fence.wide) rfl (by decide) (gf := 85) (lb := #[.pointer (some ⟨w.heap.size + 1 + 1, 0, none⟩)]) rfl trivial (enters_of Try.func85 (by kernel_rfl) rfl)
    (links_stops (9 - 1) (by decide) (w.heap.size + 1 + 1) w.heap.size w _ (Nat.le_refl _) hb3.size _ L hQ hb3 hq3) KQ.t (KQ.b hb3.size) (Below.refl _ _) (fun _ => rfl)
    (fun pre W => (CopyAt w W w.heap.size (joinAll ((pre.map (fun x => x.1)).map QN.wait)) ∧ Boxed W (w.heap.size + 1) 54 (.pointer (some ⟨w.heap.size, 0, none⟩))) ∧ Below w.heap.size w W)
    (fun _ _ _ => False)
    (OwnFrom.and (OwnFrom.and (Own.from (copyAt_own _ _ _) _) (Own.from (boxed_own _ _ _) _)) (ownFrom_below (Nat.le_refl _) hb3.size))
    (fun _ _ _ _ _ hs _ _ => hs)
    ⟨⟨hc3, hp3⟩, hb3⟩
    (fun x => { tmps := #[.pointer (some ⟨Q, 0, none⟩), undef, .pointer none, .pointer (some ⟨w.heap.size + 1, 0, none⟩), .pointer (some ⟨x.1.g, 0, none⟩), .pointer (some ⟨Q, 0, none⟩), .bool false, .agg #[.int .i64 0, .int .i64 0, .int .i64 0, .int .u32 0, .pointer none, .pointer none], .pointer (some ⟨w.heap.size, 0, none⟩), .pointer (some ⟨Q, 0, none⟩), .func (.func 85) #[] #[.pointer (some ⟨w.heap.size + 1 + 1, 0, none⟩)], .pointer (some ⟨x.1.g, 0, none⟩), undef, undef, undef, undef, undef, undef, undef], defers := [] }) ?assign ?body ?done ?stop
  case assign =>
    intro l x W K hK
    gi_wp2
    exact hK
  case body =>
    rintro l pre x W ⟨⟨hc, hp⟩, hB⟩ hpl
    obtain ⟨nn, pp, hnd⟩ := (hQ.below (Nat.le_refl _) hB).node x.2
    have x0 : W.cell? ⟨x.1.g, 0, none⟩ = some (.int .i64 x.1.t) := cell_of hnd 0
    have x1 : W.cell? ⟨x.1.g, 1, none⟩ = some (.int .i64 x.1.k) := cell_of hnd 1
    have x2 : W.cell? ⟨x.1.g, 2, none⟩ = some (.int .i64 x.1.o) := cell_of hnd 2
    have x3 : W.cell? ⟨x.1.g, 3, none⟩ = some (.int .u32 (x.1.m : Int)) := cell_of hnd 3
    have lx := lt_of hnd
    have p0 := hp.cell
    have lp := hp.lt
    have hf9 : Fence.wide.fn 31 := trivial
    have hmx : Try.prog.follows .mixedOrders = true := by kernel_rfl
    have HA := Lib.hid (copy_add w W.drew w.heap.size _ x.1.t x.1.k x.1.o x.1.m hc.drew hB.drew (hr x.1 x.2))
    have HB := Lib.hid (And.intro hc (And.intro hp hB))
    unfold av at HA
    clear hc hp hB hnd hpl
    gi_wp2
    gi_region_with_o (gi_at_call 31; refine (CallsIn.inRound l (callsIn_wide.2 HA.out)).mono ?_; rintro e w' ⟨rfl, hy⟩; have HY := Lib.hid hy; clear hy)
    all_goals gi_wp2
    all_goals
      obtain ⟨hc, hp, hB⟩ := HB.out
      obtain ⟨h1, h2, h3, h4⟩ := HY.out
      exact ⟨((KeepsOthers.drew _).trans h3).from _, ⟨(Below.refl _ _).drew.trans h2, fun v hv => h4 _ _ v (by decide) (by decide) hv⟩, ⟨by rw [List.map_append, List.map_append]; show CopyAt _ _ _ (joinAll (_ ++ [x.1.wait])); rw [joinAll_snoc]; exact h1, h4 _ _ _ (by decide) (by decide) hp⟩, hB.drew.trans h2⟩
  case done =>
    rintro D ys W hD rfl ⟨⟨hc, hp⟩, hB⟩ hK
    have p0 := hp.cell
    rw [map_attach] at hc
    have HC := Lib.hid hc
    clear hc
    gi_wp2
    refine ⟨by simp, .inl ⟨_, _, rfl, run_takeDeferred hK, ?_⟩⟩
    exact ⟨_, results_tmp rfl _ _ _, rfl, copyAt_own (β := Unit) w w.heap.size (fun _ => joinAll (L.map QN.wait)) () _ _ _ HC.out (grownBy_putObj' W D (.deferred none)) (fun r e => by cases e; exact ⟨_, hK, rfl⟩), hB.trans (belowK_b (w := w) (Nat.le_refl _) W D _ _ (by have := hb3.size; omega) hK rfl rfl)⟩
  case stop =>
    rintro D c pre W _ _ h _
    exact h.elim
end Go.Proofs.Ytdbplamhpkahaaa
