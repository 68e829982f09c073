import Derived.Test.YtkhmfjfclpehfaaGreatItem
import Derived.Laws.AppendOwn
import Derived.WalkSpells
namespace Go.Proofs.YtkhmfjfclpehfaaGreat
open Go.ChangeShapes Go.WideShapes Go.ChangeAt Go.RowKit
set_option linter.unusedVariables false
set_option linter.unusedSimpArgs false
theorem item_len (x : ItemD) (a : Option Addr) (n c : Nat) : (x.l a n c).length = 15 := rfl
theorem item_one (x : ItemD) (a : Option Addr) (n c : Nat) : ∀ u ∈ x.l a n c, u.oneCell' = true := by
  intro u hu
  simp at hu
  rcases hu with rfl | rfl | rfl | rfl | rfl | rfl | rfl | rfl | rfl | rfl | rfl | rfl | rfl | rfl | rfl <;> rfl
theorem get15 (k j : Nat) (hj : j < 15) : (k * 15 + j) / 15 = k ∧ (k * 15 + j) % 15 = j := by omega
/-- The cells of a state, as they lie. -/
theorem state_cells {w : World} {g : Nat} {L : List ItemD} (h : StateAt w g L) : ∃ cs : List Value, cs.length = L.length * 15 ∧ (∀ j u, cs[j]? = some u → w.cell? ⟨g, j, none⟩ = some u) ∧ (∀ u ∈ cs, u.oneCell' = true) := by
  obtain ⟨F, hF⟩ := Deep.choose_lt (n := L.length * 15) (p := fun j (u : Value) => w.cell? ⟨g, j, none⟩ = some u ∧ u.oneCell' = true) (fun j hj => by
    obtain ⟨x, hx⟩ : ∃ x, L[j / 15]? = some x := ⟨_, List.getElem?_eq_getElem (by omega)⟩
    obtain ⟨a, c, hr, _⟩ := h.at' _ x hx
    obtain ⟨u, hu⟩ : ∃ u, (x.l a x.row.length c)[j % 15]? = some u := ⟨_, List.getElem?_eq_getElem (by rw [item_len]; omega)⟩
    have := hr _ u hu
    rw [show j / 15 * 15 + j % 15 = j by omega] at this
    exact ⟨u, this, item_one _ _ _ _ u (List.mem_of_getElem? hu)⟩)
  refine ⟨(List.range (L.length * 15)).map F, by simp, fun j u hu => ?_, fun u hu => ?_⟩
  · rw [List.getElem?_map] at hu
    obtain ⟨i, hi, rfl⟩ := Option.map_eq_some_iff.1 hu
    have hlt : j < L.length * 15 := by
      rcases Nat.lt_or_ge j (L.length * 15) with h1 | h1
      · exact h1
      · rw [List.getElem?_eq_none (by simpa using h1)] at hi; cases hi
    rw [List.getElem?_range hlt] at hi
    obtain rfl := Option.some.inj hi
    exact (hF _ hlt).1
  · obtain ⟨i, hi, rfl⟩ := List.mem_map.1 hu
    exact (hF i (List.mem_range.1 hi)).2
/-- What an append to an empty row makes of it. -/
theorem state_own {w w' : World} {g B : Nat} {T : TypeId} {L : List ItemD} {cs : List Value} {v : Value} (h : StateAt w g L) (hl : cs.length = L.length * 15) (hc : ∀ j u, cs[j]? = some u → w.cell? ⟨g, j, none⟩ = some u)
    (hb : Below w.heap.size w w') (hB : w.heap.size ≤ B) (ho : w'.ownsRow B T 15 v L.length cs) (hp : v ≠ .slice none 0 0) :
    ∃ g' cap cur, v = .slice (some ⟨g', 0, none⟩) L.length cap ∧ B ≤ g' ∧ w'.heap[g']? = some (.cells cur T (0, 0)) ∧ L.length * 15 ≤ cur.size ∧ ∀ k x, L[k]? = some x → ∃ a c, ItemW w' g' (k * 15) cur x a c ∧ w.rangeAt g (k * 15) (x.l a x.row.length c) := by
  rcases ho.2 with ⟨h0, _⟩ | ⟨g', cap, cur, rfl, hg, hcur, hn, hm, hs, ht⟩
  · exact absurd h0 hp
  have hsz : L.length * 15 ≤ cur.size := by rw [hs]; exact Nat.mul_le_mul_right 15 hn
  refine ⟨g', cap, cur, rfl, hg, hcur, hsz, fun k x hk => ?_⟩
  have hkl : k < L.length := (List.getElem?_eq_some_iff.1 hk).1
  obtain ⟨a, c, hr, h2, h3, h4, h5⟩ := h.at' k x hk
  refine ⟨a, c, ⟨fun j u hu => ?_, h2, h3, h4, h5.below hb, fun hn b off e => ?_⟩, hr⟩
  · have hj : j < 15 := by
      rcases Nat.lt_or_ge j 15 with h1 | h1
      · exact h1
      · rw [List.getElem?_eq_none (by show 15 ≤ j; exact h1)] at hu; cases hu
    have hlt : k * 15 + j < L.length * 15 := by omega
    obtain ⟨y, hy⟩ : ∃ y, cs[k * 15 + j]? = some y := ⟨_, List.getElem?_eq_getElem (by rw [hl]; exact hlt)⟩
    have e1 := (hc _ y hy).symm.trans (hr j u hu)
    have e2 : (cur.toList.take (L.length * 15))[k * 15 + j]? = some y := by rw [ht]; exact hy
    rw [List.getElem?_take, if_pos hlt] at e2
    obtain rfl := Option.some.inj e1
    simpa using e2
  · obtain ⟨b', off', e', hl', _⟩ := h5 hn
    rw [e] at e'
    cases e'
    omega
/-- A row of a state lies in a block that was there. -/
theorem state_bound {w W : World} {g k : Nat} {L : List ItemD} {x : ItemD} {a : Option Addr} {c b off : Nat} (h : StateAt w g L) (hb : Below w.heap.size w W) (hk : L[k]? = some x) (hr : W.rangeAt g (k * 15) (x.l a x.row.length c)) (hp : 0 < x.row.length) (ha : a = some ⟨b, off, none⟩) : b < w.heap.size := by
  obtain ⟨a', c', hr', _, _, _, h5⟩ := h.at' k x hk
  have e1 := hr 10 _ rfl
  have e2 := (hb.cell (p := ⟨g, k * 15 + 10, none⟩) h.lt).trans (hr' 10 _ rfl)
  rw [e1] at e2
  cases e2
  obtain ⟨b', off', e', hl', _⟩ := h5 hp
  rw [ha] at e'
  cases e'
  exact hl'
theorem info_item : (Tryz.prog.info? 106).map (fun i => (i.zero, i.size, i.bytes)) = some (some (.agg #[.int .i64 0, .int .i64 0, .int .i64 0, .int .i64 0, .int .i64 0, .int .i64 0, .int .u32 0, .int .u32 0, .int .u32 0, .int .u32 0, .slice none 0 0, .int .u32 0, .int .u32 0, .int .u32 0, .int .u32 0]), 15, 104) := by kernel_rfl
/-- slices.Clone of a state. -/
theorem clone_any (w : World) (g c : Nat) (L : List ItemD) (h : StateAt w g L) (hn : L.length ≤ 1000) :
    Calls Tryz.prog 69 #[.slice (some ⟨g, 0, none⟩) L.length c] w fun e w' => Below w.heap.size w w' ∧ ∃ g' cap cur, e = .returned (.slice (some ⟨g', 0, none⟩) L.length cap) ∧ w.heap.size ≤ g' ∧ w'.heap[g']? = some (.cells cur 106 (0, 0)) ∧ L.length * 15 ≤ cur.size ∧ ∀ k x, L[k]? = some x → ∃ a c, ItemW w' g' (k * 15) cur x a c ∧ w.rangeAt g (k * 15) (x.l a x.row.length c) := by
  obtain ⟨cs, hl, hc, h1⟩ := state_cells h
  have HH := Lib.hid h
  have HC := Lib.hid (And.intro hl (And.intro hc h1))
  have HB := Lib.hid (show Below w.heap.size w (w.alloc (.cells #[] 106)) from (Below.refl _ w).alloc (Nat.le_refl _) _)
  have HCA := Lib.hid (show ∀ (j : Nat) (u : Value), cs[j]? = some u → (w.alloc (.cells #[] 106)).cell? ((⟨g, 0, none⟩ : Addr).add j) = some u from fun j u hu => by
    rw [show (⟨g, 0, none⟩ : Addr).add j = ⟨g, j, none⟩ by unfold Addr.add; split <;> simp_all]
    exact (HB.out.cell (p := ⟨g, j, none⟩) h.lt).trans (hc j u hu))
  obtain ⟨i0, hi, hz0, hz1, hz2⟩ := info_parts info_item
  have HO := Lib.hid (show (w.alloc (.cells #[] 106)).ownsRow w.heap.size 106 15 (.slice (some ⟨w.heap.size, 0, none⟩) 0 0) 0 [] from w.ownsRow_made #[] 0 (Nat.le_refl _) (by unfold maxLen; omega) rfl)
  have hnil : ∀ (n : Nat) (w : World), (binOp .eql 73 (.slice (some ⟨g, 0, none⟩) n c) (.slice none 0 0)).run Tryz.prog w = .ok (.bool false) w := fun n w => Lib.run_eql_slice_nil w 73 _ (some ⟨g, 0, none⟩) n c 0 0 Tryz.underlying73
  obtain ⟨n, hne⟩ : ∃ n, L.length = n := ⟨_, rfl⟩
  have HN := Lib.hid hne
  rw [hne] at hn ⊢
  clear h hl hc h1 hne
  go_enter Tryz.func69, Tryz.ntmps69
  go_wp2_with (at_builtin; refine wpList_append_own _ rfl (.tmp 5) (.tmp 6) 73 rfl w.heap.size 106 i0 _ 15 104 Tryz.underlying73 hi hz0 hz1 hz2 rfl (by decide) (.slice (some ⟨w.heap.size, 0, none⟩) 0 0) 0 [] rfl HO.out ⟨g, 0, none⟩ n c cs rfl (by rw [HC.out.1, HN.out]) HCA.out HC.out.2.2 (by unfold maxLen; omega) (by omega) (by simp) ?_; intro v w2 how hgr hk)
  have hv : v ≠ .slice none 0 0 := fun e => by simpa using (hk.1 e).1
  have hb2 := HB.out.grown hgr HB.out.size fun k hk => by simp [Value.ownBlock] at hk; omega
  obtain ⟨g', cap, cur, rfl, h1, h2, h3, h4⟩ := state_own HH.out HC.out.1 HC.out.2.1 hb2 (Nat.le_refl _) (by rw [HN.out]; simpa using how) hv
  go_ret
  exact ⟨hb2, g', cap, cur, congrArg (fun z => Ending.returned (.slice (some ⟨g', 0, none⟩) z cap)) HN.out, h1, h2, by rw [← HN.out]; exact h3, h4⟩
end Go.Proofs.YtkhmfjfclpehfaaGreat
