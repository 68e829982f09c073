import Derived.Test.YtohajfkekkelhaaDoorItem
import Derived.Laws.AppendOwn
import Derived.WalkSpells
import Derived.Test.YtohajfkekkelhaaDoorSpecD
import Derived.Test.YtohajfkekkelhaaDoorSpecF
import Derived.Deep.RegionHeld3
import Derived.Test.YtohajfkekkelhaaDoorRowV
import Derived.Deep.AppendLies
namespace Go.Proofs.YtohajfkekkelhaaDoor
open Go.ChangeShapes Go.WideShapes Go.ChangeAt Go.RowKit
set_option linter.unusedVariables false
set_option linter.unusedSimpArgs false
theorem item_len (x : ItemD) (a : Option Addr) (n c : Nat) : (x.l a n c).length = 15 := rfl
theorem item_one (x : ItemD) (a : Option Addr) (n c : Nat) : ∀ u ∈ x.l a n c, u.oneCell' = true := by
  intro u hu
  simp at hu
  rcases hu with rfl | rfl | rfl | rfl | rfl | rfl | rfl | rfl | rfl | rfl | rfl | rfl | rfl | rfl | rfl <;> rfl
theorem get15 (k j : Nat) (hj : j < 15) : (k * 15 + j) / 15 = k ∧ (k * 15 + j) % 15 = j := by omega
/-- The cells of a state, as they lie. -/
theorem state_cells {w : World} {g : Nat} {L : List ItemD} (h : StateAt w g L) : ∃ cs : List Value, cs.length = L.length * 15 ∧ (∀ j u, cs[j]? = some u → w.cell? ⟨g, j, none⟩ = some u) ∧ (∀ u ∈ cs, u.oneCell' = true) := by
  obtain ⟨F, hF⟩ := Deep.choose_lt (n := L.length * 15) (p := fun j (u : Value) => w.cell? ⟨g, j, none⟩ = some u ∧ u.oneCell' = true) (fun j hj => by
    obtain ⟨x, hx⟩ : ∃ x, L[j / 15]? = some x := ⟨_, List.getElem?_eq_getElem (by omega)⟩
    obtain ⟨a, c, hr, _⟩ := h.at' _ x hx
    obtain ⟨u, hu⟩ : ∃ u, (x.l a x.row.length c)[j % 15]? = some u := ⟨_, List.getElem?_eq_getElem (by rw [item_len]; omega)⟩
    have := hr _ u hu
    rw [show j / 15 * 15 + j % 15 = j by omega] at this
    exact ⟨u, this, item_one _ _ _ _ u (List.mem_of_getElem? hu)⟩)
  refine ⟨(List.range (L.length * 15)).map F, by simp, fun j u hu => ?_, fun u hu => ?_⟩
  · rw [List.getElem?_map] at hu
    obtain ⟨i, hi, rfl⟩ := Option.map_eq_some_iff.1 hu
    have hlt : j < L.length * 15 := by
      rcases Nat.lt_or_ge j (L.length * 15) with h1 | h1
      · exact h1
      · rw [List.getElem?_eq_none (by simpa using h1)] at hi; cases hi
    rw [List.getElem?_range hlt] at hi
    obtain rfl := Option.some.inj hi
    exact (hF _ hlt).1
  · obtain ⟨i, hi, rfl⟩ := List.mem_map.1 hu
    exact (hF i (List.mem_range.1 hi)).2
/-- What an append to an empty row makes of it. -/
theorem state_own {w w' : World} {g B : Nat} {T : TypeId} {L : List ItemD} {cs : List Value} {v : Value} (h : StateAt w g L) (hl : cs.length = L.length * 15) (hc : ∀ j u, cs[j]? = some u → w.cell? ⟨g, j, none⟩ = some u)
    (hb : Below w.heap.size w w') (hB : w.heap.size ≤ B) (ho : w'.ownsRow B T 15 v L.length cs) (hp : v ≠ .slice none 0 0) :
    ∃ g' cap cur, v = .slice (some ⟨g', 0, none⟩) L.length cap ∧ B ≤ g' ∧ w'.heap[g']? = some (.cells cur T (0, 0)) ∧ L.length * 15 ≤ cur.size ∧ ∀ k x, L[k]? = some x → ∃ a c, ItemW w' g' (k * 15) cur x a c ∧ w.rangeAt g (k * 15) (x.l a x.row.length c) := by
  rcases ho.2 with ⟨h0, _⟩ | ⟨g', cap, cur, rfl, hg, hcur, hn, hm, hs, ht⟩
  · exact absurd h0 hp
  have hsz : L.length * 15 ≤ cur.size := by rw [hs]; exact Nat.mul_le_mul_right 15 hn
  refine ⟨g', cap, cur, rfl, hg, hcur, hsz, fun k x hk => ?_⟩
  have hkl : k < L.length := (List.getElem?_eq_some_iff.1 hk).1
  obtain ⟨a, c, hr, h2, h3, h4, h5⟩ := h.at' k x hk
  refine ⟨a, c, ⟨fun j u hu => ?_, h2, h3, h4, h5.below hb, fun hn b off e => ?_⟩, hr⟩
  · have hj : j < 15 := by
      rcases Nat.lt_or_ge j 15 with h1 | h1
      · exact h1
      · rw [List.getElem?_eq_none (by show 15 ≤ j; exact h1)] at hu; cases hu
    have hlt : k * 15 + j < L.length * 15 := by omega
    obtain ⟨y, hy⟩ : ∃ y, cs[k * 15 + j]? = some y := ⟨_, List.getElem?_eq_getElem (by rw [hl]; exact hlt)⟩
    have e1 := (hc _ y hy).symm.trans (hr j u hu)
    have e2 : (cur.toList.take (L.length * 15))[k * 15 + j]? = some y := by rw [ht]; exact hy
    rw [List.getElem?_take, if_pos hlt] at e2
    obtain rfl := Option.some.inj e1
    simpa using e2
  · obtain ⟨b', off', e', hl', _⟩ := h5 hn
    rw [e] at e'
    cases e'
    omega
/-- A row of a state lies in a block that was there. -/
theorem state_bound {w W : World} {g k : Nat} {L : List ItemD} {x : ItemD} {a : Option Addr} {c b off : Nat} (h : StateAt w g L) (hb : Below w.heap.size w W) (hk : L[k]? = some x) (hr : W.rangeAt g (k * 15) (x.l a x.row.length c)) (hp : 0 < x.row.length) (ha : a = some ⟨b, off, none⟩) : b < w.heap.size := by
  obtain ⟨a', c', hr', _, _, _, h5⟩ := h.at' k x hk
  have e1 := hr 10 _ rfl
  have e2 := (hb.cell (p := ⟨g, k * 15 + 10, none⟩) h.lt).trans (hr' 10 _ rfl)
  rw [e1] at e2
  cases e2
  obtain ⟨b', off', e', hl', _⟩ := h5 hp
  rw [ha] at e'
  cases e'
  exact hl'
theorem info_item : (Tryd.prog.info? 75).map (fun i => (i.zero, i.size, i.bytes)) = some (some (.agg #[.int .i64 0, .int .i64 0, .int .i64 0, .int .i64 0, .int .i64 0, .int .i64 0, .int .u32 0, .int .u32 0, .int .u32 0, .int .u32 0, .slice none 0 0, .int .u32 0, .int .u32 0, .int .u32 0, .int .u32 0]), 15, 104) := by kernel_rfl
/-- slices.Clone of a state. -/
theorem clone_any (w : World) (g c : Nat) (L : List ItemD) (h : StateAt w g L) (hn : L.length ≤ 1000) :
    Calls Tryd.prog 46 #[.slice (some ⟨g, 0, none⟩) L.length c] w fun e w' => Below w.heap.size w w' ∧ ∃ g' cap cur, e = .returned (.slice (some ⟨g', 0, none⟩) L.length cap) ∧ w.heap.size ≤ g' ∧ w'.heap[g']? = some (.cells cur 75 (0, 0)) ∧ L.length * 15 ≤ cur.size ∧ ∀ k x, L[k]? = some x → ∃ a c, ItemW w' g' (k * 15) cur x a c ∧ w.rangeAt g (k * 15) (x.l a x.row.length c) := by
  obtain ⟨cs, hl, hc, h1⟩ := state_cells h
  have HH := Lib.hid h
  have HC := Lib.hid (And.intro hl (And.intro hc h1))
  have HB := Lib.hid (show Below w.heap.size w (w.alloc (.cells #[] 75)) from (Below.refl _ w).alloc (Nat.le_refl _) _)
  have HCA := Lib.hid (show ∀ (j : Nat) (u : Value), cs[j]? = some u → (w.alloc (.cells #[] 75)).cell? ((⟨g, 0, none⟩ : Addr).add j) = some u from fun j u hu => by
    rw [show (⟨g, 0, none⟩ : Addr).add j = ⟨g, j, none⟩ by unfold Addr.add; split <;> simp_all]
    exact (HB.out.cell (p := ⟨g, j, none⟩) h.lt).trans (hc j u hu))
  obtain ⟨i0, hi, hz0, hz1, hz2⟩ := info_parts info_item
  have HO := Lib.hid (show (w.alloc (.cells #[] 75)).ownsRow w.heap.size 75 15 (.slice (some ⟨w.heap.size, 0, none⟩) 0 0) 0 [] from w.ownsRow_made #[] 0 (Nat.le_refl _) (by unfold maxLen; omega) rfl)
  have hnil : ∀ (n : Nat) (w : World), (binOp .eql 53 (.slice (some ⟨g, 0, none⟩) n c) (.slice none 0 0)).run Tryd.prog w = .ok (.bool false) w := fun n w => Lib.run_eql_slice_nil w 53 _ (some ⟨g, 0, none⟩) n c 0 0 Tryd.underlying53
  obtain ⟨n, hne⟩ : ∃ n, L.length = n := ⟨_, rfl⟩
  have HN := Lib.hid hne
  rw [hne] at hn ⊢
  clear h hl hc h1 hne
  go_enter Tryd.func46, Tryd.ntmps46
  go_wp2_with (at_builtin; refine wpList_append_own _ rfl (.tmp 5) (.tmp 6) 53 rfl w.heap.size 75 i0 _ 15 104 Tryd.underlying53 hi hz0 hz1 hz2 rfl (by decide) (.slice (some ⟨w.heap.size, 0, none⟩) 0 0) 0 [] rfl HO.out ⟨g, 0, none⟩ n c cs rfl (by rw [HC.out.1, HN.out]) HCA.out HC.out.2.2 (by unfold maxLen; omega) (by omega) (by simp) ?_; intro v w2 how hgr hk)
  have hv : v ≠ .slice none 0 0 := fun e => by simpa using (hk.1 e).1
  have hb2 := HB.out.grown hgr HB.out.size fun k hk => by simp [Value.ownBlock] at hk; omega
  obtain ⟨g', cap, cur, rfl, h1, h2, h3, h4⟩ := state_own HH.out HC.out.1 HC.out.2.1 hb2 (Nat.le_refl _) (by rw [HN.out]; simpa using how) hv
  go_ret
  exact ⟨hb2, g', cap, cur, congrArg (fun z => Ending.returned (.slice (some ⟨g', 0, none⟩) z cap)) HN.out, h1, h2, by rw [← HN.out]; exact h3, h4⟩
end Go.Proofs.YtohajfkekkelhaaDoor
namespace Go.Proofs.YtohajfkekkelhaaDoor
open Go.ChangeShapes Go.WideShapes Go.ChangeAt Go.RowKit
set_option linter.unusedVariables false
set_option linter.unusedSimpArgs false
/-- A call to a register. -/
def valueP (x : ItemD) (k : Int) (v : W4) (m : Nat) : ItemD × ResD :=
  if (k == 3) = true then ({x with v := v.clip m}, res0 0)
  else if (((x.o 0 == 2) && (k == 4)) || (!(x.o 0 == 2) && ((k == 5) || (k == 6)))) = true then (x, ⟨0, x.v⟩) else (x, res0 12)
/-- All four words are written into an item. -/
theorem Became.words {w w' : World} {g o : Nat} {T : TypeId} {cur : Array Value} {x : ItemD} {a : Option Addr} {c : Nat} (h : ItemW w g o cur x a c) (v : W4) (hk : Keeps (fun j => j = g) w w')
    (hb : w'.heap[g]? = some (.cells ((((cur.setIfInBounds (o + 11) (.int .u32 v.a)).setIfInBounds (o + 12) (.int .u32 v.b)).setIfInBounds (o + 13) (.int .u32 v.c)).setIfInBounds (o + 14) (.int .u32 v.d)) T (0, 0))) :
    Became w w' g o T cur a x.row {x with v := v} := by
  refine ⟨_, a, c, hb, by simp, fun j hj => ?_, ⟨setW (setW (setW (setW h.cur (by show 11 < 15; omega) _) (by show 12 < 15; omega) _) (by show 13 < 15; omega) _) (by show 14 < 15; omega) _, h.le, h.max, h.nil, fun hn => ?_, h.apart⟩, hk, .inl ⟨rfl, rfl⟩⟩
  · rw [Array.getElem?_setIfInBounds_ne (by omega), Array.getElem?_setIfInBounds_ne (by omega), Array.getElem?_setIfInBounds_ne (by omega), Array.getElem?_setIfInBounds_ne (by omega)]
  obtain ⟨b, off, e, hl, hr⟩ := h.row hn
  refine ⟨b, off, e, Nat.lt_of_lt_of_le hl hk.size, fun k v hv j u hu => ?_⟩
  rw [World.cell?_of_block (a := ⟨b, off + k * 4 + j, none⟩) (hk.block b hl (h.apart hn b off e))]
  exact hr k v hv j u hu
theorem keep_words {w : World} {g o : Nat} {a b c d z : Value} (h : w.cell? ⟨g, o + 2, none⟩ = some z) : ((((w.setCell ⟨g, o + 11, none⟩ a).setCell ⟨g, o + 11 + 1, none⟩ b).setCell ⟨g, o + 11 + 2, none⟩ c).setCell ⟨g, o + 11 + 3, none⟩ d).cell? ⟨g, o + 2, none⟩ = some z := by
  rw [World.cell?_setCell_other _ _ _ _ (by intro e; cases e), World.cell?_setCell_other _ _ _ _ (by intro e; cases e), World.cell?_setCell_other _ _ _ _ (by intro e; cases e), World.cell?_setCell_other _ _ _ _ (by intro e; cases e)]
  exact h
set_option maxRecDepth 20000 in
set_option maxHeartbeats 8000000 in
theorem doValue_any (w : World) (g o : Nat) (cur : Array Value) (x : ItemD) (a : Option Addr) (c : Nat) (v : W4) (k : Int) (m : Nat) (hb : w.heap[g]? = some (.cells cur 75 (0, 0))) (hx : ItemW w g o cur x a c) (hm : x.o 2 = (m : Int)) (hm1 : m ≤ 1000) :
    Calls Tryd.prog 50 #[.pointer (some ⟨g, o, none⟩), .int .i64 k, .agg v.cells] w fun e w' => e = .returned (.agg (valueP x k v m).2.cells) ∧ Became w w' g o 75 cur a x.row (valueP x k v m).1 := by
  have hx' := hx.fifteen hb
  have c0 : w.cell? ⟨g, o, none⟩ = some (.int .i64 (x.o 0)) := hx' 0 _ rfl
  have c2 : w.cell? ⟨g, o + 2, none⟩ = some (.int .i64 (m : Int)) := by rw [← hm]; exact hx' 2 _ rfl
  have c11 : w.cell? ⟨g, o + 11, none⟩ = some (.int .u32 x.v.a) := hx' 11 _ rfl
  have c12 : w.cell? ⟨g, o + 12, none⟩ = some (.int .u32 x.v.b) := hx' 12 _ rfl
  have c13 : w.cell? ⟨g, o + 13, none⟩ = some (.int .u32 x.v.c) := hx' 13 _ rfl
  have c14 : w.cell? ⟨g, o + 14, none⟩ = some (.int .u32 x.v.d) := hx' 14 _ rfl
  have HU11 := Lib.hid (show cur[o + 11]? = some (.int .u32 x.v.a) from hx.cur 11 _ rfl)
  have HU12 := Lib.hid (show cur[o + 12]? = some (.int .u32 x.v.b) from hx.cur 12 _ rfl)
  have HU13 := Lib.hid (show cur[o + 13]? = some (.int .u32 x.v.c) from hx.cur 13 _ rfl)
  have HU14 := Lib.hid (show cur[o + 14]? = some (.int .u32 x.v.d) from hx.cur 14 _ rfl)
  have hl := lt_of hb
  have hne3 : w.heap.size + 1 ≠ g := by omega
  have hne4 : g ≠ w.heap.size + 1 := by omega
  have hne1 : ¬ g = w.heap.size := by omega
  have hne2 : ¬ w.heap.size = g := by omega
  have HX := Lib.hid (And.intro hx hb)
  have HF := Lib.hid (show valueP x k v m = if (k == 3) = true then ({x with v := v.clip m}, res0 0) else if (((x.o 0 == 2) && (k == 4)) || (!(x.o 0 == 2) && ((k == 5) || (k == 6)))) = true then (x, ⟨0, x.v⟩) else (x, res0 12) from rfl)
  have HA := Lib.hid ((((Has.start w).old hb).alloc (.cells v.cells 41)).alloc (.cells #[.int .i64 0, .int .u32 0, .int .u32 0, .int .u32 0, .int .u32 0] 45) |>.drew)
  have HC := Lib.hid (fun w => clip_any w (m : Int))
  have HC1 := Lib.hid (fun w P => clip1_any w P m v.a v.b v.c v.d hm1)
  have HX2 := Lib.hid c2
  generalize hz : valueP x k v m = z at *
  obtain ⟨z1, z2⟩ := z
  clear hz hb hx hx' hm
  generalize hq : (x.o 0 == 2) = q at *
  generalize h3 : (k == 3) = k3 at *
  generalize h4 : (k == 4) = k4 at *
  generalize h5 : (k == 5) = k5 at *
  generalize h6 : (k == 6) = k6 at *
  cases k3
  · cases q
    · cases k5
      · cases k6
        · simp only [Bool.false_eq_true, if_false, Bool.and_true, Bool.and_false, Bool.or_true, Bool.or_false, Bool.false_or, Bool.true_or, Bool.not_true, Bool.not_false, Bool.true_and, Bool.false_and, if_true] at HF
          obtain ⟨e1, e2⟩ := Prod.mk.inj HF.out
          go_enter Tryd.func50, Tryd.ntmps50
          go_wp2_with fail
          refine bodyPost_ret (v := .agg #[.int .i64 12, .int .u32 0, .int .u32 0, .int .u32 0, .int .u32 0]) (by simp [results, Tryd.results50, go_sem]) rfl ⟨by rw [e2] <;> rfl, ?_⟩
          rw [e1]
          exact Became.same HX.out.1 HX.out.2 (((Keeps.refl _ w).alloc _).alloc _)
        · simp only [Bool.false_eq_true, if_false, Bool.and_true, Bool.and_false, Bool.or_true, Bool.or_false, Bool.false_or, Bool.true_or, Bool.not_true, Bool.not_false, Bool.true_and, Bool.false_and, if_true] at HF
          obtain ⟨e1, e2⟩ := Prod.mk.inj HF.out
          go_enter Tryd.func50, Tryd.ntmps50
          go_wp2_with fail
          refine bodyPost_ret (v := .agg #[.int .i64 0, .int .u32 x.v.a, .int .u32 x.v.b, .int .u32 x.v.c, .int .u32 x.v.d]) (by simp [results, Tryd.results50, go_sem]) rfl ⟨by rw [e2] <;> rfl, ?_⟩
          rw [e1]
          exact Became.same HX.out.1 HX.out.2 (((Keeps.refl _ w).alloc _).alloc _)
      · simp only [Bool.false_eq_true, if_false, Bool.and_true, Bool.and_false, Bool.or_true, Bool.or_false, Bool.false_or, Bool.true_or, Bool.not_true, Bool.not_false, Bool.true_and, Bool.false_and, if_true] at HF
        obtain ⟨e1, e2⟩ := Prod.mk.inj HF.out
        go_enter Tryd.func50, Tryd.ntmps50
        go_wp2_with fail
        refine bodyPost_ret (v := .agg #[.int .i64 0, .int .u32 x.v.a, .int .u32 x.v.b, .int .u32 x.v.c, .int .u32 x.v.d]) (by simp [results, Tryd.results50, go_sem]) rfl ⟨by rw [e2] <;> rfl, ?_⟩
        rw [e1]
        exact Became.same HX.out.1 HX.out.2 (((Keeps.refl _ w).alloc _).alloc _)
    · cases k4
      · simp only [Bool.false_eq_true, if_false, Bool.and_true, Bool.and_false, Bool.or_true, Bool.or_false, Bool.false_or, Bool.true_or, Bool.not_true, Bool.not_false, Bool.true_and, Bool.false_and, if_true] at HF
        obtain ⟨e1, e2⟩ := Prod.mk.inj HF.out
        go_enter Tryd.func50, Tryd.ntmps50
        go_wp2_with fail
        refine bodyPost_ret (v := .agg #[.int .i64 12, .int .u32 0, .int .u32 0, .int .u32 0, .int .u32 0]) (by simp [results, Tryd.results50, go_sem]) rfl ⟨by rw [e2] <;> rfl, ?_⟩
        rw [e1]
        exact Became.same HX.out.1 HX.out.2 (((Keeps.refl _ w).alloc _).alloc _)
      · simp only [Bool.false_eq_true, if_false, Bool.and_true, Bool.and_false, Bool.or_true, Bool.or_false, Bool.false_or, Bool.true_or, Bool.not_true, Bool.not_false, Bool.true_and, Bool.false_and, if_true] at HF
        obtain ⟨e1, e2⟩ := Prod.mk.inj HF.out
        go_enter Tryd.func50, Tryd.ntmps50
        go_wp2_with fail
        refine bodyPost_ret (v := .agg #[.int .i64 0, .int .u32 x.v.a, .int .u32 x.v.b, .int .u32 x.v.c, .int .u32 x.v.d]) (by simp [results, Tryd.results50, go_sem]) rfl ⟨by rw [e2] <;> rfl, ?_⟩
        rw [e1]
        exact Became.same HX.out.1 HX.out.2 (((Keeps.refl _ w).alloc _).alloc _)
  · rw [if_pos rfl] at HF
    obtain ⟨e1, e2⟩ := Prod.mk.inj HF.out
    go_enter Tryd.func50, Tryd.ntmps50
    go_wp2_with fail
    clear c0 c2 c11 c12 c13 c14 hq h3 h4 h5 h6
    go_region_held3 (fun w' => w'.cell? ⟨g, o + 2, none⟩ = some (.int .i64 (m : Int)) ∧ w'.cell? ⟨w.heap.size, 0, none⟩ = some (.int .u32 v.a) ∧ w'.cell? ⟨w.heap.size, 1, none⟩ = some (.int .u32 v.b) ∧ w'.cell? ⟨w.heap.size, 2, none⟩ = some (.int .u32 v.c) ∧ w'.cell? ⟨w.heap.size, 3, none⟩ = some (.int .u32 v.d))
      (first
        | (refine ⟨?_, cell_of (HA.out.at 1 rfl) 0, cell_of (HA.out.at 1 rfl) 1, cell_of (HA.out.at 1 rfl) 2, cell_of (HA.out.at 1 rfl) 3⟩; exact (World.cell?_of_block (HA.out.keeps.block g hl (fun h => h))).trans HX2.out)
        | (refine ⟨keep_words z2, ?_, ?_, ?_, ?_⟩ <;> go_keep)
        | go_keep)
      ((first
        | (go_at_call 37; refine (HC.out _).mono ?_; rintro e w3 ⟨rfl, hP, k3⟩; replace HA := Lib.hid (HA.out.none k3); have HP := Lib.hid (show w3.heap[w.heap.size + 1 + 1]? = some (.cells #[.int .i64 (m : Int)] 3 (0, 0)) from by simpa using hP); clear k3 hP)
        | (go_at_call 53; refine (HC1.out _ _ HP.out).mono ?_; rintro e w4 ⟨rfl, b4⟩; replace HA := Lib.hid (HA.out.none (Keeps.ofBelow b4)); have hg4 : w4.heap[g]? = some (.cells cur 75 (0, 0)) := HA.out.at 2 rfl; have y11 := (cell_of hg4 (o + 11)).trans (HX.out.1.cur 11 _ rfl); have f11 := free_of hg4 (o + 11); have y12 := (cell_of hg4 (o + 12)).trans (HX.out.1.cur 12 _ rfl); have f12 := free_of hg4 (o + 12); have y13 := (cell_of hg4 (o + 13)).trans (HX.out.1.cur 13 _ rfl); have f13 := free_of hg4 (o + 13); have y14 := (cell_of hg4 (o + 14)).trans (HX.out.1.cur 14 _ rfl); have f14 := free_of hg4 (o + 14); have hgb : w4.heap[w.heap.size]? = some (.cells v.cells 41 (0, 0)) := HA.out.at 1 rfl; have zb0 := cell_of hgb 0; have zb1 := cell_of hgb 1; have zb2 := cell_of hgb 2; have zb3 := cell_of hgb 3; have z2 := (World.cell?_of_block (a := ⟨g, o + 2, none⟩) (HA.out.keeps.block g hl (fun h => h))).trans HX2.out; simp only [List.getElem?_toArray, List.getElem?_cons_zero, List.getElem?_cons_succ] at zb0 zb1 zb2 zb3; clear b4 hg4 hgb)))
    have hg4 : w4.heap[g]? = some (.cells cur 75 (0, 0)) := HA.out.at 2 rfl
    have hr4 : w4.heap[w.heap.size + 1]? = some (.cells #[.int .i64 0, .int .u32 0, .int .u32 0, .int .u32 0, .int .u32 0] 45 (0, 0)) := by simpa using HA.out.at 0 rfl
    have hk4 : Keeps (fun j => j = g) w w4 := ⟨HA.out.keeps.os, HA.out.keeps.tape, HA.out.keeps.output, HA.out.keeps.size, fun k hk1 _ => HA.out.keeps.block k hk1 fun h => h⟩
    have HB5 := Lib.hid (show ((((w4.setCell ⟨g, o + 11, none⟩ (.int .u32 (clipP m 0 v.a))).setCell ⟨g, o + 11 + 1, none⟩ (.int .u32 (clipP m 1 v.b))).setCell ⟨g, o + 11 + 2, none⟩ (.int .u32 (clipP m 2 v.c))).setCell ⟨g, o + 11 + 3, none⟩ (.int .u32 (clipP m 3 v.d))).heap[g]? = some (.cells ((((cur.setIfInBounds (o + 11) (.int .u32 (v.clip m).a)).setIfInBounds (o + 12) (.int .u32 (v.clip m).b)).setIfInBounds (o + 13) (.int .u32 (v.clip m).c)).setIfInBounds (o + 14) (.int .u32 (v.clip m).d)) 75 (0, 0)) from heap_set (heap_set (heap_set (heap_set hg4 (o + 11) _) (o + 12) _) (o + 13) _) (o + 14) _)
    have HK5 := Lib.hid (show Keeps (fun j => j = g) w ((((w4.setCell ⟨g, o + 11, none⟩ (.int .u32 (clipP m 0 v.a))).setCell ⟨g, o + 11 + 1, none⟩ (.int .u32 (clipP m 1 v.b))).setCell ⟨g, o + 11 + 2, none⟩ (.int .u32 (clipP m 2 v.c))).setCell ⟨g, o + 11 + 3, none⟩ (.int .u32 (clipP m 3 v.d))) from (((hk4.setCell (p := ⟨g, o + 11, none⟩) (.inl rfl) _).setCell (p := ⟨g, o + 11 + 1, none⟩) (.inl rfl) _).setCell (p := ⟨g, o + 11 + 2, none⟩) (.inl rfl) _).setCell (p := ⟨g, o + 11 + 3, none⟩) (.inl rfl) _)
    have hr5 : ((((w4.setCell ⟨g, o + 11, none⟩ (.int .u32 (clipP m 0 v.a))).setCell ⟨g, o + 11 + 1, none⟩ (.int .u32 (clipP m 1 v.b))).setCell ⟨g, o + 11 + 2, none⟩ (.int .u32 (clipP m 2 v.c))).setCell ⟨g, o + 11 + 3, none⟩ (.int .u32 (clipP m 3 v.d))).heap[w.heap.size + 1]? = some (.cells #[.int .i64 0, .int .u32 0, .int .u32 0, .int .u32 0, .int .u32 0] 45 (0, 0)) := heap_other (heap_other (heap_other (heap_other hr4 hne3 _) hne3 _) hne3 _) hne3 _
    generalize ((((w4.setCell ⟨g, o + 11, none⟩ (.int .u32 (clipP m 0 v.a))).setCell ⟨g, o + 11 + 1, none⟩ (.int .u32 (clipP m 1 v.b))).setCell ⟨g, o + 11 + 2, none⟩ (.int .u32 (clipP m 2 v.c))).setCell ⟨g, o + 11 + 3, none⟩ (.int .u32 (clipP m 3 v.d))) = W5 at *
    have q0 := cell_of hr5 0
    have q1 := cell_of hr5 1
    have q2 := cell_of hr5 2
    have q3 := cell_of hr5 3
    have q4 := cell_of hr5 4
    have fq0 := free_of hr5 0
    have fq1 := free_of hr5 1
    have fq2 := free_of hr5 2
    have fq3 := free_of hr5 3
    have fq4 := free_of hr5 4
    simp only [List.getElem?_toArray, List.getElem?_cons_zero, List.getElem?_cons_succ] at q0 q1 q2 q3 q4
    clear y11 f11 y12 f12 y13 f13 y14 f14 zb0 zb1 zb2 zb3 z2 hg4 hr4 hk4
    go_wp2_with fail
    refine bodyPost_ret (v := .agg #[.int .i64 0, .int .u32 0, .int .u32 0, .int .u32 0, .int .u32 0]) (by simp [results, Tryd.results50, go_sem, q0, q1, q2, q3, q4]) rfl ⟨by rw [e2] <;> rfl, ?_⟩
    rw [e1]
    exact Became.words HX.out.1 (v.clip m) (((((HK5.out.setCell (p := ⟨w.heap.size + 1, 0, none⟩) (.inr (by show w.heap.size ≤ w.heap.size + 1; omega)) _).setCell (p := ⟨w.heap.size + 1, 1, none⟩) (.inr (by show w.heap.size ≤ w.heap.size + 1; omega)) _).setCell (p := ⟨w.heap.size + 1, 2, none⟩) (.inr (by show w.heap.size ≤ w.heap.size + 1; omega)) _).setCell (p := ⟨w.heap.size + 1, 3, none⟩) (.inr (by show w.heap.size ≤ w.heap.size + 1; omega)) _).setCell (p := ⟨w.heap.size + 1, 4, none⟩) (.inr (by show w.heap.size ≤ w.heap.size + 1; omega)) _) (heap_other (heap_other (heap_other (heap_other (heap_other HB5.out hne4 _) hne4 _) hne4 _) hne4 _) hne4 _)
end Go.Proofs.YtohajfkekkelhaaDoor
namespace Go.Proofs.YtohajfkekkelhaaDoor
open Go.ChangeShapes Go.WideShapes Go.ChangeAt Go.RowKit
set_option linter.unusedVariables false
set_option linter.unusedSimpArgs false
/-- A call to a ring. -/
def ringP (x : ItemD) (k : Int) (v : W4) (m : Nat) : ItemD × ResD :=
  if (k == 1) = true then if x.o 1 ≤ (x.row.length : Int) then (x, res0 6) else ({x with row := x.row ++ [v.clip m]}, res0 0)
  else if (k == 2) = true then match x.row with
    | [] => (x, res0 7)
    | y :: t => ({x with row := t}, ⟨0, y⟩)
  else (x, res0 12)
/-- The row of an item is another one. -/
theorem Became.row {w w' : World} {g o : Nat} {T : TypeId} {cur : Array Value} {x : ItemD} {a : Option Addr} {c : Nat} (h : ItemW w g o cur x a c) (R : List W4) (a' : Option Addr) (c' : Nat) (hk : Keeps (fun j => j = g) w w')
    (hb : w'.heap[g]? = some (.cells (cur.setIfInBounds (o + 10) (.slice a' R.length c')) T (0, 0))) (hle : R.length ≤ c') (hm : c' ≤ maxLen) (hn : a' = none → c' = 0) (hr : RowIn w' a' R) (hap : ∀ b off, a' = some ⟨b, off, none⟩ → w.heap.size ≤ b) (hgl : g < w.heap.size) :
    Became w w' g o T cur a x.row {x with row := R} :=
  ⟨_, a', c', hb, by simp, fun j hj => Array.getElem?_setIfInBounds_ne (by omega), ⟨setW h.cur (by show 10 < 15; omega) _, hle, hm, hn, hr, fun _ b off e => by have := hap b off e; omega⟩, hk, .inr hap⟩
theorem info_value : (Tryd.prog.info? 41).map (fun i => (i.zero, i.size, i.bytes)) = some (some (.agg #[.int .u32 0, .int .u32 0, .int .u32 0, .int .u32 0]), 4, 16) := by kernel_rfl
theorem make_values (w : World) (n c : Nat) (hn : n ≤ c) (hc : c ≤ 1000) : (Instr.makeSlice 73 (.int .i64 (n : Int)) (.int .i64 (c : Int))).run Tryd.prog w = .ok (.slice (some ⟨w.heap.size, 0, none⟩) n c) (w.alloc (.cells (madeCells #[.int .u32 0, .int .u32 0, .int .u32 0, .int .u32 0] (c * 4)) 41)) := by
  obtain ⟨i, hi, hz0, hz1, hz2⟩ := info_parts info_value
  have h := run_make w 73 41 i _ Tryd.underlying73 hi hz0 .i64 .i64 (n : Int) (c : Int) (by omega) (by omega) (by rw [hz2]; omega) (by omega)
  rw [hz1] at h
  exact h
theorem keep_ten {w : World} {g o : Nat} {a z : Value} (h : w.cell? ⟨g, o + 2, none⟩ = some z) : (w.setCell ⟨g, o + 10, none⟩ a).cell? ⟨g, o + 2, none⟩ = some z := by
  rw [World.cell?_setCell_other _ _ _ _ (by intro e; cases e)]
  exact h
theorem clip_one (m : Nat) (v : W4) : ∀ u ∈ (#[.int .u32 (clipP m 0 v.a), .int .u32 (clipP m 1 v.b), .int .u32 (clipP m 2 v.c), .int .u32 (clipP m 3 v.d)] : Array Value).toList, u.oneCell' = true := by
  intro u hu
  simp at hu
  rcases hu with rfl | rfl | rfl | rfl <;> rfl
theorem RowIn.keeps {S : Nat → Prop} {w w' : World} {a : Option Addr} {R : List W4} (h : RowIn w a R) (hk : Keeps S w w') (hs : ∀ b off, a = some ⟨b, off, none⟩ → ¬ S b) : RowIn w' a R := fun hn => by
  obtain ⟨b, off, e, hl, hr⟩ := h hn
  refine ⟨b, off, e, Nat.lt_of_lt_of_le hl hk.size, fun k v hv j u hu => ?_⟩
  rw [World.cell?_of_block (a := ⟨b, off + k * 4 + j, none⟩) (hk.block b hl (hs b off e))]
  exact hr k v hv j u hu
set_option maxRecDepth 20000 in
set_option maxHeartbeats 8000000 in
theorem doRing_send (w : World) (g o : Nat) (cur : Array Value) (x : ItemD) (a : Option Addr) (c : Nat) (v : W4) (m : Nat) (hb : w.heap[g]? = some (.cells cur 75 (0, 0))) (hx : ItemW w g o cur x a c) (hm : x.o 2 = (m : Int)) (hm1 : m ≤ 1000) (hn : x.row.length ≤ 64) (hlt : ¬ x.o 1 ≤ (x.row.length : Int)) :
    Calls Tryd.prog 49 #[.pointer (some ⟨g, o, none⟩), .int .i64 1, .agg v.cells] w fun e w' => e = .returned (.agg (res0 0).cells) ∧ Became w w' g o 75 cur a x.row {x with row := x.row ++ [v.clip m]} := by
  have hx' := hx.fifteen hb
  have hl := lt_of hb
  have hne3 : w.heap.size + 1 ≠ g := by omega
  have hne4 : g ≠ w.heap.size + 1 := by omega
  have hne1 : ¬ g = w.heap.size := by omega
  have hne2 : ¬ w.heap.size = g := by omega
  have c1 : w.cell? ⟨g, o + 1, none⟩ = some (.int .i64 (x.o 1)) := hx' 1 _ rfl
  have HX2 := Lib.hid (show w.cell? ⟨g, o + 2, none⟩ = some (.int .i64 (m : Int)) by rw [← hm]; exact hx' 2 _ rfl)
  have c10 : w.cell? ⟨g, o + 10, none⟩ = some (.slice a x.row.length c) := hx' 10 _ rfl
  have HU10 := Lib.hid (show cur[o + 10]? = some (.slice a x.row.length c) from hx.cur 10 _ rfl)
  obtain ⟨i0, hi, hz0, hz1, hz2⟩ := info_parts info_value
  have HX := Lib.hid (And.intro hx hb)
  obtain ⟨W2, hW2⟩ : ∃ W2, W2 = ((w.alloc (.cells v.cells 41)).alloc (.cells #[.int .i64 0, .int .u32 0, .int .u32 0, .int .u32 0, .int .u32 0] 45)).alloc (.cells (madeCells #[.int .u32 0, .int .u32 0, .int .u32 0, .int .u32 0] ((x.row.length + 1) * 4)) 41) := ⟨_, rfl⟩
  have HA0 : Has w W2 [(w.heap.size + 2, .cells (madeCells #[.int .u32 0, .int .u32 0, .int .u32 0, .int .u32 0] ((x.row.length + 1) * 4)) 41 (0, 0)), (w.heap.size + 1, .cells #[.int .i64 0, .int .u32 0, .int .u32 0, .int .u32 0, .int .u32 0] 45 (0, 0)), (w.heap.size, .cells v.cells 41 (0, 0)), (g, .cells cur 75 (0, 0))] := by
    rw [hW2]
    exact ((((Has.start w).old hb).alloc (.cells v.cells 41)).alloc (.cells #[.int .i64 0, .int .u32 0, .int .u32 0, .int .u32 0, .int .u32 0] 45) |>.alloc (.cells (madeCells #[.int .u32 0, .int .u32 0, .int .u32 0, .int .u32 0] ((x.row.length + 1) * 4)) 41)).eq (by simp)
  have hbW2 : Below w.heap.size w W2 := HA0.keeps.none
  obtain ⟨w3, hcp, ho, hgr⟩ := copy_values (w := W2) (T := 41) (dT := 73) (g := w.heap.size + 2) (cap := x.row.length + 1) (B := w.heap.size) Tryd.underlying73 (by kernel_rfl) (HA0.at 0 rfl) (by omega) (size_madeCells _ _) (by unfold maxLen; omega) x.row (by omega) a c (hx.row.below hbW2) 3
  have HA := Lib.hid ((HA0.tl.grown hgr (by omega) (by intro y hy; simp at hy; rcases hy with rfl | rfl | rfl <;> simp <;> omega)).drew)
  have HLN := Lib.hid (show ∀ y ∈ [(w.heap.size + 1, (.cells #[.int .i64 0, .int .u32 0, .int .u32 0, .int .u32 0, .int .u32 0] 45 (0, 0) : Obj)), (w.heap.size, .cells v.cells 41 (0, 0)), (g, .cells cur 75 (0, 0))], y.1 ≠ w.heap.size + 2 from by intro y hy; simp at hy; rcases hy with rfl | rfl | rfl <;> simp <;> omega)
  have HO := Lib.hid (own_keeps ho (Keeps.refl _ w3).drew)
  have HCP := Lib.hid hcp
  rw [hW2] at HCP
  have HLE := Lib.hid (And.intro hx.le (And.intro hx.max hx.nil))
  obtain ⟨n, hne⟩ : ∃ n, x.row.length = n := ⟨_, rfl⟩
  have HN := Lib.hid hne
  rw [hne] at hn hlt c10 HCP HO HU10
  have hmk : ∀ w : World, (Instr.makeSlice 73 (.int .i64 (n : Int)) (.int .i64 ((n : Int) + 1))).run Tryd.prog w = .ok (.slice (some ⟨w.heap.size, 0, none⟩) n (n + 1)) (w.alloc (.cells (madeCells #[.int .u32 0, .int .u32 0, .int .u32 0, .int .u32 0] ((n + 1) * 4)) 41)) := fun w => make_values w n (n + 1) (by omega) (by omega)
  have d1 : decide (x.o 1 ≤ (n : Int)) = false := decide_eq_false hlt
  have c10' : ∀ o1 o2 o3, (((w.alloc o1).alloc o2).alloc o3).cell? ⟨g, o + 10, none⟩ = some (.slice a n c) := fun o1 o2 o3 => by
    rw [World.cell?_of_block (w := w) (((Below.refl w.heap.size w).alloc (Nat.le_refl _) o1 |>.alloc (by simp) o2 |>.alloc (by simp; omega) o3).block g hl)]
    exact c10
  have HC := Lib.hid (fun w => clip_any w (m : Int))
  have HC1 := Lib.hid (fun w P => clip1_any w P m v.a v.b v.c v.d hm1)
  clear hx hx' hb hW2 HA0 hbW2 hcp ho hgr hne hm hlt
  go_enter Tryd.func49, Tryd.ntmps49
  go_wp2_with (refine wpList_copy_known rfl (.tmp 36) (.tmp 40) 73 73 rfl _ _ rfl rfl HCP.out ?_)
  clear c1 c10 c10' hmk d1 HCP
  go_region_held3 (fun w' => w'.cell? ⟨g, o + 2, none⟩ = some (.int .i64 (m : Int)) ∧ w'.cell? ⟨w.heap.size, 0, none⟩ = some (.int .u32 v.a) ∧ w'.cell? ⟨w.heap.size, 1, none⟩ = some (.int .u32 v.b) ∧ w'.cell? ⟨w.heap.size, 2, none⟩ = some (.int .u32 v.c) ∧ w'.cell? ⟨w.heap.size, 3, none⟩ = some (.int .u32 v.d))
    (first
      | (refine ⟨keep_ten z2, ?_, ?_, ?_, ?_⟩ <;> go_keep)
      | (refine ⟨?_, cell_of (HA.out.at 1 rfl) 0, cell_of (HA.out.at 1 rfl) 1, cell_of (HA.out.at 1 rfl) 2, cell_of (HA.out.at 1 rfl) 3⟩; exact (World.cell?_of_block (HA.out.keeps.block g hl (fun h => h))).trans HX2.out)
      | (refine ⟨?_, cell_of (HA5.out.tl.at 1 rfl) 0, cell_of (HA5.out.tl.at 1 rfl) 1, cell_of (HA5.out.tl.at 1 rfl) 2, cell_of (HA5.out.tl.at 1 rfl) 3⟩; exact (World.cell?_of_block (HA5.out.keeps.block g hl (fun h => h))).trans HX2.out)
      | go_keep)
    ((first
      | (go_at_call 37; refine (HC.out _).mono ?_; rintro e w4 ⟨rfl, hP, k3⟩; replace HA := Lib.hid (HA.out.none k3); replace HO := Lib.hid (own_keeps HO.out k3); have HP := Lib.hid hP; clear k3 hP)
      | (go_at_call 53; refine (HC1.out _ _ HP.out).mono ?_; rintro e w5 ⟨rfl, b4⟩; replace HA := Lib.hid (HA.out.none (Keeps.ofBelow b4)); replace HO := Lib.hid (own_keeps HO.out (Keeps.ofBelow b4)); have HA5 := Lib.hid (HA.out.alloc (.cells #[.int .u32 (clipP m 0 v.a), .int .u32 (clipP m 1 v.b), .int .u32 (clipP m 2 v.c), .int .u32 (clipP m 3 v.d)] 41)); have HO5 := Lib.hid (own_keeps HO.out ((Keeps.refl _ w5).alloc (.cells #[.int .u32 (clipP m 0 v.a), .int .u32 (clipP m 1 v.b), .int .u32 (clipP m 2 v.c), .int .u32 (clipP m 3 v.d)] 41))); have HNW := Lib.hid (World.news_of_block (heap_new w5 (.cells #[.int .u32 (clipP m 0 v.a), .int .u32 (clipP m 1 v.b), .int .u32 (clipP m 2 v.c), .int .u32 (clipP m 3 v.d)] 41))); clear b4)
      | (refine step_append_lies _ rfl (.tmp 43) (.tmp 52) 73 rfl w.heap.size 41 i0 (.agg #[.int .u32 0, .int .u32 0, .int .u32 0, .int .u32 0]) 4 16 Tryd.underlying73 hi hz0 hz1 hz2 rfl (by decide) (.slice (some ⟨w.heap.size + 2, 0, none⟩) n (n + 1)) n (flatV x.row) rfl HO5.out ⟨w5.heap.size, 0, none⟩ 1 1 #[.int .u32 (clipP m 0 v.a), .int .u32 (clipP m 1 v.b), .int .u32 (clipP m 2 v.c), .int .u32 (clipP m 3 v.d)].toList rfl rfl HNW.out (clip_one m v) (by omega) (by unfold maxLen; omega) (by omega) (Nat.le_trans HA5.out.keeps.size (Nat.le_refl _)) _ rfl ?_; intro g2 cap2 w6 ho6 hgr6 hor hlt6; have HLA := Lib.hid (lt_of (HA5.out.tl.at 0 rfl)); replace HA := Lib.hid (HA5.out.tl.grown (g := w.heap.size + 2) hgr6 (by omega) HLN.out); have HO6 := Lib.hid (And.intro ho6 (And.intro hor hlt6)); have y10 : w6.cell? ⟨g, o + 10, none⟩ = some (.slice a n c) := (cell_of (HA.out.at 2 rfl) (o + 10)).trans HU10.out; have f10 : w6.frozen? ⟨g, o + 10, none⟩ = false := free_of (HA.out.at 2 rfl) (o + 10); have z2 : w6.cell? ⟨g, o + 2, none⟩ = some (.int .i64 (m : Int)) := (World.cell?_of_block (HA.out.keeps.block g hl (fun h => h))).trans HX2.out; have zb0 : w6.cell? ⟨w.heap.size, 0, none⟩ = some (.int .u32 v.a) := cell_of (HA.out.at 1 rfl) 0; have zb1 : w6.cell? ⟨w.heap.size, 1, none⟩ = some (.int .u32 v.b) := cell_of (HA.out.at 1 rfl) 1; have zb2 : w6.cell? ⟨w.heap.size, 2, none⟩ = some (.int .u32 v.c) := cell_of (HA.out.at 1 rfl) 2; have zb3 : w6.cell? ⟨w.heap.size, 3, none⟩ = some (.int .u32 v.d) := cell_of (HA.out.at 1 rfl) 3; clear ho6 hgr6 hor hlt6)))
  have hg6 : w6.heap[g]? = some (.cells cur 75 (0, 0)) := HA.out.at 2 rfl
  have hr6 : w6.heap[w.heap.size + 1]? = some (.cells #[.int .i64 0, .int .u32 0, .int .u32 0, .int .u32 0, .int .u32 0] 45 (0, 0)) := HA.out.at 0 rfl
  have hk6 : Keeps (fun j => j = g) w w6 := ⟨HA.out.keeps.os, HA.out.keeps.tape, HA.out.keeps.output, HA.out.keeps.size, fun k hk1 _ => HA.out.keeps.block k hk1 fun h => h⟩
  have HB7 := Lib.hid (show (w6.setCell ⟨g, o + 10, none⟩ (.slice (some ⟨g2, 0, none⟩) (n + 1) cap2)).heap[g]? = some (.cells (cur.setIfInBounds (o + 10) (.slice (some ⟨g2, 0, none⟩) (n + 1) cap2)) 75 (0, 0)) from heap_set hg6 (o + 10) _)
  have HK7 := Lib.hid (show Keeps (fun j => j = g) w (w6.setCell ⟨g, o + 10, none⟩ (.slice (some ⟨g2, 0, none⟩) (n + 1) cap2)) from hk6.setCell (p := ⟨g, o + 10, none⟩) (.inl rfl) _)
  have hr7 : (w6.setCell ⟨g, o + 10, none⟩ (.slice (some ⟨g2, 0, none⟩) (n + 1) cap2)).heap[w.heap.size + 1]? = some (.cells #[.int .i64 0, .int .u32 0, .int .u32 0, .int .u32 0, .int .u32 0] 45 (0, 0)) := heap_other hr6 hne3 _
  have HK67 := Lib.hid (show Keeps (fun j => j = g ∨ j = w.heap.size + 1) w6 (w6.setCell ⟨g, o + 10, none⟩ (.slice (some ⟨g2, 0, none⟩) (n + 1) cap2)) from (Keeps.refl _ w6).setCell (p := ⟨g, o + 10, none⟩) (.inl (.inl rfl)) _)
  generalize (w6.setCell ⟨g, o + 10, none⟩ (.slice (some ⟨g2, 0, none⟩) (n + 1) cap2)) = W7 at *
  have q0 := cell_of hr7 0
  have q1 := cell_of hr7 1
  have q2 := cell_of hr7 2
  have q3 := cell_of hr7 3
  have q4 := cell_of hr7 4
  have fq0 := free_of hr7 0
  have fq1 := free_of hr7 1
  have fq2 := free_of hr7 2
  have fq3 := free_of hr7 3
  have fq4 := free_of hr7 4
  simp only [List.getElem?_toArray, List.getElem?_cons_zero, List.getElem?_cons_succ] at q0 q1 q2 q3 q4
  clear y10 f10 zb0 zb1 zb2 zb3 z2 hg6 hr6 hk6
  go_wp2_with fail
  refine bodyPost_ret (v := .agg #[.int .i64 0, .int .u32 0, .int .u32 0, .int .u32 0, .int .u32 0]) (by simp [results, Tryd.results49, go_sem, q0, q1, q2, q3, q4]) rfl ⟨rfl, ?_⟩
  obtain ⟨a9, c9, e9, h91, h92, h93, h94, h95⟩ := row_own (R := x.row ++ [v.clip m]) (by rw [flatV_app]; exact HO6.out.1) (by simp [HN.out])
  cases e9
  have hlen : (x.row ++ [v.clip m]).length = n + 1 := by simp [HN.out]
  refine Became.row HX.out.1 (x.row ++ [v.clip m]) (some ⟨g2, 0, none⟩) cap2 (((((HK7.out.setCell (p := ⟨w.heap.size + 1, 0, none⟩) (.inr (by show w.heap.size ≤ w.heap.size + 1; omega)) _).setCell (p := ⟨w.heap.size + 1, 1, none⟩) (.inr (by show w.heap.size ≤ w.heap.size + 1; omega)) _).setCell (p := ⟨w.heap.size + 1, 2, none⟩) (.inr (by show w.heap.size ≤ w.heap.size + 1; omega)) _).setCell (p := ⟨w.heap.size + 1, 3, none⟩) (.inr (by show w.heap.size ≤ w.heap.size + 1; omega)) _).setCell (p := ⟨w.heap.size + 1, 4, none⟩) (.inr (by show w.heap.size ≤ w.heap.size + 1; omega)) _) (by rw [hlen]; exact (heap_other (heap_other (heap_other (heap_other (heap_other HB7.out hne4 _) hne4 _) hne4 _) hne4 _) hne4 _)) (by rw [hlen]; exact h91) h92 h93 (h94.keeps (((((HK67.out.setCell (p := ⟨w.heap.size + 1, 0, none⟩) (.inl (.inr rfl)) _).setCell (p := ⟨w.heap.size + 1, 1, none⟩) (.inl (.inr rfl)) _).setCell (p := ⟨w.heap.size + 1, 2, none⟩) (.inl (.inr rfl)) _).setCell (p := ⟨w.heap.size + 1, 3, none⟩) (.inl (.inr rfl)) _).setCell (p := ⟨w.heap.size + 1, 4, none⟩) (.inl (.inr rfl)) _) fun b off e => ?_) (fun b off e => ?_) hl
  all_goals cases e
  all_goals have h1 : w.heap.size + 2 = g2 ∨ g2 = _ := HO6.out.2.1.imp (fun e => by cases e; rfl) id
  all_goals have h2 := HLA.out
  all_goals omega
end Go.Proofs.YtohajfkekkelhaaDoor
namespace Go.Proofs.YtohajfkekkelhaaDoor
open Go.ChangeShapes Go.WideShapes Go.ChangeAt Go.RowKit
set_option linter.unusedVariables false
set_option linter.unusedSimpArgs false
set_option maxRecDepth 20000 in
set_option maxHeartbeats 8000000 in
theorem doRing_recv (w : World) (g o : Nat) (cur : Array Value) (x : ItemD) (a : Option Addr) (c : Nat) (v : W4) (hb : w.heap[g]? = some (.cells cur 75 (0, 0))) (hx : ItemW w g o cur x a c) (y : W4) (t : List W4) (hr : x.row = y :: t) (hn : x.row.length ≤ 64) :
    Calls Tryd.prog 49 #[.pointer (some ⟨g, o, none⟩), .int .i64 2, .agg v.cells] w fun e w' => e = .returned (.agg (ResD.mk 0 y).cells) ∧ Became w w' g o 75 cur a x.row {x with row := t} := by
  have hx' := hx.fifteen hb
  have hl := lt_of hb
  have hne3 : w.heap.size + 1 ≠ g := by omega
  have hne4 : g ≠ w.heap.size + 1 := by omega
  have hne1 : ¬ g = w.heap.size := by omega
  have hne2 : ¬ w.heap.size = g := by omega
  obtain ⟨b, off, rfl, hbl, hrow⟩ := hx.row (by rw [hr]; simp)
  have hb1 : ¬ b = w.heap.size := by omega
  have c10 : w.cell? ⟨g, o + 10, none⟩ = some (.slice (some ⟨b, off, none⟩) (t.length + 1) c) := by rw [show t.length + 1 = x.row.length by rw [hr]; rfl]; exact hx' 10 _ rfl
  have v0 : w.cell? ⟨b, off, none⟩ = some (.int .u32 y.a) := by simpa using hrow 0 y (by rw [hr]; rfl) 0 _ rfl
  have v1 : w.cell? ⟨b, off + 1, none⟩ = some (.int .u32 y.b) := by simpa using hrow 0 y (by rw [hr]; rfl) 1 _ rfl
  have v2 : w.cell? ⟨b, off + 2, none⟩ = some (.int .u32 y.c) := by simpa using hrow 0 y (by rw [hr]; rfl) 2 _ rfl
  have v3 : w.cell? ⟨b, off + 3, none⟩ = some (.int .u32 y.d) := by simpa using hrow 0 y (by rw [hr]; rfl) 3 _ rfl
  have HX := Lib.hid (And.intro hx hb)
  have htl : t.length + 1 ≤ 64 := by rw [hr] at hn; exact hn
  have htc : t.length + 1 ≤ c := by have := hx.le; rw [hr] at this; exact this
  have HROW := Lib.hid (show ∀ k z, t[k]? = some z → w.rangeAt b (off + 4 + k * 4) z.l from fun k z hz j u hu => by
    have := hrow (k + 1) z (by rw [hr]; exact hz) j u hu
    rwa [show off + (k + 1) * 4 + j = off + 4 + k * 4 + j by omega] at this)
  obtain ⟨q, hq⟩ : ∃ q, t.length = q := ⟨_, rfl⟩
  have HQ := Lib.hid hq
  rw [hq] at c10 htl htc
  clear hx hx' hb hr hn hrow
  rcases Nat.eq_zero_or_pos q with rfl | hpos
  · have HA0 : Has w ((((w.alloc (.cells v.cells 41)).alloc (.cells #[.int .i64 0, .int .u32 0, .int .u32 0, .int .u32 0, .int .u32 0] 45)).alloc (.cells #[.int .u32 y.a, .int .u32 y.b, .int .u32 y.c, .int .u32 y.d] 41)).alloc (.cells (madeCells #[.int .u32 0, .int .u32 0, .int .u32 0, .int .u32 0] (0 * 4)) 41)) [(w.heap.size + 3, .cells (madeCells #[.int .u32 0, .int .u32 0, .int .u32 0, .int .u32 0] (0 * 4)) 41 (0, 0)), (w.heap.size + 2, .cells #[.int .u32 y.a, .int .u32 y.b, .int .u32 y.c, .int .u32 y.d] 41 (0, 0)), (w.heap.size + 1, .cells #[.int .i64 0, .int .u32 0, .int .u32 0, .int .u32 0, .int .u32 0] 45 (0, 0)), (w.heap.size, .cells v.cells 41 (0, 0)), (g, .cells cur 75 (0, 0))] := ((((Has.start w).old HX.out.2).alloc (.cells v.cells 41)).alloc (.cells #[.int .i64 0, .int .u32 0, .int .u32 0, .int .u32 0, .int .u32 0] 45) |>.alloc (.cells #[.int .u32 y.a, .int .u32 y.b, .int .u32 y.c, .int .u32 y.d] 41) |>.alloc (.cells (madeCells #[.int .u32 0, .int .u32 0, .int .u32 0, .int .u32 0] (0 * 4)) 41)).eq (by simp)
    have hrow : RowIn ((((w.alloc (.cells v.cells 41)).alloc (.cells #[.int .i64 0, .int .u32 0, .int .u32 0, .int .u32 0, .int .u32 0] 45)).alloc (.cells #[.int .u32 y.a, .int .u32 y.b, .int .u32 y.c, .int .u32 y.d] 41)).alloc (.cells (madeCells #[.int .u32 0, .int .u32 0, .int .u32 0, .int .u32 0] (0 * 4)) 41)) (some ⟨b, off, none⟩) t := fun hp => by omega
    obtain ⟨w3, hcp, ho, hgr⟩ := copy_values (T := 41) (dT := 73) (g := w.heap.size + 3) (cap := 0) (B := w.heap.size + 3) Tryd.underlying73 (by kernel_rfl) (HA0.at 0 rfl) (by omega) (size_madeCells _ _) (by unfold maxLen; omega) t (by omega) (some ⟨b, off, none⟩) 0 hrow 3
    have HA := Lib.hid (HA0.tl.grown hgr (by omega) (by intro y hy; simp at hy; rcases hy with rfl | rfl | rfl | rfl <;> simp <;> omega))
    rw [hq] at hcp
    have HO := Lib.hid ho
    have HCP := Lib.hid hcp
    clear hcp ho hgr HA0 hrow hq
    have y10 : w3.cell? ⟨g, o + 10, none⟩ = some _ := (World.cell?_of_block (a := ⟨g, o + 10, none⟩) (HA.out.keeps.block g hl (fun h => h))).trans c10
    have f10 : w3.frozen? ⟨g, o + 10, none⟩ = false := free_of (HA.out.at 3 rfl) (o + 10)
    have p0 : w3.cell? ⟨w.heap.size + 2, 0, none⟩ = some (.int .u32 y.a) := cell_of (HA.out.at 0 rfl) 0
    have p1 : w3.cell? ⟨w.heap.size + 2, 1, none⟩ = some (.int .u32 y.b) := cell_of (HA.out.at 0 rfl) 1
    have p2 : w3.cell? ⟨w.heap.size + 2, 2, none⟩ = some (.int .u32 y.c) := cell_of (HA.out.at 0 rfl) 2
    have p3 : w3.cell? ⟨w.heap.size + 2, 3, none⟩ = some (.int .u32 y.d) := cell_of (HA.out.at 0 rfl) 3
    have hr3 : w3.heap[w.heap.size + 1]? = some (.cells #[.int .i64 0, .int .u32 0, .int .u32 0, .int .u32 0, .int .u32 0] 45 (0, 0)) := HA.out.at 1 rfl
    have q0 := cell_of hr3 0
    have q1 := cell_of hr3 1
    have q2 := cell_of hr3 2
    have q3 := cell_of hr3 3
    have q4 := cell_of hr3 4
    have fq0 := free_of hr3 0
    have fq1 := free_of hr3 1
    have fq2 := free_of hr3 2
    have fq3 := free_of hr3 3
    have fq4 := free_of hr3 4
    simp only [List.getElem?_toArray, List.getElem?_cons_zero, List.getElem?_cons_succ] at q0 q1 q2 q3 q4
    have hmk : ∀ w : World, (Instr.makeSlice 73 (.int .i64 (0 : Int)) (.int .i64 (0 : Int))).run Tryd.prog w = .ok (.slice (some ⟨w.heap.size, 0, none⟩) 0 0) (w.alloc (.cells (madeCells #[.int .u32 0, .int .u32 0, .int .u32 0, .int .u32 0] (0 * 4)) 41)) := fun w => make_values w 0 0 (by omega) (by omega)
    have c10' : ∀ o1 o2 o3 o4, ((((w.alloc o1).alloc o2).alloc o3).alloc o4).cell? ⟨g, o + 10, none⟩ = some (.slice (some ⟨b, off, none⟩) (0 + 1) c) := fun o1 o2 o3 o4 => by
      rw [World.cell?_of_block (w := w) (((Below.refl w.heap.size w).alloc (Nat.le_refl _) o1 |>.alloc (by simp) o2 |>.alloc (by simp; omega) o3 |>.alloc (by simp; omega) o4).block g hl)]
      exact c10
    clear hr3
    go_enter Tryd.func49, Tryd.ntmps49
    go_wp2_with (refine wpList_copy_known rfl (.tmp 77) (.tmp 84) 73 73 rfl _ _ rfl rfl HCP.out ?_)
    refine bodyPost_ret (v := .agg (ResD.mk 0 y).cells) (by simp [results, Tryd.results49, go_sem, q0, q1, q2, q3, q4]) rfl ⟨rfl, ?_⟩
    obtain ⟨a9, c9, e9, h91, h92, h93, h94, h95⟩ := row_own (R := t) HO.out rfl
    cases e9
    have hk3 : Keeps (fun j => j = g) w w3 := ⟨HA.out.keeps.os, HA.out.keeps.tape, HA.out.keeps.output, HA.out.keeps.size, fun k hk1 _ => HA.out.keeps.block k hk1 fun h => h⟩
    have HA3 := Lib.hid (show w3.heap[g]? = some (.cells cur 75 (0, 0)) from HA.out.at 3 rfl)
    rw [HQ.out] at h91
    refine Became.row HX.out.1 t _ _ ((((((hk3.setCell (p := ⟨g, o + 10, none⟩) (.inl rfl) _).setCell (p := ⟨w.heap.size + 1, 0, none⟩) (.inr (by show w.heap.size ≤ w.heap.size + 1; omega)) _).setCell (p := ⟨w.heap.size + 1, 1, none⟩) (.inr (by show w.heap.size ≤ w.heap.size + 1; omega)) _).setCell (p := ⟨w.heap.size + 1, 2, none⟩) (.inr (by show w.heap.size ≤ w.heap.size + 1; omega)) _).setCell (p := ⟨w.heap.size + 1, 3, none⟩) (.inr (by show w.heap.size ≤ w.heap.size + 1; omega)) _).setCell (p := ⟨w.heap.size + 1, 4, none⟩) (.inr (by show w.heap.size ≤ w.heap.size + 1; omega)) _) (by rw [HQ.out]; exact heap_other (heap_other (heap_other (heap_other (heap_other (heap_set HA3.out (o + 10) _) hne4 _) hne4 _) hne4 _) hne4 _) hne4 _) (by rw [HQ.out]; exact h91) (by unfold maxLen; omega) (fun e => by cases e) (h94.keeps (S := fun j => j = g ∨ j = w.heap.size + 1) (((((((Keeps.refl _ w3).setCell (p := ⟨g, o + 10, none⟩) (.inl (.inl rfl)) _).setCell (p := ⟨w.heap.size + 1, 0, none⟩) (.inl (.inr rfl)) _).setCell (p := ⟨w.heap.size + 1, 1, none⟩) (.inl (.inr rfl)) _).setCell (p := ⟨w.heap.size + 1, 2, none⟩) (.inl (.inr rfl)) _).setCell (p := ⟨w.heap.size + 1, 3, none⟩) (.inl (.inr rfl)) _).setCell (p := ⟨w.heap.size + 1, 4, none⟩) (.inl (.inr rfl)) _) fun b off e => ?_) (fun b off e => ?_) hl
    all_goals have h1 := h95 b off e
    all_goals omega
  · have HA0 : Has w ((((w.alloc (.cells v.cells 41)).alloc (.cells #[.int .i64 0, .int .u32 0, .int .u32 0, .int .u32 0, .int .u32 0] 45)).alloc (.cells #[.int .u32 y.a, .int .u32 y.b, .int .u32 y.c, .int .u32 y.d] 41)).alloc (.cells (madeCells #[.int .u32 0, .int .u32 0, .int .u32 0, .int .u32 0] (q * 4)) 41)) [(w.heap.size + 3, .cells (madeCells #[.int .u32 0, .int .u32 0, .int .u32 0, .int .u32 0] (q * 4)) 41 (0, 0)), (w.heap.size + 2, .cells #[.int .u32 y.a, .int .u32 y.b, .int .u32 y.c, .int .u32 y.d] 41 (0, 0)), (w.heap.size + 1, .cells #[.int .i64 0, .int .u32 0, .int .u32 0, .int .u32 0, .int .u32 0] 45 (0, 0)), (w.heap.size, .cells v.cells 41 (0, 0)), (g, .cells cur 75 (0, 0))] := ((((Has.start w).old HX.out.2).alloc (.cells v.cells 41)).alloc (.cells #[.int .i64 0, .int .u32 0, .int .u32 0, .int .u32 0, .int .u32 0] 45) |>.alloc (.cells #[.int .u32 y.a, .int .u32 y.b, .int .u32 y.c, .int .u32 y.d] 41) |>.alloc (.cells (madeCells #[.int .u32 0, .int .u32 0, .int .u32 0, .int .u32 0] (q * 4)) 41)).eq (by simp)
    have hrow : RowIn ((((w.alloc (.cells v.cells 41)).alloc (.cells #[.int .i64 0, .int .u32 0, .int .u32 0, .int .u32 0, .int .u32 0] 45)).alloc (.cells #[.int .u32 y.a, .int .u32 y.b, .int .u32 y.c, .int .u32 y.d] 41)).alloc (.cells (madeCells #[.int .u32 0, .int .u32 0, .int .u32 0, .int .u32 0] (q * 4)) 41)) (some ⟨b, off + 4, none⟩) t := fun hp => ⟨b, off + 4, rfl, Nat.lt_of_lt_of_le hbl HA0.keeps.size, fun k z hz => range_below (HROW.out k z hz) HA0.keeps.none hbl⟩
    obtain ⟨w3, hcp, ho, hgr⟩ := copy_values (T := 41) (dT := 73) (g := w.heap.size + 3) (cap := q) (B := w.heap.size + 3) Tryd.underlying73 (by kernel_rfl) (HA0.at 0 rfl) (by omega) (size_madeCells _ _) (by unfold maxLen; omega) t (by omega) (some ⟨b, off + 4, none⟩) q hrow 3
    have HA := Lib.hid (HA0.tl.grown hgr (by omega) (by intro y hy; simp at hy; rcases hy with rfl | rfl | rfl | rfl <;> simp <;> omega))
    rw [hq] at hcp
    have HO := Lib.hid ho
    have HCP := Lib.hid hcp
    clear hcp ho hgr HA0 hrow hq
    have y10 : w3.cell? ⟨g, o + 10, none⟩ = some _ := (World.cell?_of_block (a := ⟨g, o + 10, none⟩) (HA.out.keeps.block g hl (fun h => h))).trans c10
    have f10 : w3.frozen? ⟨g, o + 10, none⟩ = false := free_of (HA.out.at 3 rfl) (o + 10)
    have p0 : w3.cell? ⟨w.heap.size + 2, 0, none⟩ = some (.int .u32 y.a) := cell_of (HA.out.at 0 rfl) 0
    have p1 : w3.cell? ⟨w.heap.size + 2, 1, none⟩ = some (.int .u32 y.b) := cell_of (HA.out.at 0 rfl) 1
    have p2 : w3.cell? ⟨w.heap.size + 2, 2, none⟩ = some (.int .u32 y.c) := cell_of (HA.out.at 0 rfl) 2
    have p3 : w3.cell? ⟨w.heap.size + 2, 3, none⟩ = some (.int .u32 y.d) := cell_of (HA.out.at 0 rfl) 3
    have hr3 : w3.heap[w.heap.size + 1]? = some (.cells #[.int .i64 0, .int .u32 0, .int .u32 0, .int .u32 0, .int .u32 0] 45 (0, 0)) := HA.out.at 1 rfl
    have q0 := cell_of hr3 0
    have q1 := cell_of hr3 1
    have q2 := cell_of hr3 2
    have q3 := cell_of hr3 3
    have q4 := cell_of hr3 4
    have fq0 := free_of hr3 0
    have fq1 := free_of hr3 1
    have fq2 := free_of hr3 2
    have fq3 := free_of hr3 3
    have fq4 := free_of hr3 4
    simp only [List.getElem?_toArray, List.getElem?_cons_zero, List.getElem?_cons_succ] at q0 q1 q2 q3 q4
    have hmk : ∀ w : World, (Instr.makeSlice 73 (.int .i64 (q : Int)) (.int .i64 (q : Int))).run Tryd.prog w = .ok (.slice (some ⟨w.heap.size, 0, none⟩) q q) (w.alloc (.cells (madeCells #[.int .u32 0, .int .u32 0, .int .u32 0, .int .u32 0] (q * 4)) 41)) := fun w => make_values w q q (by omega) (by omega)
    have c10' : ∀ o1 o2 o3 o4, ((((w.alloc o1).alloc o2).alloc o3).alloc o4).cell? ⟨g, o + 10, none⟩ = some (.slice (some ⟨b, off, none⟩) (q + 1) c) := fun o1 o2 o3 o4 => by
      rw [World.cell?_of_block (w := w) (((Below.refl w.heap.size w).alloc (Nat.le_refl _) o1 |>.alloc (by simp) o2 |>.alloc (by simp; omega) o3 |>.alloc (by simp; omega) o4).block g hl)]
      exact c10
    have hq0 : ¬ q = 0 := by omega
    clear hr3
    go_enter Tryd.func49, Tryd.ntmps49
    go_wp2_with (refine wpList_copy_known rfl (.tmp 77) (.tmp 84) 73 73 rfl _ _ rfl rfl HCP.out ?_)
    refine bodyPost_ret (v := .agg (ResD.mk 0 y).cells) (by simp [results, Tryd.results49, go_sem, q0, q1, q2, q3, q4]) rfl ⟨rfl, ?_⟩
    obtain ⟨a9, c9, e9, h91, h92, h93, h94, h95⟩ := row_own (R := t) HO.out rfl
    cases e9
    have hk3 : Keeps (fun j => j = g) w w3 := ⟨HA.out.keeps.os, HA.out.keeps.tape, HA.out.keeps.output, HA.out.keeps.size, fun k hk1 _ => HA.out.keeps.block k hk1 fun h => h⟩
    have HA3 := Lib.hid (show w3.heap[g]? = some (.cells cur 75 (0, 0)) from HA.out.at 3 rfl)
    rw [HQ.out] at h91
    refine Became.row HX.out.1 t _ _ ((((((hk3.setCell (p := ⟨g, o + 10, none⟩) (.inl rfl) _).setCell (p := ⟨w.heap.size + 1, 0, none⟩) (.inr (by show w.heap.size ≤ w.heap.size + 1; omega)) _).setCell (p := ⟨w.heap.size + 1, 1, none⟩) (.inr (by show w.heap.size ≤ w.heap.size + 1; omega)) _).setCell (p := ⟨w.heap.size + 1, 2, none⟩) (.inr (by show w.heap.size ≤ w.heap.size + 1; omega)) _).setCell (p := ⟨w.heap.size + 1, 3, none⟩) (.inr (by show w.heap.size ≤ w.heap.size + 1; omega)) _).setCell (p := ⟨w.heap.size + 1, 4, none⟩) (.inr (by show w.heap.size ≤ w.heap.size + 1; omega)) _) (by rw [HQ.out]; exact heap_other (heap_other (heap_other (heap_other (heap_other (heap_set HA3.out (o + 10) _) hne4 _) hne4 _) hne4 _) hne4 _) hne4 _) (by rw [HQ.out]; exact h91) (by unfold maxLen; omega) (fun e => by cases e) (h94.keeps (S := fun j => j = g ∨ j = w.heap.size + 1) (((((((Keeps.refl _ w3).setCell (p := ⟨g, o + 10, none⟩) (.inl (.inl rfl)) _).setCell (p := ⟨w.heap.size + 1, 0, none⟩) (.inl (.inr rfl)) _).setCell (p := ⟨w.heap.size + 1, 1, none⟩) (.inl (.inr rfl)) _).setCell (p := ⟨w.heap.size + 1, 2, none⟩) (.inl (.inr rfl)) _).setCell (p := ⟨w.heap.size + 1, 3, none⟩) (.inl (.inr rfl)) _).setCell (p := ⟨w.heap.size + 1, 4, none⟩) (.inl (.inr rfl)) _) fun b off e => ?_) (fun b off e => ?_) hl
    all_goals have h1 := h95 b off e
    all_goals omega
end Go.Proofs.YtohajfkekkelhaaDoor
namespace Go.Proofs.YtohajfkekkelhaaDoor
open Go.ChangeShapes Go.WideShapes Go.ChangeAt Go.RowKit
set_option linter.unusedVariables false
set_option linter.unusedSimpArgs false
set_option maxRecDepth 20000 in
set_option maxHeartbeats 8000000 in
/-- A call to a ring that is refused. -/
theorem doRing_not (w : World) (g o : Nat) (cur : Array Value) (x : ItemD) (a : Option Addr) (c : Nat) (v : W4) (k : Int) (f : Int) (hb : w.heap[g]? = some (.cells cur 75 (0, 0))) (hx : ItemW w g o cur x a c) (hf : (k = 1 ∧ x.o 1 ≤ (x.row.length : Int) ∧ f = 6) ∨ (k = 2 ∧ x.row = [] ∧ f = 7) ∨ ((k == 1) = false ∧ (k == 2) = false ∧ f = 12)) :
    Calls Tryd.prog 49 #[.pointer (some ⟨g, o, none⟩), .int .i64 k, .agg v.cells] w fun e w' => e = .returned (.agg (res0 f).cells) ∧ Became w w' g o 75 cur a x.row x := by
  have hx' := hx.fifteen hb
  have hl := lt_of hb
  have c1 : w.cell? ⟨g, o + 1, none⟩ = some (.int .i64 (x.o 1)) := hx' 1 _ rfl
  have c10 : w.cell? ⟨g, o + 10, none⟩ = some (.slice a x.row.length c) := hx' 10 _ rfl
  have HX := Lib.hid (And.intro hx hb)
  rcases hf with ⟨rfl, h1, rfl⟩ | ⟨rfl, h1, rfl⟩ | ⟨h1, h2, rfl⟩
  · have d1 : decide (x.o 1 ≤ (x.row.length : Int)) = true := decide_eq_true h1
    generalize x.row.length = n at *
    clear hx hx' hb h1
    go_enter Tryd.func49, Tryd.ntmps49
    go_wp2_with fail
    refine bodyPost_ret (v := .agg (res0 6).cells) (by simp [results, Tryd.results49, go_sem, res0, W4.zero]) rfl ⟨rfl, Became.same HX.out.1 HX.out.2 (((Keeps.refl _ w).alloc _).alloc _)⟩
  · have hn : x.row.length = 0 := by rw [h1]; rfl
    rw [hn] at c10
    clear hx hx' hb h1 hn
    go_enter Tryd.func49, Tryd.ntmps49
    go_wp2_with fail
    refine bodyPost_ret (v := .agg (res0 7).cells) (by simp [results, Tryd.results49, go_sem, res0, W4.zero]) rfl ⟨rfl, Became.same HX.out.1 HX.out.2 (((Keeps.refl _ w).alloc _).alloc _)⟩
  · generalize x.row.length = n at *
    clear hx hx' hb
    go_enter Tryd.func49, Tryd.ntmps49
    go_wp2_with fail
    refine bodyPost_ret (v := .agg (res0 12).cells) (by simp [results, Tryd.results49, go_sem, res0, W4.zero]) rfl ⟨rfl, Became.same HX.out.1 HX.out.2 (((Keeps.refl _ w).alloc _).alloc _)⟩
end Go.Proofs.YtohajfkekkelhaaDoor
namespace Go.Proofs.YtohajfkekkelhaaDoor
open Go.ChangeShapes Go.WideShapes Go.ChangeAt Go.RowKit
set_option linter.unusedVariables false
set_option linter.unusedSimpArgs false
theorem doRing_any (w : World) (g o : Nat) (cur : Array Value) (x : ItemD) (a : Option Addr) (c : Nat) (v : W4) (k : Int) (m : Nat) (hb : w.heap[g]? = some (.cells cur 75 (0, 0))) (hx : ItemW w g o cur x a c) (hm : x.o 2 = (m : Int)) (hm1 : m ≤ 1000) (hn : x.row.length ≤ 64) :
    Calls Tryd.prog 49 #[.pointer (some ⟨g, o, none⟩), .int .i64 k, .agg v.cells] w fun e w' => e = .returned (.agg (ringP x k v m).2.cells) ∧ Became w w' g o 75 cur a x.row (ringP x k v m).1 := by
  by_cases h1 : k = 1
  · subst h1
    by_cases h2 : x.o 1 ≤ (x.row.length : Int)
    · rw [show ringP x 1 v m = (x, res0 6) by unfold ringP; rw [if_pos (beq_self_eq_true (1 : Int)), if_pos h2]]
      exact doRing_not w g o cur x a c v 1 6 hb hx (.inl ⟨rfl, h2, rfl⟩)
    · rw [show ringP x 1 v m = ({x with row := x.row ++ [v.clip m]}, res0 0) by unfold ringP; rw [if_pos (beq_self_eq_true (1 : Int)), if_neg h2]]
      exact doRing_send w g o cur x a c v m hb hx hm hm1 hn h2
  · have e1 : (k == 1) = false := by simpa using h1
    by_cases h2 : k = 2
    · subst h2
      have hcase : x.row = [] ∨ ∃ y t, x.row = y :: t := by
        cases x.row with
        | nil => exact .inl rfl
        | cons y t => exact .inr ⟨y, t, rfl⟩
      rcases hcase with hr | ⟨y, t, hr⟩
      · rw [show ringP x 2 v m = (x, res0 7) by unfold ringP; rw [if_neg (by decide), if_pos (beq_self_eq_true (2 : Int)), hr]]
        exact doRing_not w g o cur x a c v 2 7 hb hx (.inr (.inl ⟨rfl, hr, rfl⟩))
      · rw [show ringP x 2 v m = ({x with row := t}, ⟨0, y⟩) by unfold ringP; rw [if_neg (by decide), if_pos (beq_self_eq_true (2 : Int)), hr]]
        exact doRing_recv w g o cur x a c v hb hx y t hr hn
    · have e2 : (k == 2) = false := by simpa using h2
      rw [show ringP x k v m = (x, res0 12) by unfold ringP; rw [e1, e2]; rfl]
      exact doRing_not w g o cur x a c v k 12 hb hx (.inr (.inr ⟨e1, e2, rfl⟩))
/-- A call to an item. -/
def stepP (x : ItemD) (k : Int) (v : W4) : ItemD × ResD :=
  if kindP x.o = 1 then ringP x k v (x.o 2).toNat
  else if kindP x.o = 2 ∨ kindP x.o = 3 then valueP x k v (x.o 2).toNat
  else if kindP x.o = 4 then flagsP x x.v.a.toNat k v.a.toNat
  else (x, res0 12)
/-- A call done at once. -/
def doP (L : List ItemD) (k obj : Int) (v : W4) : List ItemD × ResD :=
  if knownP (plainP k) = false then (L, res0 1)
  else if obj < 0 ∨ (L.length : Int) ≤ obj then (L, res0 4)
  else match L[obj.toNat]? with
    | none => (L, res0 4)
    | some x => (L.set obj.toNat (stepP x (plainP k) v).1, (stepP x (plainP k) v).2)
/-- An item has become another one within its state; a block that was new at the start may have been written. -/
theorem state_set {w w' w'' : World} {g i B A : Nat} {T : TypeId} {cur : Array Value} {L : List ItemD} {x x' : ItemD} {a : Option Addr} {c : Nat} (hall : ∀ k y, L[k]? = some y → ∃ a c, ItemW w g (k * 15) cur y a c ∧ (0 < y.row.length → ∀ b off, a = some ⟨b, off, none⟩ → b < B))
    (hi : L[i]? = some x) (hx : ItemW w g (i * 15) cur x a c) (hxb : 0 < x.row.length → ∀ b off, a = some ⟨b, off, none⟩ → b < B) (hbc : Became w w' g (i * 15) T cur a x.row x')
    (hk : Keeps (fun j => j = A) w' w'') (hA1 : B ≤ A) (hA2 : A < w.heap.size) (hg : A ≠ g) (hBg : B ≤ g) (hgw : g < w.heap.size) : StateAt w'' g (L.set i x') := by
  obtain ⟨cur', a', c', hb', hsz, hout, hw', hkk, hnew⟩ := hbc
  have hg' : w''.heap[g]? = some (.cells cur' T (0, 0)) := hk.at hb' (by omega)
  refine ⟨lt_of hg', fun k y hy => ?_⟩
  by_cases e : k = i
  · subst e
    rw [List.getElem?_set_self (List.getElem?_eq_some_iff.1 hi).1] at hy
    obtain rfl := Option.some.inj hy
    refine ⟨a', c', fun j v hv => (cell_of hg' (k * 15 + j)).trans (hw'.cur j v hv), hw'.le, hw'.max, hw'.nil, fun hn => ?_⟩
    obtain ⟨b, off, e1, hl, hr⟩ := hw'.row hn
    have hbA : b ≠ A := by
      rcases hnew with h | h
      · rw [h.1] at e1
        have := hxb (by rw [← h.2]; exact hn) b off e1
        omega
      · have := h b off e1; omega
    refine ⟨b, off, e1, Nat.lt_of_lt_of_le hl hk.size, fun q v hv j u hu => ?_⟩
    rw [World.cell?_of_block (a := ⟨b, off + q * 4 + j, none⟩) (hk.block b hl hbA)]
    exact hr q v hv j u hu
  · rw [List.getElem?_set_ne (by omega)] at hy
    obtain ⟨a1, c1, h1, h1b⟩ := hall k y hy
    have h2 := h1.keeps (w' := w') (cur' := cur') hkk fun j hj1 hj2 => hout j (by omega)
    refine ⟨a1, c1, fun j v hv => (cell_of hg' (k * 15 + j)).trans (h2.cur j v hv), h2.le, h2.max, h2.nil, fun hn => ?_⟩
    obtain ⟨b, off, e1, hl, hr⟩ := h2.row hn
    have := h1b hn b off e1
    refine ⟨b, off, e1, Nat.lt_of_lt_of_le hl hk.size, fun q v hv j u hu => ?_⟩
    rw [World.cell?_of_block (a := ⟨b, off + q * 4 + j, none⟩) (hk.block b hl (by omega))]
    exact hr q v hv j u hu
/-- A state as it was; a block that was new at the start may have been written. -/
theorem state_kept {w w'' : World} {g B A : Nat} {T : TypeId} {cur : Array Value} {L : List ItemD} (hall : ∀ k y, L[k]? = some y → ∃ a c, ItemW w g (k * 15) cur y a c ∧ (0 < y.row.length → ∀ b off, a = some ⟨b, off, none⟩ → b < B)) (hb : w.heap[g]? = some (.cells cur T (0, 0)))
    (hk : Keeps (fun j => j = A) w w'') (hA1 : B ≤ A) (hg : A ≠ g) : StateAt w'' g L := by
  have hg' : w''.heap[g]? = some (.cells cur T (0, 0)) := hk.at hb (by omega)
  refine ⟨lt_of hg', fun k y hy => ?_⟩
  obtain ⟨a1, c1, h2, h1b⟩ := hall k y hy
  refine ⟨a1, c1, fun j v hv => (cell_of hg' (k * 15 + j)).trans (h2.cur j v hv), h2.le, h2.max, h2.nil, fun hn => ?_⟩
  obtain ⟨b, off, e1, hl, hr⟩ := h2.row hn
  have := h1b hn b off e1
  refine ⟨b, off, e1, Nat.lt_of_lt_of_le hl hk.size, fun q v hv j u hu => ?_⟩
  rw [World.cell?_of_block (a := ⟨b, off + q * 4 + j, none⟩) (hk.block b hl (by omega))]
  exact hr q v hv j u hu
end Go.Proofs.YtohajfkekkelhaaDoor
