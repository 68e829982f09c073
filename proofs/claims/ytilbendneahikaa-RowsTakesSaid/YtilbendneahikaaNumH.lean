import Derived.Test.YtilbendneahikaaNumG
import Derived.Test.YtilbendneahikaaScopeIn
import Derived.Test.YtilbendneahikaaAppRun
import Derived.Maps.AppendAt
import Derived.Handy
import Derived.Deep.Onto
namespace Go.Proofs.Ytilbendneahikaa
open Go.RowKit Go.Shelf
set_option linter.unusedVariables false
attribute [local go_sem] Oper.semAt_some
attribute [local go_sem ↓ 2000] app_pre
attribute [local go_sem] app_run
set_option maxHeartbeats 1000000 in
theorem parts_in (n : Nat) (S T : ByteArray) (w : World) :
    CallsIn Fence.wide n Try.prog 29 #[.string S, .string T] w fun e w' => e = .returned (.func (.func 36) #[] #[.pointer (some ⟨w.heap.size, 0, none⟩), .pointer (some ⟨w.heap.size + 1, 0, none⟩)]) ∧ w' = (w.alloc (.cells #[.string S] 9)).alloc (.cells #[.string T] 9) := by
  refine callsIn_of_wp Try.func29 rfl trivial ?_ rfl
  simp only [Try.ntmps29, List.size_toArray, List.length_cons, List.length_nil, Nat.reduceAdd, Nat.reduceSub, Array.replicate_succ, Array.replicate_zero, List.push_toArray, List.append_toArray, List.nil_append, List.cons_append]
  gi_wp2
  go_ret
  exact ⟨rfl, rfl⟩
theorem parts_stops (n : Nat) (hn : 1 ≤ n) (Bs Bn n₀ : Nat) (w : World) (hn₀ : n₀ ≤ w.heap.size) (s sep : List UInt8) (ix : List UInt8 → Int) (M : Nat) (hM : M ≤ 1000000) (hsep : 0 < sep.length) (hsM : s.length ≤ M) (hbM : sep.length ≤ M)
    (Q : World → Prop) (hQ : ∀ A B, Below n₀ A B → Q A → Q B) (hIx : ∀ (r : List UInt8) (W : World), Q W → r.length ≤ M → Calls Try.prog 37 #[.string ⟨r.toArray⟩, .string ⟨sep.toArray⟩] W fun e W' => e = .returned (.int .i64 (ix r)) ∧ W' = W)
    (L : List (List UInt8)) (hL : Cuts sep ix L s) (hc : Boxed w Bs 9 (.string ⟨s.toArray⟩)) (hc2 : Boxed w Bn 9 (.string ⟨sep.toArray⟩)) (hQ0 : Q w) :
    SeqStopsK Fence.wide n Try.prog 36 #[.pointer (some ⟨Bs, 0, none⟩), .pointer (some ⟨Bn, 0, none⟩)] (fun x : {x : List UInt8 // x ∈ L} => #[Value.string ⟨x.1.toArray⟩]) (KS n₀ Bn) (fun ys => ys = L.attach) (fun pre => pre <+: L.attach) L.attach.length w := fun l J Jx W hW _ _ hY h0 =>
  parts1_in n hn l Bs Bn n₀ s sep ix M hM hsep hsM hbM Q hQ hIx L hL J Jx hY W ((hW.block Bs hc.lt).trans hc) ((hW.block Bn hc2.lt).trans hc2) (hQ _ _ (hW.mono hn₀) hQ0) h0
/-- Whole numbers as cells. -/
def cellsI (l : List Int) : List Value := l.map fun n => Value.int .i64 n
theorem info_int : (Try.prog.info? 3).map (fun i => (i.zero, i.size, i.bytes)) = some (some (.int .i64 0), 1, 8) := by kernel_rfl
theorem cellsI_snoc (l : List Int) (x : Int) : cellsI (l ++ [x]) = cellsI l ++ [.int .i64 x] := by simp [cellsI]
theorem keeps_others {W W' : World} (h : Keeps (fun _ => False) W W') : KeepsOthers W W' := ⟨h.size, fun _ _ hk _ => h.at hk (fun h => h)⟩
theorem row_keeps {W W' : World} {B : Nat} {e : TypeId} {k : Nat} {v : Value} {n : Nat} {xs : List Value} (h : W.ownsRow B e k v n xs) (hk : Keeps (fun _ => False) W W') : W'.ownsRow B e k v n xs :=
  h.kept (row := none) ⟨hk.os, hk.tape, hk.output, hk.size, fun j hj _ => hk.none.block j hj⟩ (by cases hv : v.ownBlock <;> simp)
theorem cell_one_new (w : World) (x : Value) (t : TypeId) : ∀ (j : Nat) u, [x][j]? = some u → (w.alloc (.cells #[x] t)).cell? ((⟨w.heap.size, 0, none⟩ : Addr).add j) = some u := by
  intro j u hj
  cases j with
  | zero => cases hj; rw [show ((⟨w.heap.size, 0, none⟩ : Addr).add 0) = ⟨w.heap.size, 0, none⟩ from rfl, cell_of (heap_new w _) 0]; rfl
  | succ j => simp at hj
theorem app_num {W : World} {z n₀ B : Nat} {v : Value} {M : List Int} (x : Int) (hv : Boxed W B 31 v) (hrow : W.ownsRow n₀ 3 1 v M.length (cellsI M)) (hn₀ : n₀ ≤ W.heap.size) (hz : z ≤ n₀) (hB : z ≤ B) (hm : M.length < 1000000) :
    ∃ g cap w1, appRun Try.prog #[31, 31] 31 #[v, .slice (some ⟨W.heap.size, 0, none⟩) 1 1] (W.alloc (.cells #[.int .i64 x] 3)) = .ok (.slice (some ⟨g, 0, none⟩) (M.length + 1) cap) w1 ∧
      Boxed w1 B 31 v ∧ Boxed (w1.setCell ⟨B, 0, none⟩ (.slice (some ⟨g, 0, none⟩) (M.length + 1) cap)) B 31 (.slice (some ⟨g, 0, none⟩) (M.length + 1) cap) ∧
      (w1.setCell ⟨B, 0, none⟩ (.slice (some ⟨g, 0, none⟩) (M.length + 1) cap)).ownsRow n₀ 3 1 (.slice (some ⟨g, 0, none⟩) (M.length + 1) cap) (M ++ [x]).length (cellsI (M ++ [x])) ∧
      KeepsOthers W (w1.setCell ⟨B, 0, none⟩ (.slice (some ⟨g, 0, none⟩) (M.length + 1) cap)) ∧ Below z W (w1.setCell ⟨B, 0, none⟩ (.slice (some ⟨g, 0, none⟩) (M.length + 1) cap)) ∧
      ∀ (k : Nat) (t : TypeId) (u : Value), k ≠ B → k < n₀ → Boxed W k t u → Boxed (w1.setCell ⟨B, 0, none⟩ (.slice (some ⟨g, 0, none⟩) (M.length + 1) cap)) k t u := by
  obtain ⟨i0, hi, hz0, hz1, hz2⟩ := info_parts info_int
  obtain ⟨v', w1, hrun, hown, hgrow, _⟩ := run_append_own (P := Try.prog) (W.alloc (.cells #[.int .i64 x] 3)) n₀ 31 31 3 i0 _ 1 8 Try.underlying31 hi hz0 hz1 hz2 rfl (by decide) v M.length (cellsI M) (hrow.alloc _) ⟨W.heap.size, 0, none⟩ 1 1 [.int .i64 x] rfl (cell_one_new W _ _) (by simp [Value.oneCell']) (by unfold maxLen; omega) (by omega) (by rw [World.size_alloc]; exact Nat.le_succ_of_le hn₀)
  obtain ⟨g, cap, rfl⟩ := ownsRow_succ hown
  obtain ⟨h1, h2, h3, h4, h5⟩ := hv.appended (by decide) (hrow.mono hz) (Nat.le_trans hz hn₀) hB (hown.mono hz) hgrow
  have h6 := hown.kept (grownBy_setCell' w1 B (.slice (some ⟨g, 0, none⟩) (M.length + 1) cap)) (.inr (h1.not_row (by decide) hown).symm)
  refine ⟨g, cap, w1, hrun, h1, h2, by rw [cellsI_snoc, List.length_append]; exact h6, h4, h5, fun k t u hk hkn hu => ?_⟩
  have a1 : Boxed w1 k t u := (hu.alloc _).kept hgrow (fun e => by have := (hrow.lt k e.symm).1; omega)
  exact heap_other a1 hk _
set_option maxRecDepth 100000 in
set_option maxHeartbeats 2000000 in
/-- Split where every part is a number's text. -/
theorem split_good (w : World) (s sep : List UInt8) (ix : List UInt8 → Int) (M : Nat) (hM : M < 1000000) (hsep : 0 < sep.length) (hs0 : 0 < s.length) (hsM : s.length ≤ M) (hbM : sep.length ≤ M)
    (hIx : ∀ (r : List UInt8) (W : World), r.length ≤ M → Calls Try.prog 37 #[.string ⟨r.toArray⟩, .string ⟨sep.toArray⟩] W fun e W' => e = .returned (.int .i64 (ix r)) ∧ W' = W)
    (L : List (List UInt8)) (hL : Cuts sep ix L s) (a b : Int) (ha : -9223372036854775808 ≤ a ∧ a ≤ 9223372036854775807) (hb : -9223372036854775808 ≤ b ∧ b ≤ 9223372036854775807)
    (num : List UInt8 → Int) (hok : ∀ p, p ∈ L → p.length < 1000000 ∧ parP p a b = (num p, 0)) (hLl : L.length < 1000000) :
    Calls Try.prog 13 #[.string ⟨s.toArray⟩, .string ⟨sep.toArray⟩, .int .i64 a, .int .i64 b] w fun e w' => ∃ v, e = .returned (.tuple #[v, .int .i64 0]) ∧ w'.ownsRow w.heap.size 3 1 v L.length (cellsI (L.map num)) ∧ Below w.heap.size w w' := by
  have hf : Fence.wide.fn 29 := trivial
  have e1 : (ByteArray.mk s.toArray).toList = s := ByteArray.toList_mk _
  have e2 : (ByteArray.mk sep.toArray).toList = sep := ByteArray.toList_mk _
  have e3 : (ByteArray.mk #[]).toList = [] := ByteArray.toList_mk []
  have g1 : (s == ([] : List UInt8)) = false := by cases s with | nil => cases hs0 | cons x t => rfl
  have g2 : (sep == ([] : List UInt8)) = false := by cases sep with | nil => cases hsep | cons x t => rfl
  have HS := Lib.hid (fun (n : Nat) (hn : 1 ≤ n) (Bs Bn n₀ : Nat) (w : World) (hn₀ : n₀ ≤ w.heap.size) (hc : Boxed w Bs 9 (.string ⟨s.toArray⟩)) (hc2 : Boxed w Bn 9 (.string ⟨sep.toArray⟩)) => parts_stops n hn Bs Bn n₀ w hn₀ s sep ix M (by omega) hsep hsM hbM (fun _ => True) (fun _ _ _ _ => trivial) (fun r W _ => hIx r W) L hL hc hc2 trivial)
  clear hIx hL
  generalize (⟨s.toArray⟩ : ByteArray) = S at e1 HS ⊢
  generalize (⟨sep.toArray⟩ : ByteArray) = T at e2 HS ⊢
  refine (callsIn_wide (n := 9)).1 ?_
  refine callsIn_of_wp_marks Try.func13 rfl trivial ?_ rfl
  simp only [Try.ntmps13, List.size_toArray, List.length_cons, List.length_nil, Nat.reduceAdd, Nat.reduceSub, Array.replicate_succ, Array.replicate_zero, List.push_toArray, List.append_toArray, List.nil_append, List.cons_append]
  gi_wp2
  refine wpIn_scope_ghost 0 (fun _ _ _ => False) rfl (fun _ _ _ h => h.elim) ?_
  intro _
  gi_wp2
  refine wpIn_label ?_
  rename_i K hK
  refine hK _ _ ?_
  gi_wp2_with (gi_at_call 29; refine (parts_in _ _ _ _).mono ?_; rintro e w' ⟨rfl, rfl⟩)
  have b0 := (((((Boxed.new w 3 (.int .i64 a)).alloc (.cells #[.int .i64 b] 3)).alloc (.cells #[.slice none 0 0] 31)).alloc (.cells #[.int .i64 0] 23)).alloc (.cells #[.string S] 9)).alloc (.cells #[.string T] 9)
  have b1 := ((((Boxed.new (w.alloc (.cells #[.int .i64 a] 3)) 3 (.int .i64 b)).alloc (.cells #[.slice none 0 0] 31)).alloc (.cells #[.int .i64 0] 23)).alloc (.cells #[.string S] 9)).alloc (.cells #[.string T] 9)
  have b2 := (((Boxed.new ((w.alloc (.cells #[.int .i64 a] 3)).alloc (.cells #[.int .i64 b] 3)) 31 (.slice none 0 0)).alloc (.cells #[.int .i64 0] 23)).alloc (.cells #[.string S] 9)).alloc (.cells #[.string T] 9)
  have b3 := ((Boxed.new (((w.alloc (.cells #[.int .i64 a] 3)).alloc (.cells #[.int .i64 b] 3)).alloc (.cells #[.slice none 0 0] 31)) 23 (.int .i64 0)).alloc (.cells #[.string S] 9)).alloc (.cells #[.string T] 9)
  have b4 := (Boxed.new ((((w.alloc (.cells #[.int .i64 a] 3)).alloc (.cells #[.int .i64 b] 3)).alloc (.cells #[.slice none 0 0] 31)).alloc (.cells #[.int .i64 0] 23)) 9 (.string S)).alloc (.cells #[.string T] 9)
  have b5 := Boxed.new (((((w.alloc (.cells #[.int .i64 a] 3)).alloc (.cells #[.int .i64 b] 3)).alloc (.cells #[.slice none 0 0] 31)).alloc (.cells #[.int .i64 0] 23)).alloc (.cells #[.string S] 9)) 9 (.string T)
  have hB0 : Below w.heap.size w ((((((w.alloc (.cells #[.int .i64 a] 3)).alloc (.cells #[.int .i64 b] 3)).alloc (.cells #[.slice none 0 0] 31)).alloc (.cells #[.int .i64 0] 23)).alloc (.cells #[.string S] 9)).alloc (.cells #[.string T] 9)) := (((((((Below.refl _ w).alloc (Nat.le_refl _) _).alloc (by simp) _).alloc (by simp; omega) _).alloc (by simp; omega) _).alloc (by simp; omega) _).alloc (by simp; omega) _)
  simp only [World.size_alloc] at b1 b2 b3 b4 b5
  have hsz : ((((((w.alloc (.cells #[.int .i64 a] 3)).alloc (.cells #[.int .i64 b] 3)).alloc (.cells #[.slice none 0 0] 31)).alloc (.cells #[.int .i64 0] 23)).alloc (.cells #[.string S] 9)).alloc (.cells #[.string T] 9)).heap.size = w.heap.size + 6 := by simp only [World.size_alloc]
  generalize (((((w.alloc (.cells #[.int .i64 a] 3)).alloc (.cells #[.int .i64 b] 3)).alloc (.cells #[.slice none 0 0] 31)).alloc (.cells #[.int .i64 0] 23)).alloc (.cells #[.string S] 9)).alloc (.cells #[.string T] 9) = W1 at b0 b1 b2 b3 b4 b5 hB0 hsz ⊢
  refine wpIn_rangeFunc_ownG (n := 9) (F := Fence.wide) rfl (by decide) (gf := 36) (lb := #[.pointer (some ⟨w.heap.size + 1 + 1 + 1 + 1, 0, none⟩), .pointer (some ⟨w.heap.size + 1 + 1 + 1 + 1 + 1, 0, none⟩)]) rfl trivial (enters_of Try.func36 (by kernel_rfl) rfl)
    (HS.out (9 - 1) (by decide) (w.heap.size + 1 + 1 + 1 + 1) (w.heap.size + 1 + 1 + 1 + 1 + 1) w.heap.size W1 (by omega) b4 b5) KS.t (KS.b (by omega)) (Below.refl _ _) (fun _ => rfl)
    (fun pre W => (∃ v, Boxed W (w.heap.size + 1 + 1) 31 v ∧ W.ownsRow (w.heap.size + 6) 3 1 v (pre.map (fun x => num x.1)).length (cellsI (pre.map (fun x => num x.1))) ∧ True) ∧ (Boxed W w.heap.size 3 (.int .i64 a) ∧ (Boxed W (w.heap.size + 1) 3 (.int .i64 b) ∧ (Boxed W (w.heap.size + 1 + 1 + 1) 23 (.int .i64 0) ∧ Boxed W (w.heap.size + 1 + 1 + 1 + 1 + 1) 9 (.string T)))) ∧ Below w.heap.size w W)
    (fun _ _ _ => False)
    (OwnFrom.and (Own.from (holdsRow_own (w.heap.size + 6) (w.heap.size + 1 + 1) 31 3 1 (fun pre : List {x : List UInt8 // x ∈ L} => (pre.map (fun x => num x.1)).length) (fun pre => cellsI (pre.map (fun x => num x.1))) (fun _ _ => True)) _) (OwnFrom.and (OwnFrom.and (Own.from (boxed_own _ _ _) _) (OwnFrom.and (Own.from (boxed_own _ _ _) _) (OwnFrom.and (Own.from (boxed_own _ _ _) _) (Own.from (boxed_own _ _ _) _)))) (ownFrom_below (Nat.le_refl _) (by omega))))
    (fun _ _ _ _ _ hs _ _ => hs)
    ⟨⟨_, b2, World.ownsRow_nil _ _ _ _, trivial⟩, ⟨b0, b1, b3, b5⟩, hB0⟩
    (fun x => { tmps := #[.string S, .string T, .int .i64 a, .int .i64 b, undef, undef, .pointer (some ⟨w.heap.size, 0, none⟩), .pointer (some ⟨w.heap.size + 1, 0, none⟩), .slice none 0 0, .int .i64 0, .pointer (some ⟨w.heap.size + 1 + 1, 0, none⟩), .pointer (some ⟨w.heap.size + 1 + 1 + 1, 0, none⟩), .string ⟨x.1.toArray⟩, undef, undef, .string S, .bool false, .string T, .bool false, .string S, .string T, .func (.func 36) #[] #[.pointer (some ⟨w.heap.size + 1 + 1 + 1 + 1, 0, none⟩), .pointer (some ⟨w.heap.size + 1 + 1 + 1 + 1 + 1, 0, none⟩)], .string ⟨x.1.toArray⟩, undef, undef, undef, undef, undef, undef, undef, undef, undef, undef, undef, undef, undef, undef, undef, undef], defers := [] }) ?assign ?body ?done ?stop
  case assign =>
    intro l x W K hK
    gi_wp2
    exact hK
  case body =>
    rintro l pre x W ⟨⟨v, hv, hrow, _⟩, ⟨hb0, hb1, hb3, hb5⟩, hB⟩ hpl
    obtain ⟨hxl, hpx⟩ := hok x.1 x.2
    have hml : (pre.map (fun x => num x.1)).length < 1000000 := by simp at hpl ⊢; omega
    have c0 := hb0.cell
    have c1 := hb1.cell
    have l0 := hb0.lt
    have l1 := hb1.lt
    have HP := Lib.hid (parse_any W x.1 hxl a b ha hb)
    rw [hpx] at HP
    have HJ := Lib.hid (And.intro hv (And.intro hrow (And.intro hb0 (And.intro hb1 (And.intro hb3 (And.intro hb5 (And.intro hB hml)))))))
    clear hv hrow hb0 hb1 hb3 hb5 hB hml hpx hxl
    gi_wp2
    refine ⟨trivial, ?_⟩
    refine (CallsIn.inRound l (callsIn_wide.2 HP.out)).mono ?_
    rintro e W1 ⟨rfl, hk⟩
    obtain ⟨hv, hrow, hb0, hb1, hb3, hb5, hB, hml⟩ := HJ.out
    have hWs := hB.size
    have hWz : w.heap.size + 6 ≤ W1.heap.size := by
      have := hb5.lt
      have := hk.size
      omega
    obtain ⟨g, cap, w1, hrun, h1, h2, h3, h4, h5, h6⟩ := app_num (z := w.heap.size) (num x.1) (hk.at hv (fun h => h)) (row_keeps hrow hk) hWz (by omega) (by omega) hml
    simp only [List.length_map] at h2 h3 h4 h5 h6
    have c2 := (show Boxed W1 _ _ _ from hk.at hv (fun h => h)).cell
    have l2 := (show Boxed W1 _ _ _ from hk.at hv (fun h => h)).lt
    have c2a := ((show Boxed W1 _ _ _ from hk.at hv (fun h => h)).alloc (.cells #[.int .i64 (num x.1)] 3)).cell
    have d1 := h1.cell
    have f1 := h1.frozen
    have m1 := h1.lt
    have HR := Lib.hid (And.intro h2 (And.intro h3 (And.intro ((keeps_others hk).trans h4) (And.intro ((hk.none.mono hWs).trans h5) (fun k t u h7 h8 (h9 : Boxed W k t u) => h6 k t u h7 h8 (hk.at h9 (fun h => h)))))))
    clear hv hrow hb0 hb1 hb3 hb5 hB hml h1 h2 h3 h4 h5 h6 hk
    gi_wp2
    obtain ⟨_, _, hb0, hb1, hb3, hb5, hB, _⟩ := HJ.out
    obtain ⟨h2, h3, h4, h5, h6⟩ := HR.out
    exact ⟨h4.from _, ⟨h5, fun u hu => h6 _ _ u (by omega) (by omega) hu⟩, ⟨_, h2, by rw [List.map_append]; exact h3, trivial⟩, ⟨h6 _ _ _ (by omega) (by omega) hb0, h6 _ _ _ (by omega) (by omega) hb1, h6 _ _ _ (by omega) (by omega) hb3, h6 _ _ _ (by omega) (by omega) hb5⟩, hB.trans h5⟩
  case done =>
    rintro D ys W hD rfl ⟨⟨v, hv, hrow, _⟩, ⟨_, _, hb3, _⟩, hB⟩ hK
    have hc := hv.cell
    have hc3 := hb3.cell
    have lc := hv.lt
    have lc3 := hb3.lt
    have hmx : Try.prog.follows .mixedOrders = true := by kernel_rfl
    gi_wp2
    gi_region_o
    all_goals gi_wp2
    all_goals
      try simp only [Exit.jump]
      refine ⟨by simp, .inl ⟨_, _, rfl, run_takeDeferred (show W.drew.heap[D]? = _ from hK), ?_⟩⟩
      have e : L.attach.map (fun x => num x.1) = L.map num := by
        rw [show (fun x : {x // x ∈ L} => num x.1) = num ∘ (fun x => x.1) from rfl, ← List.map_map]; simp
      rw [e, List.length_map] at hrow
      refine ⟨.tuple #[v, .int .i64 0], by simp [results, Try.results13, go_sem], v, rfl, ownsRow_putObj (hrow.mono (Nat.le_add_right _ 6)).drew _ hK rfl, hB.drew.trans (belowK_b (w := w) (Nat.le_refl _) W.drew D _ _ (by omega) hK rfl rfl)⟩
  case stop =>
    rintro D c pre W _ _ h _
    exact h.elim
end Go.Proofs.Ytilbendneahikaa
