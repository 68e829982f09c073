import Derived.Test.YthnmlklgbggmbaaGreatBaseZ
import Derived.Laws.AppendOwn
import Derived.Laws.AppendOwnNone
import Derived.WalkKit
import Derived.Handy
import Derived.Test.YthnmlklgbggmbaaGreatPlAz
import Derived.Test.YthnmlklgbggmbaaGreatConfGz
namespace Go.Proofs.YthnmlklgbggmbaaGreat
open Go.ChangeShapes Go.WideShapes Go.ChangeAt Go.RowKit
set_option linter.unusedVariables false
set_option linter.unusedSimpArgs false
section
variable {P : Program} {w : World}
/-- append to a row that is the call's own, of whatever row: of none, of an empty one, of some. -/
theorem wp_app_any {o : Oper} {a : Act} {K : Act → World → Prop} {Q : Exit → Act → World → Prop} (s x : Operand) (t : TypeId)
    (ho : o.op = .call { callee := .builtin .append, args := #[s, x], argTypes := #[t, t] })
    (base : Nat) (e : TypeId) (i : TypeInfo) (z : Value) (size bytes : Nat) (ht : P.underlying t = some (.slice e)) (hi : P.info? e = some i) (hz : i.zero = some z)
    (hsize : i.size = size) (hby : i.bytes = bytes) (hzs : z.cells.size = size) (hsz : 0 < size)
    (v : Value) (n : Nat) (xs : List Value) (hs : a.eval s = v) (hown : w.ownsRow base e size v n xs)
    (A : Option Addr) (m c : Nat) (news : List Value) (hx : a.eval x = .slice A m c) (hA : A = none → m = 0 ∧ c = 0) (hl : news.length = m * size) (hnews : ∀ ad, A = some ad → ∀ j u, news[j]? = some u → w.cell? (ad.add j) = some u) (h1 : ∀ u ∈ news, u.oneCell' = true)
    (h63 : n + m ≤ maxLen) (hbytes : (n + m) * bytes ≤ 140737488355328) (hbase : base ≤ w.heap.size)
    (h : ∀ v' w', w'.ownsRow base e size v' (n + m) (xs ++ news) → w.grownBy w' v.ownBlock → K (a.put o.dst v') w') : o.wp P a w K Q := by
  cases A with
  | some ad => exact wp_append_own w s x t ho base e i z size bytes ht hi hz hsize hby hzs hsz v n xs hs hown ad m c news hx hl (hnews ad rfl) h1 h63 hbytes hbase fun v' w' h2 h3 _ => h v' w' h2 h3
  | none =>
    obtain ⟨rfl, rfl⟩ := hA rfl
    have hn : news = [] := List.eq_nil_of_length_eq_zero (by rw [hl]; simp)
    subst hn
    have hrun := run_append_owned_none (P := P) (w := w) base t o.type e i size ht hi v n xs hown
    unfold Oper.wp
    simp [execOp, ho, resolve, invoke, builtin, hs, hx, hrun, Result.andThen]
    exact h v w (by simpa using hown) ⟨rfl, rfl, rfl, Nat.le_refl _, fun _ _ _ => rfl⟩
theorem wpList_app_any {ops : Array Oper} {rest : List Oper} {o : Oper} {a : Act} {Q : Exit → Act → World → Prop} (hgd : o.guard = none) (s x : Operand) (t : TypeId)
    (ho : o.op = .call { callee := .builtin .append, args := #[s, x], argTypes := #[t, t] })
    (base : Nat) (e : TypeId) (i : TypeInfo) (z : Value) (size bytes : Nat) (ht : P.underlying t = some (.slice e)) (hi : P.info? e = some i) (hz : i.zero = some z)
    (hsize : i.size = size) (hby : i.bytes = bytes) (hzs : z.cells.size = size) (hsz : 0 < size)
    (v : Value) (n : Nat) (xs : List Value) (hs : a.eval s = v) (hown : w.ownsRow base e size v n xs)
    (A : Option Addr) (m c : Nat) (news : List Value) (hx : a.eval x = .slice A m c) (hA : A = none → m = 0 ∧ c = 0) (hl : news.length = m * size) (hnews : ∀ ad, A = some ad → ∀ j u, news[j]? = some u → w.cell? (ad.add j) = some u) (h1 : ∀ u ∈ news, u.oneCell' = true)
    (h63 : n + m ≤ maxLen) (hbytes : (n + m) * bytes ≤ 140737488355328) (hbase : base ≤ w.heap.size)
    (h : ∀ v' w', w'.ownsRow base e size v' (n + m) (xs ++ news) → w.grownBy w' v.ownBlock → wpList P ops Q rest (a.put o.dst v') w') : wpList P ops Q (o :: rest) a w :=
  wpList_plain hgd fun _ hK => wp_app_any s x t ho base e i z size bytes ht hi hz hsize hby hzs hsz v n xs hs hown A m c news hx hA hl hnews h1 h63 hbytes hbase fun v' w' h2 h3 => hK _ _ (h v' w' h2 h3)
theorem step_app_any {ops : Array Oper} {o : Oper} {a : Act} {K : Act → World → Prop} {Q : Exit → Act → World → Prop} {E : Prop} (hgd : o.guard = none) (s x : Operand) (t : TypeId)
    (ho : o.op = .call { callee := .builtin .append, args := #[s, x], argTypes := #[t, t] })
    (base : Nat) (e : TypeId) (i : TypeInfo) (z : Value) (size bytes : Nat) (ht : P.underlying t = some (.slice e)) (hi : P.info? e = some i) (hz : i.zero = some z)
    (hsize : i.size = size) (hby : i.bytes = bytes) (hzs : z.cells.size = size) (hsz : 0 < size)
    (v : Value) (n : Nat) (xs : List Value) (hs : a.eval s = v) (hown : w.ownsRow base e size v n xs)
    (A : Option Addr) (m c : Nat) (news : List Value) (hx : a.eval x = .slice A m c) (hA : A = none → m = 0 ∧ c = 0) (hl : news.length = m * size) (hnews : ∀ ad, A = some ad → ∀ j u, news[j]? = some u → w.cell? (ad.add j) = some u) (h1 : ∀ u ∈ news, u.oneCell' = true)
    (h63 : n + m ≤ maxLen) (hbytes : (n + m) * bytes ≤ 140737488355328) (hbase : base ≤ w.heap.size)
    (h : ∀ v' w', w'.ownsRow base e size v' (n + m) (xs ++ news) → w.grownBy w' v.ownBlock → K (a.put o.dst v') w') :
    if Region.wanted o (yielded ops a.tmps) = true then Oper.wp P o a w K Q else E := by
  have hw : Region.wanted o (yielded ops a.tmps) = true := by simp [Region.wanted, hgd]
  rw [if_pos hw]
  exact wp_app_any s x t ho base e i z size bytes ht hi hz hsize hby hzs hsz v n xs hs hown A m c news hx hA hl hnews h1 h63 hbytes hbase h
end
theorem own_apartC {w : World} {base : Nat} {e t : TypeId} {size n g : Nat} {v : Value} {xs : List Value} {cs : Array Value} (h : w.ownsRow base e size v n xs) (hg : w.heap[g]? = some (.cells cs t (0, 0))) (hne : e ≠ t) : v.ownBlock ≠ some g := by
  rcases h.2 with ⟨rfl, _⟩ | ⟨g', cap, cur, rfl, _, hh, _⟩
  · simp [Value.ownBlock]
  · intro he
    have e1 : g' = g := by simpa [Value.ownBlock] using he
    subst e1
    rw [hg] at hh
    injection hh with hh
    injection hh with _ ht
    exact hne ht.symm
theorem own_differC {w : World} {b1 b2 : Nat} {e1 e2 : TypeId} {s1 s2 n1 n2 : Nat} {v1 v2 : Value} {xs1 xs2 : List Value} (h1 : w.ownsRow b1 e1 s1 v1 n1 xs1) (h2 : w.ownsRow b2 e2 s2 v2 n2 xs2) (hne : e1 ≠ e2) : v1.ownBlock = none ∨ v1.ownBlock ≠ v2.ownBlock := by
  rcases h2.2 with ⟨rfl, _⟩ | ⟨g', cap, cur, rfl, _, hh, _⟩
  · cases hv : v1.ownBlock with
    | none => exact .inl rfl
    | some g => exact .inr (by simp [Value.ownBlock])
  · exact .inr (own_apartC h1 hh hne)
theorem own_slice {w : World} {base : Nat} {e : TypeId} {size n : Nat} {v : Value} {xs : List Value} (h : w.ownsRow base e size v n xs) : ∃ a c, v = .slice a n c := by
  rcases h.2 with ⟨rfl, rfl⟩ | ⟨g', cap, cur, rfl, _⟩
  · exact ⟨_, _, rfl⟩
  · exact ⟨_, _, rfl⟩
end Go.Proofs.YthnmlklgbggmbaaGreat
namespace Go.Proofs.YthnmlklgbggmbaaGreat
open Go.ChangeShapes Go.WideShapes Go.ChangeAt Go.RowKit
set_option linter.unusedVariables false
set_option linter.unusedSimpArgs false
/-- Where the levels' lines begin. -/
def lnP (base : Int) (lr : Nat → Int) : Nat → Int
  | 0 => base
  | i + 1 => lnP base lr i + (2 + lr i) + 1
@[reducible] def lineC (base : Int) (lr : Nat → Int) (i : Nat) : List Value := [.int .i64 1, .int .i64 (lnP base lr i), .int .i64 (lr i), .int .i64 1, .int .i64 0, .int .i64 (lnP base lr i + (2 + lr i))]
def linesF (base : Int) (lr : Nat → Int) (n : Nat) : List Value := (List.range n).flatMap (lineC base lr)
def asksF (t : Int) (n : Nat) : List Value := (List.range n).map fun (i : Nat) => Value.int .i64 (t + (i : Int))
theorem lines_next (base : Int) (lr : Nat → Int) (n : Nat) : linesF base lr (n + 1) = linesF base lr n ++ lineC base lr n := by unfold linesF; rw [List.range_succ, List.flatMap_append]; simp
theorem asks_next (t : Int) (n : Nat) : asksF t (n + 1) = asksF t n ++ [.int .i64 (t + (n : Int))] := by unfold asksF; rw [List.range_succ, List.map_append]; rfl
theorem ln_bound {base : Int} {lr : Nat → Int} {n : Nat} (hr : ∀ i, i < n → 1 ≤ lr i ∧ lr i ≤ 64) : ∀ k, k ≤ n → base ≤ lnP base lr k ∧ lnP base lr k ≤ base + 67 * (k : Int)
  | 0, _ => by simp [lnP]
  | k + 1, h => by
    have h1 := ln_bound (base := base) hr k (by omega)
    have h2 := hr k (by omega)
    have e : lnP base lr (k + 1) = lnP base lr k + (2 + lr k) + 1 := rfl
    rw [e]
    omega
/-- A line's place. -/
def lnPl (at_ r : Int) : Nat → Int := fun j => match j with | 0 => 1 | 1 => at_ | 2 => r | 3 => 1 | _ => 0
theorem lnPl_right (a r : Int) (h : pow2 r = true) (hr : r ≤ 64) : rightS (oOf (lnPl a r)) = true := by
  unfold rightS oOf lnPl
  simp [h, hr]
theorem lnPl_size (a r : Int) (h : pow2 r = true) (hr : r ≤ 64) : sizeP (oOf (lnPl a r)) = 2 + r := by
  unfold sizeP
  rw [if_pos (lnPl_right a r h hr)]
  show aheadP 1 + (if (1 : Int) = 1 then r else _) * 1 = _
  rw [if_pos rfl, Int.mul_one]
  rfl
theorem take_any (t n : Int) (T : Nat) (w : World) (h : w.heap[T]? = some (.cells #[.int .i64 t] 3 (0, 0))) (hb : 0 ≤ t ∧ t ≤ 1000000 ∧ 0 ≤ n ∧ n ≤ 1000000) :
    Calls Tryz.prog 70 #[.int .i64 n, .pointer (some ⟨T, 0, none⟩)] w fun e w' => e = .returned (.int .i64 t) ∧ w'.heap[T]? = some (.cells #[.int .i64 (t + n)] 3 (0, 0)) ∧ Keeps (fun j => j = T) w w' := by
  have H := Lib.hid h
  have c0 : w.cell? ⟨T, 0, none⟩ = some (.int .i64 t) := cell_of h 0
  have f0 := free_of h 0
  have e1 : wrap64 (t + n) = t + n := IntWalk.wrap64_in _ ⟨by omega, by omega⟩
  clear h hb
  go_enter Tryz.func70, Tryz.ntmps70
  go_wp2_with fail
  go_ret
  refine ⟨rfl, ?_, ?_⟩
  · have := heap_set H.out 0 (.int .i64 (t + n))
    simpa [e1] using this
  · exact (Keeps.refl (fun j => j = T) w).setCell (p := ⟨T, 0, none⟩) (.inl rfl) _
/-- What Of stands on: the configuration's box, the plan's, the number of cells. -/
structure PoB (w W : World) (CB PB T : Nat) (cc cs : Array Value) (t : Int) : Prop where
  keeps : Keeps (fun _ => False) w W
  cfg : W.heap[CB]? = some (.cells cc 26 (0, 0))
  box : W.heap[PB]? = some (.cells cs 83 (0, 0))
  tot : W.heap[T]? = some (.cells #[.int .i64 t] 3 (0, 0))
  ne : CB ≠ PB ∧ CB ≠ T ∧ PB ≠ T
  res : ∃ rs : Array Value, W.heap[CB + 1]? = some (.cells rs 83 (0, 0)) ∧ rs.size = 5
  ne2 : CB + 1 ≠ PB ∧ CB + 1 ≠ T
  ge : w.heap.size ≤ CB ∧ w.heap.size ≤ PB ∧ w.heap.size ≤ T
theorem PoB.none {w W W' : World} {CB PB T : Nat} {cc cs : Array Value} {t : Int} (h : PoB w W CB PB T cc cs t) (k : Keeps (fun _ => False) W W') : PoB w W' CB PB T cc cs t :=
  ⟨h.keeps.trans k, k.at h.cfg (fun h => h), k.at h.box (fun h => h), k.at h.tot (fun h => h), h.ne, h.res.imp fun rs hr => ⟨k.at hr.1 (fun h => h), hr.2⟩, h.ne2, h.ge⟩
theorem PoB.took {w W W' : World} {CB PB T : Nat} {cc cs : Array Value} {t t' : Int} (h : PoB w W CB PB T cc cs t) (k : Keeps (fun j => j = T) W W') (ht : W'.heap[T]? = some (.cells #[.int .i64 t'] 3 (0, 0))) : PoB w W' CB PB T cc cs t' :=
  ⟨h.keeps.far k (fun j e => by rw [e]; exact h.ge.2.2), k.at h.cfg h.ne.2.1, k.at h.box h.ne.2.2, ht, h.ne, h.res.imp fun rs hr => ⟨k.at hr.1 h.ne2.2, hr.2⟩, h.ne2, h.ge⟩
theorem PoB.put {w W : World} {CB PB T : Nat} {cc cs : Array Value} {t : Int} (h : PoB w W CB PB T cc cs t) (i : Nat) (v : Value) : PoB w (W.setCell ⟨PB, i, Option.none⟩ v) CB PB T cc (cs.setIfInBounds i v) t :=
  have k : Keeps (fun j => j = PB) W (W.setCell ⟨PB, i, Option.none⟩ v) := (Keeps.refl (fun j => j = PB) W).setCell (p := ⟨PB, i, Option.none⟩) (.inl rfl) _
  ⟨h.keeps.far k (fun j e => by rw [e]; exact h.ge.2.1), k.at h.cfg h.ne.1, heap_set h.box i v, k.at h.tot (fun e => h.ne.2.2 e.symm), h.ne, h.res.imp fun rs hr => ⟨k.at hr.1 h.ne2.1, hr.2⟩, h.ne2, h.ge⟩
end Go.Proofs.YthnmlklgbggmbaaGreat
namespace Go.Proofs.YthnmlklgbggmbaaGreat
open Go.ChangeShapes Go.WideShapes Go.ChangeAt Go.RowKit
set_option linter.unusedVariables false
set_option linter.unusedSimpArgs false
theorem bad_zero {c : CfD} (h : (badOf c).1 = 0) : badOf c = (0, 0, 0) := by
  unfold badOf at h ⊢
  by_cases h1 : (bad1 c).1 = 0
  · rw [if_pos h1] at h ⊢
    by_cases h2 : (bad2 c).1 = 0
    · rw [if_pos h2] at h ⊢
      by_cases h3 : (bad3 c).1 = 0
      · rw [if_pos h3] at h ⊢
        exact eachV_zero h
      · rw [if_neg h3] at h; exact absurd h h3
    · rw [if_neg h2] at h; exact absurd h h2
  · rw [if_neg h1] at h; exact absurd h h1
theorem sets_all {w : World} {b : Nat} {cs : Array Value} {T : TypeId} {fr : Nat × Nat} (vs : List Value) (h : w.heap[b]? = some (.cells cs T fr)) (hs : cs.size = vs.length) : (w.setCells b 0 vs).heap[b]? = some (.cells vs.toArray T fr) := by
  rw [heap_sets vs 0 w b cs T fr h]
  congr 2
  apply Array.ext_getElem?
  intro i
  by_cases hi : i < vs.length
  · have := setsA_in vs cs 0 i vs[i] (by omega) (List.getElem?_eq_getElem hi)
    rw [Nat.zero_add] at this
    rw [this]
    simp [hi]
  · rw [Array.getElem?_eq_none (by rw [setsA_size]; omega), Array.getElem?_eq_none (by simp; omega)]
theorem plan_info : (Tryz.prog.info? 83).map (·.size) = some 5 := by kernel_rfl
theorem res_plan (w : World) (T : Array Value) (b : Nat) (cs : List Value) (r : Bool) (h2 : T.getD 2 undef = .pointer (some ⟨b, 0, none⟩)) (h3 : T.getD 3 undef = .bool r) (h : (loadVar 83 ⟨b, 0, none⟩).run Tryz.prog w = .ok (.agg cs.toArray) w) :
    (results Tryz.f32 T).run Tryz.prog w = .ok (.tuple #[.agg cs.toArray, .bool r]) w := by
  simp only [Array.getD_eq_getD_getElem?] at h2 h3
  simp [results, Tryz.results32, h2, h3, asAddr, h, Sem.run_bind, Sem.run_pure]
theorem load_plan {w : World} {b : Nat} {vs : List Value} (h : w.heap[b]? = some (.cells vs.toArray 83 (0, 0))) (hl : vs.length = 5) : (loadVar 83 ⟨b, 0, none⟩).run Tryz.prog w = .ok (.agg vs.toArray) w :=
  run_loadVar_mid w b 0 83 vs _ (fun j v hv => by
    rw [cell_of h (0 + j), show 0 + j = j by omega]
    simpa using hv) Tryz.underlying83 rfl (by rw [hl]; exact plan_info)
@[reducible] def planL (v0 v1 : Value) (t : Int) (v3 : Value) (n : Int) : List Value := [v0, v1, .int .i64 t, v3, .int .i64 n]
set_option maxHeartbeats 4000000 in
theorem plan_bad (c : CfD) (w : World) (hc : CfIn w c) (ho : c.Ok) (hv : badOf c ≠ (0, 0, 0)) :
    Calls Tryz.prog 32 #[.agg c.cells] w fun e w' => e = .returned (.tuple #[.agg #[.slice none 0 0, .slice none 0 0, .int .i64 0, .slice none 0 0, .int .i64 0], .bool false]) ∧ Keeps (fun _ => False) w w' := by
  have HCK := Lib.hid (fun W (k : Keeps (fun _ => False) w W) => check_any c W (hc.none k) ho)
  have HB := Lib.hid ((((Has.start w).alloc (.cells c.cells 26)).alloc (.cells (planL (.slice none 0 0) (.slice none 0 0) 0 (.slice none 0 0) 0).toArray 83)).eq (M := [(w.heap.size + 1, .cells (planL (.slice none 0 0) (.slice none 0 0) 0 (.slice none 0 0) 0).toArray 83), (w.heap.size, .cells c.cells 26)]) (by simp))
  have HV := Lib.hid hv
  clear hc ho hv
  go_enter Tryz.func32, Tryz.ntmps32
  go_wp2_with fail
  refine (HCK.out _ HB.out.keeps).mono ?_
  rintro e1 w1 ⟨rfl, k1⟩
  replace HB := Lib.hid (HB.out.none k1)
  clear k1
  have hz : (badOf c).1 ≠ 0 := fun e => HV.out (bad_zero e)
  generalize badOf c = B at *
  obtain ⟨b0, b1, b2⟩ := B
  have hb0 : (b0 == 0) = false := beq_eq_false_iff_ne.mpr hz
  have hb1 : (b0 = 0) = False := eq_false hz
  clear hz HV
  have HTH := Lib.hid (there_of (HB.out.at 0 rfl) 0 5 (by simp))
  obtain ⟨W5, hW5⟩ : ∃ W5, W5 = w1.setCells (w.heap.size + 1) 0 (#[.slice none 0 0, .slice none 0 0, .int .i64 0, .slice none 0 0, .int .i64 0] : Array Value).toList := ⟨_, rfl⟩
  have HW5 := Lib.hid hW5
  have HG5 := Lib.hid (show W5.heap[w.heap.size + 1]? = some (.cells (planL (.slice none 0 0) (.slice none 0 0) 0 (.slice none 0 0) 0).toArray 83 (0, 0)) by rw [hW5]; exact sets_all _ (HB.out.at 0 rfl) (by simp))
  have HK5 := Lib.hid (show Keeps (fun _ => False) w W5 from HB.out.keeps.far (S := fun j => j = w.heap.size + 1) (by rw [hW5]; exact Keeps.sets (S := fun j => j = w.heap.size + 1) (.inl rfl) _ _ _ (Keeps.refl _ _)) (fun j e => by omega))
  clear hW5
  go_wp2_with (refine wpList_store_mid rfl 83 (.tmp 2) (.tmp 16) rfl (w.heap.size + 1) 0 #[.slice none 0 0, .slice none 0 0, .int .i64 0, .slice none 0 0, .int .i64 0] rfl rfl HTH.out plan_info (by simp [Value.oneCell']) ?_; rw [← HW5.out])
  refine bodyPost_ret (v := .tuple #[.agg #[.slice none 0 0, .slice none 0 0, .int .i64 0, .slice none 0 0, .int .i64 0], .bool false]) (res_plan W5 _ (w.heap.size + 1) _ _ rfl rfl (load_plan HG5.out rfl)) rfl ⟨rfl, HK5.out⟩
end Go.Proofs.YthnmlklgbggmbaaGreat
namespace Go.Proofs.YthnmlklgbggmbaaGreat
open Go.ChangeShapes Go.WideShapes Go.ChangeAt Go.RowKit
set_option linter.unusedVariables false
set_option linter.unusedSimpArgs false
set_option maxHeartbeats 4000000 in
theorem psize_any (p : Nat → Int) (w : World) (hb : -9223372036854775808 ≤ p 2 ∧ p 2 ≤ 9223372036854775807) (h : rightS (oOf p) = true) : Calls Tryz.prog 72 #[.agg (plC p)] w fun e w' => e = .returned (.int .i64 (sizeP (oOf p))) ∧ Keeps (fun _ => False) w w' := by
  have HB := Lib.hid ((Has.start w).alloc (.cells (plC p) 145))
  have HS := Lib.hid (fun W => size_any4 (oOf p) (fun _ => 0) W hb h)
  go_enter Tryz.func72, Tryz.ntmps72
  go_wp2_with fail
  refine (HS.out _).mono ?_
  rintro e w1 ⟨rfl, k1⟩
  replace HB := Lib.hid (HB.out.none k1)
  clear k1
  go_wp2_with fail
  go_ret
  exact ⟨rfl, HB.out.keeps⟩
end Go.Proofs.YthnmlklgbggmbaaGreat
namespace Go.Proofs.YthnmlklgbggmbaaGreat
open Go.ChangeShapes Go.WideShapes Go.ChangeAt Go.RowKit
set_option linter.unusedVariables false
set_option linter.unusedSimpArgs false
theorem line_zero : (Tryz.prog.info? 148).map (fun i => (i.zero, i.size, i.bytes)) = some (some (.agg #[.int .i64 0, .int .i64 0, .int .i64 0, .int .i64 0, .int .i64 0, .int .i64 0]), 6, 48) := by kernel_rfl
theorem int_zero8 : (Tryz.prog.info? 3).map (fun i => (i.zero, i.size, i.bytes)) = some (some (.int .i64 0), 1, 8) := by kernel_rfl
theorem own_keepK {w w' : World} {B n size : Nat} {e : TypeId} {v : Value} {xs : List Value} {S : Nat → Prop} (h : w.ownsRow B e size v n xs) (k : Keeps S w w') (hs : ∀ b, v.ownBlock = some b → ¬ S b) : w'.ownsRow B e size v n xs := by
  refine ⟨h.1, ?_⟩
  rcases h.2 with hn | ⟨g, cap, cur, rfl, hb, hg, rest⟩
  · exact .inl hn
  · exact .inr ⟨g, cap, cur, rfl, hb, k.at hg (hs g rfl), rest⟩
theorem PoB.other {w W W' : World} {CB PB T : Nat} {cc cs : Array Value} {t : Int} {S : Nat → Prop} (h : PoB w W CB PB T cc cs t) (k : Keeps S W W') (hs : ¬ S CB ∧ ¬ S PB ∧ ¬ S T) (hr : ¬ S (CB + 1)) (hg : ∀ j, S j → w.heap.size ≤ j) : PoB w W' CB PB T cc cs t :=
  ⟨h.keeps.far k hg, k.at h.cfg hs.1, k.at h.box hs.2.1, k.at h.tot hs.2.2, h.ne, h.res.imp fun rs h2 => ⟨k.at h2.1 hr, h2.2⟩, h.ne2, h.ge⟩
/-- The numbers of a plan. -/
def baseP (c : CfD) : Int := preP c.ob c.nO
def tickP (c : CfD) : Int := lnP (baseP c) c.lr c.nL
/-- What stands in a round of the levels. -/
structure LvB (w W : World) (c : CfD) (PB g QB k : Nat) (la : Option Addr) (lc : Nat) (t a : Int) : Prop where
  po : PoB w W w.heap.size PB (PB + 1) c.cells (planL (.slice (some ⟨g, 0, none⟩) c.nO c.nO) (.slice la k lc) 0 (.slice none 0 0) 0).toArray t
  pl : PlacesAt W g c.nO (placeP c.ob)
  own : W.ownsRow w.heap.size 148 6 (.slice la k lc) k (linesF (baseP c) c.lr k)
  box : W.heap[QB]? = some (.cells (plC (lnPl a (c.lr k))) 145 (0, 0))
  ne : QB ≠ PB ∧ QB ≠ PB + 1 ∧ QB ≠ g ∧ QB ≠ w.heap.size ∧ w.heap.size ≤ QB ∧ g ≠ PB + 1 ∧ g ≠ PB
  ne2 : QB ≠ w.heap.size + 1
theorem LvB.none {w W W' : World} {c : CfD} {PB g QB k : Nat} {la : Option Addr} {lc : Nat} {t a : Int} (h : LvB w W c PB g QB k la lc t a) (kk : Keeps (fun _ => False) W W') : LvB w W' c PB g QB k la lc t a :=
  ⟨h.po.none kk, h.pl.keep kk (fun h => h), own_keepK h.own kk (fun _ _ h => h), kk.at h.box (fun h => h), h.ne, h.ne2⟩
theorem LvB.took {w W W' : World} {c : CfD} {PB g QB k : Nat} {la : Option Addr} {lc : Nat} {t t' a : Int} (h : LvB w W c PB g QB k la lc t a) (kk : Keeps (fun j => j = PB + 1) W W') (ht : W'.heap[PB + 1]? = some (.cells #[.int .i64 t'] 3 (0, 0))) : LvB w W' c PB g QB k la lc t' a :=
  ⟨h.po.took kk ht, h.pl.keep kk h.ne.2.2.2.2.2.1, own_keepK h.own kk (fun b hb e => own_apartC h.own h.po.tot (by decide) (by rw [hb, e])), kk.at h.box h.ne.2.1, h.ne, h.ne2⟩
theorem LvB.put {w W : World} {c : CfD} {PB g QB k : Nat} {la : Option Addr} {lc : Nat} {t a : Int} (h : LvB w W c PB g QB k la lc t a) (z : Int) : LvB w (W.setCell ⟨QB, 1, Option.none⟩ (.int .i64 z)) c PB g QB k la lc t z :=
  have kk : Keeps (fun j => j = QB) W (W.setCell ⟨QB, 1, Option.none⟩ (.int .i64 z)) := (Keeps.refl (fun j => j = QB) W).setCell (p := ⟨QB, 1, Option.none⟩) (.inl rfl) _
  ⟨h.po.other kk ⟨fun e => h.ne.2.2.2.1 e.symm, fun e => h.ne.1 e.symm, fun e => h.ne.2.1 e.symm⟩ (fun e => h.ne2 e.symm) (fun j e => by rw [e]; exact h.ne.2.2.2.2.1), h.pl.keep kk (fun e => h.ne.2.2.1 e.symm), own_keepK h.own kk (fun b hb e => own_apartC h.own h.box (by decide) (by rw [hb, e])), by
    have := heap_set h.box 1 (.int .i64 z)
    exact this, h.ne, h.ne2⟩
theorem LvB.range {w W : World} {c : CfD} {PB g QB k : Nat} {la : Option Addr} {lc : Nat} {t a : Int} (h : LvB w W c PB g QB k la lc t a) : W.rangeAt QB 0 [.int .i64 1, .int .i64 a, .int .i64 (c.lr k), .int .i64 1, .int .i64 0] := fun j v hv => by
  rw [cell_of h.box (0 + j), show 0 + j = j by omega]
  simpa [lnPl] using hv
/-- Behind the growth of the lines. -/
theorem LvB.grow {w W W' : World} {c : CfD} {PB g QB k : Nat} {la : Option Addr} {lc : Nat} {t a : Int} (h : LvB w W c PB g QB k la lc t a) (o : Obj) (hg : (W.alloc o).grownBy W' (Value.slice la k lc).ownBlock) :
    PoB w W' w.heap.size PB (PB + 1) c.cells (planL (.slice (some ⟨g, 0, Option.none⟩) c.nO c.nO) (.slice la k lc) 0 (.slice Option.none 0 0) 0).toArray t ∧ PlacesAt W' g c.nO (placeP c.ob) ∧ PB < W'.heap.size ∧ W'.heap[QB]? = some (.cells (plC (lnPl a (c.lr k))) 145 (0, 0)) := by
  have kk : Keeps (fun b => (Value.slice la k lc).ownBlock = some b) W W' := ⟨hg.os, hg.tape, hg.output, Nat.le_trans (by simp) hg.size, fun i hi hn => (hg.block i (by simp; omega) (fun e => hn e.symm)).trans (((Keeps.refl (fun _ => False) W).alloc o).block i hi (fun h => h))⟩
  have hpo := h.po.other kk ⟨own_apartC h.own h.po.cfg (by decide), own_apartC h.own h.po.box (by decide), own_apartC h.own h.po.tot (by decide)⟩ (by obtain ⟨rs, hr, _⟩ := h.po.res; exact own_apartC h.own hr (by decide)) (fun j e => (h.own.lt j e).1)
  have hb : W'.heap[QB]? = some (.cells (plC (lnPl a (c.lr k))) 145 (0, 0)) := kk.at h.box (own_apartC h.own h.box (by decide))
  refine ⟨hpo, h.pl.keep kk (fun e => ?_), lt_of hpo.box, hb⟩
  obtain ⟨cs, hc, _⟩ := h.pl
  exact own_apartC h.own hc (by decide) e
theorem pl_range {W : World} {QB : Nat} {a r : Int} (h : W.heap[QB]? = some (.cells (plC (lnPl a r)) 145 (0, 0))) : W.rangeAt QB 0 [.int .i64 1, .int .i64 a, .int .i64 r, .int .i64 1, .int .i64 0] := fun j v hv => by
  rw [cell_of h (0 + j), show 0 + j = j by omega]
  simpa [lnPl] using hv
theorem line_one (b : Int) (lr : Nat → Int) (k : Nat) : ∀ u, u ∈ lineC b lr k → u.oneCell' = true := by
  intro u hu
  simp only [lineC, List.mem_cons, List.not_mem_nil, or_false] at hu
  rcases hu with rfl | rfl | rfl | rfl | rfl | rfl <;> rfl
theorem own_base {w : World} {B B' n size : Nat} {e : TypeId} {v : Value} {xs : List Value} (h : w.ownsRow B e size v n xs) (hb : B' ≤ B) : w.ownsRow B' e size v n xs := by
  refine ⟨h.1, ?_⟩
  rcases h.2 with hn | ⟨g, cap, cur, e, hg, rest⟩
  · exact .inl hn
  · exact .inr ⟨g, cap, cur, e, Nat.le_trans hb hg, rest⟩
/-- What stands in a round of the tasks. -/
structure AkB (w W : World) (c : CfD) (PB g k : Nat) (la : Option Addr) (lc : Nat) (aa : Option Addr) (ac : Nat) (t : Int) : Prop where
  po : PoB w W w.heap.size PB (PB + 1) c.cells (planL (.slice (some ⟨g, 0, none⟩) c.nO c.nO) (.slice la c.nL lc) (tickP c) (.slice aa k ac) 0).toArray t
  pl : PlacesAt W g c.nO (placeP c.ob)
  ln : W.ownsRow w.heap.size 148 6 (.slice la c.nL lc) c.nL (linesF (baseP c) c.lr c.nL)
  ow : W.ownsRow (PB + 2) 3 1 (.slice aa k ac) k (asksF (tickP c + 1) k)
  sz : PB + 2 ≤ W.heap.size
  ne : g ≠ PB + 1 ∧ g ≠ PB
theorem AkB.none {w W W' : World} {c : CfD} {PB g k : Nat} {la aa : Option Addr} {lc ac : Nat} {t : Int} (h : AkB w W c PB g k la lc aa ac t) (kk : Keeps (fun _ => False) W W') : AkB w W' c PB g k la lc aa ac t :=
  ⟨h.po.none kk, h.pl.keep kk (fun h => h), own_keepK h.ln kk (fun _ _ h => h), own_keepK h.ow kk (fun _ _ h => h), Nat.le_trans h.sz kk.size, h.ne⟩
theorem AkB.took {w W W' : World} {c : CfD} {PB g k : Nat} {la aa : Option Addr} {lc ac : Nat} {t t' : Int} (h : AkB w W c PB g k la lc aa ac t) (kk : Keeps (fun j => j = PB + 1) W W') (ht : W'.heap[PB + 1]? = some (.cells #[.int .i64 t'] 3 (0, 0))) : AkB w W' c PB g k la lc aa ac t' :=
  ⟨h.po.took kk ht, h.pl.keep kk h.ne.1, own_keepK h.ln kk (fun b hb e => own_apartC h.ln h.po.tot (by decide) (by rw [hb, e])), own_keepK h.ow kk (fun b hb e => by have := (h.ow.lt b hb).1; omega), Nat.le_trans h.sz kk.size, h.ne⟩
/-- Behind the growth of the asks. -/
theorem AkB.grow {w W W' : World} {c : CfD} {PB g k : Nat} {la aa : Option Addr} {lc ac : Nat} (h : AkB w W c PB g k la lc aa ac (tickP c + 1 + (k : Int) + 1)) (o : Obj) (hg : (W.alloc o).grownBy W' (Value.slice aa k ac).ownBlock) :
    PoB w W' w.heap.size PB (PB + 1) c.cells (planL (.slice (some ⟨g, 0, Option.none⟩) c.nO c.nO) (.slice la c.nL lc) (tickP c) (.slice aa k ac) 0).toArray (tickP c + 1 + (k : Int) + 1) ∧ ∀ aa2 ac2, W'.ownsRow (PB + 2) 3 1 (.slice aa2 (k + 1) ac2) (k + 1) (asksF (tickP c + 1) k ++ [.int .i64 (tickP c + 1 + (k : Int))]) → AkB w (W'.setCell ⟨PB, 3, Option.none⟩ (.slice aa2 (k + 1) ac2)) c PB g (k + 1) la lc aa2 ac2 (tickP c + 1 + ((k + 1 : Nat) : Int)) := by
  have kk : Keeps (fun b => (Value.slice aa k ac).ownBlock = some b) W W' := ⟨hg.os, hg.tape, hg.output, Nat.le_trans (by simp) hg.size, fun i hi hn => (hg.block i (by simp; omega) (fun e => hn e.symm)).trans (((Keeps.refl (fun _ => False) W).alloc o).block i hi (fun h => h))⟩
  have hpo := h.po.other kk ⟨own_apartC h.ow h.po.cfg (by decide), own_apartC h.ow h.po.box (by decide), fun e => by have := (h.ow.lt _ e).1; omega⟩ (by obtain ⟨rs, hr, _⟩ := h.po.res; exact own_apartC h.ow hr (by decide)) (fun j e => by have := (h.ow.lt j e).1; have := h.po.ge.2.1; omega)
  have hpl := h.pl.keep kk (fun e => by
    obtain ⟨cs, hc, _⟩ := h.pl
    exact own_apartC h.ow hc (by decide) e)
  have hln := own_keepK h.ln kk (fun b hb e => by
    rcases h.ow.2 with ⟨h1, _⟩ | ⟨g2, cap, cur, h1, _, h2, _⟩
    · rw [h1] at e; simp [Value.ownBlock] at e
    · rw [h1] at e
      have : g2 = b := by simpa [Value.ownBlock] using e
      subst this
      exact own_apartC h.ln h2 (by decide) hb)
  refine ⟨hpo, fun aa2 ac2 how => ?_⟩
  have kS : Keeps (fun j => j = PB) W' (W'.setCell ⟨PB, 3, Option.none⟩ (.slice aa2 (k + 1) ac2)) := (Keeps.refl (fun j => j = PB) W').setCell (p := ⟨PB, 3, Option.none⟩) (.inl rfl) _
  have hput := hpo.put 3 (.slice aa2 (k + 1) ac2)
  rw [show tickP c + 1 + (k : Int) + 1 = tickP c + 1 + ((k + 1 : Nat) : Int) by omega] at hput
  exact ⟨hput, hpl.keep kS h.ne.2, own_keepK hln kS (fun b hb e => own_apartC hln hpo.box (by decide) (by rw [hb, e])), by rw [asks_next]; exact own_keepK how kS (fun b hb e => own_apartC how hpo.box (by decide) (by rw [hb, e])), Nat.le_trans h.sz (Nat.le_trans kk.size kS.size), h.ne⟩
theorem ObIn.of {w : World} {c : CfD} (h : CfIn w c) : ObIn w c.oa c.nO c.ob c.oi := ⟨fun hn => h.o hn⟩
set_option maxRecDepth 20000 in
set_option maxHeartbeats 8000000 in
theorem plan_good (c : CfD) (w : World) (hc : CfIn w c) (ho : c.Ok) (hv : badOf c = (0, 0, 0)) :
    Calls Tryz.prog 32 #[.agg c.cells] w fun e w' => ∃ g la lc aa ac, e = .returned (.tuple #[.agg #[.slice (some ⟨g, 0, none⟩) c.nO c.nO, .slice la c.nL lc, .int .i64 (tickP c), .slice aa c.nT ac, .int .i64 (tickP c + 1 + (c.nT : Int))], .bool true]) ∧ PlacesAt w' g c.nO (placeP c.ob) ∧
      w'.ownsRow w.heap.size 148 6 (.slice la c.nL lc) c.nL (linesF (baseP c) c.lr c.nL) ∧ w'.ownsRow w.heap.size 3 1 (.slice aa c.nT ac) c.nT (asksF (tickP c + 1) c.nT) ∧ Keeps (fun _ => False) w w' := by
  have HCK := Lib.hid (fun W (k : Keeps (fun _ => False) w W) => check_any c W (hc.none k) ho)
  have HG := Lib.hid (good_of hv)
  have HC := Lib.hid hc
  have HB := Lib.hid ((((Has.start w).alloc (.cells c.cells 26)).alloc (.cells (planL (.slice none 0 0) (.slice none 0 0) 0 (.slice none 0 0) 0).toArray 83)).eq (M := [(w.heap.size + 1, .cells (planL (.slice none 0 0) (.slice none 0 0) 0 (.slice none 0 0) 0).toArray 83), (w.heap.size, .cells c.cells 26)]) (by simp))
  have HSO := Lib.hid (fun W (k : Keeps (fun _ => False) w W) => sof_any W c.oa c.nO c.oc c.ob c.oi ((ObIn.of hc).keep k) (by have := HG.out.o; omega) HG.out.right (fun i hi => ho.ob i hi 1 (by omega)))
  have HPB := Lib.hid (pre_bound HG.out.right c.nO (Nat.le_refl _))
  rw [hv] at HCK
  clear hc ho hv
  go_enter Tryz.func32, Tryz.ntmps32
  go_wp2_with fail
  refine (HCK.out _ HB.out.keeps).mono ?_
  rintro e1 w1 ⟨rfl, k1⟩
  replace HB := Lib.hid (HB.out.none k1)
  have hs1 : w.heap.size + 2 ≤ w1.heap.size := by have := k1.size; simp at this; omega
  clear k1 HCK
  obtain ⟨PB, hPB⟩ : ∃ PB, PB = w1.heap.size := ⟨_, rfl⟩
  have HS := Lib.hid (show PoB w ((w1.alloc (.cells (planL (.slice none 0 0) (.slice none 0 0) 0 (.slice none 0 0) 0).toArray 83)).alloc (.cells #[.int .i64 0] 3)) w.heap.size PB (PB + 1) c.cells (planL (.slice none 0 0) (.slice none 0 0) 0 (.slice none 0 0) 0).toArray 0 from by
    have ha := HB.out.alloc (.cells (planL (.slice none 0 0) (.slice none 0 0) 0 (.slice none 0 0) 0).toArray 83)
    have hb := ha.alloc (.cells #[.int .i64 0] 3)
    rw [World.size_alloc] at hb
    rw [hPB]
    exact ⟨hb.keeps, hb.at 3 rfl, hb.at 1 rfl, hb.at 0 rfl, ⟨by omega, by omega, by omega⟩, ⟨_, hb.at 2 rfl, rfl⟩, ⟨by omega, by omega⟩, ⟨by omega, by omega, by omega⟩⟩)
  obtain ⟨q0, q1, q2, q3⟩ := four_cells (HB.out.at 1 rfl)
  have hq : w.heap.size < w1.heap.size := by omega
  have HPBE := Lib.hid hPB
  clear hPB hs1
  go_wp2_with fail
  rw [← HPBE.out]
  try rw [← HPBE.out] at HS
  refine (HSO.out _ HS.out.keeps).mono ?_
  rintro e2 w2 ⟨rfl, hpl, k2⟩
  have HS2 := Lib.hid (HS.out.none k2)
  obtain ⟨g, hg⟩ : ∃ g, g = ((w1.alloc (.cells (planL (.slice none 0 0) (.slice none 0 0) 0 (.slice none 0 0) 0).toArray 83)).alloc (.cells #[.int .i64 0] 3)).heap.size := ⟨_, rfl⟩
  have hgn : g ≠ PB + 1 ∧ g ≠ PB := by rw [hg, HPBE.out]; simp only [World.size_alloc]; omega
  rw [← hg] at hpl ⊢
  have HPL := Lib.hid (And.intro hpl hgn)
  clear q0 q1 q2 q3 hq k2 hpl hg hgn HSO
  have HBX := Lib.hid (show ∀ i, i < 5 → ∃ v, w2.cell? ⟨PB, i, none⟩ = some v from fun i hi => by
    rw [cell_of HS2.out.box]
    exact ⟨_, Array.getElem?_eq_getElem (by simpa using hi)⟩)
  have cb := cell_of HS2.out.box 0
  simp only [planL, List.getElem?_toArray, List.getElem?_cons_zero] at cb
  have fb := free_of HS2.out.box 0
  go_wp2_with fail
  have hpb := HPB.out
  have hgo := HG.out.o
  have HS3 := Lib.hid (show PoB w (w2.setCell ⟨PB, 0, none⟩ (.slice (some ⟨g, 0, none⟩) c.nO c.nO)) w.heap.size PB (PB + 1) c.cells (planL (.slice (some ⟨g, 0, none⟩) c.nO c.nO) (.slice none 0 0) 0 (.slice none 0 0) 0).toArray 0 from by simpa [planL] using HS2.out.put 0 (.slice (some ⟨g, 0, none⟩) c.nO c.nO))
  have hp3 : PlacesAt (w2.setCell ⟨PB, 0, none⟩ (.slice (some ⟨g, 0, none⟩) c.nO c.nO)) g c.nO (placeP c.ob) := HPL.out.1.keep ((Keeps.refl (fun j => j = PB) w2).setCell (p := ⟨PB, 0, none⟩) (.inl rfl) _) HPL.out.2.2
  refine (take_any 0 (preP c.ob c.nO) (PB + 1) _ HS3.out.tot ⟨by omega, by omega, by omega, by omega⟩).mono ?_
  rintro e3 w3 ⟨rfl, ht3, k3⟩
  rw [Int.zero_add] at ht3
  have HS4 := Lib.hid (HS3.out.took k3 ht3)
  have HP4 := Lib.hid (hp3.keep k3 HPL.out.2.1)
  have HGN := Lib.hid HPL.out.2
  clear hp3 ht3 k3 HS3 HS2 HBX cb fb HPL hpb hgo
  obtain ⟨q0, q1, q2, q3⟩ := four_cells HS4.out.cfg
  obtain ⟨i0, hi, hz0, hz1, hz2⟩ := info_parts line_zero
  obtain ⟨i9, hi9, hz90, hz91, hz92⟩ := info_parts int_zero8
  have HLB := Lib.hid (show ∀ k, k ≤ c.nL → baseP c ≤ lnP (baseP c) c.lr k ∧ lnP (baseP c) c.lr k ≤ baseP c + 67 * (k : Int) from ln_bound (fun i hi => (HG.out.room i hi).2))
  have HBB := Lib.hid (show 0 ≤ baseP c ∧ baseP c ≤ 5000 by have h1 := HPB.out; have h2 := HG.out.o; unfold baseP; omega)
  have HNL := Lib.hid HG.out.l
  go_wp2_with fail
  clear q0 q1 q2 q3
  go_loopw [33] (fun x W => ∃ (k : Nat) (la : Option Addr) (lc : Nat), k ≤ c.nL ∧ x = .int .i64 (k : Int) ∧ PoB w W w.heap.size PB (PB + 1) c.cells (planL (.slice (some ⟨g, 0, none⟩) c.nO c.nO) (.slice la k lc) 0 (.slice none 0 0) 0).toArray (lnP (baseP c) c.lr k) ∧ PlacesAt W g c.nO (placeP c.ob) ∧ W.ownsRow w.heap.size 148 6 (.slice la k lc) k (linesF (baseP c) c.lr k)) (fun x _ => c.nL - (intOf x).toNat)
  case atStart => exact ⟨0, none, 0, Nat.zero_le _, rfl, HS4.out, HP4.out, World.ownsRow_nil _ _ _ _⟩
  case round =>
    clear HS4 HP4
    obtain ⟨k, la, lc, hk, rfl, hs, hpl, hown⟩ := hrel
    have HS := Lib.hid (And.intro hs (And.intro hpl hown))
    clear hs hpl hown
    by_cases hlt : k < c.nL
    · obtain ⟨b, off, hla, hbl, hrow⟩ := HC.out.l (by omega)
      obtain ⟨r0, r1⟩ := hrow k hlt
      have c0 : wr.cell? ⟨b, off + k * 2, none⟩ = some (.int .i64 (c.lr k)) := (HS.out.1.keeps.none.cell (p := ⟨b, off + k * 2, none⟩) hbl).trans r0
      have c1 : wr.cell? ⟨b, off + k * 2 + 1, none⟩ = some (.slice (c.lca k) (c.ll k) (c.lcc k)) := (HS.out.1.keeps.none.cell (p := ⟨b, off + k * 2 + 1, none⟩) hbl).trans r1
      have HR := Lib.hid (HG.out.room k hlt)
      have hb2 : b < wr.heap.size := Nat.lt_of_lt_of_le hbl HS.out.1.keeps.size
      have e0 : decide (k < c.nL) = true := decide_eq_true hlt
      have e0' : decide ((k : Int) < (c.nL : Int)) = true := decide_eq_true (by omega)
      have e3 : (0 : Int) ≤ (k : Int) := by omega
      have e4 : (k : Int) < (c.nL : Int) := by omega
      have HLT := Lib.hid hlt
      have HLA := Lib.hid hla
      have HPZ := Lib.hid (fun W => psize_any (lnPl 0 (c.lr k)) W (by have := HR.out; show _ ≤ c.lr k ∧ c.lr k ≤ _; omega) (lnPl_right 0 (c.lr k) HR.out.1 HR.out.2.2))
      rw [lnPl_size 0 (c.lr k) HR.out.1 HR.out.2.2] at HPZ
      clear r0 r1 hrow hbl hla
      rw [HLA.out]
      go_wp2_with fail
      obtain ⟨QB, hQB⟩ : ∃ QB, QB = wr.heap.size + 1 := ⟨_, rfl⟩
      obtain ⟨W2, hW2⟩ : ∃ W2, W2 = (wr.alloc (.cells #[.int .i64 (c.lr k), .slice (c.lca k) (c.ll k) (c.lcc k)] 69)).alloc (.cells #[.int .i64 1, .int .i64 0, .int .i64 (c.lr k), .int .i64 1, .int .i64 0] 145) := ⟨_, rfl⟩
      have HL := Lib.hid (show LvB w W2 c PB g QB k la lc (lnP (baseP c) c.lr k) 0 from by
        have kk : Keeps (fun _ => False) wr W2 := by rw [hW2]; exact ((Keeps.refl _ wr).alloc _).alloc _
        have hbx := heap_new (wr.alloc (.cells #[.int .i64 (c.lr k), .slice (c.lca k) (c.ll k) (c.lcc k)] 69)) (.cells #[.int .i64 1, .int .i64 0, .int .i64 (c.lr k), .int .i64 1, .int .i64 0] 145)
        rw [World.size_alloc, ← hW2, ← hQB] at hbx
        have h1 := lt_of HS.out.1.box
        have h2 := lt_of HS.out.1.tot
        have h3 := HS.out.2.1.lt
        have h4 := HS.out.1.keeps.size
        exact ⟨HS.out.1.none kk, HS.out.2.1.keep kk (fun h => h), own_keepK HS.out.2.2 kk (fun _ _ h => h), hbx, ⟨by omega, by omega, by omega, by omega, by omega, HGN.out.1, HGN.out.2⟩, by obtain ⟨rs, h5, _⟩ := HS.out.1.res; have := lt_of h5; omega⟩)
      rw [← hW2, ← hQB]
      clear c0 c1 hb2 hW2 hQB HS
      refine (HPZ.out _).mono ?_
      rintro e5 w5 ⟨rfl, k5⟩
      replace HL := Lib.hid (HL.out.none k5)
      clear k5 HPZ
      have hbb := HBB.out
      have hlb := HLB.out k hk
      have hnl := HNL.out
      have hr := HR.out
      go_wp2_with fail
      refine (take_any (lnP (baseP c) c.lr k) (2 + c.lr k) (PB + 1) _ HL.out.po.tot ⟨by omega, by omega, by omega, by omega⟩).mono ?_
      rintro e6 w6 ⟨rfl, ht6, k6⟩
      replace HL := Lib.hid (HL.out.took k6 ht6)
      have cq := cell_of HL.out.box 1
      have fq := free_of HL.out.box 1
      simp only [lnPl, List.getElem?_toArray, List.getElem?_cons_zero, List.getElem?_cons_succ] at cq
      replace HL := Lib.hid (HL.out.put (lnP (baseP c) c.lr k))
      clear ht6 k6
      go_wp2_with fail
      replace HL := Lib.hid (HL.out.none ((Keeps.refl (fun _ => False) _).drew))
      have cp : (w6.setCell ⟨QB, 1, none⟩ (.int .i64 (lnP (baseP c) c.lr k))).drew.cell? ⟨PB, 1, none⟩ = some (.slice la k lc) := cell_of HL.out.po.box 1
      have HQP := Lib.hid HL.out.ne.1
      clear cq fq
      --R14
      refine wp_region_noPanic ?_
      refine wp_region_held_drew (S := (fun W => W.rangeAt QB 0 [.int .i64 1, .int .i64 (lnP (baseP c) c.lr k), .int .i64 (c.lr k), .int .i64 1, .int .i64 0])) (by kernel_rfl) ?_ (fun hHeld => ?_)
      · exact HL.out.range
      refine wpAnyH_take (i := 0) (v := ?_) rfl (by kernel_rfl) (by kernel_rfl) (by kernel_rfl) (fun _ _ _ h => h) (Or.inl ⟨by rfl, ?_⟩) (by assumption) ?_
      rotate_left
      · (intro w hSw; (try dsimp only at hSw); go_simp; try with_reducible rfl)
      simp only [Act.put, List.getElem_toArray, List.getElem_cons_zero, List.getElem_cons_succ, List.setIfInBounds_toArray, List.set_cons_zero, List.set_cons_succ]
      refine wpAnyH_take (i := 2) (v := .agg ([.int .i64 1, .int .i64 (lnP (baseP c) c.lr k), .int .i64 (c.lr k), .int .i64 1, .int .i64 0] : List Value).toArray) rfl (by kernel_rfl) (by kernel_rfl) (by kernel_rfl) (fun _ _ _ h => h) (yieldsIf_load_mid (by rfl) 145 _ rfl QB 0 rfl [.int .i64 1, .int .i64 (lnP (baseP c) c.lr k), .int .i64 (c.lr k), .int .i64 1, .int .i64 0] _ (fun w h => h) Tryz.underlying145 rfl place_info) (by assumption) ?_
      simp only [Act.put, List.getElem_toArray, List.getElem_cons_zero, List.getElem_cons_succ, List.setIfInBounds_toArray, List.set_cons_zero, List.set_cons_succ]
      refine wpAnyH_take (i := 3) (v := ?_) rfl (by kernel_rfl) (by kernel_rfl) (by kernel_rfl) (fun _ _ _ h => h) (Or.inl ⟨by rfl, ?_⟩) (by assumption) ?_
      rotate_left
      · (intro w hSw; (try dsimp only at hSw); go_simp; try with_reducible rfl)
      simp only [Act.put, List.getElem_toArray, List.getElem_cons_zero, List.getElem_cons_succ, List.setIfInBounds_toArray, List.set_cons_zero, List.set_cons_succ]
      refine wpAnyH_ready (rs := [1, 4]) (by kernel_rfl) (by simp) ?_
      refine AllReadyH.cons rfl (fun K hK => ?_) (AllReadyH.cons rfl (fun K hK => ?_) AllReadyH.nil)
      · go_simp
        refine hK.out _ _ ?_ (fun hHeld => ?_)
        · exact HL.out.range
        clear hK K
        try simp only [Act.put, List.getElem_toArray, List.getElem_cons_zero, List.getElem_cons_succ, List.setIfInBounds_toArray, List.set_cons_zero, List.set_cons_succ]
        refine wpAnyH_ready (rs := [4]) (by kernel_rfl) (by simp) ?_
        refine AllReadyH.cons rfl (fun K hK => ?_) AllReadyH.nil
        go_simp
        (go_at_call 70; refine (take_any (lnP (baseP c) c.lr k + (2 + c.lr k)) 1 (PB + 1) _ HL.out.po.tot ⟨by omega, by omega, by omega, by omega⟩).mono ?_; rintro e9 w9 ⟨rfl, ht9, k9⟩; have HL9 := Lib.hid (HL.out.took k9 ht9); have cp9 : w9.cell? ⟨PB, 1, none⟩ = some (.slice la k lc) := cell_of HL9.out.po.box 1; clear ht9 k9)
        go_wp2_with fail
        refine hK.out _ _ ?_ (fun hHeld => ?_)
        · ((try dsimp only); exact HL9.out.range)
        clear hK K
        try simp only [Act.put, List.getElem_toArray, List.getElem_cons_zero, List.getElem_cons_succ, List.setIfInBounds_toArray, List.set_cons_zero, List.set_cons_succ]
        have HOA := Lib.hid (show (w9.alloc (.cells #[.int .i64 1, .int .i64 (lnP (baseP c) c.lr k), .int .i64 (c.lr k), .int .i64 1, .int .i64 0, .int .i64 (lnP (baseP c) c.lr k + (2 + c.lr k))] 148)).ownsRow w.heap.size 148 6 (.slice la k lc) k (linesF (baseP c) c.lr k) from own_keepK HL9.out.own ((Keeps.refl (fun _ => False) w9).alloc _) (fun _ _ h => h))
        have HNW := Lib.hid (fun (ad : Addr) (had : some (⟨w9.heap.size, 0, none⟩ : Addr) = some ad) (j : Nat) (u : Value) (hu : (lineC (baseP c) c.lr k)[j]? = some u) => show (w9.alloc (.cells #[.int .i64 1, .int .i64 (lnP (baseP c) c.lr k), .int .i64 (c.lr k), .int .i64 1, .int .i64 0, .int .i64 (lnP (baseP c) c.lr k + (2 + c.lr k))] 148)).cell? (ad.add j) = some u from by
          obtain rfl := Option.some.inj had
          rw [Addr.add_mid, cell_of (heap_new w9 _) (0 + j), show 0 + j = j by omega]
          simpa using hu)
        have HSA := Lib.hid (show w.heap.size ≤ (w9.alloc (.cells #[.int .i64 1, .int .i64 (lnP (baseP c) c.lr k), .int .i64 (c.lr k), .int .i64 1, .int .i64 0, .int .i64 (lnP (baseP c) c.lr k + (2 + c.lr k))] 148)).heap.size from by rw [World.size_alloc]; have := HL9.out.po.keeps.size; omega)
        have cpA : (w9.alloc (.cells #[.int .i64 1, .int .i64 (lnP (baseP c) c.lr k), .int .i64 (c.lr k), .int .i64 1, .int .i64 0, .int .i64 (lnP (baseP c) c.lr k + (2 + c.lr k))] 148)).cell? ⟨PB, 1, none⟩ = some (.slice la k lc) := cell_of (heap_old HL9.out.po.box _) 1
        refine wpAnyH_take (i := 5) (v := ?_) rfl (by kernel_rfl) (by kernel_rfl) (by kernel_rfl) (fun _ _ _ h => h) (Or.inl ⟨by rfl, ?_⟩) (by assumption) ?_
        rotate_left
        · (intro w hSw; (try dsimp only at hSw); go_simp; try with_reducible rfl)
        simp only [Act.put, List.getElem_toArray, List.getElem_cons_zero, List.getElem_cons_succ, List.setIfInBounds_toArray, List.set_cons_zero, List.set_cons_succ]
        refine wpAnyH_ready (rs := [6]) (by kernel_rfl) (by simp) ?_
        refine AllReadyH.cons rfl (fun K hK => ?_) AllReadyH.nil
        go_simp
        refine hK.out _ _ ?_ (fun hHeld => ?_)
        · ((try dsimp only); exact range_keeps HL9.out.range ((Keeps.refl _ w9).alloc _) (lt_of HL9.out.box))
        clear hK K
        try simp only [Act.put, List.getElem_toArray, List.getElem_cons_zero, List.getElem_cons_succ, List.setIfInBounds_toArray, List.set_cons_zero, List.set_cons_succ]
        refine wpAnyH_ready (rs := [7]) (by kernel_rfl) (by simp) ?_
        refine AllReadyH.cons rfl (fun K hK => ?_) AllReadyH.nil
        (refine step_app_any rfl (.tmp 46) (.tmp 51) 81 rfl w.heap.size 148 i0 (.agg #[.int .i64 0, .int .i64 0, .int .i64 0, .int .i64 0, .int .i64 0, .int .i64 0]) 6 48 Tryz.underlying81 hi hz0 hz1 hz2 rfl (by decide) (.slice la k lc) k (linesF (baseP c) c.lr k) rfl HOA.out (some ⟨w9.heap.size, 0, none⟩) 1 1 (lineC (baseP c) c.lr k) rfl (fun h => absurd h (by simp)) rfl HNW.out (line_one _ _ _) (by unfold maxLen; omega) (by omega) HSA.out ?_; intro v10 w10 how10 hgr10; have HX := Lib.hid (HL9.out.grow (.cells #[.int .i64 1, .int .i64 (lnP (baseP c) c.lr k), .int .i64 (c.lr k), .int .i64 1, .int .i64 0, .int .i64 (lnP (baseP c) c.lr k + (2 + c.lr k))] 148) hgr10); have hsl := own_slice how10; have HW10 := Lib.hid how10; have HG10 := Lib.hid hgr10; have cp10 : w10.cell? ⟨PB, 1, none⟩ = some (.slice la k lc) := cell_of HX.out.1.box 1; have fp10 : w10.frozen? ⟨PB, 1, none⟩ = false := free_of HX.out.1.box 1; clear how10 hgr10; obtain ⟨la2, lc2, rfl⟩ := hsl)
        refine hK.out _ _ ?_ (fun hHeld => ?_)
        · ((try dsimp only); exact pl_range HX.out.2.2.2)
        clear hK K
        try simp only [Act.put, List.getElem_toArray, List.getElem_cons_zero, List.getElem_cons_succ, List.setIfInBounds_toArray, List.set_cons_zero, List.set_cons_succ]
        refine wpAnyH_take (i := 8) (v := ?_) rfl (by kernel_rfl) (by kernel_rfl) (by kernel_rfl) (fun _ _ _ h => h) (Or.inl ⟨by rfl, ?_⟩) (by assumption) ?_
        rotate_left
        · (intro w hSw; (try dsimp only at hSw); go_simp; try with_reducible rfl)
        simp only [Act.put, List.getElem_toArray, List.getElem_cons_zero, List.getElem_cons_succ, List.setIfInBounds_toArray, List.set_cons_zero, List.set_cons_succ]
        have kS : Keeps (fun j => j = PB) w10 (w10.setCell ⟨PB, 1, none⟩ (.slice la2 (k + 1) lc2)) := (Keeps.refl (fun j => j = PB) w10).setCell (p := ⟨PB, 1, none⟩) (.inl rfl) _
        have HEND := Lib.hid (show PoB w (w10.setCell ⟨PB, 1, none⟩ (.slice la2 (k + 1) lc2)) w.heap.size PB (PB + 1) c.cells (planL (.slice (some ⟨g, 0, none⟩) c.nO c.nO) (.slice la2 (k + 1) lc2) 0 (.slice none 0 0) 0).toArray (lnP (baseP c) c.lr (k + 1)) ∧ PlacesAt (w10.setCell ⟨PB, 1, none⟩ (.slice la2 (k + 1) lc2)) g c.nO (placeP c.ob) ∧ (w10.setCell ⟨PB, 1, none⟩ (.slice la2 (k + 1) lc2)).ownsRow w.heap.size 148 6 (.slice la2 (k + 1) lc2) (k + 1) (linesF (baseP c) c.lr (k + 1)) from
          ⟨HX.out.1.put 1 _, HX.out.2.1.keep kS HGN.out.2, by rw [lines_next]; exact own_keepK HW10.out kS (fun b hb e => own_apartC HW10.out HX.out.1.box (by decide) (by rw [hb, e]))⟩)
        have HQS := Lib.hid (pl_range (kS.at HX.out.2.2.2 HQP.out))
        clear kS
        refine wpAnyH_ready (rs := [9]) (by kernel_rfl) (by simp) ?_
        refine AllReadyH.cons rfl (fun K hK => ?_) AllReadyH.nil
        go_simp
        refine hK.out _ _ ?_ (fun hHeld => ?_)
        · ((try dsimp only); exact HQS.out)
        clear hK K
        try simp only [Act.put, List.getElem_toArray, List.getElem_cons_zero, List.getElem_cons_succ, List.setIfInBounds_toArray, List.set_cons_zero, List.set_cons_succ]
        refine wpAnyH_done (by kernel_rfl) ?_ _
        refine NoPanic.normal ?_
        go_wp2_with fail
        go_roundw
        case rel => exact ⟨k + 1, la2, lc2, by have := HLT.out; omega, by go_num, HEND.out.1, HEND.out.2.1, HEND.out.2.2⟩
        case measure => simp [intOf]; have := HLT.out; omega
      · go_simp
        (go_at_call 70; refine (take_any (lnP (baseP c) c.lr k + (2 + c.lr k)) 1 (PB + 1) _ HL.out.po.tot ⟨by omega, by omega, by omega, by omega⟩).mono ?_; rintro e9 w9 ⟨rfl, ht9, k9⟩; have HL9 := Lib.hid (HL.out.took k9 ht9); have cp9 : w9.cell? ⟨PB, 1, none⟩ = some (.slice la k lc) := cell_of HL9.out.po.box 1; clear ht9 k9)
        go_wp2_with fail
        refine hK.out _ _ ?_ (fun hHeld => ?_)
        · exact HL9.out.range
        clear hK K
        try simp only [Act.put, List.getElem_toArray, List.getElem_cons_zero, List.getElem_cons_succ, List.setIfInBounds_toArray, List.set_cons_zero, List.set_cons_succ]
        have HOA := Lib.hid (show (w9.alloc (.cells #[.int .i64 1, .int .i64 (lnP (baseP c) c.lr k), .int .i64 (c.lr k), .int .i64 1, .int .i64 0, .int .i64 (lnP (baseP c) c.lr k + (2 + c.lr k))] 148)).ownsRow w.heap.size 148 6 (.slice la k lc) k (linesF (baseP c) c.lr k) from own_keepK HL9.out.own ((Keeps.refl (fun _ => False) w9).alloc _) (fun _ _ h => h))
        have HNW := Lib.hid (fun (ad : Addr) (had : some (⟨w9.heap.size, 0, none⟩ : Addr) = some ad) (j : Nat) (u : Value) (hu : (lineC (baseP c) c.lr k)[j]? = some u) => show (w9.alloc (.cells #[.int .i64 1, .int .i64 (lnP (baseP c) c.lr k), .int .i64 (c.lr k), .int .i64 1, .int .i64 0, .int .i64 (lnP (baseP c) c.lr k + (2 + c.lr k))] 148)).cell? (ad.add j) = some u from by
          obtain rfl := Option.some.inj had
          rw [Addr.add_mid, cell_of (heap_new w9 _) (0 + j), show 0 + j = j by omega]
          simpa using hu)
        have HSA := Lib.hid (show w.heap.size ≤ (w9.alloc (.cells #[.int .i64 1, .int .i64 (lnP (baseP c) c.lr k), .int .i64 (c.lr k), .int .i64 1, .int .i64 0, .int .i64 (lnP (baseP c) c.lr k + (2 + c.lr k))] 148)).heap.size from by rw [World.size_alloc]; have := HL9.out.po.keeps.size; omega)
        have cpA : (w9.alloc (.cells #[.int .i64 1, .int .i64 (lnP (baseP c) c.lr k), .int .i64 (c.lr k), .int .i64 1, .int .i64 0, .int .i64 (lnP (baseP c) c.lr k + (2 + c.lr k))] 148)).cell? ⟨PB, 1, none⟩ = some (.slice la k lc) := cell_of (heap_old HL9.out.po.box _) 1
        refine wpAnyH_take (i := 5) (v := ?_) rfl (by kernel_rfl) (by kernel_rfl) (by kernel_rfl) (fun _ _ _ h => h) (Or.inl ⟨by rfl, ?_⟩) (by assumption) ?_
        rotate_left
        · (intro w hSw; (try dsimp only at hSw); go_simp; try with_reducible rfl)
        simp only [Act.put, List.getElem_toArray, List.getElem_cons_zero, List.getElem_cons_succ, List.setIfInBounds_toArray, List.set_cons_zero, List.set_cons_succ]
        refine wpAnyH_ready (rs := [1, 6]) (by kernel_rfl) (by simp) ?_
        refine AllReadyH.cons rfl (fun K hK => ?_) (AllReadyH.cons rfl (fun K hK => ?_) AllReadyH.nil)
        · go_simp
          refine hK.out _ _ ?_ (fun hHeld => ?_)
          · exact HL9.out.range
          clear hK K
          try simp only [Act.put, List.getElem_toArray, List.getElem_cons_zero, List.getElem_cons_succ, List.setIfInBounds_toArray, List.set_cons_zero, List.set_cons_succ]
          refine wpAnyH_ready (rs := [6]) (by kernel_rfl) (by simp) ?_
          refine AllReadyH.cons rfl (fun K hK => ?_) AllReadyH.nil
          go_simp
          refine hK.out _ _ ?_ (fun hHeld => ?_)
          · ((try dsimp only); exact range_keeps HL9.out.range ((Keeps.refl _ w9).alloc _) (lt_of HL9.out.box))
          clear hK K
          try simp only [Act.put, List.getElem_toArray, List.getElem_cons_zero, List.getElem_cons_succ, List.setIfInBounds_toArray, List.set_cons_zero, List.set_cons_succ]
          refine wpAnyH_ready (rs := [7]) (by kernel_rfl) (by simp) ?_
          refine AllReadyH.cons rfl (fun K hK => ?_) AllReadyH.nil
          (refine step_app_any rfl (.tmp 46) (.tmp 51) 81 rfl w.heap.size 148 i0 (.agg #[.int .i64 0, .int .i64 0, .int .i64 0, .int .i64 0, .int .i64 0, .int .i64 0]) 6 48 Tryz.underlying81 hi hz0 hz1 hz2 rfl (by decide) (.slice la k lc) k (linesF (baseP c) c.lr k) rfl HOA.out (some ⟨w9.heap.size, 0, none⟩) 1 1 (lineC (baseP c) c.lr k) rfl (fun h => absurd h (by simp)) rfl HNW.out (line_one _ _ _) (by unfold maxLen; omega) (by omega) HSA.out ?_; intro v10 w10 how10 hgr10; have HX := Lib.hid (HL9.out.grow (.cells #[.int .i64 1, .int .i64 (lnP (baseP c) c.lr k), .int .i64 (c.lr k), .int .i64 1, .int .i64 0, .int .i64 (lnP (baseP c) c.lr k + (2 + c.lr k))] 148) hgr10); have hsl := own_slice how10; have HW10 := Lib.hid how10; have HG10 := Lib.hid hgr10; have cp10 : w10.cell? ⟨PB, 1, none⟩ = some (.slice la k lc) := cell_of HX.out.1.box 1; have fp10 : w10.frozen? ⟨PB, 1, none⟩ = false := free_of HX.out.1.box 1; clear how10 hgr10; obtain ⟨la2, lc2, rfl⟩ := hsl)
          refine hK.out _ _ ?_ (fun hHeld => ?_)
          · ((try dsimp only); exact pl_range HX.out.2.2.2)
          clear hK K
          try simp only [Act.put, List.getElem_toArray, List.getElem_cons_zero, List.getElem_cons_succ, List.setIfInBounds_toArray, List.set_cons_zero, List.set_cons_succ]
          refine wpAnyH_take (i := 8) (v := ?_) rfl (by kernel_rfl) (by kernel_rfl) (by kernel_rfl) (fun _ _ _ h => h) (Or.inl ⟨by rfl, ?_⟩) (by assumption) ?_
          rotate_left
          · (intro w hSw; (try dsimp only at hSw); go_simp; try with_reducible rfl)
          simp only [Act.put, List.getElem_toArray, List.getElem_cons_zero, List.getElem_cons_succ, List.setIfInBounds_toArray, List.set_cons_zero, List.set_cons_succ]
          have kS : Keeps (fun j => j = PB) w10 (w10.setCell ⟨PB, 1, none⟩ (.slice la2 (k + 1) lc2)) := (Keeps.refl (fun j => j = PB) w10).setCell (p := ⟨PB, 1, none⟩) (.inl rfl) _
          have HEND := Lib.hid (show PoB w (w10.setCell ⟨PB, 1, none⟩ (.slice la2 (k + 1) lc2)) w.heap.size PB (PB + 1) c.cells (planL (.slice (some ⟨g, 0, none⟩) c.nO c.nO) (.slice la2 (k + 1) lc2) 0 (.slice none 0 0) 0).toArray (lnP (baseP c) c.lr (k + 1)) ∧ PlacesAt (w10.setCell ⟨PB, 1, none⟩ (.slice la2 (k + 1) lc2)) g c.nO (placeP c.ob) ∧ (w10.setCell ⟨PB, 1, none⟩ (.slice la2 (k + 1) lc2)).ownsRow w.heap.size 148 6 (.slice la2 (k + 1) lc2) (k + 1) (linesF (baseP c) c.lr (k + 1)) from
            ⟨HX.out.1.put 1 _, HX.out.2.1.keep kS HGN.out.2, by rw [lines_next]; exact own_keepK HW10.out kS (fun b hb e => own_apartC HW10.out HX.out.1.box (by decide) (by rw [hb, e]))⟩)
          have HQS := Lib.hid (pl_range (kS.at HX.out.2.2.2 HQP.out))
          clear kS
          refine wpAnyH_ready (rs := [9]) (by kernel_rfl) (by simp) ?_
          refine AllReadyH.cons rfl (fun K hK => ?_) AllReadyH.nil
          go_simp
          refine hK.out _ _ ?_ (fun hHeld => ?_)
          · ((try dsimp only); exact HQS.out)
          clear hK K
          try simp only [Act.put, List.getElem_toArray, List.getElem_cons_zero, List.getElem_cons_succ, List.setIfInBounds_toArray, List.set_cons_zero, List.set_cons_succ]
          refine wpAnyH_done (by kernel_rfl) ?_ _
          refine NoPanic.normal ?_
          go_wp2_with fail
          go_roundw
          case rel => exact ⟨k + 1, la2, lc2, by have := HLT.out; omega, by go_num, HEND.out.1, HEND.out.2.1, HEND.out.2.2⟩
          case measure => simp [intOf]; have := HLT.out; omega
        · go_simp
          refine hK.out _ _ ?_ (fun hHeld => ?_)
          · exact range_keeps HL9.out.range ((Keeps.refl _ w9).alloc _) (lt_of HL9.out.box)
          clear hK K
          try simp only [Act.put, List.getElem_toArray, List.getElem_cons_zero, List.getElem_cons_succ, List.setIfInBounds_toArray, List.set_cons_zero, List.set_cons_succ]
          refine wpAnyH_ready (rs := [1]) (by kernel_rfl) (by simp) ?_
          refine AllReadyH.cons rfl (fun K hK => ?_) AllReadyH.nil
          go_simp
          refine hK.out _ _ ?_ (fun hHeld => ?_)
          · ((try dsimp only); exact range_keeps HL9.out.range ((Keeps.refl _ w9).alloc _) (lt_of HL9.out.box))
          clear hK K
          try simp only [Act.put, List.getElem_toArray, List.getElem_cons_zero, List.getElem_cons_succ, List.setIfInBounds_toArray, List.set_cons_zero, List.set_cons_succ]
          refine wpAnyH_ready (rs := [7]) (by kernel_rfl) (by simp) ?_
          refine AllReadyH.cons rfl (fun K hK => ?_) AllReadyH.nil
          (refine step_app_any rfl (.tmp 46) (.tmp 51) 81 rfl w.heap.size 148 i0 (.agg #[.int .i64 0, .int .i64 0, .int .i64 0, .int .i64 0, .int .i64 0, .int .i64 0]) 6 48 Tryz.underlying81 hi hz0 hz1 hz2 rfl (by decide) (.slice la k lc) k (linesF (baseP c) c.lr k) rfl HOA.out (some ⟨w9.heap.size, 0, none⟩) 1 1 (lineC (baseP c) c.lr k) rfl (fun h => absurd h (by simp)) rfl HNW.out (line_one _ _ _) (by unfold maxLen; omega) (by omega) HSA.out ?_; intro v10 w10 how10 hgr10; have HX := Lib.hid (HL9.out.grow (.cells #[.int .i64 1, .int .i64 (lnP (baseP c) c.lr k), .int .i64 (c.lr k), .int .i64 1, .int .i64 0, .int .i64 (lnP (baseP c) c.lr k + (2 + c.lr k))] 148) hgr10); have hsl := own_slice how10; have HW10 := Lib.hid how10; have HG10 := Lib.hid hgr10; have cp10 : w10.cell? ⟨PB, 1, none⟩ = some (.slice la k lc) := cell_of HX.out.1.box 1; have fp10 : w10.frozen? ⟨PB, 1, none⟩ = false := free_of HX.out.1.box 1; clear how10 hgr10; obtain ⟨la2, lc2, rfl⟩ := hsl)
          refine hK.out _ _ ?_ (fun hHeld => ?_)
          · ((try dsimp only); exact pl_range HX.out.2.2.2)
          clear hK K
          try simp only [Act.put, List.getElem_toArray, List.getElem_cons_zero, List.getElem_cons_succ, List.setIfInBounds_toArray, List.set_cons_zero, List.set_cons_succ]
          refine wpAnyH_take (i := 8) (v := ?_) rfl (by kernel_rfl) (by kernel_rfl) (by kernel_rfl) (fun _ _ _ h => h) (Or.inl ⟨by rfl, ?_⟩) (by assumption) ?_
          rotate_left
          · (intro w hSw; (try dsimp only at hSw); go_simp; try with_reducible rfl)
          simp only [Act.put, List.getElem_toArray, List.getElem_cons_zero, List.getElem_cons_succ, List.setIfInBounds_toArray, List.set_cons_zero, List.set_cons_succ]
          have kS : Keeps (fun j => j = PB) w10 (w10.setCell ⟨PB, 1, none⟩ (.slice la2 (k + 1) lc2)) := (Keeps.refl (fun j => j = PB) w10).setCell (p := ⟨PB, 1, none⟩) (.inl rfl) _
          have HEND := Lib.hid (show PoB w (w10.setCell ⟨PB, 1, none⟩ (.slice la2 (k + 1) lc2)) w.heap.size PB (PB + 1) c.cells (planL (.slice (some ⟨g, 0, none⟩) c.nO c.nO) (.slice la2 (k + 1) lc2) 0 (.slice none 0 0) 0).toArray (lnP (baseP c) c.lr (k + 1)) ∧ PlacesAt (w10.setCell ⟨PB, 1, none⟩ (.slice la2 (k + 1) lc2)) g c.nO (placeP c.ob) ∧ (w10.setCell ⟨PB, 1, none⟩ (.slice la2 (k + 1) lc2)).ownsRow w.heap.size 148 6 (.slice la2 (k + 1) lc2) (k + 1) (linesF (baseP c) c.lr (k + 1)) from
            ⟨HX.out.1.put 1 _, HX.out.2.1.keep kS HGN.out.2, by rw [lines_next]; exact own_keepK HW10.out kS (fun b hb e => own_apartC HW10.out HX.out.1.box (by decide) (by rw [hb, e]))⟩)
          have HQS := Lib.hid (pl_range (kS.at HX.out.2.2.2 HQP.out))
          clear kS
          refine wpAnyH_ready (rs := [9]) (by kernel_rfl) (by simp) ?_
          refine AllReadyH.cons rfl (fun K hK => ?_) AllReadyH.nil
          go_simp
          refine hK.out _ _ ?_ (fun hHeld => ?_)
          · ((try dsimp only); exact HQS.out)
          clear hK K
          try simp only [Act.put, List.getElem_toArray, List.getElem_cons_zero, List.getElem_cons_succ, List.setIfInBounds_toArray, List.set_cons_zero, List.set_cons_succ]
          refine wpAnyH_done (by kernel_rfl) ?_ _
          refine NoPanic.normal ?_
          go_wp2_with fail
          go_roundw
          case rel => exact ⟨k + 1, la2, lc2, by have := HLT.out; omega, by go_num, HEND.out.1, HEND.out.2.1, HEND.out.2.2⟩
          case measure => simp [intOf]; have := HLT.out; omega
      --R14E
    · obtain ⟨nl, hnl⟩ : ∃ nl, nl = c.nL := ⟨_, rfl⟩
      have hkn : k = c.nL := by omega
      subst hkn
      have e0 : decide (c.nL < c.nL) = false := decide_eq_false (by omega)
      have e0' : decide ((c.nL : Int) < (c.nL : Int)) = false := decide_eq_false (by omega)
      have hbb := HBB.out
      have hlb := HLB.out c.nL hk
      have hn2 := HNL.out
      clear hlt hnl nl
      go_wp2_with fail
      refine (take_any (lnP (baseP c) c.lr c.nL) 1 (PB + 1) _ HS.out.1.tot ⟨by omega, by omega, by omega, by omega⟩).mono ?_
      rintro e6 w6 ⟨rfl, ht6, k6⟩
      have HS6 := Lib.hid (HS.out.1.took k6 ht6)
      have HP6 := Lib.hid (HS.out.2.1.keep k6 HGN.out.1)
      have HO6 := Lib.hid (own_keepK HS.out.2.2 k6 (fun b hb e => own_apartC HS.out.2.2 HS.out.1.tot (by decide) (by rw [hb, e])))
      have cq := cell_of HS6.out.box 2
      have fq := free_of HS6.out.box 2
      simp only [planL, List.getElem?_toArray, List.getElem?_cons_zero, List.getElem?_cons_succ] at cq
      obtain ⟨q0, q1, q2, q3⟩ := four_cells HS6.out.cfg
      have hne1 : w.heap.size ≠ PB := HS6.out.ne.1
      have hne2 : ¬ PB = w.heap.size := fun e => hne1 e.symm
      have HS7 := Lib.hid (show AkB w (w6.setCell ⟨PB, 2, none⟩ (.int .i64 (tickP c))) c PB g 0 la lc none 0 (tickP c + 1 + ((0 : Nat) : Int)) from by
        have kS : Keeps (fun j => j = PB) w6 (w6.setCell ⟨PB, 2, none⟩ (.int .i64 (tickP c))) := (Keeps.refl (fun j => j = PB) w6).setCell (p := ⟨PB, 2, none⟩) (.inl rfl) _
        have hput := HS6.out.put 2 (.int .i64 (tickP c))
        rw [show lnP (baseP c) c.lr c.nL + 1 = tickP c + 1 + ((0 : Nat) : Int) by unfold tickP; omega] at hput
        exact ⟨hput, HP6.out.keep kS HGN.out.2, own_keepK HO6.out kS (fun b hb e => own_apartC HO6.out HS6.out.box (by decide) (by rw [hb, e])), World.ownsRow_nil _ _ _ _, by have := lt_of HS6.out.tot; simp; omega, HGN.out⟩)
      have HTK := Lib.hid (show lnP (baseP c) c.lr c.nL = tickP c from rfl)
      have hg16 := HG.out.t
      clear ht6 k6 HS
      rw [HTK.out]
      go_wp2_with fail
      clear q0 q1 q2 q3 hne1 hne2 cq fq HS6 HP6 HO6
      go_loopw [61] (fun x W => ∃ (k : Nat) (aa : Option Addr) (ac : Nat), k ≤ c.nT ∧ x = .int .i64 (k : Int) ∧ AkB w W c PB g k la lc aa ac (tickP c + 1 + (k : Int))) (fun x _ => c.nT - (intOf x).toNat)
      case atStart => exact ⟨0, none, 0, Nat.zero_le _, rfl, HS7.out⟩
      case round =>
        clear HS7
        obtain ⟨k, aa, ac, hk2, rfl, hs⟩ := hrel
        have HS := Lib.hid hs
        clear hs
        by_cases hlt : k < c.nT
        · have HLT := Lib.hid hlt
          have e0 : decide (k < c.nT) = true := decide_eq_true hlt
          have e0' : decide ((k : Int) < (c.nT : Int)) = true := decide_eq_true (by omega)
          go_wp2_with fail
          have HL := Lib.hid (HS.out.none ((Keeps.refl (fun _ => False) _).drew))
          have cp : wr.drew.cell? ⟨PB, 3, none⟩ = some (.slice aa k ac) := cell_of HL.out.po.box 3
          rw [HTK.out] at hlb
          clear HS
          --R19
          refine wp_region_noPanic ?_
          refine wp_region_held_drew (S := fun _ => True) (by kernel_rfl) ?_ (fun hHeld => ?_)
          · trivial
          refine wpAnyH_take (i := 0) (v := ?_) rfl (by kernel_rfl) (by kernel_rfl) (by kernel_rfl) (fun _ _ _ h => h) (Or.inl ⟨by rfl, ?_⟩) (by assumption) ?_
          rotate_left
          · (intro w hSw; (try dsimp only at hSw); go_simp; try with_reducible rfl)
          simp only [Act.put, List.getElem_toArray, List.getElem_cons_zero, List.getElem_cons_succ, List.setIfInBounds_toArray, List.set_cons_zero, List.set_cons_succ]
          refine wpAnyH_take (i := 2) (v := ?_) rfl (by kernel_rfl) (by kernel_rfl) (by kernel_rfl) (fun _ _ _ h => h) (Or.inl ⟨by rfl, ?_⟩) (by assumption) ?_
          rotate_left
          · (intro w hSw; (try dsimp only at hSw); go_simp; try with_reducible rfl)
          simp only [Act.put, List.getElem_toArray, List.getElem_cons_zero, List.getElem_cons_succ, List.setIfInBounds_toArray, List.set_cons_zero, List.set_cons_succ]
          refine wpAnyH_ready (rs := [1, 3]) (by kernel_rfl) (by simp) ?_
          refine AllReadyH.cons rfl (fun K hK => ?_) (AllReadyH.cons rfl (fun K hK => ?_) AllReadyH.nil)
          · go_simp
            refine hK.out _ _ ?_ (fun hHeld => ?_)
            · trivial
            clear hK K
            try simp only [Act.put, List.getElem_toArray, List.getElem_cons_zero, List.getElem_cons_succ, List.setIfInBounds_toArray, List.set_cons_zero, List.set_cons_succ]
            refine wpAnyH_ready (rs := [3]) (by kernel_rfl) (by simp) ?_
            refine AllReadyH.cons rfl (fun K hK => ?_) AllReadyH.nil
            go_simp
            (go_at_call 70; refine (take_any (tickP c + 1 + (k : Int)) 1 (PB + 1) _ HL.out.po.tot ⟨by omega, by omega, by omega, by omega⟩).mono ?_; rintro e9 w9 ⟨rfl, ht9, k9⟩; have HL9 := Lib.hid (HL.out.took k9 ht9); have cp9 : w9.cell? ⟨PB, 3, none⟩ = some (.slice aa k ac) := cell_of HL9.out.po.box 3; clear ht9 k9)
            go_wp2_with fail
            refine hK.out _ _ ?_ (fun hHeld => ?_)
            · ((try dsimp only); try trivial)
            clear hK K
            try simp only [Act.put, List.getElem_toArray, List.getElem_cons_zero, List.getElem_cons_succ, List.setIfInBounds_toArray, List.set_cons_zero, List.set_cons_succ]
            have HOA := Lib.hid (show (w9.alloc (.cells #[.int .i64 (tickP c + 1 + (k : Int))] 3)).ownsRow (PB + 2) 3 1 (.slice aa k ac) k (asksF (tickP c + 1) k) from own_keepK HL9.out.ow ((Keeps.refl (fun _ => False) w9).alloc _) (fun _ _ h => h))
            have HNW := Lib.hid (fun (ad : Addr) (had : some (⟨w9.heap.size, 0, none⟩ : Addr) = some ad) (j : Nat) (u : Value) (hu : [Value.int .i64 (tickP c + 1 + (k : Int))][j]? = some u) => show (w9.alloc (.cells #[.int .i64 (tickP c + 1 + (k : Int))] 3)).cell? (ad.add j) = some u from by
              obtain rfl := Option.some.inj had
              rw [Addr.add_mid, cell_of (heap_new w9 _) (0 + j), show 0 + j = j by omega]
              simpa using hu)
            have HSA := Lib.hid (show PB + 2 ≤ (w9.alloc (.cells #[.int .i64 (tickP c + 1 + (k : Int))] 3)).heap.size from by rw [World.size_alloc]; have := HL9.out.sz; omega)
            have cpA : (w9.alloc (.cells #[.int .i64 (tickP c + 1 + (k : Int))] 3)).cell? ⟨PB, 3, none⟩ = some (.slice aa k ac) := cell_of (heap_old HL9.out.po.box _) 3
            refine wpAnyH_ready (rs := [4]) (by kernel_rfl) (by simp) ?_
            refine AllReadyH.cons rfl (fun K hK => ?_) AllReadyH.nil
            go_simp
            refine hK.out _ _ ?_ (fun hHeld => ?_)
            · ((try dsimp only); try trivial)
            clear hK K
            try simp only [Act.put, List.getElem_toArray, List.getElem_cons_zero, List.getElem_cons_succ, List.setIfInBounds_toArray, List.set_cons_zero, List.set_cons_succ]
            refine wpAnyH_ready (rs := [5]) (by kernel_rfl) (by simp) ?_
            refine AllReadyH.cons rfl (fun K hK => ?_) AllReadyH.nil
            (refine step_app_any rfl (.tmp 64) (.tmp 67) 53 rfl (PB + 2) 3 i9 (.int .i64 0) 1 8 Tryz.underlying53 hi9 hz90 hz91 hz92 rfl (by decide) (.slice aa k ac) k (asksF (tickP c + 1) k) rfl HOA.out (some ⟨w9.heap.size, 0, none⟩) 1 1 [.int .i64 (tickP c + 1 + (k : Int))] rfl (fun h => absurd h (by simp)) rfl HNW.out (fun u hu => by rw [List.mem_singleton] at hu; rw [hu]; rfl) (by unfold maxLen; omega) (by omega) HSA.out ?_; intro v10 w10 how10 hgr10; have HX := Lib.hid (HL9.out.grow (.cells #[.int .i64 (tickP c + 1 + (k : Int))] 3) hgr10); have hsl := own_slice how10; have HW10 := Lib.hid how10; have cp10 : w10.cell? ⟨PB, 3, none⟩ = some (.slice aa k ac) := cell_of HX.out.1.box 3; have fp10 : w10.frozen? ⟨PB, 3, none⟩ = false := free_of HX.out.1.box 3; clear how10 hgr10; obtain ⟨aa2, ac2, rfl⟩ := hsl)
            refine hK.out _ _ ?_ (fun hHeld => ?_)
            · ((try dsimp only); try trivial)
            clear hK K
            try simp only [Act.put, List.getElem_toArray, List.getElem_cons_zero, List.getElem_cons_succ, List.setIfInBounds_toArray, List.set_cons_zero, List.set_cons_succ]
            refine wpAnyH_take (i := 6) (v := ?_) rfl (by kernel_rfl) (by kernel_rfl) (by kernel_rfl) (fun _ _ _ h => h) (Or.inl ⟨by rfl, ?_⟩) (by assumption) ?_
            rotate_left
            · (intro w hSw; (try dsimp only at hSw); go_simp; try with_reducible rfl)
            simp only [Act.put, List.getElem_toArray, List.getElem_cons_zero, List.getElem_cons_succ, List.setIfInBounds_toArray, List.set_cons_zero, List.set_cons_succ]
            have HEND := Lib.hid (show AkB w (w10.setCell ⟨PB, 3, none⟩ (.slice aa2 (k + 1) ac2)) c PB g (k + 1) la lc aa2 ac2 (tickP c + 1 + ((k + 1 : Nat) : Int)) from HX.out.2 aa2 ac2 HW10.out)
            refine wpAnyH_ready (rs := [7]) (by kernel_rfl) (by simp) ?_
            refine AllReadyH.cons rfl (fun K hK => ?_) AllReadyH.nil
            go_simp
            refine hK.out _ _ ?_ (fun hHeld => ?_)
            · ((try dsimp only); try trivial)
            clear hK K
            try simp only [Act.put, List.getElem_toArray, List.getElem_cons_zero, List.getElem_cons_succ, List.setIfInBounds_toArray, List.set_cons_zero, List.set_cons_succ]
            refine wpAnyH_done (by kernel_rfl) ?_ _
            refine NoPanic.normal ?_
            go_wp2_with fail
            go_roundw
            case rel => exact ⟨k + 1, aa2, ac2, by have := HLT.out; omega, by go_num, HEND.out⟩
            case measure => simp [intOf]; have := HLT.out; omega
          · go_simp
            (go_at_call 70; refine (take_any (tickP c + 1 + (k : Int)) 1 (PB + 1) _ HL.out.po.tot ⟨by omega, by omega, by omega, by omega⟩).mono ?_; rintro e9 w9 ⟨rfl, ht9, k9⟩; have HL9 := Lib.hid (HL.out.took k9 ht9); have cp9 : w9.cell? ⟨PB, 3, none⟩ = some (.slice aa k ac) := cell_of HL9.out.po.box 3; clear ht9 k9)
            go_wp2_with fail
            refine hK.out _ _ ?_ (fun hHeld => ?_)
            · trivial
            clear hK K
            try simp only [Act.put, List.getElem_toArray, List.getElem_cons_zero, List.getElem_cons_succ, List.setIfInBounds_toArray, List.set_cons_zero, List.set_cons_succ]
            have HOA := Lib.hid (show (w9.alloc (.cells #[.int .i64 (tickP c + 1 + (k : Int))] 3)).ownsRow (PB + 2) 3 1 (.slice aa k ac) k (asksF (tickP c + 1) k) from own_keepK HL9.out.ow ((Keeps.refl (fun _ => False) w9).alloc _) (fun _ _ h => h))
            have HNW := Lib.hid (fun (ad : Addr) (had : some (⟨w9.heap.size, 0, none⟩ : Addr) = some ad) (j : Nat) (u : Value) (hu : [Value.int .i64 (tickP c + 1 + (k : Int))][j]? = some u) => show (w9.alloc (.cells #[.int .i64 (tickP c + 1 + (k : Int))] 3)).cell? (ad.add j) = some u from by
              obtain rfl := Option.some.inj had
              rw [Addr.add_mid, cell_of (heap_new w9 _) (0 + j), show 0 + j = j by omega]
              simpa using hu)
            have HSA := Lib.hid (show PB + 2 ≤ (w9.alloc (.cells #[.int .i64 (tickP c + 1 + (k : Int))] 3)).heap.size from by rw [World.size_alloc]; have := HL9.out.sz; omega)
            have cpA : (w9.alloc (.cells #[.int .i64 (tickP c + 1 + (k : Int))] 3)).cell? ⟨PB, 3, none⟩ = some (.slice aa k ac) := cell_of (heap_old HL9.out.po.box _) 3
            refine wpAnyH_ready (rs := [1, 4]) (by kernel_rfl) (by simp) ?_
            refine AllReadyH.cons rfl (fun K hK => ?_) (AllReadyH.cons rfl (fun K hK => ?_) AllReadyH.nil)
            · go_simp
              refine hK.out _ _ ?_ (fun hHeld => ?_)
              · trivial
              clear hK K
              try simp only [Act.put, List.getElem_toArray, List.getElem_cons_zero, List.getElem_cons_succ, List.setIfInBounds_toArray, List.set_cons_zero, List.set_cons_succ]
              refine wpAnyH_ready (rs := [4]) (by kernel_rfl) (by simp) ?_
              refine AllReadyH.cons rfl (fun K hK => ?_) AllReadyH.nil
              go_simp
              refine hK.out _ _ ?_ (fun hHeld => ?_)
              · ((try dsimp only); try trivial)
              clear hK K
              try simp only [Act.put, List.getElem_toArray, List.getElem_cons_zero, List.getElem_cons_succ, List.setIfInBounds_toArray, List.set_cons_zero, List.set_cons_succ]
              refine wpAnyH_ready (rs := [5]) (by kernel_rfl) (by simp) ?_
              refine AllReadyH.cons rfl (fun K hK => ?_) AllReadyH.nil
              (refine step_app_any rfl (.tmp 64) (.tmp 67) 53 rfl (PB + 2) 3 i9 (.int .i64 0) 1 8 Tryz.underlying53 hi9 hz90 hz91 hz92 rfl (by decide) (.slice aa k ac) k (asksF (tickP c + 1) k) rfl HOA.out (some ⟨w9.heap.size, 0, none⟩) 1 1 [.int .i64 (tickP c + 1 + (k : Int))] rfl (fun h => absurd h (by simp)) rfl HNW.out (fun u hu => by rw [List.mem_singleton] at hu; rw [hu]; rfl) (by unfold maxLen; omega) (by omega) HSA.out ?_; intro v10 w10 how10 hgr10; have HX := Lib.hid (HL9.out.grow (.cells #[.int .i64 (tickP c + 1 + (k : Int))] 3) hgr10); have hsl := own_slice how10; have HW10 := Lib.hid how10; have cp10 : w10.cell? ⟨PB, 3, none⟩ = some (.slice aa k ac) := cell_of HX.out.1.box 3; have fp10 : w10.frozen? ⟨PB, 3, none⟩ = false := free_of HX.out.1.box 3; clear how10 hgr10; obtain ⟨aa2, ac2, rfl⟩ := hsl)
              refine hK.out _ _ ?_ (fun hHeld => ?_)
              · ((try dsimp only); try trivial)
              clear hK K
              try simp only [Act.put, List.getElem_toArray, List.getElem_cons_zero, List.getElem_cons_succ, List.setIfInBounds_toArray, List.set_cons_zero, List.set_cons_succ]
              refine wpAnyH_take (i := 6) (v := ?_) rfl (by kernel_rfl) (by kernel_rfl) (by kernel_rfl) (fun _ _ _ h => h) (Or.inl ⟨by rfl, ?_⟩) (by assumption) ?_
              rotate_left
              · (intro w hSw; (try dsimp only at hSw); go_simp; try with_reducible rfl)
              simp only [Act.put, List.getElem_toArray, List.getElem_cons_zero, List.getElem_cons_succ, List.setIfInBounds_toArray, List.set_cons_zero, List.set_cons_succ]
              have HEND := Lib.hid (show AkB w (w10.setCell ⟨PB, 3, none⟩ (.slice aa2 (k + 1) ac2)) c PB g (k + 1) la lc aa2 ac2 (tickP c + 1 + ((k + 1 : Nat) : Int)) from HX.out.2 aa2 ac2 HW10.out)
              refine wpAnyH_ready (rs := [7]) (by kernel_rfl) (by simp) ?_
              refine AllReadyH.cons rfl (fun K hK => ?_) AllReadyH.nil
              go_simp
              refine hK.out _ _ ?_ (fun hHeld => ?_)
              · ((try dsimp only); try trivial)
              clear hK K
              try simp only [Act.put, List.getElem_toArray, List.getElem_cons_zero, List.getElem_cons_succ, List.setIfInBounds_toArray, List.set_cons_zero, List.set_cons_succ]
              refine wpAnyH_done (by kernel_rfl) ?_ _
              refine NoPanic.normal ?_
              go_wp2_with fail
              go_roundw
              case rel => exact ⟨k + 1, aa2, ac2, by have := HLT.out; omega, by go_num, HEND.out⟩
              case measure => simp [intOf]; have := HLT.out; omega
            · go_simp
              refine hK.out _ _ ?_ (fun hHeld => ?_)
              · trivial
              clear hK K
              try simp only [Act.put, List.getElem_toArray, List.getElem_cons_zero, List.getElem_cons_succ, List.setIfInBounds_toArray, List.set_cons_zero, List.set_cons_succ]
              refine wpAnyH_ready (rs := [1]) (by kernel_rfl) (by simp) ?_
              refine AllReadyH.cons rfl (fun K hK => ?_) AllReadyH.nil
              go_simp
              refine hK.out _ _ ?_ (fun hHeld => ?_)
              · ((try dsimp only); try trivial)
              clear hK K
              try simp only [Act.put, List.getElem_toArray, List.getElem_cons_zero, List.getElem_cons_succ, List.setIfInBounds_toArray, List.set_cons_zero, List.set_cons_succ]
              refine wpAnyH_ready (rs := [5]) (by kernel_rfl) (by simp) ?_
              refine AllReadyH.cons rfl (fun K hK => ?_) AllReadyH.nil
              (refine step_app_any rfl (.tmp 64) (.tmp 67) 53 rfl (PB + 2) 3 i9 (.int .i64 0) 1 8 Tryz.underlying53 hi9 hz90 hz91 hz92 rfl (by decide) (.slice aa k ac) k (asksF (tickP c + 1) k) rfl HOA.out (some ⟨w9.heap.size, 0, none⟩) 1 1 [.int .i64 (tickP c + 1 + (k : Int))] rfl (fun h => absurd h (by simp)) rfl HNW.out (fun u hu => by rw [List.mem_singleton] at hu; rw [hu]; rfl) (by unfold maxLen; omega) (by omega) HSA.out ?_; intro v10 w10 how10 hgr10; have HX := Lib.hid (HL9.out.grow (.cells #[.int .i64 (tickP c + 1 + (k : Int))] 3) hgr10); have hsl := own_slice how10; have HW10 := Lib.hid how10; have cp10 : w10.cell? ⟨PB, 3, none⟩ = some (.slice aa k ac) := cell_of HX.out.1.box 3; have fp10 : w10.frozen? ⟨PB, 3, none⟩ = false := free_of HX.out.1.box 3; clear how10 hgr10; obtain ⟨aa2, ac2, rfl⟩ := hsl)
              refine hK.out _ _ ?_ (fun hHeld => ?_)
              · ((try dsimp only); try trivial)
              clear hK K
              try simp only [Act.put, List.getElem_toArray, List.getElem_cons_zero, List.getElem_cons_succ, List.setIfInBounds_toArray, List.set_cons_zero, List.set_cons_succ]
              refine wpAnyH_take (i := 6) (v := ?_) rfl (by kernel_rfl) (by kernel_rfl) (by kernel_rfl) (fun _ _ _ h => h) (Or.inl ⟨by rfl, ?_⟩) (by assumption) ?_
              rotate_left
              · (intro w hSw; (try dsimp only at hSw); go_simp; try with_reducible rfl)
              simp only [Act.put, List.getElem_toArray, List.getElem_cons_zero, List.getElem_cons_succ, List.setIfInBounds_toArray, List.set_cons_zero, List.set_cons_succ]
              have HEND := Lib.hid (show AkB w (w10.setCell ⟨PB, 3, none⟩ (.slice aa2 (k + 1) ac2)) c PB g (k + 1) la lc aa2 ac2 (tickP c + 1 + ((k + 1 : Nat) : Int)) from HX.out.2 aa2 ac2 HW10.out)
              refine wpAnyH_ready (rs := [7]) (by kernel_rfl) (by simp) ?_
              refine AllReadyH.cons rfl (fun K hK => ?_) AllReadyH.nil
              go_simp
              refine hK.out _ _ ?_ (fun hHeld => ?_)
              · ((try dsimp only); try trivial)
              clear hK K
              try simp only [Act.put, List.getElem_toArray, List.getElem_cons_zero, List.getElem_cons_succ, List.setIfInBounds_toArray, List.set_cons_zero, List.set_cons_succ]
              refine wpAnyH_done (by kernel_rfl) ?_ _
              refine NoPanic.normal ?_
              go_wp2_with fail
              go_roundw
              case rel => exact ⟨k + 1, aa2, ac2, by have := HLT.out; omega, by go_num, HEND.out⟩
              case measure => simp [intOf]; have := HLT.out; omega
          --R19E
        · have hkn : k = c.nT := by omega
          subst hkn
          have e0 : decide (c.nT < c.nT) = false := decide_eq_false (by omega)
          have e0' : decide ((c.nT : Int) < (c.nT : Int)) = false := decide_eq_false (by omega)
          have ct := cell_of HS.out.po.tot 0
          have cq := cell_of HS.out.po.box 4
          have fq := free_of HS.out.po.box 4
          simp only [planL, List.getElem?_toArray, List.getElem?_cons_zero, List.getElem?_cons_succ] at cq ct
          have kS : Keeps (fun j => j = PB) wr (wr.setCell ⟨PB, 4, none⟩ (.int .i64 (tickP c + 1 + (c.nT : Int)))) := (Keeps.refl (fun j => j = PB) wr).setCell (p := ⟨PB, 4, none⟩) (.inl rfl) _
          have hput : PoB w (wr.setCell ⟨PB, 4, none⟩ (.int .i64 (tickP c + 1 + (c.nT : Int)))) w.heap.size PB (PB + 1) c.cells (planL (.slice (some ⟨g, 0, none⟩) c.nO c.nO) (.slice la c.nL lc) (tickP c) (.slice aa c.nT ac) (tickP c + 1 + (c.nT : Int))).toArray (tickP c + 1 + (c.nT : Int)) := HS.out.po.put 4 (.int .i64 (tickP c + 1 + (c.nT : Int)))
          have HR8 := Lib.hid (show ((wr.setCell ⟨PB, 4, none⟩ (.int .i64 (tickP c + 1 + (c.nT : Int))))).rangeAt PB 0 (planL (.slice (some ⟨g, 0, none⟩) c.nO c.nO) (.slice la c.nL lc) (tickP c) (.slice aa c.nT ac) (tickP c + 1 + (c.nT : Int))) from fun j v hv => by
            rw [cell_of hput.box (0 + j), show 0 + j = j by omega]
            simpa using hv)
          have HTH := Lib.hid (show ((wr.setCell ⟨PB, 4, none⟩ (.int .i64 (tickP c + 1 + (c.nT : Int))))).there (w.heap.size + 1) 0 5 from by
            obtain ⟨rs, hr, h5⟩ := hput.res
            exact there_of hr 0 5 (by omega))
          obtain ⟨W9, hW9⟩ : ∃ W9, W9 = ((wr.setCell ⟨PB, 4, none⟩ (.int .i64 (tickP c + 1 + (c.nT : Int))))).setCells (w.heap.size + 1) 0 (((planL (.slice (some ⟨g, 0, none⟩) c.nO c.nO) (.slice la c.nL lc) (tickP c) (.slice aa c.nT ac) (tickP c + 1 + (c.nT : Int)))).toArray).toList := ⟨_, rfl⟩
          have k9 : Keeps (fun j => j = w.heap.size + 1) (wr.setCell ⟨PB, 4, none⟩ (.int .i64 (tickP c + 1 + (c.nT : Int)))) W9 := by rw [hW9]; exact Keeps.sets (S := fun j => j = w.heap.size + 1) (.inl rfl) _ _ _ (Keeps.refl _ _)
          have HG9 := Lib.hid (show W9.heap[w.heap.size + 1]? = some (.cells (planL (.slice (some ⟨g, 0, none⟩) c.nO c.nO) (.slice la c.nL lc) (tickP c) (.slice aa c.nT ac) (tickP c + 1 + (c.nT : Int))).toArray 83 (0, 0)) from by
            obtain ⟨rs, hr, h5⟩ := hput.res
            rw [hW9]
            exact sets_all _ hr (by simpa using h5))
          have HE := Lib.hid (show PlacesAt W9 g c.nO (placeP c.ob) ∧ W9.ownsRow w.heap.size 148 6 (.slice la c.nL lc) c.nL (linesF (baseP c) c.lr c.nL) ∧ W9.ownsRow w.heap.size 3 1 (.slice aa c.nT ac) c.nT (asksF (tickP c + 1) c.nT) ∧ Keeps (fun _ => False) w W9 from by
            have hl8 := own_keepK HS.out.ln kS (fun b hb e => own_apartC HS.out.ln HS.out.po.box (by decide) (by rw [hb, e]))
            have ho8 := own_keepK HS.out.ow kS (fun b hb e => own_apartC HS.out.ow HS.out.po.box (by decide) (by rw [hb, e]))
            obtain ⟨rs, hr, h5⟩ := hput.res
            have hp8 := HS.out.pl.keep kS HS.out.ne.2
            refine ⟨hp8.keep k9 (fun e => ?_), own_keepK hl8 k9 (fun b hb e => own_apartC hl8 hr (by decide) (by rw [hb, e])), own_base (own_keepK ho8 k9 (fun b hb e => own_apartC ho8 hr (by decide) (by rw [hb, e]))) (by have := HS.out.po.ge.2.1; omega), hput.keeps.far k9 (fun j e => by omega)⟩
            obtain ⟨cs, hc8, _⟩ := hp8
            rw [e, hr] at hc8
            have := Option.some.inj hc8
            injection this with _ ht
            cases ht)
          have HW9 := Lib.hid hW9
          clear hW9 k9 kS hput HS
          go_wp2_with (first
            | (refine wpList_load_mid rfl 83 (.tmp 4) rfl PB 0 rfl (planL (.slice (some ⟨g, 0, none⟩) c.nO c.nO) (.slice la c.nL lc) (tickP c) (.slice aa c.nT ac) (tickP c + 1 + (c.nT : Int))) _ HR8.out Tryz.underlying83 rfl plan_info ?_)
            | (refine wpList_store_mid rfl 83 (.tmp 2) (.tmp 73) rfl (w.heap.size + 1) 0 ((planL (.slice (some ⟨g, 0, none⟩) c.nO c.nO) (.slice la c.nL lc) (tickP c) (.slice aa c.nT ac) (tickP c + 1 + (c.nT : Int)))).toArray rfl rfl HTH.out plan_info (by simp [Value.oneCell']) ?_; rw [← HW9.out]))
          refine bodyPost_ret (v := .tuple #[.agg ((planL (.slice (some ⟨g, 0, none⟩) c.nO c.nO) (.slice la c.nL lc) (tickP c) (.slice aa c.nT ac) (tickP c + 1 + (c.nT : Int)))).toArray, .bool true]) (res_plan W9 _ (w.heap.size + 1) _ _ rfl rfl (load_plan HG9.out rfl)) rfl ⟨g, la, lc, aa, ac, rfl, HE.out.1, HE.out.2.1, HE.out.2.2.1, HE.out.2.2.2⟩
end Go.Proofs.YthnmlklgbggmbaaGreat
