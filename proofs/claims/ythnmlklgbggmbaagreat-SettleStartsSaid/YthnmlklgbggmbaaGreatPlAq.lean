import Derived.Test.YthnmlklgbggmbaaGreatConfIq
import Derived.Test.YthnmlklgbggmbaaGreatPlDq
import Derived.Test.YthnmlklgbggmbaaGreatRowq
import Derived.Laws.AppendOwn
import Derived.Laws.AppendOwnNone
import Derived.WalkKit
import Derived.Handy
import Derived.Test.YthnmlklgbggmbaaGreatConfAq
namespace Go.Proofs.YthnmlklgbggmbaaGreat
open Go.ChangeShapes Go.WideShapes Go.ChangeAt Go.RowKit
set_option linter.unusedVariables false
set_option linter.unusedSimpArgs false
theorem each_ok {part : Int} {f : Nat → Int} {n : Nat} (h : (eachV part f n).1 = 0) : ∀ i, i < n → f i = 0 := by
  intro i hi
  unfold eachV at h
  cases hf : firstN f n with
  | none => exact firstN_none hf i hi
  | some k =>
    rw [hf] at h
    exact absurd h (firstN_some hf).2.1
structure GoodC (c : CfD) : Prop where
  t1 : 1 ≤ c.nT
  t : c.nT ≤ 16
  l : c.nL ≤ 31
  o : c.nO ≤ 16
  room : ∀ i, i < c.nL → pow2 (c.lr i) = true ∧ 1 ≤ c.lr i ∧ c.lr i ≤ 64
  right : ∀ i, i < c.nO → rightS (c.ob i) = true
theorem good_of {c : CfD} (h : badOf c = (0, 0, 0)) : GoodC c := by
  have h0 : (badOf c).1 = 0 := by rw [h]
  unfold badOf at h0
  by_cases h1 : (bad1 c).1 = 0
  · rw [if_pos h1] at h0
    by_cases h2 : (bad2 c).1 = 0
    · rw [if_pos h2] at h0
      by_cases h3 : (bad3 c).1 = 0
      · rw [if_pos h3] at h0
        have c1 := each_ok h1
        have c3 := each_ok h3
        have c4 := each_ok h0
        have hb : ∀ i, i < 4 → cntB c i = true := fun i hi => by
          have := c1 i hi
          unfold cntF at this
          split at this
          · assumption
          · cases this
        have b0 := hb 0 (by omega); have b1 := hb 1 (by omega); have b2 := hb 2 (by omega)
        simp [cntB] at b0 b1 b2
        refine ⟨by omega, by omega, by omega, by omega, fun i hi => ?_, fun i hi => ?_⟩
        · have := c3 i hi
          unfold levelF at this
          split at this
          · rename_i hr
            unfold roomB at hr
            simp only [Bool.and_eq_true, decide_eq_true_eq] at hr
            exact ⟨hr.1, pow2_pos hr.1, hr.2⟩
          · cases this
        · have := c4 i hi
          cases hr : rightS (c.ob i) with
          | true => rfl
          | false =>
            unfold objF at this
            rw [hr] at this
            split at this
            · cases this
            · split at this
              · cases this
              · rw [if_pos rfl] at this; cases this
      · rw [if_neg h3] at h0; exact absurd h0 h3
    · rw [if_neg h2] at h0; exact absurd h0 h2
  · rw [if_neg h1] at h0; exact absurd h0 h1
end Go.Proofs.YthnmlklgbggmbaaGreat
namespace Go.Proofs.YthnmlklgbggmbaaGreat
open Go.ChangeShapes Go.WideShapes Go.ChangeAt Go.RowKit
set_option linter.unusedVariables false
set_option linter.unusedSimpArgs false
section
variable {P : Program} {w : World}
theorem wp_app_any {o : Oper} {a : Act} {K : Act → World → Prop} {Q : Exit → Act → World → Prop} (s x : Operand) (t : TypeId)
    (ho : o.op = .call { callee := .builtin .append, args := #[s, x], argTypes := #[t, t] })
    (base : Nat) (e : TypeId) (i : TypeInfo) (z : Value) (size bytes : Nat) (ht : P.underlying t = some (.slice e)) (hi : P.info? e = some i) (hz : i.zero = some z)
    (hsize : i.size = size) (hby : i.bytes = bytes) (hzs : z.cells.size = size) (hsz : 0 < size)
    (v : Value) (n : Nat) (xs : List Value) (hs : a.eval s = v) (hown : w.ownsRow base e size v n xs)
    (A : Option Addr) (m c : Nat) (news : List Value) (hx : a.eval x = .slice A m c) (hA : A = none → m = 0 ∧ c = 0) (hl : news.length = m * size) (hnews : ∀ ad, A = some ad → ∀ j u, news[j]? = some u → w.cell? (ad.add j) = some u) (h1 : ∀ u ∈ news, u.oneCell' = true)
    (h63 : n + m ≤ maxLen) (hbytes : (n + m) * bytes ≤ 140737488355328) (hbase : base ≤ w.heap.size)
    (h : ∀ v' w', w'.ownsRow base e size v' (n + m) (xs ++ news) → w.grownBy w' v.ownBlock → K (a.put o.dst v') w') : o.wp P a w K Q := by
  cases A with
  | some ad => exact wp_append_own w s x t ho base e i z size bytes ht hi hz hsize hby hzs hsz v n xs hs hown ad m c news hx hl (hnews ad rfl) h1 h63 hbytes hbase fun v' w' h2 h3 _ => h v' w' h2 h3
  | none =>
    obtain ⟨rfl, rfl⟩ := hA rfl
    have hn : news = [] := List.eq_nil_of_length_eq_zero (by rw [hl]; simp)
    subst hn
    have hrun := run_append_owned_none (P := P) (w := w) base t o.type e i size ht hi v n xs hown
    unfold Oper.wp
    simp [execOp, ho, resolve, invoke, builtin, hs, hx, hrun, Result.andThen]
    exact h v w (by simpa using hown) ⟨rfl, rfl, rfl, Nat.le_refl _, fun _ _ _ => rfl⟩
theorem step_app_any {ops : Array Oper} {o : Oper} {a : Act} {K : Act → World → Prop} {Q : Exit → Act → World → Prop} {E : Prop} (hgd : o.guard = none) (s x : Operand) (t : TypeId)
    (ho : o.op = .call { callee := .builtin .append, args := #[s, x], argTypes := #[t, t] })
    (base : Nat) (e : TypeId) (i : TypeInfo) (z : Value) (size bytes : Nat) (ht : P.underlying t = some (.slice e)) (hi : P.info? e = some i) (hz : i.zero = some z)
    (hsize : i.size = size) (hby : i.bytes = bytes) (hzs : z.cells.size = size) (hsz : 0 < size)
    (v : Value) (n : Nat) (xs : List Value) (hs : a.eval s = v) (hown : w.ownsRow base e size v n xs)
    (A : Option Addr) (m c : Nat) (news : List Value) (hx : a.eval x = .slice A m c) (hA : A = none → m = 0 ∧ c = 0) (hl : news.length = m * size) (hnews : ∀ ad, A = some ad → ∀ j u, news[j]? = some u → w.cell? (ad.add j) = some u) (h1 : ∀ u ∈ news, u.oneCell' = true)
    (h63 : n + m ≤ maxLen) (hbytes : (n + m) * bytes ≤ 140737488355328) (hbase : base ≤ w.heap.size)
    (h : ∀ v' w', w'.ownsRow base e size v' (n + m) (xs ++ news) → w.grownBy w' v.ownBlock → K (a.put o.dst v') w') :
    if Region.wanted o (yielded ops a.tmps) = true then Oper.wp P o a w K Q else E := by
  have hw : Region.wanted o (yielded ops a.tmps) = true := by simp [Region.wanted, hgd]
  rw [if_pos hw]
  exact wp_app_any s x t ho base e i z size bytes ht hi hz hsize hby hzs hsz v n xs hs hown A m c news hx hA hl hnews h1 h63 hbytes hbase h
end
theorem own_apartC {w : World} {base : Nat} {e t : TypeId} {size n g : Nat} {v : Value} {xs : List Value} {cs : Array Value} (h : w.ownsRow base e size v n xs) (hg : w.heap[g]? = some (.cells cs t (0, 0))) (hne : e ≠ t) : v.ownBlock ≠ some g := by
  rcases h.2 with ⟨rfl, _⟩ | ⟨g', cap, cur, rfl, _, hh, _⟩
  · simp [Value.ownBlock]
  · intro he
    have e1 : g' = g := by simpa [Value.ownBlock] using he
    subst e1
    rw [hg] at hh
    injection hh with hh
    injection hh with _ ht
    exact hne ht.symm
theorem own_slice {w : World} {base : Nat} {e : TypeId} {size n : Nat} {v : Value} {xs : List Value} (h : w.ownsRow base e size v n xs) : ∃ a c, v = .slice a n c := by
  rcases h.2 with ⟨rfl, rfl⟩ | ⟨g', cap, cur, rfl, _⟩
  · exact ⟨_, _, rfl⟩
  · exact ⟨_, _, rfl⟩
end Go.Proofs.YthnmlklgbggmbaaGreat
namespace Go.Proofs.YthnmlklgbggmbaaGreat
open Go.ChangeShapes Go.WideShapes Go.ChangeAt Go.RowKit
set_option linter.unusedVariables false
set_option linter.unusedSimpArgs false
def lnP (base : Int) (lr : Nat → Int) : Nat → Int
  | 0 => base
  | i + 1 => lnP base lr i + (2 + lr i) + 1
@[reducible] def lineC (base : Int) (lr : Nat → Int) (i : Nat) : List Value := [.int .i64 1, .int .i64 (lnP base lr i), .int .i64 (lr i), .int .i64 1, .int .i64 0, .int .i64 (lnP base lr i + (2 + lr i))]
def linesF (base : Int) (lr : Nat → Int) (n : Nat) : List Value := (List.range n).flatMap (lineC base lr)
def asksF (t : Int) (n : Nat) : List Value := (List.range n).map fun (i : Nat) => Value.int .i64 (t + (i : Int))
theorem lines_next (base : Int) (lr : Nat → Int) (n : Nat) : linesF base lr (n + 1) = linesF base lr n ++ lineC base lr n := by unfold linesF; rw [List.range_succ, List.flatMap_append]; simp
theorem asks_next (t : Int) (n : Nat) : asksF t (n + 1) = asksF t n ++ [.int .i64 (t + (n : Int))] := by unfold asksF; rw [List.range_succ, List.map_append]; rfl
theorem ln_bound {base : Int} {lr : Nat → Int} {n : Nat} (hr : ∀ i, i < n → 1 ≤ lr i ∧ lr i ≤ 64) : ∀ k, k ≤ n → base ≤ lnP base lr k ∧ lnP base lr k ≤ base + 67 * (k : Int)
  | 0, _ => by simp [lnP]
  | k + 1, h => by
    have h1 := ln_bound (base := base) hr k (by omega)
    have h2 := hr k (by omega)
    have e : lnP base lr (k + 1) = lnP base lr k + (2 + lr k) + 1 := rfl
    rw [e]
    omega
def lnPl (at_ r : Int) : Nat → Int := fun j => match j with | 0 => 1 | 1 => at_ | 2 => r | 3 => 1 | _ => 0
theorem lnPl_right (a r : Int) (h : pow2 r = true) (hr : r ≤ 64) : rightS (oOf (lnPl a r)) = true := by
  unfold rightS oOf lnPl
  simp [h, hr]
theorem lnPl_size (a r : Int) (h : pow2 r = true) (hr : r ≤ 64) : sizeP (oOf (lnPl a r)) = 2 + r := by
  unfold sizeP
  rw [if_pos (lnPl_right a r h hr)]
  show aheadP 1 + (if (1 : Int) = 1 then r else _) * 1 = _
  rw [if_pos rfl, Int.mul_one]
  rfl
theorem take_any (t n : Int) (T : Nat) (w : World) (h : w.heap[T]? = some (.cells #[.int .i64 t] 3 (0, 0))) (hb : 0 ≤ t ∧ t ≤ 1000000 ∧ 0 ≤ n ∧ n ≤ 1000000) :
    Calls Tryz.prog 70 #[.int .i64 n, .pointer (some ⟨T, 0, none⟩)] w fun e w' => e = .returned (.int .i64 t) ∧ w'.heap[T]? = some (.cells #[.int .i64 (t + n)] 3 (0, 0)) ∧ Keeps (fun j => j = T) w w' := by
  have H := Lib.hid h
  have c0 : w.cell? ⟨T, 0, none⟩ = some (.int .i64 t) := cell_of h 0
  have f0 := free_of h 0
  have e1 : wrap64 (t + n) = t + n := IntWalk.wrap64_in _ ⟨by omega, by omega⟩
  clear h hb
  go_enter Tryz.func70, Tryz.ntmps70
  go_wp2_with fail
  go_ret
  refine ⟨rfl, ?_, ?_⟩
  · have := heap_set H.out 0 (.int .i64 (t + n))
    simpa [e1] using this
  · exact (Keeps.refl (fun j => j = T) w).setCell (p := ⟨T, 0, none⟩) (.inl rfl) _
structure PoB (w W : World) (CB PB T : Nat) (cc cs : Array Value) (t : Int) : Prop where
  keeps : Keeps (fun _ => False) w W
  cfg : W.heap[CB]? = some (.cells cc 26 (0, 0))
  box : W.heap[PB]? = some (.cells cs 83 (0, 0))
  tot : W.heap[T]? = some (.cells #[.int .i64 t] 3 (0, 0))
  ne : CB ≠ PB ∧ CB ≠ T ∧ PB ≠ T
  res : ∃ rs : Array Value, W.heap[CB + 1]? = some (.cells rs 83 (0, 0)) ∧ rs.size = 5
  ne2 : CB + 1 ≠ PB ∧ CB + 1 ≠ T
  ge : w.heap.size ≤ CB ∧ w.heap.size ≤ PB ∧ w.heap.size ≤ T
theorem PoB.none {w W W' : World} {CB PB T : Nat} {cc cs : Array Value} {t : Int} (h : PoB w W CB PB T cc cs t) (k : Keeps (fun _ => False) W W') : PoB w W' CB PB T cc cs t :=
  ⟨h.keeps.trans k, k.at h.cfg (fun h => h), k.at h.box (fun h => h), k.at h.tot (fun h => h), h.ne, h.res.imp fun rs hr => ⟨k.at hr.1 (fun h => h), hr.2⟩, h.ne2, h.ge⟩
theorem PoB.took {w W W' : World} {CB PB T : Nat} {cc cs : Array Value} {t t' : Int} (h : PoB w W CB PB T cc cs t) (k : Keeps (fun j => j = T) W W') (ht : W'.heap[T]? = some (.cells #[.int .i64 t'] 3 (0, 0))) : PoB w W' CB PB T cc cs t' :=
  ⟨h.keeps.far k (fun j e => by rw [e]; exact h.ge.2.2), k.at h.cfg h.ne.2.1, k.at h.box h.ne.2.2, ht, h.ne, h.res.imp fun rs hr => ⟨k.at hr.1 h.ne2.2, hr.2⟩, h.ne2, h.ge⟩
theorem PoB.put {w W : World} {CB PB T : Nat} {cc cs : Array Value} {t : Int} (h : PoB w W CB PB T cc cs t) (i : Nat) (v : Value) : PoB w (W.setCell ⟨PB, i, Option.none⟩ v) CB PB T cc (cs.setIfInBounds i v) t :=
  have k : Keeps (fun j => j = PB) W (W.setCell ⟨PB, i, Option.none⟩ v) := (Keeps.refl (fun j => j = PB) W).setCell (p := ⟨PB, i, Option.none⟩) (.inl rfl) _
  ⟨h.keeps.far k (fun j e => by rw [e]; exact h.ge.2.1), k.at h.cfg h.ne.1, heap_set h.box i v, k.at h.tot (fun e => h.ne.2.2 e.symm), h.ne, h.res.imp fun rs hr => ⟨k.at hr.1 h.ne2.1, hr.2⟩, h.ne2, h.ge⟩
end Go.Proofs.YthnmlklgbggmbaaGreat
namespace Go.Proofs.YthnmlklgbggmbaaGreat
open Go.ChangeShapes Go.WideShapes Go.ChangeAt Go.RowKit
set_option linter.unusedVariables false
set_option linter.unusedSimpArgs false
theorem bad_zero {c : CfD} (h : (badOf c).1 = 0) : badOf c = (0, 0, 0) := by
  unfold badOf at h ⊢
  by_cases h1 : (bad1 c).1 = 0
  · rw [if_pos h1] at h ⊢
    by_cases h2 : (bad2 c).1 = 0
    · rw [if_pos h2] at h ⊢
      by_cases h3 : (bad3 c).1 = 0
      · rw [if_pos h3] at h ⊢
        exact eachV_zero h
      · rw [if_neg h3] at h; exact absurd h h3
    · rw [if_neg h2] at h; exact absurd h h2
  · rw [if_neg h1] at h; exact absurd h h1
theorem sets_all {w : World} {b : Nat} {cs : Array Value} {T : TypeId} {fr : Nat × Nat} (vs : List Value) (h : w.heap[b]? = some (.cells cs T fr)) (hs : cs.size = vs.length) : (w.setCells b 0 vs).heap[b]? = some (.cells vs.toArray T fr) := by
  rw [heap_sets vs 0 w b cs T fr h]
  congr 2
  apply Array.ext_getElem?
  intro i
  by_cases hi : i < vs.length
  · have := setsA_in vs cs 0 i vs[i] (by omega) (List.getElem?_eq_getElem hi)
    rw [Nat.zero_add] at this
    rw [this]
    simp [hi]
  · rw [Array.getElem?_eq_none (by rw [setsA_size]; omega), Array.getElem?_eq_none (by simp; omega)]
theorem plan_info : (Tryz.prog.info? 83).map (·.size) = some 5 := by kernel_rfl
theorem res_plan (w : World) (T : Array Value) (b : Nat) (cs : List Value) (r : Bool) (h2 : T.getD 2 undef = .pointer (some ⟨b, 0, none⟩)) (h3 : T.getD 3 undef = .bool r) (h : (loadVar 83 ⟨b, 0, none⟩).run Tryz.prog w = .ok (.agg cs.toArray) w) :
    (results Tryz.f32 T).run Tryz.prog w = .ok (.tuple #[.agg cs.toArray, .bool r]) w := by
  simp only [Array.getD_eq_getD_getElem?] at h2 h3
  simp [results, Tryz.results32, h2, h3, asAddr, h, Sem.run_bind, Sem.run_pure]
theorem load_plan {w : World} {b : Nat} {vs : List Value} (h : w.heap[b]? = some (.cells vs.toArray 83 (0, 0))) (hl : vs.length = 5) : (loadVar 83 ⟨b, 0, none⟩).run Tryz.prog w = .ok (.agg vs.toArray) w :=
  run_loadVar_mid w b 0 83 vs _ (fun j v hv => by
    rw [cell_of h (0 + j), show 0 + j = j by omega]
    simpa using hv) Tryz.underlying83 rfl (by rw [hl]; exact plan_info)
@[reducible] def planL (v0 v1 : Value) (t : Int) (v3 : Value) (n : Int) : List Value := [v0, v1, .int .i64 t, v3, .int .i64 n]
end Go.Proofs.YthnmlklgbggmbaaGreat
namespace Go.Proofs.YthnmlklgbggmbaaGreat
open Go.ChangeShapes Go.WideShapes Go.ChangeAt Go.RowKit
set_option linter.unusedVariables false
set_option linter.unusedSimpArgs false
set_option maxHeartbeats 4000000 in
theorem psize_any (p : Nat → Int) (w : World) (hb : -9223372036854775808 ≤ p 2 ∧ p 2 ≤ 9223372036854775807) (h : rightS (oOf p) = true) : Calls Tryz.prog 72 #[.agg (plC p)] w fun e w' => e = .returned (.int .i64 (sizeP (oOf p))) ∧ Keeps (fun _ => False) w w' := by
  have HB := Lib.hid ((Has.start w).alloc (.cells (plC p) 145))
  have HS := Lib.hid (fun W => size_any4 (oOf p) (fun _ => 0) W hb h)
  go_enter Tryz.func72, Tryz.ntmps72
  go_wp2_with fail
  refine (HS.out _).mono ?_
  rintro e w1 ⟨rfl, k1⟩
  replace HB := Lib.hid (HB.out.none k1)
  clear k1
  go_wp2_with fail
  go_ret
  exact ⟨rfl, HB.out.keeps⟩
end Go.Proofs.YthnmlklgbggmbaaGreat
