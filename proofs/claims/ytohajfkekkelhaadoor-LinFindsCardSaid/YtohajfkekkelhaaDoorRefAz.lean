import Derived.Test.YtohajfkekkelhaaDoorItem
import Derived.Laws.AppendOwn
import Derived.Laws.AppendOwnNone
import Derived.WalkKit
import Derived.Handy
import Derived.Test.YtohajfkekkelhaaDoorRefTz
import Derived.Test.YtohajfkekkelhaaDoorSpecC
import Derived.Test.YtohajfkekkelhaaDoorRowV
import Derived.Deep.MidRow
import Derived.Deep.AppendLies
import Derived.Deep.QuietTactic
namespace Go.Proofs.YtohajfkekkelhaaDoor
open Go.ChangeShapes Go.WideShapes Go.ChangeAt Go.RowKit
set_option linter.unusedVariables false
set_option linter.unusedSimpArgs false
section
variable {P : Program} {w : World}
/-- append to a row that is the call's own, of whatever row: of none, of an empty one, of some. -/
theorem wp_app_any {o : Oper} {a : Act} {K : Act → World → Prop} {Q : Exit → Act → World → Prop} (s x : Operand) (t : TypeId)
    (ho : o.op = .call { callee := .builtin .append, args := #[s, x], argTypes := #[t, t] })
    (base : Nat) (e : TypeId) (i : TypeInfo) (z : Value) (size bytes : Nat) (ht : P.underlying t = some (.slice e)) (hi : P.info? e = some i) (hz : i.zero = some z)
    (hsize : i.size = size) (hby : i.bytes = bytes) (hzs : z.cells.size = size) (hsz : 0 < size)
    (v : Value) (n : Nat) (xs : List Value) (hs : a.eval s = v) (hown : w.ownsRow base e size v n xs)
    (A : Option Addr) (m c : Nat) (news : List Value) (hx : a.eval x = .slice A m c) (hA : A = none → m = 0 ∧ c = 0) (hl : news.length = m * size) (hnews : ∀ ad, A = some ad → ∀ j u, news[j]? = some u → w.cell? (ad.add j) = some u) (h1 : ∀ u ∈ news, u.oneCell' = true)
    (h63 : n + m ≤ maxLen) (hbytes : (n + m) * bytes ≤ 140737488355328) (hbase : base ≤ w.heap.size)
    (h : ∀ v' w', w'.ownsRow base e size v' (n + m) (xs ++ news) → w.grownBy w' v.ownBlock → K (a.put o.dst v') w') : o.wp P a w K Q := by
  cases A with
  | some ad => exact wp_append_own w s x t ho base e i z size bytes ht hi hz hsize hby hzs hsz v n xs hs hown ad m c news hx hl (hnews ad rfl) h1 h63 hbytes hbase fun v' w' h2 h3 _ => h v' w' h2 h3
  | none =>
    obtain ⟨rfl, rfl⟩ := hA rfl
    have hn : news = [] := List.eq_nil_of_length_eq_zero (by rw [hl]; simp)
    subst hn
    have hrun := run_append_owned_none (P := P) (w := w) base t o.type e i size ht hi v n xs hown
    unfold Oper.wp
    simp [execOp, ho, resolve, invoke, builtin, hs, hx, hrun, Result.andThen]
    exact h v w (by simpa using hown) ⟨rfl, rfl, rfl, Nat.le_refl _, fun _ _ _ => rfl⟩
theorem wpList_app_any {ops : Array Oper} {rest : List Oper} {o : Oper} {a : Act} {Q : Exit → Act → World → Prop} (hgd : o.guard = none) (s x : Operand) (t : TypeId)
    (ho : o.op = .call { callee := .builtin .append, args := #[s, x], argTypes := #[t, t] })
    (base : Nat) (e : TypeId) (i : TypeInfo) (z : Value) (size bytes : Nat) (ht : P.underlying t = some (.slice e)) (hi : P.info? e = some i) (hz : i.zero = some z)
    (hsize : i.size = size) (hby : i.bytes = bytes) (hzs : z.cells.size = size) (hsz : 0 < size)
    (v : Value) (n : Nat) (xs : List Value) (hs : a.eval s = v) (hown : w.ownsRow base e size v n xs)
    (A : Option Addr) (m c : Nat) (news : List Value) (hx : a.eval x = .slice A m c) (hA : A = none → m = 0 ∧ c = 0) (hl : news.length = m * size) (hnews : ∀ ad, A = some ad → ∀ j u, news[j]? = some u → w.cell? (ad.add j) = some u) (h1 : ∀ u ∈ news, u.oneCell' = true)
    (h63 : n + m ≤ maxLen) (hbytes : (n + m) * bytes ≤ 140737488355328) (hbase : base ≤ w.heap.size)
    (h : ∀ v' w', w'.ownsRow base e size v' (n + m) (xs ++ news) → w.grownBy w' v.ownBlock → wpList P ops Q rest (a.put o.dst v') w') : wpList P ops Q (o :: rest) a w :=
  wpList_plain hgd fun _ hK => wp_app_any s x t ho base e i z size bytes ht hi hz hsize hby hzs hsz v n xs hs hown A m c news hx hA hl hnews h1 h63 hbytes hbase fun v' w' h2 h3 => hK _ _ (h v' w' h2 h3)
theorem step_app_any {ops : Array Oper} {o : Oper} {a : Act} {K : Act → World → Prop} {Q : Exit → Act → World → Prop} {E : Prop} (hgd : o.guard = none) (s x : Operand) (t : TypeId)
    (ho : o.op = .call { callee := .builtin .append, args := #[s, x], argTypes := #[t, t] })
    (base : Nat) (e : TypeId) (i : TypeInfo) (z : Value) (size bytes : Nat) (ht : P.underlying t = some (.slice e)) (hi : P.info? e = some i) (hz : i.zero = some z)
    (hsize : i.size = size) (hby : i.bytes = bytes) (hzs : z.cells.size = size) (hsz : 0 < size)
    (v : Value) (n : Nat) (xs : List Value) (hs : a.eval s = v) (hown : w.ownsRow base e size v n xs)
    (A : Option Addr) (m c : Nat) (news : List Value) (hx : a.eval x = .slice A m c) (hA : A = none → m = 0 ∧ c = 0) (hl : news.length = m * size) (hnews : ∀ ad, A = some ad → ∀ j u, news[j]? = some u → w.cell? (ad.add j) = some u) (h1 : ∀ u ∈ news, u.oneCell' = true)
    (h63 : n + m ≤ maxLen) (hbytes : (n + m) * bytes ≤ 140737488355328) (hbase : base ≤ w.heap.size)
    (h : ∀ v' w', w'.ownsRow base e size v' (n + m) (xs ++ news) → w.grownBy w' v.ownBlock → K (a.put o.dst v') w') :
    if Region.wanted o (yielded ops a.tmps) = true then Oper.wp P o a w K Q else E := by
  have hw : Region.wanted o (yielded ops a.tmps) = true := by simp [Region.wanted, hgd]
  rw [if_pos hw]
  exact wp_app_any s x t ho base e i z size bytes ht hi hz hsize hby hzs hsz v n xs hs hown A m c news hx hA hl hnews h1 h63 hbytes hbase h
end
theorem own_apart {w : World} {base : Nat} {e t : TypeId} {size n g : Nat} {v : Value} {xs : List Value} {cs : Array Value} (h : w.ownsRow base e size v n xs) (hg : w.heap[g]? = some (.cells cs t (0, 0))) (hne : e ≠ t) : v.ownBlock ≠ some g := by
  rcases h.2 with ⟨rfl, _⟩ | ⟨g', cap, cur, rfl, _, hh, _⟩
  · simp [Value.ownBlock]
  · intro he
    have e1 : g' = g := by simpa [Value.ownBlock] using he
    subst e1
    rw [hg] at hh
    injection hh with hh
    injection hh with _ ht
    exact hne ht.symm
theorem own_differ {w : World} {b1 b2 : Nat} {e1 e2 : TypeId} {s1 s2 n1 n2 : Nat} {v1 v2 : Value} {xs1 xs2 : List Value} (h1 : w.ownsRow b1 e1 s1 v1 n1 xs1) (h2 : w.ownsRow b2 e2 s2 v2 n2 xs2) (hne : e1 ≠ e2) : v1.ownBlock = none ∨ v1.ownBlock ≠ v2.ownBlock := by
  rcases h2.2 with ⟨rfl, _⟩ | ⟨g', cap, cur, rfl, _, hh, _⟩
  · cases hv : v1.ownBlock with
    | none => exact .inl rfl
    | some g => exact .inr (by simp [Value.ownBlock])
  · exact .inr (own_apart h1 hh hne)
theorem own_slice {w : World} {base : Nat} {e : TypeId} {size n : Nat} {v : Value} {xs : List Value} (h : w.ownsRow base e size v n xs) : ∃ a c, v = .slice a n c := by
  rcases h.2 with ⟨rfl, rfl⟩ | ⟨g', cap, cur, rfl, _⟩
  · exact ⟨_, _, rfl⟩
  · exact ⟨_, _, rfl⟩
end Go.Proofs.YtohajfkekkelhaaDoor
namespace Go.Proofs.YtohajfkekkelhaaDoor
open Go.ChangeShapes Go.WideShapes Go.ChangeAt Go.RowKit
set_option linter.unusedVariables false
set_option linter.unusedSimpArgs false
/-- The first k words of a value, as far as a width goes. -/
def keepV (m k j : Nat) (v : Int) : Int := if j < k ∧ j < m then v else 0
def keepA (m k : Nat) (v : W4) : Array Value := #[.int .u32 (keepV m k 0 v.a), .int .u32 (keepV m k 1 v.b), .int .u32 (keepV m k 2 v.c), .int .u32 (keepV m k 3 v.d)]
theorem keepA_zero (m : Nat) (v : W4) : keepA m 0 v = #[.int .u32 0, .int .u32 0, .int .u32 0, .int .u32 0] := by
  have h : ∀ j x, keepV m 0 j x = 0 := fun j x => if_neg (by omega)
  unfold keepA
  rw [h, h, h, h]
theorem keepV_same (m k j : Nat) (x : Int) (h : j ≠ k) : keepV m (k + 1) j x = keepV m k j x := by
  unfold keepV
  by_cases q : j < k ∧ j < m
  · rw [if_pos q, if_pos (by omega)]
  · rw [if_neg q, if_neg (by omega)]
theorem keepV_new (m k : Nat) (x : Int) (h : k < m) : keepV m (k + 1) k x = x := if_pos (by omega)
def wordV (v : W4) (k : Nat) : Int := if k = 0 then v.a else if k = 1 then v.b else if k = 2 then v.c else v.d
theorem keepA_step (m k : Nat) (v : W4) (hk : k < 4) (hm : k < m) : keepA m (k + 1) v = (keepA m k v).setIfInBounds k (.int .u32 (wordV v k)) := by
  rcases (by omega : k = 0 ∨ k = 1 ∨ k = 2 ∨ k = 3) with rfl | rfl | rfl | rfl
  · unfold keepA; rw [keepV_new m 0 v.a hm, keepV_same m 0 1 v.b (by omega), keepV_same m 0 2 v.c (by omega), keepV_same m 0 3 v.d (by omega)]; rfl
  · unfold keepA; rw [keepV_new m 1 v.b hm, keepV_same m 1 0 v.a (by omega), keepV_same m 1 2 v.c (by omega), keepV_same m 1 3 v.d (by omega)]; rfl
  · unfold keepA; rw [keepV_new m 2 v.c hm, keepV_same m 2 0 v.a (by omega), keepV_same m 2 1 v.b (by omega), keepV_same m 2 3 v.d (by omega)]; rfl
  · unfold keepA; rw [keepV_new m 3 v.d hm, keepV_same m 3 0 v.a (by omega), keepV_same m 3 1 v.b (by omega), keepV_same m 3 2 v.c (by omega)]; rfl
theorem keepA_end (m k : Nat) (v : W4) (h : ¬ (k < m ∧ k < 4)) (hkm : k ≤ m) : keepA m k v = (v.clip m).cells := by
  have e : ∀ j x, j < 4 → keepV m k j x = clipP m j x := fun j x hj => by
    unfold keepV clipP
    by_cases q : m ≤ j
    · rw [if_pos q, if_neg (by omega)]
    · rw [if_neg q, if_pos (by omega)]
  unfold keepA
  rw [e 0 v.a (by omega), e 1 v.b (by omega), e 2 v.c (by omega), e 3 v.d (by omega)]
  rfl
set_option maxRecDepth 20000 in
set_option maxHeartbeats 4000000 in
theorem rclip_any (w : World) (v : W4) (m : Nat) (hm : m ≤ 1000) : Calls Tryd.prog 55 #[.agg v.cells, .int .i64 (m : Int)] w fun e w' => e = .returned (.agg (v.clip m).cells) ∧ Keeps (fun _ => False) w w' := by
  have HA := Lib.hid (show Has w (((w.alloc (.cells v.cells 41)).alloc (.cells W4.zero.cells 41)).alloc (.cells W4.zero.cells 41)) [(w.heap.size + 2, .cells W4.zero.cells 41 (0, 0)), (w.heap.size + 1, .cells W4.zero.cells 41 (0, 0)), (w.heap.size, .cells v.cells 41 (0, 0))] from ((((Has.start w).alloc _).alloc _).alloc _).eq (by simp))
  have HE := Lib.hid (fun k h h2 => keepA_end m k v h h2)
  have HS := Lib.hid (fun k h h2 => keepA_step m k v h h2)
  have HW := Lib.hid (fun (k : Nat) (h : k < 4) => show v.cells[k]? = some (.int .u32 (wordV v k)) from by
    rcases (by omega : k = 0 ∨ k = 1 ∨ k = 2 ∨ k = 3) with rfl | rfl | rfl | rfl <;> rfl)
  go_enter Tryd.func55, Tryd.ntmps55
  go_wp2_with fail
  go_loopw [6] (fun i wr => ∃ k : Nat, i = .int .i64 (k : Int) ∧ k ≤ m ∧ k ≤ 4 ∧ wr.heap[w.heap.size]? = some (.cells v.cells 41 (0, 0)) ∧ wr.heap[w.heap.size + 1]? = some (.cells W4.zero.cells 41 (0, 0)) ∧ wr.heap[w.heap.size + 2]? = some (.cells (keepA m k v) 41 (0, 0)) ∧ Keeps (fun _ => False) w wr) (fun i _ => 4 - (intOf i).toNat)
  case atStart => exact ⟨0, rfl, by omega, by omega, HA.out.at 2 rfl, HA.out.at 1 rfl, by rw [keepA_zero]; exact HA.out.at 0 rfl, HA.out.keeps⟩
  case round =>
    clear HA
    obtain ⟨k, rfl, hk, hk4, h0, h1, h2, hK⟩ := hrel
    have HB := Lib.hid (And.intro h0 (And.intro h1 (And.intro h2 hK)))
    clear h0 h1 h2 hK
    by_cases c1 : k < m
    · have d1 : decide ((k : Int) < (m : Int)) = true := decide_eq_true (by omega)
      have d1' : decide (k < m) = true := decide_eq_true c1
      by_cases c2 : k < 4
      · have d2 : decide ((k : Int) < 4) = true := decide_eq_true (by omega)
        have d2' : decide (k < 4) = true := decide_eq_true c2
        have cv : wr.cell? ⟨w.heap.size, k, none⟩ = some (.int .u32 (wordV v k)) := (cell_of HB.out.1 k).trans (HW.out k c2)
        obtain ⟨u, cu⟩ : ∃ u, wr.cell? ⟨w.heap.size + 2, k, none⟩ = some u := ⟨_, (cell_of HB.out.2.2.1 k).trans (Array.getElem?_eq_getElem (by unfold keepA; simpa using c2))⟩
        have fu := free_of HB.out.2.2.1 k
        have HN := Lib.hid (show (wr.setCell ⟨w.heap.size + 2, k, none⟩ (.int .u32 (wordV v k))).heap[w.heap.size]? = some (.cells v.cells 41 (0, 0)) ∧ (wr.setCell ⟨w.heap.size + 2, k, none⟩ (.int .u32 (wordV v k))).heap[w.heap.size + 1]? = some (.cells W4.zero.cells 41 (0, 0)) ∧ (wr.setCell ⟨w.heap.size + 2, k, none⟩ (.int .u32 (wordV v k))).heap[w.heap.size + 2]? = some (.cells (keepA m (k + 1) v) 41 (0, 0)) ∧ Keeps (fun _ => False) w (wr.setCell ⟨w.heap.size + 2, k, none⟩ (.int .u32 (wordV v k))) from
          ⟨heap_other HB.out.1 (by show w.heap.size ≠ w.heap.size + 2; omega) _, heap_other HB.out.2.1 (by show w.heap.size + 1 ≠ w.heap.size + 2; omega) _, by rw [HS.out k c2 c1]; exact heap_set HB.out.2.2.1 k _, HB.out.2.2.2.setCell (p := ⟨w.heap.size + 2, k, none⟩) (.inr (by show w.heap.size ≤ w.heap.size + 2; omega)) _⟩)
        generalize wordV v k = x at *
        go_wp2_with fail
        go_roundw
        case rel => exact ⟨k + 1, by go_num, by omega, by omega, HN.out.1, HN.out.2.1, HN.out.2.2.1, HN.out.2.2.2⟩
        case measure => simp [intOf]; omega
      · have d2 : decide ((k : Int) < 4) = false := decide_eq_false (by omega)
        have d2' : decide (k < 4) = false := decide_eq_false c2
        have he := HB.out.2.2.1
        rw [HE.out k (by omega) hk] at he
        clear HE HS HW
        have y0 : wr.cell? ⟨w.heap.size + 2, 0, none⟩ = some (.int .u32 (v.clip m).a) := cell_of he 0
        have z0 : wr.cell? ⟨w.heap.size + 1, 0, none⟩ = some (.int .u32 0) := cell_of HB.out.2.1 0
        have f0 := free_of HB.out.2.1 0
        have y1 : wr.cell? ⟨w.heap.size + 2, 1, none⟩ = some (.int .u32 (v.clip m).b) := cell_of he 1
        have z1 : wr.cell? ⟨w.heap.size + 1, 1, none⟩ = some (.int .u32 0) := cell_of HB.out.2.1 1
        have f1 := free_of HB.out.2.1 1
        have y2 : wr.cell? ⟨w.heap.size + 2, 2, none⟩ = some (.int .u32 (v.clip m).c) := cell_of he 2
        have z2 : wr.cell? ⟨w.heap.size + 1, 2, none⟩ = some (.int .u32 0) := cell_of HB.out.2.1 2
        have f2 := free_of HB.out.2.1 2
        have y3 : wr.cell? ⟨w.heap.size + 2, 3, none⟩ = some (.int .u32 (v.clip m).d) := cell_of he 3
        have z3 : wr.cell? ⟨w.heap.size + 1, 3, none⟩ = some (.int .u32 0) := cell_of HB.out.2.1 3
        have f3 := free_of HB.out.2.1 3
        clear he
        go_wp2_with fail
        refine bodyPost_ret (v := .agg (v.clip m).cells) (by simp [results, Tryd.results55, go_sem, z0, z1, z2, z3]) rfl ⟨rfl, ?_⟩
        exact (((HB.out.2.2.2.setCell (p := ⟨w.heap.size + 1, 0, none⟩) (.inr (by show w.heap.size ≤ w.heap.size + 1; omega)) _).setCell (p := ⟨w.heap.size + 1, 1, none⟩) (.inr (by show w.heap.size ≤ w.heap.size + 1; omega)) _).setCell (p := ⟨w.heap.size + 1, 2, none⟩) (.inr (by show w.heap.size ≤ w.heap.size + 1; omega)) _).setCell (p := ⟨w.heap.size + 1, 3, none⟩) (.inr (by show w.heap.size ≤ w.heap.size + 1; omega)) _
    · have d1 : decide ((k : Int) < (m : Int)) = false := decide_eq_false (by omega)
      have d1' : decide (k < m) = false := decide_eq_false c1
      have he := HB.out.2.2.1
      rw [HE.out k (by omega) hk] at he
      clear HE HS HW
      have y0 : wr.cell? ⟨w.heap.size + 2, 0, none⟩ = some (.int .u32 (v.clip m).a) := cell_of he 0
      have z0 : wr.cell? ⟨w.heap.size + 1, 0, none⟩ = some (.int .u32 0) := cell_of HB.out.2.1 0
      have f0 := free_of HB.out.2.1 0
      have y1 : wr.cell? ⟨w.heap.size + 2, 1, none⟩ = some (.int .u32 (v.clip m).b) := cell_of he 1
      have z1 : wr.cell? ⟨w.heap.size + 1, 1, none⟩ = some (.int .u32 0) := cell_of HB.out.2.1 1
      have f1 := free_of HB.out.2.1 1
      have y2 : wr.cell? ⟨w.heap.size + 2, 2, none⟩ = some (.int .u32 (v.clip m).c) := cell_of he 2
      have z2 : wr.cell? ⟨w.heap.size + 1, 2, none⟩ = some (.int .u32 0) := cell_of HB.out.2.1 2
      have f2 := free_of HB.out.2.1 2
      have y3 : wr.cell? ⟨w.heap.size + 2, 3, none⟩ = some (.int .u32 (v.clip m).d) := cell_of he 3
      have z3 : wr.cell? ⟨w.heap.size + 1, 3, none⟩ = some (.int .u32 0) := cell_of HB.out.2.1 3
      have f3 := free_of HB.out.2.1 3
      clear he
      go_wp2_with fail
      refine bodyPost_ret (v := .agg (v.clip m).cells) (by simp [results, Tryd.results55, go_sem, z0, z1, z2, z3]) rfl ⟨rfl, ?_⟩
      exact (((HB.out.2.2.2.setCell (p := ⟨w.heap.size + 1, 0, none⟩) (.inr (by show w.heap.size ≤ w.heap.size + 1; omega)) _).setCell (p := ⟨w.heap.size + 1, 1, none⟩) (.inr (by show w.heap.size ≤ w.heap.size + 1; omega)) _).setCell (p := ⟨w.heap.size + 1, 2, none⟩) (.inr (by show w.heap.size ≤ w.heap.size + 1; omega)) _).setCell (p := ⟨w.heap.size + 1, 3, none⟩) (.inr (by show w.heap.size ≤ w.heap.size + 1; omega)) _
theorem rplain_any (w : World) (k : Int) (hk : i64B k) : Calls Tryd.prog 56 #[.int .i64 k] w fun e w' => e = .returned (.int .i64 (plainP k)) ∧ w' = w := by
  have HP := Lib.hid (show plainP k = if k = 14 then 1 else if k = 15 then 2 else k from rfl)
  by_cases h1 : k = 14
  · rw [if_pos h1] at HP
    subst h1
    go_enter Tryd.func56, Tryd.ntmps56
    go_wp2_with fail
    go_ret
    exact ⟨by rw [HP.out]; rfl, rfl⟩
  have e1 : (k == 14) = false := by simpa using h1
  rw [if_neg h1] at HP
  by_cases h2 : k = 15
  · rw [if_pos h2] at HP
    subst h2
    go_enter Tryd.func56, Tryd.ntmps56
    go_wp2_with fail
    go_ret
    exact ⟨by rw [HP.out]; rfl, rfl⟩
  have e2 : (k == 15) = false := by simpa using h2
  rw [if_neg h2] at HP
  clear h1 h2
  go_enter Tryd.func56, Tryd.ntmps56
  go_wp2_with fail
  go_ret
  exact ⟨by rw [HP.out]; rfl, rfl⟩
theorem rholds_any (w : World) (k : Int) (hk : k = 4 ∨ k = 5) (x y : Nat) (hx : x < 4294967296) (hy : y < 4294967296) :
    Calls Tryd.prog 60 #[.int .i64 k, .int .u32 (x : Int), .int .u32 (y : Int)] w fun e w' => e = .returned (.bool (holdsP k x y)) ∧ Keeps (fun _ => False) w w' := by
  have HR := Lib.hid (fun w => rand06 x y w hx hy)
  have HE := Lib.hid (And.intro (nat_beq (x &&& y) 0) (nat_beq (x &&& y) y))
  rcases hk with rfl | rfl
  · go_enter Tryd.func60, Tryd.ntmps60
    go_wp2_with fail
    refine (HR.out _).mono ?_
    rintro e w1 ⟨rfl, k1⟩
    have HK := Lib.hid k1
    clear k1
    go_wp2_with fail
    go_ret
    exact ⟨ret_bool (by show (!(((x &&& y : Nat) : Int) == ((0 : Nat) : Int))) = _; rw [HE.out.1]; rfl), HK.out⟩
  · go_enter Tryd.func60, Tryd.ntmps60
    go_wp2_with fail
    refine (HR.out _).mono ?_
    rintro e w1 ⟨rfl, k1⟩
    have HK := Lib.hid k1
    clear k1
    go_wp2_with fail
    go_ret
    exact ⟨ret_bool HE.out.2, HK.out⟩
theorem rright_out (o oi : Nat → Int) (w : World) (hk : o 0 < 1 ∨ 4 < o 0) :
    Calls Tryd.prog 54 #[.agg (objC o oi)] w fun e w' => e = .returned (.bool (rightS o)) ∧ Keeps (fun _ => False) w w' := by
  have hv : rightS o = false := by
    unfold rightS
    rcases hk with h | h
    · rw [show decide (1 ≤ o 0) = false from decide_eq_false (by omega)]; rfl
    · rw [show decide (o 0 ≤ 4) = false from decide_eq_false (by omega), Bool.and_false]; rfl
  have HV := Lib.hid hv
  have HWI := Lib.hid (fun w => within_any (o 0) 1 4 w)
  have hw : (decide (1 ≤ o 0) && decide (o 0 ≤ 4)) = false := by
    rcases hk with h | h
    · rw [show decide (1 ≤ o 0) = false from decide_eq_false (by omega)]; rfl
    · rw [show decide (o 0 ≤ 4) = false from decide_eq_false (by omega), Bool.and_false]
  rw [hw] at HWI
  have HA := Lib.hid ((Has.start w).alloc (.cells (objC o oi) 49))
  clear hv hw hk
  go_enter Tryd.func54, Tryd.ntmps54
  go_wp2_with fail
  go_quiet (fail)
  go_wp2_with fail
  refine (HWI.out _).mono ?_
  rintro e1 w1 ⟨rfl, rfl⟩
  go_wp2_with fail
  go_ret
  exact ⟨by rw [HV.out]; rfl, by first | exact HA.out.keeps.drew | exact HA.out.keeps | exact HA.out.keeps.drewN _⟩
theorem rright_all (o oi : Nat → Int) (w : World) (hb : i64B (o 1)) :
    Calls Tryd.prog 54 #[.agg (objC o oi)] w fun e w' => e = .returned (.bool (rightS o)) ∧ Keeps (fun _ => False) w w' := by
  by_cases h : 1 ≤ o 0 ∧ o 0 ≤ 4
  · exact rright_any o oi w hb h
  · exact rright_out o oi w (by omega)
end Go.Proofs.YtohajfkekkelhaaDoor
namespace Go.Proofs.YtohajfkekkelhaaDoor
open Go.ChangeShapes Go.WideShapes Go.ChangeAt Go.RowKit
set_option linter.unusedVariables false
set_option linter.unusedSimpArgs false
theorem obj_info19 : (Tryd.prog.info? 49).map (·.size) = some 10 := by kernel_rfl
theorem val_info19 : (Tryd.prog.info? 41).map (·.size) = some 4 := by kernel_rfl
theorem info_value19 : (Tryd.prog.info? 41).map (fun i => (i.zero, i.size, i.bytes)) = some (some (.agg #[.int .u32 0, .int .u32 0, .int .u32 0, .int .u32 0]), 4, 16) := by kernel_rfl
theorem info_item19 : (Tryd.prog.info? 103).map (fun i => (i.zero, i.size, i.bytes)) = some (some (.agg #[.int .i64 0, .int .i64 0, .int .i64 0, .int .i64 0, .int .i64 0, .int .i64 0, .int .u32 0, .int .u32 0, .int .u32 0, .int .u32 0, .slice none 0 0, .int .u32 0, .int .u32 0, .int .u32 0, .int .u32 0]), 15, 104) := by kernel_rfl
/-- A state in memory, or none. -/
def StateR (w : World) (a : Option Addr) (L : List ItemD) : Prop := 0 < L.length → ∃ g, a = some ⟨g, 0, none⟩ ∧ StateAt w g L
/-- The first k items are copied. -/
structure CopyB (w wr : World) (L : List ItemD) (k : Nat) (v : Value) (xs : List Value) (A : Nat → Option Addr) (C : Nat → Nat) : Prop where
  own : wr.ownsRow w.heap.size 103 15 v k xs
  rows : ∀ i x, i < k → L[i]? = some x → wr.ownsRow w.heap.size 41 4 (.slice (A i) x.row.length (C i)) x.row.length (flatV x.row)
  cells : ∀ i x, i < k → L[i]? = some x → ∀ j u, (x.l (A i) x.row.length (C i))[j]? = some u → xs[i * 15 + j]? = some u
  below : Below w.heap.size w wr
  apart : ∀ i j x y, i < k → j < k → L[i]? = some x → L[j]? = some y → i ≠ j → ∀ b, A i = some ⟨b, 0, none⟩ → A j ≠ some ⟨b, 0, none⟩
theorem item_one19 (x : ItemD) (a : Option Addr) (n c : Nat) : ∀ u ∈ x.l a n c, u.oneCell' = true := by
  intro u hu
  simp at hu
  rcases hu with rfl | rfl | rfl | rfl | rfl | rfl | rfl | rfl | rfl | rfl | rfl | rfl | rfl | rfl | rfl <;> rfl
theorem own_mono {w : World} {B B' : Nat} {e : TypeId} {size : Nat} {v : Value} {n : Nat} {xs : List Value} (h : w.ownsRow B e size v n xs) (hb : B' ≤ B) : w.ownsRow B' e size v n xs :=
  ⟨h.1, h.2.imp id fun ⟨g, cap, cur, hv, hB, r⟩ => ⟨g, cap, cur, hv, Nat.le_trans hb hB, r⟩⟩
section
variable {w W W' : World} {L : List ItemD} {k : Nat} {v : Value} {xs : List Value} {A : Nat → Option Addr} {C : Nat → Nat}
theorem CopyB.keeps (h : CopyB w W L k v xs A C) (hk : Keeps (fun _ => False) W W') : CopyB w W' L k v xs A C :=
  ⟨h.own.kept (hk.grown0 Option.none) (by cases e : v.ownBlock <;> simp), fun i x hi hx => own_keeps (h.rows i x hi hx) hk, h.cells, h.below.trans (hk.none.mono h.below.size), h.apart⟩
/-- A block that is new grows. -/
theorem CopyB.grow (h : CopyB w W L k v xs A C) (o : Obj) (hg : (W.alloc o).grownBy W' (some W.heap.size)) : CopyB w W' L k v xs A C := by
  have ha := h.keeps ((Keeps.refl _ W).alloc o)
  refine ⟨ha.own.kept hg (.inr fun e => ?_), fun i x hi hx => (ha.rows i x hi hx).kept hg (.inr fun e => ?_), h.cells, ?_, h.apart⟩
  · have := (h.own.lt _ e).2; omega
  · have := ((h.rows i x hi hx).lt _ e).2; omega
  · exact ⟨hg.os.trans ha.below.os, hg.tape.trans ha.below.tape, hg.output.trans ha.below.output, Nat.le_trans ha.below.size hg.size, fun j hj => by
      rw [hg.block j (Nat.lt_of_lt_of_le hj ha.below.size) (by intro e; cases e; have := h.below.size; omega)]
      exact ha.below.block j hj⟩
theorem CopyB.next (h : CopyB w W L k v xs A C) {x : ItemD} (hx : L[k]? = some x) {B : Nat} (hwB : w.heap.size ≤ B) (hBl : ∀ i y, i < k → L[i]? = some y → ∀ b, A i = some ⟨b, 0, none⟩ → b < B) {a : Option Addr} {c : Nat} (hrB : W.ownsRow B 41 4 (.slice a x.row.length c) x.row.length (flatV x.row)) {v' : Value}
    (ho : W'.ownsRow w.heap.size 103 15 v' (k + 1) (xs ++ x.l a x.row.length c)) (hg : W.grownBy W' v.ownBlock) :
    CopyB w W' L (k + 1) v' (xs ++ x.l a x.row.length c) (fun i => if i = k then a else A i) (fun i => if i = k then c else C i) := by
  have hlen := h.own.1
  have hr := own_mono hrB hwB
  refine ⟨ho, fun i y hi hy => ?_, fun i y hi hy j u hu => ?_, ?_, fun i j y z hi hj hy hz hij b hb => ?_⟩
  · by_cases e : i = k
    · subst e
      rw [hx] at hy
      cases hy
      simp only [if_true]
      exact hr.kept hg (own_differ hr h.own (by decide))
    · simp only [if_neg e]
      have h1 := h.rows i y (by omega) hy
      exact h1.kept hg (own_differ h1 h.own (by decide))
  · by_cases e : i = k
    · subst e
      rw [hx] at hy
      cases hy
      simp only [if_true] at hu
      rw [List.getElem?_append_right (by omega), show i * 15 + j - xs.length = j by omega]
      exact hu
    · simp only [if_neg e] at hu
      have h1 := h.cells i y (by omega) hy j u hu
      rw [List.getElem?_append_left (List.getElem?_eq_some_iff.1 h1).1]
      exact h1
  · exact ⟨hg.os.trans h.below.os, hg.tape.trans h.below.tape, hg.output.trans h.below.output, Nat.le_trans h.below.size hg.size, fun j hj => by
      rw [hg.block j (Nat.lt_of_lt_of_le hj h.below.size) (by intro e; have := (h.own.lt j e.symm).1; omega)]
      exact h.below.block j hj⟩
  · have hnew : a = some ⟨b, 0, none⟩ → B ≤ b := fun e => (hrB.lt b (by rw [e]; rfl)).1
    by_cases e1 : i = k
    · subst e1
      simp only [if_true] at hb
      have := hnew hb
      rw [if_neg (Ne.symm hij)]
      intro e
      have := hBl j z (by omega) hz b e
      omega
    · rw [if_neg e1] at hb
      have hbB := hBl i y (by omega) hy b hb
      by_cases e2 : j = k
      · rw [if_pos e2]
        intro e
        have := hnew e
        omega
      · rw [if_neg e2]
        exact h.apart i j y z (by omega) (by omega) hy hz hij b hb
end
set_option maxRecDepth 100000 in
set_option maxHeartbeats 16000000 in
theorem rcopy_any (w : World) (a : Option Addr) (c : Nat) (L : List ItemD) (h : StateR w a L) (hn : L.length ≤ 1000) (hrow : ∀ x, x ∈ L → x.row.length ≤ 64) :
    Calls Tryd.prog 57 #[.slice a L.length c] w fun e w' => ∃ v xs A C, e = .returned v ∧ CopyB w w' L L.length v xs A C := by
  have HH := Lib.hid h
  obtain ⟨n, hne⟩ : ∃ n, L.length = n := ⟨_, rfl⟩
  have HN := Lib.hid hne
  rw [hne] at hn ⊢
  obtain ⟨i0, hi0, hz00, hz01, hz02⟩ := info_parts info_value19
  obtain ⟨i1, hi1, hz10, hz11, hz12⟩ := info_parts info_item19
  have HS0 := Lib.hid (show CopyB w w L 0 (.slice none 0 0) [] (fun _ => none) (fun _ => 0) from ⟨World.ownsRow_nil _ _ _ _, fun i x hi => by omega, fun i x hi => by omega, Below.refl _ w, fun i j x y hi => by omega⟩)
  clear h hne
  go_enter Tryd.func57, Tryd.ntmps57
  go_wp2_with fail
  go_loopw [3, 4] (fun s i wr => ∃ (k : Nat) (v : Value) (xs : List Value) (A : Nat → Option Addr) (C : Nat → Nat), k ≤ n ∧ i = .int .i64 (k : Int) ∧ s = v ∧ CopyB w wr L k v xs A C) (fun _ i _ => n - (intOf i).toNat)
  case atStart => exact ⟨0, _, _, _, _, by omega, rfl, rfl, HS0.out⟩
  case round =>
    clear HS0
    obtain ⟨k, v, xs, A, C, hk, rfl, hsv, hcb⟩ := hrel
    obtain rfl := hsv.symm
    have HB := Lib.hid hcb
    clear hcb
    by_cases hlt : k < n
    · obtain ⟨g, rfl, hst⟩ := HH.out (by rw [HN.out]; omega)
      obtain ⟨x, hx⟩ : ∃ x, L[k]? = some x := ⟨_, List.getElem?_eq_getElem (by rw [HN.out]; exact hlt)⟩
      obtain ⟨ax, cx, hr15, hle, hmax, hnil, hrin⟩ := hst.at' k x hx
      have hgw := hst.lt
      have HO := Lib.hid (show w.rangeAt g (k * 15) [.int .i64 (x.o 0), .int .i64 (x.o 1), .int .i64 (x.o 2), .int .i64 (x.o 3), .int .i64 (x.o 4), .int .i64 (x.o 5), .int .u32 (x.oi 0), .int .u32 (x.oi 1), .int .u32 (x.oi 2), .int .u32 (x.oi 3)] from fun j u hu => hr15 j u (by
        have hj : j < 10 := (List.getElem?_eq_some_iff.1 hu).1
        rcases (by omega : j = 0 ∨ j = 1 ∨ j = 2 ∨ j = 3 ∨ j = 4 ∨ j = 5 ∨ j = 6 ∨ j = 7 ∨ j = 8 ∨ j = 9) with rfl | rfl | rfl | rfl | rfl | rfl | rfl | rfl | rfl | rfl <;> exact hu))
      have HV := Lib.hid (show w.rangeAt g (k * 15 + 11) [.int .u32 x.v.a, .int .u32 x.v.b, .int .u32 x.v.c, .int .u32 x.v.d] from fun j u hu => by
        have hj : j < 4 := (List.getElem?_eq_some_iff.1 hu).1
        have := hr15 (11 + j) u (by rcases (by omega : j = 0 ∨ j = 1 ∨ j = 2 ∨ j = 3) with rfl | rfl | rfl | rfl <;> exact hu)
        rwa [← Nat.add_assoc] at this)
      have HC := Lib.hid (show w.cell? ⟨g, k * 15 + 10, none⟩ = some (.slice ax x.row.length cx) from hr15 10 _ rfl)
      have HX := Lib.hid (And.intro hx (And.intro hle (And.intro hmax (And.intro hnil (And.intro hrin (hrow x (List.mem_of_getElem? hx)))))))
      have d1 : decide (k < n) = true := decide_eq_true hlt
      have d2 : decide ((k : Int) < (n : Int)) = true := decide_eq_true (by omega)
      have hlen64 : x.row.length ≤ 64 := hrow x (List.mem_of_getElem? hx)
      have HNL := Lib.hid (show ax = none → x.row.length = 0 ∧ cx = 0 from fun e => by have := hnil e; omega)
      have HNW := Lib.hid (show ∀ W', Below w.heap.size w W' → ∀ ad, ax = some ad → ∀ j u, (flatV x.row)[j]? = some u → W'.cell? (ad.add j) = some u from fun W' hW ad e j u hu => by
        have hp : 0 < x.row.length := by
          have := (List.getElem?_eq_some_iff.1 hu).1
          rw [flatV_len] at this
          omega
        obtain ⟨b, off, e2, hbl, hc⟩ := hrin hp
        rw [e] at e2
        cases e2
        obtain ⟨z, hz, hzu⟩ := flatV_of x.row j u hu
        have := hc _ z hz _ u hzu
        rw [show off + j / 4 * 4 + j % 4 = off + j by omega] at this
        rw [show (⟨b, off, none⟩ : Addr).add j = ⟨b, off + j, none⟩ by unfold Addr.add; split <;> simp_all]
        exact (hW.cell (p := ⟨b, off + j, none⟩) hbl).trans this)
      have HBD := Lib.hid (HB.out.keeps (Keeps.refl _ wr).drew)
      have HB1 := Lib.hid (HBD.out.keeps ((Keeps.refl _ wr.drew).alloc (.cells #[] 41)))
      have HOW := Lib.hid (show (wr.drew.alloc (.cells #[] 41)).ownsRow wr.heap.size 41 4 (.slice (some ⟨wr.heap.size, 0, none⟩) 0 0) 0 [] from wr.drew.ownsRow_made #[] 0 (Nat.le_refl _) (by unfold maxLen; omega) rfl)
      have HBL := Lib.hid (show ∀ i y, i < k → L[i]? = some y → ∀ b, A i = some ⟨b, 0, none⟩ → b < wr.heap.size from fun i y hi hy b e => ((HB.out.rows i y hi hy).lt b (by rw [e]; rfl)).2)
      clear hst hx hr15 hle hmax hnil hrin
      go_wp2_with fail
      refine wp_region_noPanic ?_
      refine wp_region_held_drew (S := (fun W => W.rangeAt g (k * 15) [.int .i64 (x.o 0), .int .i64 (x.o 1), .int .i64 (x.o 2), .int .i64 (x.o 3), .int .i64 (x.o 4), .int .i64 (x.o 5), .int .u32 (x.oi 0), .int .u32 (x.oi 1), .int .u32 (x.oi 2), .int .u32 (x.oi 3)] ∧ W.rangeAt g (k * 15 + 11) [.int .u32 x.v.a, .int .u32 x.v.b, .int .u32 x.v.c, .int .u32 x.v.d] ∧ W.cell? ⟨g, k * 15 + 10, none⟩ = some (.slice ax x.row.length cx))) (by kernel_rfl) ?_ (fun hHeld => ?_)
      · exact ⟨range_below HO.out HBD.out.below hgw, range_below HV.out HBD.out.below hgw, ((HBD.out.below).cell (p := ⟨g, k * 15 + 10, none⟩) hgw).trans HC.out⟩
      refine wpAnyH_take (i := 0) (v := ?_) rfl (by kernel_rfl) (by kernel_rfl) (by kernel_rfl) (fun _ _ _ h => h) (Or.inl ⟨by rfl, ?_⟩) (by assumption) ?_
      rotate_left
      · (intro w hSw; (try dsimp only at hSw); go_simp; try with_reducible rfl)
      simp only [Act.put, List.getElem_toArray, List.getElem_cons_zero, List.getElem_cons_succ, List.setIfInBounds_toArray, List.set_cons_zero, List.set_cons_succ]
      refine wpAnyH_take (i := 1) (v := ?_) rfl (by kernel_rfl) (by kernel_rfl) (by kernel_rfl) (fun _ _ _ h => h) (Or.inl ⟨by rfl, ?_⟩) (by assumption) ?_
      rotate_left
      · (intro w hSw; (try dsimp only at hSw); go_simp; try with_reducible rfl)
      simp only [Act.put, List.getElem_toArray, List.getElem_cons_zero, List.getElem_cons_succ, List.setIfInBounds_toArray, List.set_cons_zero, List.set_cons_succ]
      refine wpAnyH_take (i := 2) (v := ?_) rfl (by kernel_rfl) (by kernel_rfl) (by kernel_rfl) (fun _ _ _ h => h) (Or.inl ⟨by rfl, ?_⟩) (by assumption) ?_
      rotate_left
      · (intro w hSw; (try dsimp only at hSw); go_simp; try with_reducible rfl)
      simp only [Act.put, List.getElem_toArray, List.getElem_cons_zero, List.getElem_cons_succ, List.setIfInBounds_toArray, List.set_cons_zero, List.set_cons_succ]
      refine wpAnyH_take (i := 3) (v := ?_) rfl (by kernel_rfl) (by kernel_rfl) (by kernel_rfl) (fun _ _ _ h => h) (Or.inl ⟨by rfl, ?_⟩) (by assumption) ?_
      rotate_left
      · (intro w hSw; (try dsimp only at hSw); go_simp; try with_reducible rfl)
      simp only [Act.put, List.getElem_toArray, List.getElem_cons_zero, List.getElem_cons_succ, List.setIfInBounds_toArray, List.set_cons_zero, List.set_cons_succ]
      refine wpAnyH_take (i := 4) (v := ?_) rfl (by kernel_rfl) (by kernel_rfl) (by kernel_rfl) (fun _ _ _ h => h) (Or.inl ⟨by rfl, ?_⟩) (by assumption) ?_
      rotate_left
      · (intro w hSw; (try dsimp only at hSw); go_simp; try with_reducible rfl)
      simp only [Act.put, List.getElem_toArray, List.getElem_cons_zero, List.getElem_cons_succ, List.setIfInBounds_toArray, List.set_cons_zero, List.set_cons_succ]
      refine wpAnyH_take (i := 5) (v := .agg [.int .i64 (x.o 0), .int .i64 (x.o 1), .int .i64 (x.o 2), .int .i64 (x.o 3), .int .i64 (x.o 4), .int .i64 (x.o 5), .int .u32 (x.oi 0), .int .u32 (x.oi 1), .int .u32 (x.oi 2), .int .u32 (x.oi 3)].toArray) rfl (by kernel_rfl) (by kernel_rfl) (by kernel_rfl) (fun _ _ _ h => h) (yieldsIf_load_mid (by rfl) 49 (.tmp 15) rfl g (k * 15) rfl [.int .i64 (x.o 0), .int .i64 (x.o 1), .int .i64 (x.o 2), .int .i64 (x.o 3), .int .i64 (x.o 4), .int .i64 (x.o 5), .int .u32 (x.oi 0), .int .u32 (x.oi 1), .int .u32 (x.oi 2), .int .u32 (x.oi 3)] _ (fun w h => h.1) Tryd.underlying49 rfl obj_info19) (by assumption) ?_
      simp only [Act.put, List.getElem_toArray, List.getElem_cons_zero, List.getElem_cons_succ, List.setIfInBounds_toArray, List.set_cons_zero, List.set_cons_succ]
      refine wpAnyH_take (i := 7) (v := ?_) rfl (by kernel_rfl) (by kernel_rfl) (by kernel_rfl) (fun _ _ _ h => h) (Or.inl ⟨by rfl, ?_⟩) (by assumption) ?_
      rotate_left
      · (intro w hSw; (try dsimp only at hSw); go_simp; try with_reducible rfl)
      simp only [Act.put, List.getElem_toArray, List.getElem_cons_zero, List.getElem_cons_succ, List.setIfInBounds_toArray, List.set_cons_zero, List.set_cons_succ]
      refine wpAnyH_take (i := 8) (v := ?_) rfl (by kernel_rfl) (by kernel_rfl) (by kernel_rfl) (fun _ _ _ h => h) (Or.inl ⟨by rfl, ?_⟩) (by assumption) ?_
      rotate_left
      · (intro w hSw; (try dsimp only at hSw); go_simp; try with_reducible rfl)
      simp only [Act.put, List.getElem_toArray, List.getElem_cons_zero, List.getElem_cons_succ, List.setIfInBounds_toArray, List.set_cons_zero, List.set_cons_succ]
      refine wpAnyH_take (i := 9) (v := ?_) rfl (by kernel_rfl) (by kernel_rfl) (by kernel_rfl) (fun _ _ _ h => h) (Or.inl ⟨by rfl, ?_⟩) (by assumption) ?_
      rotate_left
      · (intro w hSw; (try dsimp only at hSw); go_simp; try with_reducible rfl)
      simp only [Act.put, List.getElem_toArray, List.getElem_cons_zero, List.getElem_cons_succ, List.setIfInBounds_toArray, List.set_cons_zero, List.set_cons_succ]
      refine wpAnyH_take (i := 10) (v := ?_) rfl (by kernel_rfl) (by kernel_rfl) (by kernel_rfl) (fun _ _ _ h => h) (Or.inl ⟨by rfl, ?_⟩) (by assumption) ?_
      rotate_left
      · (intro w hSw; (try dsimp only at hSw); go_simp; try with_reducible rfl)
      simp only [Act.put, List.getElem_toArray, List.getElem_cons_zero, List.getElem_cons_succ, List.setIfInBounds_toArray, List.set_cons_zero, List.set_cons_succ]
      refine wpAnyH_take (i := 11) (v := ?_) rfl (by kernel_rfl) (by kernel_rfl) (by kernel_rfl) (fun _ _ _ h => h) (Or.inl ⟨by rfl, ?_⟩) (by assumption) ?_
      rotate_left
      · (intro w hSw; (try dsimp only at hSw); go_simp; try with_reducible rfl)
      simp only [Act.put, List.getElem_toArray, List.getElem_cons_zero, List.getElem_cons_succ, List.setIfInBounds_toArray, List.set_cons_zero, List.set_cons_succ]
      refine wpAnyH_take (i := 13) (v := ?_) rfl (by kernel_rfl) (by kernel_rfl) (by kernel_rfl) (fun _ _ _ h => h) (Or.inl ⟨by rfl, ?_⟩) (by assumption) ?_
      rotate_left
      · (intro w hSw; (try dsimp only at hSw); go_simp; try with_reducible rfl)
      simp only [Act.put, List.getElem_toArray, List.getElem_cons_zero, List.getElem_cons_succ, List.setIfInBounds_toArray, List.set_cons_zero, List.set_cons_succ]
      refine wpAnyH_take (i := 14) (v := ?_) rfl (by kernel_rfl) (by kernel_rfl) (by kernel_rfl) (fun _ _ _ h => h) (Or.inl ⟨by rfl, ?_⟩) (by assumption) ?_
      rotate_left
      · (intro w hSw; (try dsimp only at hSw); go_simp; try with_reducible rfl)
      simp only [Act.put, List.getElem_toArray, List.getElem_cons_zero, List.getElem_cons_succ, List.setIfInBounds_toArray, List.set_cons_zero, List.set_cons_succ]
      refine wpAnyH_take (i := 15) (v := ?_) rfl (by kernel_rfl) (by kernel_rfl) (by kernel_rfl) (fun _ _ _ h => h) (Or.inl ⟨by rfl, ?_⟩) (by assumption) ?_
      rotate_left
      · (intro w hSw; (try dsimp only at hSw); go_simp; try with_reducible rfl)
      simp only [Act.put, List.getElem_toArray, List.getElem_cons_zero, List.getElem_cons_succ, List.setIfInBounds_toArray, List.set_cons_zero, List.set_cons_succ]
      refine wpAnyH_take (i := 16) (v := ?_) rfl (by kernel_rfl) (by kernel_rfl) (by kernel_rfl) (fun _ _ _ h => h) (Or.inl ⟨by rfl, ?_⟩) (by assumption) ?_
      rotate_left
      · (intro w hSw; (try dsimp only at hSw); go_simp; try with_reducible rfl)
      simp only [Act.put, List.getElem_toArray, List.getElem_cons_zero, List.getElem_cons_succ, List.setIfInBounds_toArray, List.set_cons_zero, List.set_cons_succ]
      refine wpAnyH_take (i := 17) (v := .agg [.int .u32 x.v.a, .int .u32 x.v.b, .int .u32 x.v.c, .int .u32 x.v.d].toArray) rfl (by kernel_rfl) (by kernel_rfl) (by kernel_rfl) (fun _ _ _ h => h) (yieldsIf_load_mid (by rfl) 41 (.tmp 27) rfl g (k * 15 + 11) rfl [.int .u32 x.v.a, .int .u32 x.v.b, .int .u32 x.v.c, .int .u32 x.v.d] _ (fun w h => h.2.1) Tryd.underlying41 rfl val_info19) (by assumption) ?_
      simp only [Act.put, List.getElem_toArray, List.getElem_cons_zero, List.getElem_cons_succ, List.setIfInBounds_toArray, List.set_cons_zero, List.set_cons_succ]
      refine wpAnyH_ready (rs := [6]) (by kernel_rfl) (by simp) ?_
      refine AllReadyH.cons rfl (fun K hK => ?_) AllReadyH.nil
      go_simp
      refine hK.out _ _ ?_ (fun hHeld => ?_)
      · ((try dsimp only); exact ⟨range_below HO.out HB1.out.below hgw, range_below HV.out HB1.out.below hgw, ((HB1.out.below).cell (p := ⟨g, k * 15 + 10, none⟩) hgw).trans HC.out⟩)
      clear hK K
      try simp only [Act.put, List.getElem_toArray, List.getElem_cons_zero, List.getElem_cons_succ, List.setIfInBounds_toArray, List.set_cons_zero, List.set_cons_succ]
      refine wpAnyH_ready (rs := [12]) (by kernel_rfl) (by simp) ?_
      refine AllReadyH.cons rfl (fun K hK => ?_) AllReadyH.nil
      refine step_app_any rfl (.tmp 17) (.tmp 22) 73 rfl wr.heap.size 41 i0 (.agg #[.int .u32 0, .int .u32 0, .int .u32 0, .int .u32 0]) 4 16 Tryd.underlying73 hi0 hz00 hz01 hz02 rfl (by decide) (.slice (some ⟨wr.heap.size, 0, none⟩) 0 0) 0 [] rfl HOW.out ax x.row.length cx (flatV x.row) rfl HNL.out (flatV_len x.row) (HNW.out _ HB1.out.below) (flatV_one x.row) (by unfold maxLen; omega) (by omega) (by simp) ?_
      intro v2 w2 ho2 hg2
      have ho2' : w2.ownsRow wr.heap.size 41 4 v2 x.row.length (flatV x.row) := by simpa using ho2
      obtain ⟨aN, cN, rfl⟩ := own_slice ho2'
      have HR2 := Lib.hid ho2'
      have HB2 := Lib.hid (HBD.out.grow _ hg2)
      have HB3 := Lib.hid (HB2.out.keeps ((Keeps.refl _ w2).alloc (.cells #[.int .i64 (x.o 0), .int .i64 (x.o 1), .int .i64 (x.o 2), .int .i64 (x.o 3), .int .i64 (x.o 4), .int .i64 (x.o 5), .int .u32 (x.oi 0), .int .u32 (x.oi 1), .int .u32 (x.oi 2), .int .u32 (x.oi 3), .slice aN x.row.length cN, .int .u32 x.v.a, .int .u32 x.v.b, .int .u32 x.v.c, .int .u32 x.v.d] 103)))
      have HR3 := Lib.hid (own_keeps HR2.out ((Keeps.refl _ w2).alloc (.cells #[.int .i64 (x.o 0), .int .i64 (x.o 1), .int .i64 (x.o 2), .int .i64 (x.o 3), .int .i64 (x.o 4), .int .i64 (x.o 5), .int .u32 (x.oi 0), .int .u32 (x.oi 1), .int .u32 (x.oi 2), .int .u32 (x.oi 3), .slice aN x.row.length cN, .int .u32 x.v.a, .int .u32 x.v.b, .int .u32 x.v.c, .int .u32 x.v.d] 103)))
      have HN3 := Lib.hid (World.news_of_block (heap_new w2 (.cells #[.int .i64 (x.o 0), .int .i64 (x.o 1), .int .i64 (x.o 2), .int .i64 (x.o 3), .int .i64 (x.o 4), .int .i64 (x.o 5), .int .u32 (x.oi 0), .int .u32 (x.oi 1), .int .u32 (x.oi 2), .int .u32 (x.oi 3), .slice aN x.row.length cN, .int .u32 x.v.a, .int .u32 x.v.b, .int .u32 x.v.c, .int .u32 x.v.d] 103)))
      clear ho2 ho2' hg2
      refine hK.out _ _ ?_ (fun hHeld => ?_)
      · ((try dsimp only); exact ⟨range_below HO.out HB2.out.below hgw, range_below HV.out HB2.out.below hgw, ((HB2.out.below).cell (p := ⟨g, k * 15 + 10, none⟩) hgw).trans HC.out⟩)
      clear hK K
      try simp only [Act.put, List.getElem_toArray, List.getElem_cons_zero, List.getElem_cons_succ, List.setIfInBounds_toArray, List.set_cons_zero, List.set_cons_succ]
      refine wpAnyH_take (i := 18) (v := ?_) rfl (by kernel_rfl) (by kernel_rfl) (by kernel_rfl) (fun _ _ _ h => h) (Or.inl ⟨by rfl, ?_⟩) (by assumption) ?_
      rotate_left
      · (intro w hSw; (try dsimp only at hSw); go_simp; try with_reducible rfl)
      simp only [Act.put, List.getElem_toArray, List.getElem_cons_zero, List.getElem_cons_succ, List.setIfInBounds_toArray, List.set_cons_zero, List.set_cons_succ]
      refine wpAnyH_ready (rs := [19]) (by kernel_rfl) (by simp) ?_
      refine AllReadyH.cons rfl (fun K hK => ?_) AllReadyH.nil
      go_simp
      refine hK.out _ _ ?_ (fun hHeld => ?_)
      · ((try dsimp only); exact ⟨range_below HO.out HB3.out.below hgw, range_below HV.out HB3.out.below hgw, ((HB3.out.below).cell (p := ⟨g, k * 15 + 10, none⟩) hgw).trans HC.out⟩)
      clear hK K
      try simp only [Act.put, List.getElem_toArray, List.getElem_cons_zero, List.getElem_cons_succ, List.setIfInBounds_toArray, List.set_cons_zero, List.set_cons_succ]
      refine wpAnyH_ready (rs := [20]) (by kernel_rfl) (by simp) ?_
      refine AllReadyH.cons rfl (fun K hK => ?_) AllReadyH.nil
      refine step_app_any rfl (.tmp 11) (.tmp 30) 86 rfl w.heap.size 103 i1 _ 15 104 Tryd.underlying86 hi1 hz10 hz11 hz12 rfl (by decide) v k xs rfl HB3.out.own (some ⟨w2.heap.size, 0, none⟩) 1 1 (#[.int .i64 (x.o 0), .int .i64 (x.o 1), .int .i64 (x.o 2), .int .i64 (x.o 3), .int .i64 (x.o 4), .int .i64 (x.o 5), .int .u32 (x.oi 0), .int .u32 (x.oi 1), .int .u32 (x.oi 2), .int .u32 (x.oi 3), .slice aN x.row.length cN, .int .u32 x.v.a, .int .u32 x.v.b, .int .u32 x.v.c, .int .u32 x.v.d] : Array Value).toList rfl (fun e => by cases e) rfl (fun ad e => by cases e; exact HN3.out) (item_one19 x aN x.row.length cN) (by unfold maxLen; omega) (by omega) HB3.out.below.size ?_
      intro v4 w4 ho4 hg4
      have HB4 := Lib.hid (HB3.out.next HX.out.1 HB.out.below.size HBL.out HR3.out ho4 hg4)
      clear ho4 hg4
      refine hK.out _ _ ?_ (fun hHeld => ?_)
      · ((try dsimp only); exact ⟨range_below HO.out HB4.out.below hgw, range_below HV.out HB4.out.below hgw, ((HB4.out.below).cell (p := ⟨g, k * 15 + 10, none⟩) hgw).trans HC.out⟩)
      clear hK K
      try simp only [Act.put, List.getElem_toArray, List.getElem_cons_zero, List.getElem_cons_succ, List.setIfInBounds_toArray, List.set_cons_zero, List.set_cons_succ]
      refine wpAnyH_take (i := 21) (v := ?_) rfl (by kernel_rfl) (by kernel_rfl) (by kernel_rfl) (fun _ _ _ h => h) (Or.inl ⟨by rfl, ?_⟩) (by assumption) ?_
      rotate_left
      · (intro w hSw; (try dsimp only at hSw); go_simp; try with_reducible rfl)
      simp only [Act.put, List.getElem_toArray, List.getElem_cons_zero, List.getElem_cons_succ, List.setIfInBounds_toArray, List.set_cons_zero, List.set_cons_succ]
      refine wpAnyH_done (by kernel_rfl) ?_ _
      refine NoPanic.normal ?_
      go_wp2_with fail
      go_roundw
      case rel => exact ⟨k + 1, _, _, _, _, by omega, by go_num, rfl, HB4.out⟩
      case measure => simp [intOf]; omega
    · obtain rfl : k = n := by omega
      have d1 : decide (k < k) = false := decide_eq_false (by omega)
      go_wp2_with fail
      go_ret
      exact ⟨v, rfl, xs, A, C, HB.out⟩
end Go.Proofs.YtohajfkekkelhaaDoor
namespace Go.Proofs.YtohajfkekkelhaaDoor
open Go.ChangeShapes Go.WideShapes Go.ChangeAt Go.RowKit
set_option linter.unusedVariables false
set_option linter.unusedSimpArgs false
theorem item_info15 : (Tryd.prog.info? 75).map (·.size) = some 15 := by kernel_rfl
/-- The first k items are handed on; their rows lie where they lay. -/
structure BackB (w wr : World) (L : List ItemD) (k : Nat) (v : Value) (xs : List Value) : Prop where
  own : wr.ownsRow w.heap.size 103 15 v k xs
  cells : ∀ i x, i < k → L[i]? = some x → ∃ a c, (∀ j u, (x.l a x.row.length c)[j]? = some u → xs[i * 15 + j]? = some u) ∧ x.row.length ≤ c ∧ c ≤ maxLen ∧ (a = none → c = 0) ∧ RowIn w a x.row
  below : Below w.heap.size w wr
theorem BackB.next {w W W' : World} {L : List ItemD} {k : Nat} {v v' : Value} {xs : List Value} (h : BackB w W L k v xs) {x : ItemD} (hx : L[k]? = some x) {a : Option Addr} {c : Nat} (hr : x.row.length ≤ c ∧ c ≤ maxLen ∧ (a = none → c = 0) ∧ RowIn w a x.row)
    (ho : W'.ownsRow w.heap.size 103 15 v' (k + 1) (xs ++ x.l a x.row.length c)) (hb : Below w.heap.size w W') : BackB w W' L (k + 1) v' (xs ++ x.l a x.row.length c) := by
  have hlen := h.own.1
  refine ⟨ho, fun i y hi hy => ?_, hb⟩
  by_cases e : i = k
  · subst e
    rw [hx] at hy
    cases hy
    refine ⟨a, c, fun j u hu => ?_, hr⟩
    rw [List.getElem?_append_right (by omega), show i * 15 + j - xs.length = j by omega]
    exact hu
  · obtain ⟨a', c', h1, h2⟩ := h.cells i y (by omega) hy
    refine ⟨a', c', fun j u hu => ?_, h2⟩
    have h3 := h1 j u hu
    rw [List.getElem?_append_left (List.getElem?_eq_some_iff.1 h3).1]
    exact h3
/-- An own row of items is a state. -/
theorem own_state {w wr : World} {L : List ItemD} {v : Value} {xs : List Value} (ho : wr.ownsRow w.heap.size 103 15 v L.length xs) (hb : Below w.heap.size w wr)
    (hc : ∀ i x, i < L.length → L[i]? = some x → ∃ a c, (∀ j u, (x.l a x.row.length c)[j]? = some u → xs[i * 15 + j]? = some u) ∧ x.row.length ≤ c ∧ c ≤ maxLen ∧ (a = none → c = 0) ∧ RowIn wr a x.row) :
    ∃ a c, v = .slice a L.length c ∧ StateR wr a L := by
  rcases ho.2 with ⟨rfl, h0⟩ | ⟨g, cap, cur, rfl, hg, hcur, hn, hm, hs, ht⟩
  · exact ⟨none, 0, by rw [h0], fun hp => by omega⟩
  · refine ⟨_, cap, rfl, fun _ => ⟨g, rfl, lt_of hcur, fun k x hx => ?_⟩⟩
    have hk : k < L.length := (List.getElem?_eq_some_iff.1 hx).1
    obtain ⟨a, c, h1, h2, h3, h4, h5⟩ := hc k x hk hx
    refine ⟨a, c, fun j u hu => ?_, h2, h3, h4, h5⟩
    have e := h1 j u hu
    rw [← ht, List.getElem?_take] at e
    split at e
    · rw [cell_of hcur (k * 15 + j)]
      simpa using e
    · cases e
end Go.Proofs.YtohajfkekkelhaaDoor
