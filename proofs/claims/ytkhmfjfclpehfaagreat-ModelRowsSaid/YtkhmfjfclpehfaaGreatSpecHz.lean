import Derived.Laws.CopyRow
import Derived.Laws.MakeOwn
import Derived.Laws.AppendOwn
import Derived.WalkKit
import Derived.Handy
import Derived.Test.YtkhmfjfclpehfaaGreatOpAz
import Derived.Test.YtkhmfjfclpehfaaGreatSpecG
import Derived.Deep.AppendLies
namespace Go.Proofs.YtkhmfjfclpehfaaGreat
open Go.ChangeShapes Go.WideShapes Go.ChangeAt Go.RowKit
set_option linter.unusedVariables false
set_option linter.unusedSimpArgs false
section
variable {P : Program}
theorem run_copy_k (w : World) (dT sT ty elem : TypeId) (k g o dLen dCap : Nat) (a : Addr) (sLen sCap : Nat) (cur : Array Value) (t : TypeId) (cs : List Value) (hk : 0 < k)
    (hu : P.underlying dT = some (.slice elem)) (hs : (P.info? elem).map (·.size) = some k)
    (hg : w.heap[g]? = some (.cells cur t (0, 0))) (hn : cs.length = Nat.min sLen dLen * k)
    (hsrc : ∀ j v, cs[j]? = some v → w.cell? (a.add j) = some v) (hfit : o + cs.length ≤ cur.size) (h1 : ∀ v ∈ cs, v.oneCell' = true) :
    (Builtin.copy_ #[dT, sT] ty #[.slice (some ⟨g, o, none⟩) dLen dCap, .slice (some a) sLen sCap]).run P w =
      .ok (goInt (Nat.min sLen dLen)) (w.setRow g (cur.toList.take o ++ cs ++ cur.toList.drop (o + cs.length)).toArray) := by
  have hl := run_loadCells_list (P := P) w a cs hsrc
  have hst := run_storeCells_at P g o t cs 0 cur w hg (by simpa using hfit) h1
  rw [hn] at hl
  cases hq : P.info? elem with
  | none => simp [hq] at hs
  | some i =>
    have hi : i.size = k := by simpa [hq] using hs
    simp [Builtin.copy_, run_underlying hu, Builtin.lenOf, Builtin.firstCells, sizeOf, typeInfo, hq, hi, hl, hst]
theorem run_copy_zero (w : World) (dT sT ty elem : TypeId) (k : Nat) (d a : Option Addr) (dLen dCap sLen sCap : Nat) (hu : P.underlying dT = some (.slice elem)) (hs : (P.info? elem).map (·.size) = some k) (hn : Nat.min sLen dLen = 0) :
    (Builtin.copy_ #[dT, sT] ty #[.slice d dLen dCap, .slice a sLen sCap]).run P w = .ok (goInt 0) w := by
  cases hq : P.info? elem with
  | none => simp [hq] at hs
  | some i =>
    have hl : ∀ (x : Addr), (loadCells x 0).run P w = .ok #[] w := fun x => by simpa using run_loadCells_list (P := P) w x [] (by simp)
    cases d <;> cases a <;> simp [Builtin.copy_, run_underlying hu, Builtin.lenOf, Builtin.firstCells, sizeOf, typeInfo, hq, hn, storeCells, hl]
theorem wpList_copy_known {w : World} {ops : Array Oper} {rest : List Oper} {o : Oper} {a : Act} {Q : Exit → Act → World → Prop} (hgd : o.guard = none) (d s : Operand) (t t' : TypeId)
    (ho : o.op = .call { callee := .builtin .copy, args := #[d, s], argTypes := #[t, t'] }) (v u : Value) (hd : a.eval d = v) (hs : a.eval s = u) {v' : Value} {w' : World}
    (hr : (Builtin.copy_ #[t, t'] o.type #[v, u]).run P w = .ok v' w') (h : wpList P ops Q rest (a.put o.dst v') w') : wpList P ops Q (o :: rest) a w :=
  wpList_plain hgd fun K hK => by
    unfold Oper.wp
    simp [execOp, ho, resolve, invoke, builtin, hd, hs, hr, Result.andThen]
    exact hK _ _ h
end
end Go.Proofs.YtkhmfjfclpehfaaGreat
namespace Go.Proofs.YtkhmfjfclpehfaaGreat
open Go.ChangeShapes Go.WideShapes Go.ChangeAt Go.RowKit
set_option linter.unusedVariables false
set_option linter.unusedSimpArgs false
def flatV : List W4 → List Value
  | [] => []
  | x :: t => x.l ++ flatV t
theorem flatV_len : ∀ R : List W4, (flatV R).length = R.length * 4
  | [] => rfl
  | x :: t => by
    show (x.l ++ flatV t).length = _
    rw [List.length_append, flatV_len t]
    show 4 + t.length * 4 = (t.length + 1) * 4
    omega
theorem flatV_app : ∀ R S : List W4, flatV (R ++ S) = flatV R ++ flatV S
  | [], S => rfl
  | x :: t, S => by
    show x.l ++ flatV (t ++ S) = (x.l ++ flatV t) ++ flatV S
    rw [flatV_app t S, List.append_assoc]
theorem flatV_get : ∀ (R : List W4) (k : Nat) (x : W4) (j : Nat) (v : Value), R[k]? = some x → x.l[j]? = some v → (flatV R)[k * 4 + j]? = some v
  | [], k, x, j, v, h, _ => by cases k <;> cases h
  | y :: t, 0, x, j, v, h, hv => by
    cases h
    show (y.l ++ flatV t)[0 * 4 + j]? = _
    have hj : j < y.l.length := (List.getElem?_eq_some_iff.1 hv).1
    rw [show 0 * 4 + j = j by omega, List.getElem?_append_left hj]
    exact hv
  | y :: t, k + 1, x, j, v, h, hv => by
    show (y.l ++ flatV t)[(k + 1) * 4 + j]? = _
    rw [List.getElem?_append_right (by show 4 ≤ _; omega), show (k + 1) * 4 + j - y.l.length = k * 4 + j by show (k + 1) * 4 + j - 4 = _; omega]
    exact flatV_get t k x j v h hv
theorem flatV_of : ∀ (R : List W4) (i : Nat) (v : Value), (flatV R)[i]? = some v → ∃ x, R[i / 4]? = some x ∧ x.l[i % 4]? = some v := fun R i v h => by
  have hi : i < R.length * 4 := by
    have := (List.getElem?_eq_some_iff.1 h).1
    rwa [flatV_len] at this
  obtain ⟨x, hx⟩ : ∃ x, R[i / 4]? = some x := ⟨_, List.getElem?_eq_getElem (by omega)⟩
  obtain ⟨u, hu⟩ : ∃ u, x.l[i % 4]? = some u := ⟨_, List.getElem?_eq_getElem (by show i % 4 < 4; omega)⟩
  have := flatV_get R _ x _ u hx hu
  rw [show i / 4 * 4 + i % 4 = i by omega, h] at this
  cases this
  exact ⟨x, hx, hu⟩
theorem flatV_one (R : List W4) : ∀ u ∈ flatV R, u.oneCell' = true := fun u hu => by
  obtain ⟨i, hi, rfl⟩ := List.getElem_of_mem hu
  obtain ⟨x, _, hx⟩ := flatV_of R i _ (List.getElem?_eq_getElem hi)
  have := List.mem_of_getElem? hx
  simp at this
  rcases this with h | h | h | h <;> rw [h] <;> rfl
theorem row_own {w : World} {B n : Nat} {v : Value} {R : List W4} (h : w.ownsRow B 36 4 v n (flatV R)) (hn : R.length = n) : ∃ a c, v = .slice a n c ∧ n ≤ c ∧ c ≤ maxLen ∧ (a = none → c = 0) ∧ RowIn w a R ∧ (∀ b off, a = some ⟨b, off, none⟩ → B ≤ b) := by
  rcases h.2 with ⟨rfl, h0⟩ | ⟨g, cap, cur, rfl, hg, hcur, hc, hm, hs, ht⟩
  · exact ⟨none, 0, by rw [h0], by omega, by unfold maxLen; omega, fun _ => rfl, fun hp => by omega, fun b off e => by cases e⟩
  · refine ⟨_, cap, rfl, hc, hm, (fun e => by cases e), fun _ => ⟨g, 0, rfl, lt_of hcur, ⟨_, _, hcur⟩, fun k x hk j u hu => ?_⟩, fun b off e => by cases e; exact hg⟩
    have e1 := flatV_get R k x j u hk hu
    rw [← ht, List.getElem?_take] at e1
    split at e1
    · rw [cell_of hcur, show 0 + k * 4 + j = k * 4 + j by omega]
      simpa using e1
    · cases e1
theorem copy_values {w : World} {T dT : TypeId} {g cap B : Nat} {cur : Array Value} (hu : Tryz.prog.underlying dT = some (.slice T)) (hs : (Tryz.prog.info? T).map (·.size) = some 4)
    (hg : w.heap[g]? = some (.cells cur T (0, 0))) (hB : B ≤ g) (hcur : cur.size = cap * 4) (hcm : cap ≤ maxLen) (R : List W4) (hR : R.length ≤ cap) (a : Option Addr) (c : Nat) (h : RowIn w a R) (ty : TypeId) :
    ∃ w', (Builtin.copy_ #[dT, dT] ty #[.slice (some ⟨g, 0, none⟩) R.length cap, .slice a R.length c]).run Tryz.prog w = .ok (goInt R.length) w' ∧ w'.ownsRow B T 4 (.slice (some ⟨g, 0, none⟩) R.length cap) R.length (flatV R) ∧ w.grownBy w' (some g) := by
  rcases Nat.eq_zero_or_pos R.length with h0 | hp
  · have hRn : R = [] := List.eq_nil_of_length_eq_zero h0
    subst hRn
    refine ⟨w, run_copy_zero w dT dT ty T 4 _ _ 0 cap 0 c hu hs rfl, ⟨rfl, .inr ⟨g, cap, cur, rfl, hB, hg, Nat.zero_le _, hcm, hcur, rfl⟩⟩, rfl, rfl, rfl, Nat.le_refl _, fun _ _ _ => rfl⟩
  · obtain ⟨b, off, rfl, hb, _, hr⟩ := h hp
    have hfit : (flatV R).length ≤ cur.size := by rw [flatV_len, hcur]; exact Nat.mul_le_mul_right 4 hR
    have hrun := run_copy_k w dT dT ty T 4 g 0 R.length cap ⟨b, off, none⟩ R.length c cur T (flatV R) (by omega) hu hs hg (by rw [flatV_len]; rw [show Nat.min R.length R.length = R.length from Nat.min_self _]) (fun j v hj => by
      obtain ⟨x, hx, hv⟩ := flatV_of R j v hj
      have := hr _ x hx _ v hv
      rw [show (⟨b, off, none⟩ : Addr).add j = ⟨b, off + j, none⟩ by unfold Addr.add; split <;> simp_all]
      rw [show off + j / 4 * 4 + j % 4 = off + j by omega] at this
      exact this) (by omega) (flatV_one R)
    rw [show Nat.min R.length R.length = R.length from Nat.min_self _] at hrun
    refine ⟨_, hrun, ⟨flatV_len R, .inr ⟨g, cap, _, rfl, hB, setRow_heap w g cur _ T _ hg, hR, hcm, ?_, ?_⟩⟩, ?_⟩
    · simp
      have := hfit
      omega
    · simp [flatV_len]
    · exact ⟨rfl, rfl, rfl, by simp [World.setRow], fun k hk hne => setRow_other w g k _ (by intro e; subst e; exact hne rfl)⟩
theorem Keeps.grown0 {w w' : World} (h : Keeps (fun _ => False) w w') (row : Option Nat) : w.grownBy w' row := ⟨h.os, h.tape, h.output, h.size, fun k hk _ => h.block k hk fun h => h⟩
theorem own_keeps {w w' : World} {B n : Nat} {T : TypeId} {v : Value} {xs : List Value} (h : w.ownsRow B T 4 v n xs) (hk : Keeps (fun _ => False) w w') : w'.ownsRow B T 4 v n xs :=
  h.kept (hk.grown0 none) (by cases e : v.ownBlock <;> simp)
theorem Has.grown {w w1 w2 : World} {L : List (Nat × Obj)} {g : Nat} (h : Has w w1 L) (hg : w1.grownBy w2 (some g)) (hB : w.heap.size ≤ g) (hL : ∀ x, x ∈ L → x.1 ≠ g) : Has w w2 L :=
  ⟨⟨hg.os.trans h.keeps.os, hg.tape.trans h.keeps.tape, hg.output.trans h.keeps.output, Nat.le_trans h.keeps.size hg.size, fun k hk hs => by
    rw [hg.block k (Nat.lt_of_lt_of_le hk h.keeps.size) (by intro e; cases e; omega)]
    exact h.keeps.block k hk hs⟩, fun x hx => by
    rw [hg.block x.1 (lt_of (h.all x hx)) (by intro e; cases e; exact hL x hx rfl)]
    exact h.all x hx⟩
end Go.Proofs.YtkhmfjfclpehfaaGreat
namespace Go.Proofs.YtkhmfjfclpehfaaGreat
open Go.ChangeShapes Go.WideShapes Go.ChangeAt Go.RowKit
set_option linter.unusedVariables false
set_option linter.unusedSimpArgs false
def ringP (x : ItemD) (k : Int) (v : W4) (m : Nat) : ItemD × ResD :=
  if (k == 1) = true then if x.o 1 ≤ (x.row.length : Int) then (x, res0 6) else ({x with row := x.row ++ [v.clip m]}, res0 0)
  else if (k == 2) = true then match x.row with
    | [] => (x, res0 7)
    | y :: t => ({x with row := t}, ⟨0, y⟩)
  else (x, res0 12)
theorem Became.row {w w' : World} {g o : Nat} {T : TypeId} {cur : Array Value} {x : ItemD} {a : Option Addr} {c : Nat} (h : ItemW w g o cur x a c) (R : List W4) (a' : Option Addr) (c' : Nat) (hk : Keeps (fun j => j = g) w w')
    (hb : w'.heap[g]? = some (.cells (cur.setIfInBounds (o + 10) (.slice a' R.length c')) T (0, 0))) (hle : R.length ≤ c') (hm : c' ≤ maxLen) (hn : a' = none → c' = 0) (hr : RowIn w' a' R) (hap : ∀ b off, a' = some ⟨b, off, none⟩ → w.heap.size ≤ b) (hgl : g < w.heap.size) :
    Became w w' g o T cur a x.row {x with row := R} :=
  ⟨_, a', c', hb, by simp, fun j hj => Array.getElem?_setIfInBounds_ne (by omega), ⟨setW h.cur (by show 10 < 15; omega) _, hle, hm, hn, hr, fun _ b off e => by have := hap b off e; omega⟩, hk, .inr hap⟩
theorem info_value : (Tryz.prog.info? 36).map (fun i => (i.zero, i.size, i.bytes)) = some (some (.agg #[.int .u32 0, .int .u32 0, .int .u32 0, .int .u32 0]), 4, 16) := by kernel_rfl
theorem make_values (w : World) (n c : Nat) (hn : n ≤ c) (hc : c ≤ 1000) : (Instr.makeSlice 104 (.int .i64 (n : Int)) (.int .i64 (c : Int))).run Tryz.prog w = .ok (.slice (some ⟨w.heap.size, 0, none⟩) n c) (w.alloc (.cells (madeCells #[.int .u32 0, .int .u32 0, .int .u32 0, .int .u32 0] (c * 4)) 36)) := by
  obtain ⟨i, hi, hz0, hz1, hz2⟩ := info_parts info_value
  have h := run_make w 104 36 i _ Tryz.underlying104 hi hz0 .i64 .i64 (n : Int) (c : Int) (by omega) (by omega) (by rw [hz2]; omega) (by omega)
  rw [hz1] at h
  exact h
theorem keep_ten {w : World} {g o : Nat} {a z : Value} (h : w.cell? ⟨g, o + 2, none⟩ = some z) : (w.setCell ⟨g, o + 10, none⟩ a).cell? ⟨g, o + 2, none⟩ = some z := by
  rw [World.cell?_setCell_other _ _ _ _ (by intro e; cases e)]
  exact h
theorem clip_one (m : Nat) (v : W4) : ∀ u ∈ (#[.int .u32 (clipP m 0 v.a), .int .u32 (clipP m 1 v.b), .int .u32 (clipP m 2 v.c), .int .u32 (clipP m 3 v.d)] : Array Value).toList, u.oneCell' = true := by
  intro u hu
  simp at hu
  rcases hu with rfl | rfl | rfl | rfl <;> rfl
theorem RowIn.keeps {S : Nat → Prop} {w w' : World} {a : Option Addr} {R : List W4} (h : RowIn w a R) (hk : Keeps S w w') (hs : ∀ b off, a = some ⟨b, off, none⟩ → ¬ S b) : RowIn w' a R := fun hn => by
  obtain ⟨b, off, e, hl, ht, hr⟩ := h hn
  refine ⟨b, off, e, Nat.lt_of_lt_of_le hl hk.size, ht.eq (hk.block b hl (hs b off e)), fun k v hv j u hu => ?_⟩
  rw [World.cell?_of_block (a := ⟨b, off + k * 4 + j, none⟩) (hk.block b hl (hs b off e))]
  exact hr k v hv j u hu
set_option maxRecDepth 20000 in
set_option maxHeartbeats 8000000 in
theorem doRing_send (w : World) (g o : Nat) (cur : Array Value) (x : ItemD) (a : Option Addr) (c : Nat) (v : W4) (m : Nat) (hb : w.heap[g]? = some (.cells cur 106 (0, 0))) (hx : ItemW w g o cur x a c) (hm : x.o 2 = (m : Int)) (hm1 : m ≤ 1000) (hn : x.row.length ≤ 64) (hlt : ¬ x.o 1 ≤ (x.row.length : Int)) :
    Calls Tryz.prog 95 #[.pointer (some ⟨g, o, none⟩), .int .i64 1, .agg v.cells] w fun e w' => e = .returned (.agg (res0 0).cells) ∧ Became w w' g o 106 cur a x.row {x with row := x.row ++ [v.clip m]} := by
  have hx' := hx.fifteen hb
  have hl := lt_of hb
  have hne3 : w.heap.size + 1 ≠ g := by omega
  have hne4 : g ≠ w.heap.size + 1 := by omega
  have hne1 : ¬ g = w.heap.size := by omega
  have hne2 : ¬ w.heap.size = g := by omega
  have c1 : w.cell? ⟨g, o + 1, none⟩ = some (.int .i64 (x.o 1)) := hx' 1 _ rfl
  have HX2 := Lib.hid (show w.cell? ⟨g, o + 2, none⟩ = some (.int .i64 (m : Int)) by rw [← hm]; exact hx' 2 _ rfl)
  have c10 : w.cell? ⟨g, o + 10, none⟩ = some (.slice a x.row.length c) := hx' 10 _ rfl
  have HU10 := Lib.hid (show cur[o + 10]? = some (.slice a x.row.length c) from hx.cur 10 _ rfl)
  obtain ⟨i0, hi, hz0, hz1, hz2⟩ := info_parts info_value
  have HX := Lib.hid (And.intro hx hb)
  obtain ⟨W2, hW2⟩ : ∃ W2, W2 = ((w.alloc (.cells v.cells 36)).alloc (.cells #[.int .i64 0, .int .u32 0, .int .u32 0, .int .u32 0, .int .u32 0] 41)).alloc (.cells (madeCells #[.int .u32 0, .int .u32 0, .int .u32 0, .int .u32 0] ((x.row.length + 1) * 4)) 36) := ⟨_, rfl⟩
  have HA0 : Has w W2 [(w.heap.size + 2, .cells (madeCells #[.int .u32 0, .int .u32 0, .int .u32 0, .int .u32 0] ((x.row.length + 1) * 4)) 36 (0, 0)), (w.heap.size + 1, .cells #[.int .i64 0, .int .u32 0, .int .u32 0, .int .u32 0, .int .u32 0] 41 (0, 0)), (w.heap.size, .cells v.cells 36 (0, 0)), (g, .cells cur 106 (0, 0))] := by
    rw [hW2]
    exact ((((Has.start w).old hb).alloc (.cells v.cells 36)).alloc (.cells #[.int .i64 0, .int .u32 0, .int .u32 0, .int .u32 0, .int .u32 0] 41) |>.alloc (.cells (madeCells #[.int .u32 0, .int .u32 0, .int .u32 0, .int .u32 0] ((x.row.length + 1) * 4)) 36)).eq (by simp)
  have hbW2 : Below w.heap.size w W2 := HA0.keeps.none
  obtain ⟨w3, hcp, ho, hgr⟩ := copy_values (w := W2) (T := 36) (dT := 104) (g := w.heap.size + 2) (cap := x.row.length + 1) (B := w.heap.size) Tryz.underlying104 (by kernel_rfl) (HA0.at 0 rfl) (by omega) (size_madeCells _ _) (by unfold maxLen; omega) x.row (by omega) a c (hx.row.below hbW2) 3
  have HA := Lib.hid ((HA0.tl.grown hgr (by omega) (by intro y hy; simp at hy; rcases hy with rfl | rfl | rfl <;> simp <;> omega)).drew)
  have HLN := Lib.hid (show ∀ y ∈ [(w.heap.size + 1, (.cells #[.int .i64 0, .int .u32 0, .int .u32 0, .int .u32 0, .int .u32 0] 41 (0, 0) : Obj)), (w.heap.size, .cells v.cells 36 (0, 0)), (g, .cells cur 106 (0, 0))], y.1 ≠ w.heap.size + 2 from by intro y hy; simp at hy; rcases hy with rfl | rfl | rfl <;> simp <;> omega)
  have HO := Lib.hid (own_keeps ho (Keeps.refl _ w3).drew)
  have HCP := Lib.hid hcp
  rw [hW2] at HCP
  have HLE := Lib.hid (And.intro hx.le (And.intro hx.max hx.nil))
  obtain ⟨n, hne⟩ : ∃ n, x.row.length = n := ⟨_, rfl⟩
  have HN := Lib.hid hne
  rw [hne] at hn hlt c10 HCP HO HU10
  have hmk : ∀ w : World, (Instr.makeSlice 104 (.int .i64 (n : Int)) (.int .i64 ((n : Int) + 1))).run Tryz.prog w = .ok (.slice (some ⟨w.heap.size, 0, none⟩) n (n + 1)) (w.alloc (.cells (madeCells #[.int .u32 0, .int .u32 0, .int .u32 0, .int .u32 0] ((n + 1) * 4)) 36)) := fun w => make_values w n (n + 1) (by omega) (by omega)
  have d1 : decide (x.o 1 ≤ (n : Int)) = false := decide_eq_false hlt
  have c10' : ∀ o1 o2 o3, (((w.alloc o1).alloc o2).alloc o3).cell? ⟨g, o + 10, none⟩ = some (.slice a n c) := fun o1 o2 o3 => by
    rw [World.cell?_of_block (w := w) (((Below.refl w.heap.size w).alloc (Nat.le_refl _) o1 |>.alloc (by simp) o2 |>.alloc (by simp; omega) o3).block g hl)]
    exact c10
  have HC := Lib.hid (fun w => clip_any w (m : Int))
  have HC1 := Lib.hid (fun w P => clip1_any w P m v.a v.b v.c v.d hm1)
  clear hx hx' hb hW2 HA0 hbW2 hcp ho hgr hne hm hlt
  go_enter Tryz.func95, Tryz.ntmps95
  go_wp2_with (refine wpList_copy_known rfl (.tmp 36) (.tmp 40) 104 104 rfl _ _ rfl rfl HCP.out ?_)
  clear c1 c10 c10' hmk d1 HCP
  go_region_held3 (fun w' => w'.cell? ⟨g, o + 2, none⟩ = some (.int .i64 (m : Int)) ∧ w'.cell? ⟨w.heap.size, 0, none⟩ = some (.int .u32 v.a) ∧ w'.cell? ⟨w.heap.size, 1, none⟩ = some (.int .u32 v.b) ∧ w'.cell? ⟨w.heap.size, 2, none⟩ = some (.int .u32 v.c) ∧ w'.cell? ⟨w.heap.size, 3, none⟩ = some (.int .u32 v.d))
    (first
      | (refine ⟨keep_ten z2, ?_, ?_, ?_, ?_⟩ <;> go_keep)
      | (refine ⟨?_, cell_of (HA.out.at 1 rfl) 0, cell_of (HA.out.at 1 rfl) 1, cell_of (HA.out.at 1 rfl) 2, cell_of (HA.out.at 1 rfl) 3⟩; exact (World.cell?_of_block (HA.out.keeps.block g hl (fun h => h))).trans HX2.out)
      | (refine ⟨?_, cell_of (HA5.out.tl.at 1 rfl) 0, cell_of (HA5.out.tl.at 1 rfl) 1, cell_of (HA5.out.tl.at 1 rfl) 2, cell_of (HA5.out.tl.at 1 rfl) 3⟩; exact (World.cell?_of_block (HA5.out.keeps.block g hl (fun h => h))).trans HX2.out)
      | go_keep)
    ((first
      | (go_at_call 37; refine (HC.out _).mono ?_; rintro e w4 ⟨rfl, hP, k3⟩; replace HA := Lib.hid (HA.out.none k3); replace HO := Lib.hid (own_keeps HO.out k3); have HP := Lib.hid hP; clear k3 hP)
      | (go_at_call 63; refine (HC1.out _ _ HP.out).mono ?_; rintro e w5 ⟨rfl, b4⟩; replace HA := Lib.hid (HA.out.none (Keeps.ofBelow b4)); replace HO := Lib.hid (own_keeps HO.out (Keeps.ofBelow b4)); have HA5 := Lib.hid (HA.out.alloc (.cells #[.int .u32 (clipP m 0 v.a), .int .u32 (clipP m 1 v.b), .int .u32 (clipP m 2 v.c), .int .u32 (clipP m 3 v.d)] 36)); have HO5 := Lib.hid (own_keeps HO.out ((Keeps.refl _ w5).alloc (.cells #[.int .u32 (clipP m 0 v.a), .int .u32 (clipP m 1 v.b), .int .u32 (clipP m 2 v.c), .int .u32 (clipP m 3 v.d)] 36))); have HNW := Lib.hid (World.news_of_block (heap_new w5 (.cells #[.int .u32 (clipP m 0 v.a), .int .u32 (clipP m 1 v.b), .int .u32 (clipP m 2 v.c), .int .u32 (clipP m 3 v.d)] 36))); clear b4)
      | (refine step_append_lies _ rfl (.tmp 43) (.tmp 52) 104 rfl w.heap.size 36 i0 (.agg #[.int .u32 0, .int .u32 0, .int .u32 0, .int .u32 0]) 4 16 Tryz.underlying104 hi hz0 hz1 hz2 rfl (by decide) (.slice (some ⟨w.heap.size + 2, 0, none⟩) n (n + 1)) n (flatV x.row) rfl HO5.out ⟨w5.heap.size, 0, none⟩ 1 1 #[.int .u32 (clipP m 0 v.a), .int .u32 (clipP m 1 v.b), .int .u32 (clipP m 2 v.c), .int .u32 (clipP m 3 v.d)].toList rfl rfl HNW.out (clip_one m v) (by omega) (by unfold maxLen; omega) (by omega) (Nat.le_trans HA5.out.keeps.size (Nat.le_refl _)) _ rfl ?_; intro g2 cap2 w6 ho6 hgr6 hor hlt6; have HLA := Lib.hid (lt_of (HA5.out.tl.at 0 rfl)); replace HA := Lib.hid (HA5.out.tl.grown (g := w.heap.size + 2) hgr6 (by omega) HLN.out); have HO6 := Lib.hid (And.intro ho6 (And.intro hor hlt6)); have y10 : w6.cell? ⟨g, o + 10, none⟩ = some (.slice a n c) := (cell_of (HA.out.at 2 rfl) (o + 10)).trans HU10.out; have f10 : w6.frozen? ⟨g, o + 10, none⟩ = false := free_of (HA.out.at 2 rfl) (o + 10); have z2 : w6.cell? ⟨g, o + 2, none⟩ = some (.int .i64 (m : Int)) := (World.cell?_of_block (HA.out.keeps.block g hl (fun h => h))).trans HX2.out; have zb0 : w6.cell? ⟨w.heap.size, 0, none⟩ = some (.int .u32 v.a) := cell_of (HA.out.at 1 rfl) 0; have zb1 : w6.cell? ⟨w.heap.size, 1, none⟩ = some (.int .u32 v.b) := cell_of (HA.out.at 1 rfl) 1; have zb2 : w6.cell? ⟨w.heap.size, 2, none⟩ = some (.int .u32 v.c) := cell_of (HA.out.at 1 rfl) 2; have zb3 : w6.cell? ⟨w.heap.size, 3, none⟩ = some (.int .u32 v.d) := cell_of (HA.out.at 1 rfl) 3; clear ho6 hgr6 hor hlt6)))
  have hg6 : w6.heap[g]? = some (.cells cur 106 (0, 0)) := HA.out.at 2 rfl
  have hr6 : w6.heap[w.heap.size + 1]? = some (.cells #[.int .i64 0, .int .u32 0, .int .u32 0, .int .u32 0, .int .u32 0] 41 (0, 0)) := HA.out.at 0 rfl
  have hk6 : Keeps (fun j => j = g) w w6 := ⟨HA.out.keeps.os, HA.out.keeps.tape, HA.out.keeps.output, HA.out.keeps.size, fun k hk1 _ => HA.out.keeps.block k hk1 fun h => h⟩
  have HB7 := Lib.hid (show (w6.setCell ⟨g, o + 10, none⟩ (.slice (some ⟨g2, 0, none⟩) (n + 1) cap2)).heap[g]? = some (.cells (cur.setIfInBounds (o + 10) (.slice (some ⟨g2, 0, none⟩) (n + 1) cap2)) 106 (0, 0)) from heap_set hg6 (o + 10) _)
  have HK7 := Lib.hid (show Keeps (fun j => j = g) w (w6.setCell ⟨g, o + 10, none⟩ (.slice (some ⟨g2, 0, none⟩) (n + 1) cap2)) from hk6.setCell (p := ⟨g, o + 10, none⟩) (.inl rfl) _)
  have hr7 : (w6.setCell ⟨g, o + 10, none⟩ (.slice (some ⟨g2, 0, none⟩) (n + 1) cap2)).heap[w.heap.size + 1]? = some (.cells #[.int .i64 0, .int .u32 0, .int .u32 0, .int .u32 0, .int .u32 0] 41 (0, 0)) := heap_other hr6 hne3 _
  have HK67 := Lib.hid (show Keeps (fun j => j = g ∨ j = w.heap.size + 1) w6 (w6.setCell ⟨g, o + 10, none⟩ (.slice (some ⟨g2, 0, none⟩) (n + 1) cap2)) from (Keeps.refl _ w6).setCell (p := ⟨g, o + 10, none⟩) (.inl (.inl rfl)) _)
  generalize (w6.setCell ⟨g, o + 10, none⟩ (.slice (some ⟨g2, 0, none⟩) (n + 1) cap2)) = W7 at *
  have q0 := cell_of hr7 0
  have q1 := cell_of hr7 1
  have q2 := cell_of hr7 2
  have q3 := cell_of hr7 3
  have q4 := cell_of hr7 4
  have fq0 := free_of hr7 0
  have fq1 := free_of hr7 1
  have fq2 := free_of hr7 2
  have fq3 := free_of hr7 3
  have fq4 := free_of hr7 4
  simp only [List.getElem?_toArray, List.getElem?_cons_zero, List.getElem?_cons_succ] at q0 q1 q2 q3 q4
  clear y10 f10 zb0 zb1 zb2 zb3 z2 hg6 hr6 hk6
  go_wp2_with fail
  refine bodyPost_ret (v := .agg #[.int .i64 0, .int .u32 0, .int .u32 0, .int .u32 0, .int .u32 0]) (by simp [results, Tryz.results95, go_sem, q0, q1, q2, q3, q4]) rfl ⟨rfl, ?_⟩
  obtain ⟨a9, c9, e9, h91, h92, h93, h94, h95⟩ := row_own (R := x.row ++ [v.clip m]) (by rw [flatV_app]; exact HO6.out.1) (by simp [HN.out])
  cases e9
  have hlen : (x.row ++ [v.clip m]).length = n + 1 := by simp [HN.out]
  refine Became.row HX.out.1 (x.row ++ [v.clip m]) (some ⟨g2, 0, none⟩) cap2 (((((HK7.out.setCell (p := ⟨w.heap.size + 1, 0, none⟩) (.inr (by show w.heap.size ≤ w.heap.size + 1; omega)) _).setCell (p := ⟨w.heap.size + 1, 1, none⟩) (.inr (by show w.heap.size ≤ w.heap.size + 1; omega)) _).setCell (p := ⟨w.heap.size + 1, 2, none⟩) (.inr (by show w.heap.size ≤ w.heap.size + 1; omega)) _).setCell (p := ⟨w.heap.size + 1, 3, none⟩) (.inr (by show w.heap.size ≤ w.heap.size + 1; omega)) _).setCell (p := ⟨w.heap.size + 1, 4, none⟩) (.inr (by show w.heap.size ≤ w.heap.size + 1; omega)) _) (by rw [hlen]; exact (heap_other (heap_other (heap_other (heap_other (heap_other HB7.out hne4 _) hne4 _) hne4 _) hne4 _) hne4 _)) (by rw [hlen]; exact h91) h92 h93 (h94.keeps (((((HK67.out.setCell (p := ⟨w.heap.size + 1, 0, none⟩) (.inl (.inr rfl)) _).setCell (p := ⟨w.heap.size + 1, 1, none⟩) (.inl (.inr rfl)) _).setCell (p := ⟨w.heap.size + 1, 2, none⟩) (.inl (.inr rfl)) _).setCell (p := ⟨w.heap.size + 1, 3, none⟩) (.inl (.inr rfl)) _).setCell (p := ⟨w.heap.size + 1, 4, none⟩) (.inl (.inr rfl)) _) fun b off e => ?_) (fun b off e => ?_) hl
  all_goals cases e
  all_goals have h1 : w.heap.size + 2 = g2 ∨ g2 = _ := HO6.out.2.1.imp (fun e => by cases e; rfl) id
  all_goals have h2 := HLA.out
  all_goals omega
end Go.Proofs.YtkhmfjfclpehfaaGreat
