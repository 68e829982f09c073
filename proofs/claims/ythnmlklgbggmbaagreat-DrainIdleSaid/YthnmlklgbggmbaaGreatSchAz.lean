import Derived.Test.YthnmlklgbggmbaaGreatRankDz
import Derived.Test.YthnmlklgbggmbaaGreatDeltCz
import Derived.Test.YthnmlklgbggmbaaGreatQuOz
import Derived.Test.YthnmlklgbggmbaaGreatTaskAz
namespace Go.Proofs.YthnmlklgbggmbaaGreat
open Go.ChangeShapes Go.WideShapes Go.ChangeAt Go.RowKit
set_option linter.unusedVariables false
set_option linter.unusedSimpArgs false
def upd {α : Type} (f : Nat → α) (t : Nat) (v : α) : Nat → α := fun j => if j = t then v else f j
theorem upd_at {α : Type} (f : Nat → α) (t : Nat) (v : α) : upd f t v t = v := if_pos rfl
theorem upd_ne {α : Type} (f : Nat → α) {t j : Nat} (v : α) (h : j ≠ t) : upd f t v j = f j := if_neg h
abbrev WaitT : Type := Int × Int × Int × Nat
/-- A scheduler in pure words: how many tasks, who is current, and of each task its priority, state, bits, answer; the rows of those ready; the ticks left; the waits. -/
structure ScM where
  many : Nat
  cur : Int
  prio : Nat → Int
  st : Nat → Int
  bits : Nat → Nat
  ans : Nat → Option (Bool × Int × Int)
  R : RkT
  T : Int → Nat
  W : List WaitT
/-- Where it lies; n: how many tasks it is told to have (while it is made, fewer are there). -/
structure ScA where
  n : Nat
  s : Nat
  tb : Nat → Nat
  rk : Nat
  D : Nat
  Q : Nat
structure ScCells (cs : Array Value) (a : ScA) (M : ScM) : Prop where
  size : cs.size = 37
  task : ∀ t, t < 16 → cs[t]? = some (.pointer (if t < M.many then some ⟨a.tb t, 0, none⟩ else none))
  prio : ∀ t, t < 16 → cs[16 + t]? = some (.int .i64 (M.prio t))
  many : cs[32]? = some (.int .i64 (a.n : Int))
  cur : cs[33]? = some (.int .i64 M.cur)
  rk : cs[34]? = some (.pointer (some ⟨a.rk, 0, none⟩))
  D : cs[35]? = some (.pointer (some ⟨a.D, 0, none⟩))
  Q : cs[36]? = some (.pointer (some ⟨a.Q, 0, none⟩))
structure ScW (w : World) (P : Nat → Prop) (a : ScA) (M : ScM) : Prop where
  blk : ∃ cs, w.heap[a.s]? = some (.cells cs 100 (0, 0)) ∧ ScCells cs a M
  le : M.many ≤ 16
  task : ∀ t, t < M.many → IsTask w (a.tb t) (M.st t) (M.bits t : Int) (M.ans t)
  inj : ∀ i j, i < M.many → j < M.many → a.tb i = a.tb j → i = j
  live : ∀ t, t < M.many → M.st t = 1 ∨ M.st t = 2 ∨ M.st t = 3 ∨ M.st t = 4
  small : ∀ t, t < M.many → M.bits t < 4294967296
  rank : RkS w a.rk M.R
  delta : ∃ L, IsDelta w a.D L ∧ Abs L M.T ∧ ∀ (i : Nat) (nd : Nd), L[i]? = some nd → P nd.g
  tin : ∀ t, M.T t ≠ 0 → 0 ≤ t ∧ t < (M.many : Int)
  queue : ∃ N h, IsQ w a.Q N h ∧ Good N ∧ N.map QN.wait = M.W ∧ ∀ x, x ∈ N → P x.g
  low : P a.s ∧ P a.rk ∧ P a.D ∧ P a.Q ∧ ∀ t, t < M.many → P (a.tb t)
  new : ∀ k, w.heap.size ≤ k → P k
  cin : M.cur = -1 ∨ (0 ≤ M.cur ∧ M.cur < (M.many : Int))
  rin : ∀ t, t < 16 → M.R.2 t ≠ 0 → t < M.many
/-- Block k is of type T. -/
def Ty (w : World) (k : Nat) (T : TypeId) : Prop := ∃ cs fr, w.heap[k]? = some (.cells cs T fr)
theorem Ty.ne {w : World} {k k' : Nat} {T T' : TypeId} (h : Ty w k T) (h' : Ty w k' T') (hT : T ≠ T') : k ≠ k' := by
  rintro rfl
  obtain ⟨cs, fr, h1⟩ := h
  obtain ⟨cs', fr', h2⟩ := h'
  rw [h1] at h2
  injection h2 with h2
  injection h2 with _ h2 _
  exact hT h2
/-- But for blocks of these types all is as it was. -/
abbrev KeepsTy (Ts : List TypeId) (w w' : World) : Prop := Keeps (fun k => ∃ T, T ∈ Ts ∧ Ty w k T) w w'
theorem keepsTy {S : Nat → Prop} {w w' : World} {Ts : List TypeId} (hk : Keeps S w w') (h : ∀ k, k < w.heap.size → S k → ∃ T, T ∈ Ts ∧ Ty w k T) : KeepsTy Ts w w' := hk.mono h
theorem keepsTy_none {w w' : World} (hk : Keeps (fun _ => False) w w') : KeepsTy [] w w' := hk.mono fun _ _ h => h.elim
theorem KeepsTy.apart {Ts : List TypeId} {w : World} {k : Nat} {T : TypeId} (h : Ty w k T) (hT : T ∉ Ts) : ¬ ∃ U, U ∈ Ts ∧ Ty w k U := by
  rintro ⟨U, hU, h'⟩
  by_cases e : T = U
  · exact hT (e ▸ hU)
  · exact h.ne h' e rfl
theorem KeepsTy.at {Ts : List TypeId} {w w' : World} (hk : KeepsTy Ts w w') {b : Nat} {cs : Array Value} {T : TypeId} {fr : Nat × Nat} (h : w.heap[b]? = some (.cells cs T fr)) (hT : T ∉ Ts) : w'.heap[b]? = some (.cells cs T fr) :=
  Keeps.at hk h (KeepsTy.apart ⟨cs, fr, h⟩ hT)
theorem rank_ty {w : World} {b : Nat} {s : RkT} (h : RkS w b s) : Ty w b 154 := by
  obtain ⟨X, m, bs, h1, _⟩ := h.one
  obtain ⟨cs, h2, _⟩ := h1.one
  exact ⟨cs, _, h2⟩
theorem task_ty {w : World} {b : Nat} {st bits : Int} {ans : Option (Bool × Int × Int)} (h : IsTask w b st bits ans) : Ty w b 167 := by
  obtain ⟨v, h1, _⟩ := h
  exact ⟨_, _, h1⟩
theorem delta_ty {w : World} {D : Nat} {L : List Nd} (h : IsDelta w D L) {k : Nat} (hk : Own D L k) : ∃ T, T ∈ [157, 172] ∧ Ty w k T := by
  rcases hk with rfl | ⟨i, x, hx, rfl⟩
  · exact ⟨_, .head _, _, _, h.head⟩
  · exact ⟨_, .tail _ (.head _), _, _, h.node i x hx⟩
theorem queue_ty {w : World} {Q : Nat} {L : List QN} {b : Bool} (h : IsQ w Q L b) {k : Nat} (hk : RS Q L k) : ∃ T, T ∈ [162, 160] ∧ Ty w k T := by
  obtain ⟨cs, h1 | h1⟩ := RS_cells h hk
  · exact ⟨_, .head _, _, _, h1⟩
  · exact ⟨_, .tail _ (.head _), _, _, h1⟩
section
variable {w w' : World} {P : Nat → Prop} {a : ScA} {M : ScM} {Ts : List TypeId}
theorem task_kept {b : Nat} {st bits : Int} {ans : Option (Bool × Int × Int)} {S : Nat → Prop} (h : IsTask w b st bits ans) (hk : Keeps S w w') (hb : ¬ S b) (hS : ∀ k, S k → ¬ Ty w k 169) : IsTask w' b st bits ans := by
  obtain ⟨v, h1, h2⟩ := h
  refine ⟨v, hk.at h1 hb, ?_⟩
  match ans, h2 with
  | none, h2 => exact h2
  | some (x, y, z), ⟨p, hv, hp⟩ => exact ⟨p, hv, hk.at hp fun hs => hS p hs ⟨_, _, hp⟩⟩
theorem rank_kept {b : Nat} {s : RkT} (h : RkS w b s) (hk : KeepsTy Ts w w') (hT : 154 ∉ Ts) : RkS w' b s := h.keeps hk (KeepsTy.apart (rank_ty h) hT)
theorem delta_kept {D : Nat} {L : List Nd} (h : IsDelta w D L) (hk : KeepsTy Ts w w') (h1 : 157 ∉ Ts) (h2 : 172 ∉ Ts) : IsDelta w' D L :=
  h.keeps hk (KeepsTy.apart ⟨_, _, h.head⟩ h1) fun i nd hi => KeepsTy.apart ⟨_, _, h.node i nd hi⟩ h2
theorem queue_kept {Q : Nat} {N : List QN} {b : Bool} (h : IsQ w Q N b) (hk : KeepsTy Ts w w') (h1 : 162 ∉ Ts) (h2 : 160 ∉ Ts) : IsQ w' Q N b :=
  h.keeps hk (KeepsTy.apart ⟨_, _, h.head⟩ h1) fun i x hi => KeepsTy.apart ⟨_, _, h.node i x hi⟩ h2
theorem ScW.deltaK (h : ScW w P a M) (hk : KeepsTy Ts w w') (h1 : 157 ∉ Ts) (h2 : 172 ∉ Ts) : ∃ L, IsDelta w' a.D L ∧ Abs L M.T ∧ ∀ (i : Nat) (nd : Nd), L[i]? = some nd → P nd.g := by
  obtain ⟨L, hd, ha, hl⟩ := h.delta
  exact ⟨L, delta_kept hd hk h1 h2, ha, hl⟩
theorem ScW.queueK (h : ScW w P a M) (hk : KeepsTy Ts w w') (h1 : 162 ∉ Ts) (h2 : 160 ∉ Ts) : ∃ N b, IsQ w' a.Q N b ∧ Good N ∧ N.map QN.wait = M.W ∧ ∀ x, x ∈ N → P x.g := by
  obtain ⟨N, b, hd, ha, hl⟩ := h.queue
  exact ⟨N, b, queue_kept hd hk h1 h2, ha, hl⟩
theorem ScW.blkK (h : ScW w P a M) (hk : KeepsTy Ts w w') (h1 : 100 ∉ Ts) : ∃ cs, w'.heap[a.s]? = some (.cells cs 100 (0, 0)) ∧ ScCells cs a M := by
  obtain ⟨cs, hb, hc⟩ := h.blk
  exact ⟨cs, KeepsTy.at hk hb h1, hc⟩
theorem ScW.taskK (h : ScW w P a M) (hk : KeepsTy Ts w w') (h1 : 167 ∉ Ts) (h2 : 169 ∉ Ts) : ∀ t, t < M.many → IsTask w' (a.tb t) (M.st t) (M.bits t : Int) (M.ans t) := fun t ht =>
  task_kept (h.task t ht) hk (KeepsTy.apart (task_ty (h.task t ht)) h1) fun k ⟨T, hT, hk⟩ hk' => (by
    by_cases e : 169 = T
    · exact h2 (e ▸ hT)
    · exact hk'.ne hk e rfl)
theorem ScW.newK {S : Nat → Prop} (h : ScW w P a M) (hk : Keeps S w w') : ∀ k, w'.heap.size ≤ k → P k := fun k h1 => h.new k (Nat.le_trans hk.size h1)
theorem ScW.keepTy (h : ScW w P a M) (hk : KeepsTy Ts w w') (h0 : ∀ T, T ∈ Ts → T ∉ [100, 167, 169, 154, 157, 172, 162, 160]) : ScW w' P a M :=
  { h with
    blk := h.blkK hk fun e => h0 _ e (by simp)
    task := h.taskK hk (fun e => h0 _ e (by simp)) (fun e => h0 _ e (by simp))
    rank := rank_kept h.rank hk fun e => h0 _ e (by simp)
    delta := h.deltaK hk (fun e => h0 _ e (by simp)) (fun e => h0 _ e (by simp))
    queue := h.queueK hk (fun e => h0 _ e (by simp)) (fun e => h0 _ e (by simp))
    new := h.newK hk }
theorem ScW.quiet (h : ScW w P a M) (hk : Keeps (fun _ => False) w w') : ScW w' P a M := h.keepTy (keepsTy_none hk) fun T hT => by cases hT
theorem ScW.lt (h : ScW w P a M) : a.s < w.heap.size := by obtain ⟨cs, hb, _⟩ := h.blk; exact lt_of hb
theorem ScW.cell (h : ScW w P a M) (k : Nat) {v : Value} (hv : ∀ cs, ScCells cs a M → cs[k]? = some v) : w.cell? ⟨a.s, k, none⟩ = some v := by
  obtain ⟨cs, hb, hc⟩ := h.blk
  exact (cell_of hb k).trans (hv cs hc)
theorem ScW.free (h : ScW w P a M) (k : Nat) : w.frozen? ⟨a.s, k, none⟩ = false := by
  obtain ⟨cs, hb, hc⟩ := h.blk
  exact free_of hb k
theorem ScW.cTask (h : ScW w P a M) (t : Nat) (ht : t < M.many) : w.cell? ⟨a.s, t, none⟩ = some (.pointer (some ⟨a.tb t, 0, none⟩)) := h.cell t fun cs hc => by
  rw [hc.task t (by have := h.le; omega), if_pos ht]
theorem ScW.cPrio (h : ScW w P a M) (t : Nat) (ht : t < 16) : w.cell? ⟨a.s, 16 + t, none⟩ = some (.int .i64 (M.prio t)) := h.cell _ fun cs hc => hc.prio t ht
theorem ScW.cMany (h : ScW w P a M) : w.cell? ⟨a.s, 32, none⟩ = some (.int .i64 (a.n : Int)) := h.cell _ fun cs hc => hc.many
theorem ScW.cCur (h : ScW w P a M) : w.cell? ⟨a.s, 33, none⟩ = some (.int .i64 M.cur) := h.cell _ fun cs hc => hc.cur
theorem ScW.cRk (h : ScW w P a M) : w.cell? ⟨a.s, 34, none⟩ = some (.pointer (some ⟨a.rk, 0, none⟩)) := h.cell _ fun cs hc => hc.rk
theorem ScW.cD (h : ScW w P a M) : w.cell? ⟨a.s, 35, none⟩ = some (.pointer (some ⟨a.D, 0, none⟩)) := h.cell _ fun cs hc => hc.D
theorem ScW.cQ (h : ScW w P a M) : w.cell? ⟨a.s, 36, none⟩ = some (.pointer (some ⟨a.Q, 0, none⟩)) := h.cell _ fun cs hc => hc.Q
/-- Who is current changes. -/
theorem ScW.setCur (h : ScW w P a M) (c : Int) (hcin : c = -1 ∨ (0 ≤ c ∧ c < (M.many : Int))) : ScW (w.setCell ⟨a.s, 33, none⟩ (.int .i64 c)) P a { M with cur := c } := by
  obtain ⟨cs, hb, hc⟩ := h.blk
  have hk : KeepsTy [100] w (w.setCell ⟨a.s, 33, none⟩ (.int .i64 c)) := keepsTy ((Keeps.refl (fun k => k = a.s) w).setCell (p := ⟨a.s, 33, none⟩) (.inl rfl) _) fun k _ e => ⟨_, .head _, by rw [e]; exact ⟨_, _, hb⟩⟩
  refine { h with
    blk := ⟨_, heap_set hb 33 _, ⟨by simpa using hc.size, fun t ht => ?_, fun t ht => ?_, ?_, ?_, ?_, ?_, ?_⟩⟩
    task := h.taskK hk (by decide) (by decide)
    rank := rank_kept h.rank hk (by decide)
    delta := h.deltaK hk (by decide) (by decide)
    queue := h.queueK hk (by decide) (by decide)
    new := h.newK hk
    cin := hcin }
  · rw [Array.getElem?_setIfInBounds_ne (by omega)]; exact hc.task t ht
  · rw [Array.getElem?_setIfInBounds_ne (by omega)]; exact hc.prio t ht
  · rw [Array.getElem?_setIfInBounds_ne (by omega)]; exact hc.many
  · rw [Array.getElem?_setIfInBounds_self_of_lt (by rw [hc.size]; omega)]
  · rw [Array.getElem?_setIfInBounds_ne (by omega)]; exact hc.rk
  · rw [Array.getElem?_setIfInBounds_ne (by omega)]; exact hc.D
  · rw [Array.getElem?_setIfInBounds_ne (by omega)]; exact hc.Q
/-- One task has become another. -/
theorem ScW.setTask (h : ScW w P a M) (t : Nat) (ht : t < M.many) {st : Int} {bits : Nat} {ans : Option (Bool × Int × Int)} (hk : Keeps (fun k => k = a.tb t) w w') (hT : IsTask w' (a.tb t) st (bits : Int) ans) (hs : st = 1 ∨ st = 2 ∨ st = 3 ∨ st = 4) (hb : bits < 4294967296) :
    ScW w' P a { M with st := upd M.st t st, bits := upd M.bits t bits, ans := upd M.ans t ans } := by
  have hty := task_ty (h.task t ht)
  have hkt : KeepsTy [167] w w' := keepsTy hk fun k _ e => ⟨_, .head _, by rw [e]; exact hty⟩
  refine { h with
    blk := ?_
    task := fun j hj => ?_
    live := fun j hj => ?_
    small := fun j hj => ?_
    rank := rank_kept h.rank hkt (by decide)
    delta := h.deltaK hkt (by decide) (by decide)
    queue := h.queueK hkt (by decide) (by decide)
    new := h.newK hk }
  · obtain ⟨cs, h1, h2⟩ := h.blkK hkt (by decide)
    exact ⟨cs, h1, ⟨h2.size, h2.task, h2.prio, h2.many, h2.cur, h2.rk, h2.D, h2.Q⟩⟩
  · show IsTask w' (a.tb j) (upd M.st t st j) ((upd M.bits t bits j : Nat) : Int) (upd M.ans t ans j)
    by_cases e : j = t
    · subst e
      rw [upd_at, upd_at, upd_at]
      exact hT
    · rw [upd_ne _ _ e, upd_ne _ _ e, upd_ne _ _ e]
      refine task_kept (h.task j hj) hk (fun e' => e (h.inj j t hj ht e')) fun k e' hA => ?_
      subst e'
      exact hA.ne hty (by decide) rfl
  · show upd M.st t st j = 1 ∨ upd M.st t st j = 2 ∨ upd M.st t st j = 3 ∨ upd M.st t st j = 4
    by_cases e : j = t
    · subst e; rw [upd_at]; exact hs
    · rw [upd_ne _ _ e]; exact h.live j hj
  · show upd M.bits t bits j < 4294967296
    by_cases e : j = t
    · subst e; rw [upd_at]; exact hb
    · rw [upd_ne _ _ e]; exact h.small j hj
/-- What stands in the rows is there. -/
theorem ScW.inRow (h : ScW w P a M) {t : Nat} (ht : t ∈ listT M.R) : t < M.many ∧ t < 16 ∧ M.R.2 t ≠ 0 := by
  obtain ⟨q, _, hq, hm⟩ := (mem_flat M.R.1 0 t).1 ht
  have := (h.rank.mem q t hq).1 hm
  exact ⟨h.rin t this.1 (by omega), this.1, by omega⟩
/-- The types of the blocks that a scheduler writes. -/
def SchTys : List TypeId := [100, 167, 154, 157, 172, 162, 160]
/-- But for new blocks, and those of P that a scheduler writes, all is as it was. -/
abbrev KeepsS (P : Nat → Prop) (w w' : World) : Prop := Keeps (fun k => P k ∧ ∃ T, T ∈ SchTys ∧ Ty w k T) w w'
theorem kS {w1 w2 w3 : World} (h : KeepsS P w1 w2) (k : KeepsS P w2 w3) : KeepsS P w1 w3 :=
  ⟨k.os.trans h.os, k.tape.trans h.tape, k.output.trans h.output, Nat.le_trans h.size k.size, fun i hi hs => by
    have h1 := h.block i hi hs
    rw [k.block i (Nat.lt_of_lt_of_le hi h.size) (fun ⟨e1, T, e2, cs, fr, e3⟩ => hs ⟨e1, T, e2, cs, fr, by rw [← h1]; exact e3⟩), h1]⟩
theorem kS_none (h : Keeps (fun _ => False) w w') : KeepsS P w w' := h.mono fun k _ e => e.elim
theorem KeepsS.at {b : Nat} {cs : Array Value} {T : TypeId} {fr : Nat × Nat} (h : KeepsS P w w') (hb : w.heap[b]? = some (.cells cs T fr)) (hT : T ∉ SchTys) : w'.heap[b]? = some (.cells cs T fr) :=
  Keeps.at h hb fun ⟨_, e⟩ => KeepsTy.apart ⟨cs, fr, hb⟩ hT e
theorem KeepsS.toP (h : KeepsS P w w') : Keeps P w w' := h.mono fun k _ e => e.1
theorem kS_old {b : Nat} {o : Obj} (h : KeepsS P w w') (hb : w.heap[b]? = some o) (hP : ¬ P b) : w'.heap[b]? = some o := Keeps.at h hb fun e => hP e.1
theorem ScW.same {M' : ScM} (h : ScW w P a M) (e : M = M') : ScW w P a M' := e ▸ h
end
theorem upd_same {α : Type} (f : Nat → α) (t : Nat) : upd f t (f t) = f := by
  funext j
  unfold upd
  split
  · rename_i e; rw [e]
  · rfl
end Go.Proofs.YthnmlklgbggmbaaGreat
namespace Go.Proofs.YthnmlklgbggmbaaGreat
open Go.ChangeShapes Go.WideShapes Go.ChangeAt Go.RowKit
set_option linter.unusedVariables false
set_option linter.unusedSimpArgs false
def goM (M : ScM) (t : Nat) (s : Int) : ScM := if M.st t = 1 then { M with st := upd M.st t s } else M
def giveM (M : ScM) (t : Nat) (x : Bool × Int × Int) : ScM := if M.st t = 1 then { M with ans := upd M.ans t (some x) } else M
def wakeM (M : ScM) (t : Nat) (x : Bool × Int × Int) : ScM := if M.st t = 2 ∨ M.st t = 3 then { M with st := upd M.st t 1, ans := upd M.ans t (some x) } else M
def addD (T : Int → Nat) (t : Nat) (n : Nat) : Int → Nat := if T (t : Int) = 0 ∧ 0 < n then fun z => if z = (t : Int) then n else T z else T
def ansV : Option (Bool × Int × Int) → Value
  | some v => .agg #[.bool v.1, .int .u32 v.2.1, .int .u32 v.2.2]
  | none => .agg #[.bool false, .int .u32 0, .int .u32 0]
theorem sc_state (w : World) (P : Nat → Prop) (a : ScA) (M : ScM) (h : ScW w P a M) (t : Nat) (ht : t < M.many) :
    Calls Tryz.prog 77 #[.pointer (some ⟨a.tb t, 0, none⟩)] w fun e w' => e = .returned (.int .i64 (M.st t)) ∧ w = w' := state_any _ _ _ _ w (h.task t ht)
theorem sc_go (w : World) (P : Nat → Prop) (a : ScA) (M : ScM) (h : ScW w P a M) (t : Nat) (ht : t < M.many) (s : Int) (hs : s = 2 ∨ s = 3 ∨ s = 4) :
    Calls Tryz.prog 75 #[.pointer (some ⟨a.tb t, 0, none⟩), .int .i64 s] w fun e w' => e = .returned (.bool (decide (M.st t = 1))) ∧ ScW w' P a (goM M t s) ∧ KeepsS P w w' := by
  unfold goM
  have hT := h.task t ht
  by_cases e1 : M.st t = 1
  · rw [if_pos e1, decide_eq_true e1]
    rw [e1] at hT
    refine (go_yes (a.tb t) _ _ s w hs hT).mono ?_
    rintro e w' ⟨rfl, hT', hk⟩
    exact ⟨rfl, (h.setTask t ht hk hT' (by omega) (h.small t ht)).same (by rw [upd_same, upd_same]), (hk.mono fun k _ e => by rw [e]; exact ⟨h.low.2.2.2.2 t ht, _, .tail _ (.head _), task_ty (h.task t ht)⟩)⟩
  · rw [if_neg e1, decide_eq_false e1]
    refine (go_no (a.tb t) _ _ _ s w (by simpa using e1) hT).mono ?_
    rintro e w' ⟨rfl, rfl⟩
    exact ⟨rfl, h, Keeps.refl _ _⟩
theorem sc_give (w : World) (P : Nat → Prop) (a : ScA) (M : ScM) (h : ScW w P a M) (t : Nat) (ht : t < M.many) (x : Bool) (y z : Int) :
    Calls Tryz.prog 131 #[.pointer (some ⟨a.tb t, 0, none⟩), .agg #[.bool x, .int .u32 y, .int .u32 z]] w fun e w' => e = .returned (.bool (decide (M.st t = 1))) ∧ ScW w' P a (giveM M t (x, y, z)) ∧ KeepsS P w w' := by
  unfold giveM
  have hT := h.task t ht
  by_cases e1 : M.st t = 1
  · rw [if_pos e1, decide_eq_true e1]
    rw [e1] at hT
    refine (give_any (a.tb t) _ _ x y z w hT).mono ?_
    rintro e w' ⟨rfl, hT', hk⟩
    exact ⟨rfl, (h.setTask t ht hk hT' (by omega) (h.small t ht)).same (by rw [← e1, upd_same, upd_same]), (hk.mono fun k _ e => by rw [e]; exact ⟨h.low.2.2.2.2 t ht, _, .tail _ (.head _), task_ty (h.task t ht)⟩)⟩
  · rw [if_neg e1, decide_eq_false e1]
    refine (give_no (a.tb t) _ _ _ x y z w (by simpa using e1) hT).mono ?_
    rintro e w' ⟨rfl, hk⟩
    exact ⟨rfl, h.quiet hk, hk.mono fun k _ e => e.elim⟩
theorem sc_wake (w : World) (P : Nat → Prop) (a : ScA) (M : ScM) (h : ScW w P a M) (t : Nat) (ht : t < M.many) (x : Bool) (y z : Int) :
    Calls Tryz.prog 174 #[.pointer (some ⟨a.tb t, 0, none⟩), .agg #[.bool x, .int .u32 y, .int .u32 z]] w fun e w' => e = .returned (.bool (decide (M.st t = 2 ∨ M.st t = 3))) ∧ ScW w' P a (wakeM M t (x, y, z)) ∧ KeepsS P w w' := by
  unfold wakeM
  have hT := h.task t ht
  by_cases e1 : M.st t = 2 ∨ M.st t = 3
  · rw [if_pos e1, decide_eq_true e1]
    refine (wake_yes (a.tb t) _ _ _ x y z w e1 hT).mono ?_
    rintro e w' ⟨rfl, hT', hk⟩
    exact ⟨rfl, (h.setTask t ht hk hT' (by omega) (h.small t ht)).same (by rw [upd_same]), (hk.mono fun k _ e => by rw [e]; exact ⟨h.low.2.2.2.2 t ht, _, .tail _ (.head _), task_ty (h.task t ht)⟩)⟩
  · rw [if_neg e1, decide_eq_false e1]
    refine (wake_no (a.tb t) _ _ _ x y z w (by simp; omega) (by simp; omega) hT).mono ?_
    rintro e w' ⟨rfl, hk⟩
    exact ⟨rfl, h.quiet hk, hk.mono fun k _ e => e.elim⟩
theorem sc_note (w : World) (P : Nat → Prop) (a : ScA) (M : ScM) (h : ScW w P a M) (t : Nat) (ht : t < M.many) (m : Nat) (hm : m < 4294967296) :
    Calls Tryz.prog 142 #[.pointer (some ⟨a.tb t, 0, none⟩), .int .u32 (m : Int)] w fun e w' => e = .returned (.int .u32 ((M.bits t ||| m : Nat) : Int)) ∧ ScW w' P a { M with bits := upd M.bits t (M.bits t ||| m) } ∧ KeepsS P w w' := by
  have hT := h.task t ht
  refine (note_any (a.tb t) _ _ m _ w (by have := h.live t ht; simp; omega) (h.small t ht) hm hT).mono ?_
  rintro e w' ⟨rfl, hT', hk⟩
  exact ⟨rfl, (h.setTask t ht hk hT' (h.live t ht) (Nat.or_lt_two_pow (n := 32) (h.small t ht) hm)).same (by rw [upd_same, upd_same]), (hk.mono fun k _ e => by rw [e]; exact ⟨h.low.2.2.2.2 t ht, _, .tail _ (.head _), task_ty (h.task t ht)⟩)⟩
theorem sc_bits (w : World) (P : Nat → Prop) (a : ScA) (M : ScM) (h : ScW w P a M) (t : Nat) (ht : t < M.many) :
    Calls Tryz.prog 164 #[.pointer (some ⟨a.tb t, 0, none⟩)] w fun e w' => e = .returned (.int .u32 (M.bits t : Int)) ∧ ScW w' P a M ∧ KeepsS P w w' := by
  have hT := h.task t ht
  refine (bits_any (a.tb t) _ _ _ w (by have := h.live t ht; simp; omega) hT).mono ?_
  rintro e w' ⟨rfl, hT', hk⟩
  exact ⟨rfl, (h.setTask t ht hk hT' (h.live t ht) (h.small t ht)).same (by rw [upd_same, upd_same, upd_same]), (hk.mono fun k _ e => by rw [e]; exact ⟨h.low.2.2.2.2 t ht, _, .tail _ (.head _), task_ty (h.task t ht)⟩)⟩
theorem sc_clear (w : World) (P : Nat → Prop) (a : ScA) (M : ScM) (h : ScW w P a M) (t : Nat) (ht : t < M.many) :
    Calls Tryz.prog 135 #[.pointer (some ⟨a.tb t, 0, none⟩)] w fun e w' => e = .returned (.int .u32 (M.bits t : Int)) ∧ ScW w' P a { M with bits := upd M.bits t 0 } ∧ KeepsS P w w' := by
  have hT := h.task t ht
  refine (clear_any (a.tb t) _ _ _ w (by have := h.live t ht; simp; omega) hT).mono ?_
  rintro e w' ⟨rfl, hT', hk⟩
  exact ⟨rfl, (h.setTask t ht hk (bits := 0) hT' (h.live t ht) (by omega)).same (by rw [upd_same, upd_same]), (hk.mono fun k _ e => by rw [e]; exact ⟨h.low.2.2.2.2 t ht, _, .tail _ (.head _), task_ty (h.task t ht)⟩)⟩
theorem rem_in {R : RkT} {t : Int} {x : Nat} (h : (remT R t).2 x ≠ 0) : R.2 x ≠ 0 := by
  unfold remT at h
  split at h
  · have h' : (if x = t.toNat then 0 else R.2 x) ≠ 0 := h
    split at h'
    · exact absurd rfl h'
    · exact h'
  · exact h
theorem add_in {R : RkT} {n t : Nat} {p : Int} (h : ∀ x, x < 16 → R.2 x ≠ 0 → x < n) (ht : t < n) (x : Nat) (hx : x < 16) (hne : (addT R (t : Int) p).2 x ≠ 0) : x < n := by
  unfold addT at hne
  split at hne
  · have h' : (if x = ((t : Int)).toNat then p.toNat + 1 else R.2 x) ≠ 0 := hne
    split at h'
    · omega
    · exact h x hx h'
  · exact h x hx hne
theorem turn_in {R : RkT} {t : Int} {x : Nat} (h : (turnT R t).2 x ≠ 0) : R.2 x ≠ 0 := by
  unfold turnT at h
  split at h
  · rename_i hc
    unfold addT at h
    split at h
    · have h' : (if x = t.toNat then _ else (remT R t).2 x) ≠ 0 := h
      split at h'
      · rename_i e
        have := of_decide_eq_true hc
        rw [e]
        exact this.2
      · exact rem_in h'
    · exact rem_in h
  · exact h
theorem sc_radd (w : World) (P : Nat → Prop) (a : ScA) (M : ScM) (h : ScW w P a M) (t : Nat) (ht : t < M.many) (p : Int) :
    Calls Tryz.prog 74 #[.pointer (some ⟨a.rk, 0, none⟩), .int .i64 (t : Int), .int .i64 p] w fun e w' => e = .returned (.bool (canAdd M.R.2 (t : Int) p)) ∧ ScW w' P a { M with R := addT M.R (t : Int) p } ∧ KeepsS P w w' := by
  refine (rks_add w a.rk M.R h.rank (t : Int) p).mono ?_
  rintro e w' ⟨rfl, hr, hk⟩
  have hty := rank_ty h.rank
  have hkt : KeepsTy [154] w w' := keepsTy hk fun k _ e => ⟨_, .head _, by rw [e]; exact hty⟩
  refine ⟨rfl, { h with
    blk := ?_
    task := h.taskK hkt (by decide) (by decide)
    rank := hr
    delta := h.deltaK hkt (by decide) (by decide)
    queue := h.queueK hkt (by decide) (by decide)
    new := h.newK hk
    rin := ?_ }, hk.mono fun k _ e => by rw [e]; exact ⟨h.low.2.1, _, .tail _ (.tail _ (.head _)), hty⟩⟩
  rotate_left
  · exact fun x hx hne => add_in (fun x hx hne => h.rin x hx hne) ht x hx hne
  obtain ⟨cs, h1, h2⟩ := h.blkK hkt (by decide)
  exact ⟨cs, h1, ⟨h2.size, h2.task, h2.prio, h2.many, h2.cur, h2.rk, h2.D, h2.Q⟩⟩
theorem sc_rrem (w : World) (P : Nat → Prop) (a : ScA) (M : ScM) (h : ScW w P a M) (t : Int) :
    Calls Tryz.prog 169 #[.pointer (some ⟨a.rk, 0, none⟩), .int .i64 t] w fun e w' => e = .returned (.bool (canRem M.R.2 t)) ∧ ScW w' P a { M with R := remT M.R t } ∧ KeepsS P w w' := by
  refine (rks_rem w a.rk M.R h.rank t).mono ?_
  rintro e w' ⟨rfl, hr, hk⟩
  have hty := rank_ty h.rank
  have hkt : KeepsTy [154] w w' := keepsTy hk fun k _ e => ⟨_, .head _, by rw [e]; exact hty⟩
  refine ⟨rfl, { h with
    blk := ?_
    task := h.taskK hkt (by decide) (by decide)
    rank := hr
    delta := h.deltaK hkt (by decide) (by decide)
    queue := h.queueK hkt (by decide) (by decide)
    new := h.newK hk
    rin := ?_ }, hk.mono fun k _ e => by rw [e]; exact ⟨h.low.2.1, _, .tail _ (.tail _ (.head _)), hty⟩⟩
  rotate_left
  · exact fun x hx hne => h.rin x hx (rem_in hne)
  obtain ⟨cs, h1, h2⟩ := h.blkK hkt (by decide)
  exact ⟨cs, h1, ⟨h2.size, h2.task, h2.prio, h2.many, h2.cur, h2.rk, h2.D, h2.Q⟩⟩
theorem sc_rturn (w : World) (P : Nat → Prop) (a : ScA) (M : ScM) (h : ScW w P a M) (t : Int) :
    Calls Tryz.prog 134 #[.pointer (some ⟨a.rk, 0, none⟩), .int .i64 t] w fun e w' => e = .returned (.bool (canRem M.R.2 t)) ∧ ScW w' P a { M with R := turnT M.R t } ∧ KeepsS P w w' := by
  refine (rks_turn w a.rk M.R h.rank t).mono ?_
  rintro e w' ⟨rfl, hr, hk⟩
  have hty := rank_ty h.rank
  have hkt : KeepsTy [154] w w' := keepsTy hk fun k _ e => ⟨_, .head _, by rw [e]; exact hty⟩
  refine ⟨rfl, { h with
    blk := ?_
    task := h.taskK hkt (by decide) (by decide)
    rank := hr
    delta := h.deltaK hkt (by decide) (by decide)
    queue := h.queueK hkt (by decide) (by decide)
    new := h.newK hk
    rin := ?_ }, hk.mono fun k _ e => by rw [e]; exact ⟨h.low.2.1, _, .tail _ (.tail _ (.head _)), hty⟩⟩
  rotate_left
  · exact fun x hx hne => h.rin x hx (turn_in hne)
  obtain ⟨cs, h1, h2⟩ := h.blkK hkt (by decide)
  exact ⟨cs, h1, ⟨h2.size, h2.task, h2.prio, h2.many, h2.cur, h2.rk, h2.D, h2.Q⟩⟩
theorem sc_rfirst (w : World) (P : Nat → Prop) (a : ScA) (M : ScM) (h : ScW w P a M) :
    Calls Tryz.prog 127 #[.pointer (some ⟨a.rk, 0, none⟩)] w fun e w' => e = .returned (.tuple #[.int .i64 ((listT M.R).headD 0 : Int), .bool (!(listT M.R).isEmpty)]) ∧ w = w' := rks_first w a.rk M.R h.rank
theorem sc_rlist (w : World) (P : Nat → Prop) (a : ScA) (M : ScM) (h : ScW w P a M) :
    Calls Tryz.prog 53 #[.pointer (some ⟨a.rk, 0, none⟩)] w fun e w' => ∃ v, e = .returned v ∧ w'.ownsRow w.heap.size 3 1 v (listT M.R).length (ints (listT M.R)) ∧ ScW w' P a M ∧ Keeps (fun _ => False) w w' := by
  refine (rks_list w a.rk M.R h.rank).mono ?_
  rintro e w' ⟨v, rfl, hv, hk⟩
  exact ⟨v, rfl, hv, h.quiet hk, hk⟩
theorem ScW.setDelta {w w' : World} {P : Nat → Prop} {a : ScA} {M : ScM} (h : ScW w P a M) {L L' : List Nd} {T' : Int → Nat} (hd : IsDelta w a.D L) (hl : ∀ (i : Nat) (nd : Nd), L[i]? = some nd → P nd.g) (hk : Keeps (Own a.D L) w w')
    (hd' : IsDelta w' a.D L') (habs : Abs L' T') (hlow : ∀ (i : Nat) (nd : Nd), L'[i]? = some nd → P nd.g) (htin : ∀ t, T' t ≠ 0 → 0 ≤ t ∧ t < (M.many : Int)) : ScW w' P a { M with T := T' } ∧ KeepsS P w w' := by
  have hkt : KeepsTy [157, 172] w w' := keepsTy hk fun k _ e => delta_ty hd e
  refine ⟨{ h with
    blk := ?_
    task := h.taskK hkt (by decide) (by decide)
    rank := rank_kept h.rank hkt (by decide)
    delta := ⟨L', hd', habs, hlow⟩
    tin := htin
    queue := h.queueK hkt (by decide) (by decide)
    new := h.newK hk }, hk.mono fun k _ e => ?_⟩
  · obtain ⟨cs, h1, h2⟩ := h.blkK hkt (by decide)
    exact ⟨cs, h1, ⟨h2.size, h2.task, h2.prio, h2.many, h2.cur, h2.rk, h2.D, h2.Q⟩⟩
  · rcases e with rfl | ⟨i, x, hx, rfl⟩
    · exact ⟨h.low.2.2.1, _, .tail _ (.tail _ (.tail _ (.head _))), _, _, hd.head⟩
    · exact ⟨hl i x hx, _, .tail _ (.tail _ (.tail _ (.tail _ (.head _)))), _, _, hd.node i x hx⟩
theorem sc_dadd (w : World) (P : Nat → Prop) (a : ScA) (M : ScM) (h : ScW w P a M) (t : Nat) (ht : t < M.many) (n : Nat) (hn : n < 4294967296) :
    Calls Tryz.prog 186 #[.pointer (some ⟨a.D, 0, none⟩), .int .i64 (t : Int), .int .u32 (n : Int)] w fun e w' => e = .returned (.bool (decide (M.T (t : Int) = 0 ∧ 0 < n))) ∧ ScW w' P a { M with T := addD M.T t n } ∧ KeepsS P w w' := by
  obtain ⟨L, hd, ha, hl⟩ := h.delta
  have h16 : (t : Int) < 16 := by have := h.le; omega
  unfold addD
  by_cases h0 : M.T (t : Int) = 0 ∧ 0 < n
  · rw [if_pos h0, decide_eq_true h0]
    refine (dadd_yes a.D L t n w hd ha.lt (ha.no h0.1) (by omega) h16 h0.2 hn ha.x_lt).mono ?_
    rintro e w' ⟨rfl, L', k, g, hI, h1, h2, hg, hd', hk⟩
    refine ⟨rfl, h.setDelta hd hl hk hd' (ha.add hI h1 h2 h0.1 ⟨by omega, h16⟩ h0.2 hn) (fun i x hx => ?_) fun z hz => ?_⟩
    · rcases hI.cases hx with ⟨c1, c2⟩ | ⟨rfl, rfl⟩ | ⟨rfl, b, c2, rfl⟩ | ⟨c1, c2⟩
      · exact hl i x c2
      · exact h.new _ hg
      · exact hl k b c2
      · exact hl (i - 1) x c2
    · by_cases e : z = (t : Int)
      · omega
      · rw [if_neg e] at hz
        exact h.tin z hz
  · rw [if_neg h0, decide_eq_false h0]
    by_cases hT : M.T (t : Int) = 0
    · refine (dadd_zero a.D L t n w hd ha.lt (ha.no hT) ⟨by omega, h16⟩ (by omega)).mono ?_
      rintro e w' ⟨rfl, hk⟩
      exact ⟨rfl, h.quiet hk, hk.mono fun k _ e => e.elim⟩
    · obtain ⟨k, x, hx, he, hfirst, _⟩ := ha.yes hT
      refine (dadd_in a.D L t n w hd ha.lt k x ⟨hx, he, hfirst⟩).mono ?_
      rintro e w' ⟨rfl, hk⟩
      exact ⟨rfl, h.quiet hk, hk.mono fun k _ e => e.elim⟩
theorem sc_drem (w : World) (P : Nat → Prop) (a : ScA) (M : ScM) (h : ScW w P a M) (t : Int) :
    Calls Tryz.prog 144 #[.pointer (some ⟨a.D, 0, none⟩), .int .i64 t] w fun e w' => e = .returned (.tuple #[.int .u32 (M.T t : Int), .bool (decide (M.T t ≠ 0))]) ∧ ScW w' P a { M with T := fun z => if z = t then 0 else M.T z } ∧ KeepsS P w w' := by
  obtain ⟨L, hd, ha, hl⟩ := h.delta
  by_cases h0 : M.T t = 0
  · have e : (fun z => if z = t then 0 else M.T z) = M.T := funext fun z => by by_cases e : z = t; subst e; rw [if_pos rfl, h0]; rw [if_neg e]
    rw [e, h0, decide_eq_false (by omega)]
    refine (drem_no a.D L t w hd ha.lt (ha.no h0)).mono ?_
    rintro e w' ⟨rfl, hk⟩
    exact ⟨rfl, h.quiet hk, hk.mono fun k _ e => e.elim⟩
  · obtain ⟨k, x, hx, he, hfirst, hs⟩ := ha.yes h0
    rw [decide_eq_true h0, ← hs]
    refine (drem_yes a.D L t k x w hd ha.lt ha.x_lt ⟨hx, he, hfirst⟩).mono ?_
    rintro e w' ⟨rfl, L', hI, hd', hk⟩
    have habs := ha.del hI
    rw [he] at habs
    refine ⟨rfl, h.setDelta hd hl hk hd' habs (fun i y hy => ?_) fun z hz => ?_⟩
    · rcases hI.cases hy with ⟨c1, c2⟩ | ⟨rfl, b, c2, rfl⟩ | ⟨c1, c2⟩
      · exact hl i y c2
      · exact hl (i + 1) b c2
      · exact hl (i + 1) y c2
    · by_cases e : z = t
      · rw [if_pos e] at hz; exact absurd rfl hz
      · rw [if_neg e] at hz
        exact h.tin z hz
theorem sc_dleft (w : World) (P : Nat → Prop) (a : ScA) (M : ScM) (h : ScW w P a M) (t : Int) :
    Calls Tryz.prog 180 #[.pointer (some ⟨a.D, 0, none⟩), .int .i64 t] w fun e w' => e = .returned (.tuple #[.int .u32 (M.T t : Int), .bool (decide (M.T t ≠ 0))]) ∧ ScW w' P a M ∧ KeepsS P w w' := by
  obtain ⟨L, hd, ha, hl⟩ := h.delta
  by_cases h0 : M.T t = 0
  · rw [h0, decide_eq_false (by omega)]
    refine (dleft_no a.D L t w hd ha.lt (ha.no h0)).mono ?_
    rintro e w' ⟨rfl, hk⟩
    exact ⟨rfl, h.quiet hk, hk.mono fun k _ e => e.elim⟩
  · obtain ⟨k, x, hx, he, hfirst, hs⟩ := ha.yes h0
    rw [decide_eq_true h0, ← hs]
    refine (dleft_yes a.D L t w hd ha.lt k x ⟨hx, he, hfirst⟩).mono ?_
    rintro e w' ⟨rfl, hk⟩
    exact ⟨rfl, h.quiet hk, hk.mono fun k _ e => e.elim⟩
/-- Who is told: each whose last tick it is, once. -/
structure ToldN (T : Int → Nat) (l : List Int) : Prop where
  one : ∀ t, t ∈ l ↔ T t = 1
  nd : l.Nodup
theorem told_nodup {a : Nd} {r : List Nd} {T : Int → Nat} {k : Nat} (hA : Abs (a :: r) T) (hk : k ≤ r.length + 1)
    (hz : ∀ (i : Nat) (b : Nd), i < k → (⟨a.g, a.t, a.x - 1⟩ :: r : List Nd)[i]? = some b → b.x = 0) (hnz : ∀ b : Nd, (⟨a.g, a.t, a.x - 1⟩ :: r : List Nd)[k]? = some b → b.x ≠ 0) : ToldN T ((List.range k).map (tk (⟨a.g, a.t, a.x - 1⟩ :: r))) := by
  have h1 : 1 ≤ a.x := by
    have h3 : 0 < sumX (a :: r) 1 := hA.pos 0 a rfl
    have h2 : sumX (a :: r) 1 = 0 + a.x := rfl
    omega
  have at_ : ∀ j, j ≤ r.length → ∃ b, (a :: r)[j]? = some b ∧ tk (⟨a.g, a.t, a.x - 1⟩ :: r) j = b.t := by
    intro j hj
    cases j with
    | zero => exact ⟨a, rfl, rfl⟩
    | succ z =>
      have hb := List.getElem?_eq_getElem (l := r) (i := z) (by omega)
      exact ⟨r[z], hb, tk_some (L := ⟨a.g, a.t, a.x - 1⟩ :: r) (i := z + 1) hb⟩
  have sum1 : ∀ j, j < k → sumX (a :: r) (j + 1) = 1 := by
    intro j hj
    have := sumX_dec a r h1 j
    have := sumX_zero (L := ⟨a.g, a.t, a.x - 1⟩ :: r) (j + 1) fun i b hi hb => hz i b (by omega) hb
    omega
  refine ⟨fun t => ⟨fun h => ?_, fun ht => ?_⟩, ?_⟩
  · obtain ⟨j, hj, rfl⟩ := List.mem_map.1 h
    have hj := List.mem_range.1 hj
    obtain ⟨y, f1, f2⟩ := at_ j (by omega)
    rw [f2, hA.mem j y f1, sum1 j hj]
  · obtain ⟨q, b, hb, he, _, hs⟩ := hA.yes (t := t) (by omega)
    have hq := get_lt hb
    simp only [List.length_cons] at hq
    have hqk : q < k := by
      rcases Nat.lt_or_ge q k with c | c
      · exact c
      · exfalso
        have hkl : k < (⟨a.g, a.t, a.x - 1⟩ :: r : List Nd).length := by simp only [List.length_cons]; omega
        have hkn := List.getElem?_eq_getElem hkl
        have n0 := hnz _ hkn
        have s1 := sumX_succ hkn
        have s2 := sumX_mono (⟨a.g, a.t, a.x - 1⟩ :: r) (show k + 1 ≤ q + 1 by omega)
        have s3 := sumX_dec a r h1 q
        omega
    refine List.mem_map.2 ⟨q, List.mem_range.2 hqk, ?_⟩
    obtain ⟨y, f1, f2⟩ := at_ q (by omega)
    rw [hb] at f1
    cases f1
    rw [f2, he]
  · refine List.pairwise_map.2 (List.Pairwise.imp_of_mem (fun {i j} hi hj hij => ?_) (List.nodup_range (n := k)))
    have hi := List.mem_range.1 hi
    have hj := List.mem_range.1 hj
    obtain ⟨x, e1, e2⟩ := at_ i (by omega)
    obtain ⟨y, f1, f2⟩ := at_ j (by omega)
    intro e
    rw [e2, f2] at e
    exact hij (hA.uniq i j x y e1 f1 e)
theorem cntT_le (T : Int → Nat) : ∀ n, cntT T n ≤ n
  | 0 => Nat.le_refl _
  | n + 1 => by
    have := cntT_le T n
    show cntT T n + (if T n = 0 then 0 else 1) ≤ n + 1
    split <;> omega
theorem sc_dtick (w : World) (P : Nat → Prop) (a : ScA) (M : ScM) (h : ScW w P a M) :
    Calls Tryz.prog 137 #[.pointer (some ⟨a.D, 0, none⟩)] w fun e w' => ∃ v l, e = .returned v ∧ ToldN M.T l ∧ l.length ≤ 16 ∧ w'.ownsRow w.heap.size 3 1 v l.length (l.map (Value.int .i64)) ∧ ScW w' P a { M with T := fun t => M.T t - 1 } ∧ KeepsS P w w' := by
  obtain ⟨L, hd, ha, hl⟩ := h.delta
  cases L with
  | nil =>
    refine (dtick_none a.D w hd).mono ?_
    rintro e w' ⟨rfl, rfl⟩
    have h0 : ∀ z, M.T z = 0 := fun z => by
      by_cases e : M.T z = 0
      · exact e
      · obtain ⟨k, x, hx, _⟩ := ha.all z e
        simp at hx
    refine ⟨_, [], rfl, ⟨fun t => ⟨fun h => (by cases h), fun e => (by have := h0 t; omega)⟩, List.nodup_nil⟩, by simp, World.ownsRow_nil _ _ _ _, h.same ?_, Keeps.refl _ _⟩
    have : (fun t => M.T t - 1) = M.T := funext fun z => by rw [h0]
    rw [this]
  | cons x r =>
    have h3 : 0 < sumX (x :: r) 1 := ha.pos 0 x rfl
    have h2 : sumX (x :: r) 1 = 0 + x.x := rfl
    have hlen : (x :: r).length ≤ 16 := by
      rw [ha.count 16 fun t ht => ?_]
      · exact cntT_le _ _
      · by_cases e : M.T t = 0
        · exact e
        · have := h.tin t e
          have := h.le
          omega
    simp only [List.length_cons] at hlen
    refine (dtick_some a.D x r w hd (by omega) (by omega) ha.x_lt).mono ?_
    rintro e w' ⟨v, rfl, k, hk, hz, hnz, ho, hd', hK⟩
    have hk' : k ≤ r.length + 1 := by simpa using hk
    have htold := told_nodup ha hk' hz hnz
    refine ⟨v, _, rfl, htold, by simp; omega, (by rw [List.length_map, List.length_range, List.map_map]; exact ho), h.setDelta hd hl hK hd' (ha.tick hk hz hnz) (fun i b hb => ?_) fun z hz' => ?_⟩
    · rw [List.getElem?_drop] at hb
      cases hki : k + i with
      | zero => rw [hki] at hb; cases hb; exact hl 0 x rfl
      | succ j => rw [hki] at hb; exact hl (j + 1) b hb
    · exact h.tin z (by intro e; rw [e] at hz'; exact hz' rfl)
def fndW (W : List WaitT) (t : Int) : Option WaitT := W.find? fun v => v.1 == t
def remW (W : List WaitT) (t : Int) : List WaitT := W.filter fun v => v.1 != t
def addW (W : List WaitT) (v : WaitT) : List WaitT := if (fndW W v.1).isSome then W else W ++ [v]
def waitV : Option WaitT → Value
  | some v => .agg #[.int .i64 v.1, .int .i64 v.2.1, .int .i64 v.2.2.1, .int .u32 (v.2.2.2 : Int)]
  | none => zv
theorem fnd_wait (N : List QN) (t : Int) : (fnd N t).map QN.wait = fndW (N.map QN.wait) t := by
  unfold fnd fndW
  rw [List.find?_map]
  rfl
theorem wv_wait (o : Option QN) : wv o = waitV (o.map QN.wait) := by cases o <;> rfl
theorem wo_wait (N : List QN) (t : Int) : (wo N t).map QN.wait = remW (N.map QN.wait) t := by
  unfold wo remW
  rw [List.filter_map]
  rfl
theorem ScW.setQueue {w w' : World} {P : Nat → Prop} {a : ScA} {M : ScM} (h : ScW w P a M) {N N' : List QN} {b b' : Bool} (hq : IsQ w a.Q N b) (hl : ∀ x, x ∈ N → P x.g) (hk : Keeps (RS a.Q N) w w')
    (hq' : IsQ w' a.Q N' b') (hg : Good N') (hl' : ∀ x, x ∈ N' → P x.g) : ScW w' P a { M with W := N'.map QN.wait } ∧ KeepsS P w w' := by
  have hkt : KeepsTy [162, 160] w w' := keepsTy hk fun k _ e => queue_ty hq e
  refine ⟨{ h with
    blk := ?_
    task := h.taskK hkt (by decide) (by decide)
    rank := rank_kept h.rank hkt (by decide)
    delta := h.deltaK hkt (by decide) (by decide)
    queue := ⟨N', b', hq', hg, rfl, hl'⟩
    new := h.newK hk }, hk.mono fun k _ e => ?_⟩
  · obtain ⟨cs, h1, h2⟩ := h.blkK hkt (by decide)
    exact ⟨cs, h1, ⟨h2.size, h2.task, h2.prio, h2.many, h2.cur, h2.rk, h2.D, h2.Q⟩⟩
  · obtain ⟨T, hT, hty⟩ := queue_ty hq e
    refine ⟨?_, T, (by rcases List.mem_cons.1 hT with rfl | hT; decide; rcases List.mem_cons.1 hT with rfl | hT; decide; cases hT), hty⟩
    rcases e with rfl | ⟨x, hx, rfl⟩
    · exact h.low.2.2.2.1
    · exact hl x hx
theorem keeps_below {w w' : World} {S : Nat → Prop} (h : Below w.heap.size w w') : Keeps S w w' := keeps_of_below h (Nat.le_refl _) S
theorem sc_qadd (w : World) (P : Nat → Prop) (a : ScA) (M : ScM) (h : ScW w P a M) (t : Nat) (ht : t < M.many) (k o : Int) (m : Nat) :
    Calls Tryz.prog 79 #[.pointer (some ⟨a.Q, 0, none⟩), .agg #[.int .i64 (t : Int), .int .i64 k, .int .i64 o, .int .u32 (m : Int)]] w fun e w' => e = .returned (.bool (fndW M.W (t : Int)).isNone) ∧ ScW w' P a { M with W := addW M.W ((t : Int), k, o, m) } ∧ KeepsS P w w' := by
  obtain ⟨N, b, hq, hg, hW, hl⟩ := h.queue
  have h16 : (t : Int) < 16 := by have := h.le; omega
  have hf := fnd_wait N (t : Int)
  rw [hW] at hf
  unfold addW
  show Calls _ _ #[_, av (t : Int) k o m] w _
  cases hN : fnd N (t : Int) with
  | none =>
    rw [hN] at hf
    rw [← hf]
    refine (Add_yes a.Q N b t k o m w hq ⟨by omega, h16⟩ hN).mono ?_
    rintro e w' ⟨rfl, g, hgl, hq', hk⟩
    have hs := h.setQueue hq hl hk hq' (good_add hg ⟨g, t, k, o, m⟩ ⟨by show (0 : Int) ≤ t; omega, h16⟩ hN) fun x hx => ?_
    · refine ⟨rfl, hs.1.same ?_, hs.2⟩
      rw [List.map_append, hW]
      rfl
    · rcases List.mem_append.1 hx with h3 | h3
      · exact hl x h3
      · obtain rfl := List.mem_singleton.1 h3
        exact h.new _ hgl
  | some y =>
    rw [hN] at hf
    rw [← hf]
    refine (Add_twice a.Q N b t k o m w hq ⟨by omega, h16⟩ y hN).mono ?_
    rintro e w' ⟨rfl, hk⟩
    exact ⟨rfl, h.quiet (keeps_below hk), keeps_below hk⟩
theorem sc_qrem (w : World) (P : Nat → Prop) (a : ScA) (M : ScM) (h : ScW w P a M) (t : Int) :
    Calls Tryz.prog 138 #[.pointer (some ⟨a.Q, 0, none⟩), .int .i64 t] w fun e w' => e = .returned (.tuple #[waitV (fndW M.W t), .bool (fndW M.W t).isSome]) ∧ ScW w' P a { M with W := remW M.W t } ∧ KeepsS P w w' := by
  obtain ⟨N, b, hq, hg, hW, hl⟩ := h.queue
  have hf := fnd_wait N t
  have hr := wo_wait N t
  rw [hW] at hf hr
  rw [← hf, ← hr, ← wv_wait]
  cases hN : fnd N t with
  | none =>
    refine (Remove_no (some ⟨a.Q, 0, none⟩) N t w (.inr ⟨a.Q, b, rfl, hq⟩) hN).mono ?_
    rintro e w' ⟨rfl, hk⟩
    refine ⟨rfl, (h.quiet (keeps_below hk)).same ?_, keeps_below hk⟩
    rw [wo_none hN, hW]
  | some y =>
    obtain ⟨hy, N1, N2, rfl, hP⟩ := List.find?_eq_some_iff_append.1 hN
    have hyt : y.t = t := by simpa using hy
    have hPt : ∀ z, z ∈ N1 → z.t ≠ t := fun z hz => by simpa using hP z hz
    refine (Remove_yes a.Q N1 N2 y b t w hq hyt hPt).mono ?_
    rintro e w' ⟨rfl, hq', hk⟩
    have hs := h.setQueue hq hl hk hq' (good_drop hg) fun x hx => hl x (by rcases List.mem_append.1 hx with h1 | h1; exact List.mem_append.2 (.inl h1); exact List.mem_append.2 (.inr (.tail _ h1)))
    refine ⟨rfl, hs.1.same ?_, hs.2⟩
    rw [← hyt, wo_drop hg]
theorem sc_qfind (w : World) (P : Nat → Prop) (a : ScA) (M : ScM) (h : ScW w P a M) (t : Int) :
    Calls Tryz.prog 146 #[.pointer (some ⟨a.Q, 0, none⟩), .int .i64 t] w fun e w' => e = .returned (.tuple #[waitV (fndW M.W t), .bool (fndW M.W t).isSome]) ∧ ScW w' P a M ∧ KeepsS P w w' := by
  obtain ⟨N, b, hq, hg, hW, hl⟩ := h.queue
  have hf := fnd_wait N t
  rw [hW] at hf
  rw [← hf, ← wv_wait, Option.isSome_map]
  refine (Find_any (some ⟨a.Q, 0, none⟩) N t w (.inr ⟨a.Q, b, rfl, hq⟩)).mono ?_
  rintro e w' ⟨rfl, hk⟩
  exact ⟨rfl, h.quiet (keeps_below hk), keeps_below hk⟩
def waitsC (W : List WaitT) : List Value := W.flatMap fun v => [.int .i64 v.1, .int .i64 v.2.1, .int .i64 v.2.2.1, .int .u32 (v.2.2.2 : Int)]
theorem flatN_wait (N : List QN) : flatN N = waitsC (N.map QN.wait) := by
  unfold flatN waitsC
  rw [List.flatMap_map]
  rfl
theorem sc_qlist (w : World) (P : Nat → Prop) (a : ScA) (M : ScM) (h : ScW w P a M) (hm : M.W.length < 1000000) :
    Calls Tryz.prog 54 #[.pointer (some ⟨a.Q, 0, none⟩)] w fun e w' => ∃ v, e = .returned v ∧ w'.ownsRow w.heap.size 88 4 v M.W.length (waitsC M.W) ∧ ScW w' P a M ∧ Keeps (fun _ => False) w w' := by
  obtain ⟨N, b, hq, hg, hW, hl⟩ := h.queue
  have hlen : N.length = M.W.length := by rw [← hW, List.length_map]
  refine (List_any (some ⟨a.Q, 0, none⟩) N w (.inr ⟨a.Q, b, rfl, hq⟩) (by omega)).mono ?_
  rintro e w' ⟨v, rfl, hv, hk⟩
  refine ⟨v, rfl, ?_, h.quiet (keeps_below hk), keeps_below hk⟩
  rw [← hW, ← flatN_wait, List.length_map]
  exact hv
end Go.Proofs.YthnmlklgbggmbaaGreat
namespace Go.Proofs.YthnmlklgbggmbaaGreat
open Go.ChangeShapes Go.WideShapes Go.ChangeAt Go.RowKit
set_option linter.unusedVariables false
set_option linter.unusedSimpArgs false
def hasM (M : ScM) (t : Int) : Bool := decide (0 ≤ t ∧ t < (M.many : Int))
def leaveM (M : ScM) (t : Nat) (s : Int) : ScM := if M.st t = 1 then { goM M t s with R := remT M.R (t : Int) } else M
def leftM (M : ScM) (t : Nat) : Bool := decide (M.st t = 1) && canRem M.R.2 (t : Int)
def limitM (M : ScM) (t n : Nat) : ScM := if n = 4294967295 then M else { M with T := addD M.T t n }
def resumeM (M : ScM) (t : Nat) (x : Bool × Int × Int) : ScM := if M.st t = 2 ∨ M.st t = 3 then { wakeM M t x with R := addT M.R (t : Int) (M.prio t) } else M
def sleepM (M : ScM) (t n : Nat) : ScM := if leftM M t then limitM (leaveM M t 3) t n else leaveM M t 3
def waitM (M : ScM) (t : Nat) (k o : Int) (m n : Nat) : ScM := if leftM M t then limitM { leaveM M t 2 with W := addW M.W ((t : Int), k, o, m) } t n else leaveM M t 2
def noteM (M : ScM) (t b : Nat) : ScM := { M with bits := upd M.bits t (M.bits t ||| b) }
def clearM (M : ScM) (t : Nat) : ScM := { M with bits := upd M.bits t 0 }
def yieldM (M : ScM) (t : Nat) : ScM := giveM { M with R := turnT M.R (t : Int) } t (true, 0, 0)
def awaitM (M : ScM) (t n : Nat) : ScM := if M.bits t ≠ 0 then giveM (clearM M t) t (true, (M.bits t : Int), (n : Int)) else if n = 0 then giveM (clearM M t) t (false, 0, 0) else waitM (clearM M t) t 18 0 0 n
/-- What a request of the current task makes of it, and the fault. -/
def serveM (M : ScM) (k o : Int) (m d b : Nat) : ScM × Int :=
  if M.cur = -1 then (M, 15) else
  if k = 19 then (leaveM M M.cur.toNat 4, 0) else
  if k = 10 then (if hasM M o then (giveM (noteM M o.toNat b) M.cur.toNat (true, 0, 0), 0) else (M, 4)) else
  if k = 13 then (if 0 < d then (sleepM M M.cur.toNat d, 0) else (yieldM M M.cur.toNat, 0)) else
  if k = 12 then (yieldM M M.cur.toNat, 0) else
  if k = 18 then (awaitM M M.cur.toNat d, 0) else
  if k = 14 ∨ k = 15 ∨ k = 16 ∨ k = 17 then (if d = 0 then (giveM M M.cur.toNat (false, 0, 0), 0) else (waitM M M.cur.toNat k o m d, 0)) else
  (M, 12)
/-- A task whose ticks have run out. -/
def overM (M : ScM) (t : Int) : ScM := resumeM { M with W := remW M.W t } t.toNat (decide (M.st t.toNat = 3), 0, 0)
def tickM (M : ScM) (l : List Int) : ScM := l.foldl overM { M with T := fun t => M.T t - 1 }
def firstM (M : ScM) : Int := if (listT M.R).isEmpty then -1 else ((listT M.R).headD 0 : Int)
def dispM (M : ScM) : ScM := { M with cur := firstM M }
/-- The answer of a wait that is ended. -/
def wokenX (M : ScM) (t : Nat) : Bool × Int × Int := (true, if ((fndW M.W (t : Int)).getD (0, 0, 0, 0)).2.1 = 18 then (M.bits t : Int) else 0, if M.T (t : Int) ≠ 0 then (M.T (t : Int) : Int) else 4294967295)
def endM (M : ScM) (t : Nat) : ScM := if ((fndW M.W (t : Int)).getD (0, 0, 0, 0)).2.1 = 18 then clearM M t else M
def wakeS (M : ScM) (t : Nat) : ScM := resumeM { endM M t with T := fun z => if z = (t : Int) then 0 else M.T z, W := remW M.W (t : Int) } t (wokenX M t)
def canWake (M : ScM) (t : Int) : Bool := hasM M t && decide (M.st t.toNat = 2)
end Go.Proofs.YthnmlklgbggmbaaGreat
namespace Go.Proofs.YthnmlklgbggmbaaGreat
set_option linter.unusedVariables false
set_option linter.unusedSimpArgs false
/-- Each task is ready, waits, sleeps or has ended, and stands in its row, or has its wait, just then. -/
structure Inv (M : ScM) : Prop where
  le : M.many ≤ 16
  row : ∀ t, t < M.many → (M.st t = 1 ↔ M.R.2 t ≠ 0)
  wait : ∀ t : Nat, t < M.many → (M.st t = 2 ↔ ∃ v, v ∈ M.W ∧ v.1 = (t : Int))
  win : ∀ v, v ∈ M.W → 0 ≤ v.1 ∧ v.1 < (M.many : Int)
  time : ∀ t : Nat, t < M.many → M.T (t : Int) ≠ 0 → M.st t = 2 ∨ M.st t = 3
  pr : ∀ t, t < M.many → M.st t ≠ 4 → 0 ≤ M.prio t ∧ M.prio t < 32
  live : ∀ t, t < M.many → M.st t = 1 ∨ M.st t = 2 ∨ M.st t = 3 ∨ M.st t = 4
theorem fndW_iff {W : List WaitT} {t : Int} : (fndW W t).isSome = true ↔ ∃ v, v ∈ W ∧ v.1 = t := by
  unfold fndW
  rw [List.find?_isSome]
  simp
theorem mem_remW {W : List WaitT} {t : Int} {v : WaitT} : v ∈ remW W t ↔ v ∈ W ∧ v.1 ≠ t := by
  unfold remW
  rw [List.mem_filter]
  simp
theorem remT_at (R : RkT) (t : Nat) (h : t < 16) (x : Nat) : (remT R (t : Int)).2 x = if x = t then 0 else R.2 x := by
  unfold remT canRem
  by_cases hc : (0 ≤ (t : Int) ∧ (t : Int) < 16) ∧ R.2 ((t : Int)).toNat ≠ 0
  · rw [if_pos (decide_eq_true hc)]
    show (if x = ((t : Int)).toNat then 0 else R.2 x) = _
    rfl
  · rw [if_neg (by simpa using hc)]
    have h0 : R.2 t = 0 := by
      by_cases e : R.2 t = 0
      · exact e
      · exact absurd ⟨⟨by omega, by omega⟩, e⟩ hc
    split
    · rename_i e; rw [e, h0]
    · rfl
theorem addT_at (R : RkT) (t : Nat) (h : t < 16) (p : Int) (hp : 0 ≤ p ∧ p < 32) (h0 : R.2 t = 0) (x : Nat) : (addT R (t : Int) p).2 x = if x = t then p.toNat + 1 else R.2 x := by
  unfold addT canAdd
  rw [if_pos (decide_eq_true ⟨⟨by omega, by omega⟩, hp, h0⟩)]
  rfl
theorem turnT_at (R : RkT) (t : Nat) (h : t < 16) (hs : R.2 t ≤ 32) (x : Nat) : (turnT R (t : Int)).2 x = R.2 x := by
  unfold turnT
  split
  · rename_i hc
    have hc' := of_decide_eq_true hc
    have hne : R.2 t ≠ 0 := hc'.2
    have hp : prioT R (t : Int) = R.2 t - 1 := by unfold prioT; rw [if_pos hc]; rfl
    rw [hp, addT_at _ t h _ (by omega) (by rw [remT_at R t h, if_pos rfl]) x]
    split
    · rename_i e
      rw [e]
      omega
    · rename_i e
      rw [remT_at R t h, if_neg e]
  · rfl
section
variable {M : ScM}
theorem Inv.congr {M' : ScM} (h : Inv M) (h1 : M'.many = M.many) (h2 : M'.prio = M.prio) (h3 : M'.st = M.st) (h4 : ∀ t, t < M.many → (M'.R.2 t ≠ 0 ↔ M.R.2 t ≠ 0)) (h5 : ∀ t : Nat, M'.T (t : Int) ≠ 0 → M.T (t : Int) ≠ 0) (h6 : M'.W = M.W) : Inv M' where
  le := h1 ▸ h.le
  row := fun t ht => by rw [h1] at ht; rw [h3, h4 t ht]; exact h.row t ht
  wait := fun t ht => by rw [h1] at ht; rw [h3, h6]; exact h.wait t ht
  win := fun v hv => by rw [h1]; rw [h6] at hv; exact h.win v hv
  time := fun t ht hT => by rw [h1] at ht; rw [h3]; exact h.time t ht (h5 t hT)
  pr := fun t ht hs => by rw [h1] at ht; rw [h2]; rw [h3] at hs; exact h.pr t ht hs
  live := fun t ht => by rw [h1] at ht; rw [h3]; exact h.live t ht
theorem Inv.give (h : Inv M) (t : Nat) (x : Bool × Int × Int) : Inv (giveM M t x) := by
  unfold giveM
  split
  · exact h.congr rfl rfl rfl (fun _ _ => Iff.rfl) (fun _ h => h) rfl
  · exact h
theorem Inv.note (h : Inv M) (t b : Nat) : Inv (noteM M t b) := h.congr rfl rfl rfl (fun _ _ => Iff.rfl) (fun _ h => h) rfl
theorem Inv.clear (h : Inv M) (t : Nat) : Inv (clearM M t) := h.congr rfl rfl rfl (fun _ _ => Iff.rfl) (fun _ h => h) rfl
theorem Inv.disp (h : Inv M) : Inv (dispM M) := h.congr rfl rfl rfl (fun _ _ => Iff.rfl) (fun _ h => h) rfl
theorem Inv.yield (h : Inv M) (hr : ∀ t, t < 16 → M.R.2 t ≤ 32) (t : Nat) (ht : t < M.many) : Inv (yieldM M t) := by
  unfold yieldM
  have := h.le
  exact Inv.give (Inv.congr (M' := { M with R := turnT M.R (t : Int) }) h rfl rfl rfl (fun x hx => by show (turnT M.R (t : Int)).2 x ≠ 0 ↔ _; rw [turnT_at M.R t (by omega) (hr t (by omega))]) (fun _ h => h) rfl) t _
/-- A ready task ends or sleeps. -/
theorem Inv.leave (h : Inv M) (t : Nat) (ht : t < M.many) (s : Int) (hs : s = 3 ∨ s = 4) : Inv (leaveM M t s) := by
  unfold leaveM
  split
  · rename_i h1
    have hle := h.le
    unfold goM
    rw [if_pos h1]
    refine ⟨h.le, fun x hx => ?_, fun x hx => ?_, h.win, fun x hx hT => ?_, fun x hx hs' => ?_, fun x hx => ?_⟩
    · show upd M.st t s x = 1 ↔ (remT M.R (t : Int)).2 x ≠ 0
      rw [remT_at M.R t (by omega)]
      by_cases e : x = t
      · rw [e, upd_at, if_pos rfl]; constructor <;> intro h <;> omega
      · rw [upd_ne _ _ e, if_neg e]; exact h.row x hx
    · show upd M.st t s x = 2 ↔ _
      by_cases e : x = t
      · subst e
        rw [upd_at, ← h.wait x hx]
        constructor <;> intro h <;> omega
      · rw [upd_ne _ _ e]; exact h.wait x hx
    · show upd M.st t s x = 2 ∨ upd M.st t s x = 3
      have := h.time x hx hT
      by_cases e : x = t
      · subst e; omega
      · rw [upd_ne _ _ e]; exact this
    · have hs'' : upd M.st t s x ≠ 4 := hs'
      by_cases e : x = t
      · subst e; exact h.pr x hx (by omega)
      · rw [upd_ne _ _ e] at hs''; exact h.pr x hx hs''
    · show upd M.st t s x = 1 ∨ upd M.st t s x = 2 ∨ upd M.st t s x = 3 ∨ upd M.st t s x = 4
      by_cases e : x = t
      · subst e; rw [upd_at]; omega
      · rw [upd_ne _ _ e]; exact h.live x hx
  · exact h
theorem Inv.limit (h : Inv M) (t : Nat) (ht : t < M.many) (n : Nat) (hs : M.st t = 2 ∨ M.st t = 3) : Inv (limitM M t n) := by
  unfold limitM
  split
  · exact h
  · refine ⟨h.le, h.row, h.wait, h.win, fun x hx hT => ?_, h.pr, h.live⟩
    have hT' : addD M.T t n (x : Int) ≠ 0 := hT
    unfold addD at hT'
    split at hT'
    · by_cases e : (x : Int) = (t : Int)
      · obtain rfl : x = t := by omega
        exact hs
      · have hT2 : (if (x : Int) = (t : Int) then n else M.T (x : Int)) ≠ 0 := hT'
        rw [if_neg e] at hT2; exact h.time x hx hT2
    · exact h.time x hx hT'
theorem leave_st {t : Nat} {s : Int} (h : leftM M t = true) : (leaveM M t s).st t = s := by
  unfold leftM at h
  simp only [Bool.and_eq_true, decide_eq_true_eq] at h
  unfold leaveM goM
  rw [if_pos h.1, if_pos h.1]
  exact upd_at _ _ _
theorem leave_many (t : Nat) (s : Int) : (leaveM M t s).many = M.many := by
  unfold leaveM
  split
  · unfold goM; split <;> rfl
  · rfl
theorem Inv.sleep (h : Inv M) (t : Nat) (ht : t < M.many) (n : Nat) : Inv (sleepM M t n) := by
  unfold sleepM
  split
  · rename_i hl
    exact (h.leave t ht 3 (.inl rfl)).limit t (by rw [leave_many]; exact ht) n (.inr (leave_st hl))
  · exact h.leave t ht 3 (.inl rfl)
theorem left_iff (h : Inv M) (t : Nat) (ht : t < M.many) : leftM M t = true ↔ M.st t = 1 := by
  have := h.le
  unfold leftM canRem
  rw [Bool.and_eq_true, decide_eq_true_eq, decide_eq_true_eq]
  constructor
  · exact fun h => h.1
  · exact fun h1 => ⟨h1, ⟨by omega, by omega⟩, (h.row t ht).1 h1⟩
theorem Inv.wait' (h : Inv M) (t : Nat) (ht : t < M.many) (k o : Int) (m n : Nat) : Inv (waitM M t k o m n) := by
  have hle := h.le
  unfold waitM
  split
  · rename_i hl
    have h1 := (left_iff h t ht).1 hl
    have hno : ¬ ∃ v, v ∈ M.W ∧ v.1 = (t : Int) := fun e => by have := (h.wait t ht).2 e; omega
    have hW : addW M.W ((t : Int), k, o, m) = M.W ++ [((t : Int), k, o, m)] := by
      unfold addW
      rw [if_neg]
      rw [fndW_iff]
      exact hno
    refine Inv.limit (M := { leaveM M t 2 with W := addW M.W ((t : Int), k, o, m) }) ?_ t (by show t < (leaveM M t 2).many; rw [leave_many]; exact ht) n (.inl (leave_st hl))
    rw [hW]
    unfold leaveM goM
    rw [if_pos h1, if_pos h1]
    refine ⟨h.le, fun x hx => ?_, fun x hx => ?_, fun v hv => ?_, fun x hx hT => ?_, fun x hx hs' => ?_, fun x hx => ?_⟩
    · show upd M.st t 2 x = 1 ↔ (remT M.R (t : Int)).2 x ≠ 0
      rw [remT_at M.R t (by omega)]
      by_cases e : x = t
      · rw [e, upd_at, if_pos rfl]; constructor <;> intro h <;> omega
      · rw [upd_ne _ _ e, if_neg e]; exact h.row x hx
    · show upd M.st t 2 x = 2 ↔ ∃ v, v ∈ M.W ++ [((t : Int), k, o, m)] ∧ v.1 = (x : Int)
      by_cases e : x = t
      · subst e
        rw [upd_at]
        exact ⟨fun _ => ⟨_, List.mem_append.2 (.inr (.head _)), rfl⟩, fun _ => rfl⟩
      · rw [upd_ne _ _ e, h.wait x hx]
        constructor
        · rintro ⟨v, hv, e⟩; exact ⟨v, List.mem_append.2 (.inl hv), e⟩
        · rintro ⟨v, hv, e'⟩
          rcases List.mem_append.1 hv with hv | hv
          · exact ⟨v, hv, e'⟩
          · rw [List.mem_singleton.1 hv] at e'
            exact absurd (show t = x by have : (t : Int) = (x : Int) := e'; omega) fun h => e h.symm
    · rcases List.mem_append.1 hv with hv | hv
      · exact h.win v hv
      · rw [List.mem_singleton.1 hv]
        show 0 ≤ (t : Int) ∧ (t : Int) < (M.many : Int)
        omega
    · show upd M.st t 2 x = 2 ∨ upd M.st t 2 x = 3
      have := h.time x hx hT
      by_cases e : x = t
      · subst e; omega
      · rw [upd_ne _ _ e]; exact this
    · have hs'' : upd M.st t 2 x ≠ 4 := hs'
      by_cases e : x = t
      · subst e; exact h.pr x hx (by omega)
      · rw [upd_ne _ _ e] at hs''; exact h.pr x hx hs''
    · show upd M.st t 2 x = 1 ∨ upd M.st t 2 x = 2 ∨ upd M.st t 2 x = 3 ∨ upd M.st t 2 x = 4
      by_cases e : x = t
      · subst e; rw [upd_at]; omega
      · rw [upd_ne _ _ e]; exact h.live x hx
  · rename_i hl
    have h1 : M.st t ≠ 1 := fun e => hl ((left_iff h t ht).2 e)
    unfold leaveM
    rw [if_neg h1]
    exact h
/-- A task whose wait and time are taken away goes on. -/
theorem Inv.over (h : Inv M) (t : Nat) (ht : t < M.many) (x : Bool × Int × Int) (M' : ScM) (hm : M'.many = M.many) (hp : M'.prio = M.prio) (hst : M'.st = M.st) (hR : M'.R = M.R) (hT : ∀ z : Nat, M'.T (z : Int) ≠ 0 → M.T (z : Int) ≠ 0 ∧ z ≠ t) (hW : M'.W = remW M.W (t : Int)) (hs : M.st t ≠ 2 → M'.W = M.W) :
    Inv (resumeM M' t x) := by
  have hle := h.le
  unfold resumeM
  rw [hst]
  split
  · rename_i h1
    unfold wakeM
    rw [hst, if_pos h1, hR, hp]
    have h0 : M.R.2 t = 0 := by
      by_cases e : M.R.2 t = 0
      · exact e
      · have := (h.row t ht).2 e; omega
    have hpr := h.pr t ht (by omega)
    refine ⟨by show M'.many ≤ 16; rw [hm]; exact h.le, fun x hx => ?_, fun x hx => ?_, fun v hv => ?_, fun x hx hT' => ?_, fun x hx hs' => ?_, fun x hx => ?_⟩
    · have hx : x < M.many := hm ▸ hx
      show upd M.st t 1 x = 1 ↔ (addT M.R (t : Int) (M.prio t)).2 x ≠ 0
      rw [addT_at M.R t (by omega) _ hpr h0]
      by_cases e : x = t
      · rw [e, upd_at, if_pos rfl]; constructor <;> intro _ <;> omega
      · rw [upd_ne _ _ e, if_neg e]; exact h.row x hx
    · have hx : x < M.many := hm ▸ hx
      show upd M.st t 1 x = 2 ↔ ∃ v, v ∈ M'.W ∧ v.1 = (x : Int)
      rw [hW]
      by_cases e : x = t
      · subst e
        rw [upd_at]
        constructor
        · intro h; omega
        · rintro ⟨v, hv, e⟩; exact absurd e (mem_remW.1 hv).2
      · rw [upd_ne _ _ e, h.wait x hx]
        constructor
        · rintro ⟨v, hv, e'⟩; exact ⟨v, mem_remW.2 ⟨hv, by omega⟩, e'⟩
        · rintro ⟨v, hv, e'⟩; exact ⟨v, (mem_remW.1 hv).1, e'⟩
    · have hv' : v ∈ M'.W := hv
      rw [hW] at hv'
      show 0 ≤ v.1 ∧ v.1 < (M'.many : Int)
      rw [hm]
      exact h.win v (mem_remW.1 hv').1
    · have hx : x < M.many := hm ▸ hx
      show upd M.st t 1 x = 2 ∨ upd M.st t 1 x = 3
      have := hT x hT'
      rw [upd_ne _ _ this.2]
      exact h.time x hx this.1
    · have hx : x < M.many := hm ▸ hx
      have hs'' : upd M.st t 1 x ≠ 4 := hs'
      show 0 ≤ M.prio x ∧ M.prio x < 32
      by_cases e : x = t
      · subst e; exact hpr
      · rw [upd_ne _ _ e] at hs''; exact h.pr x hx hs''
    · have hx : x < M.many := hm ▸ hx
      show upd M.st t 1 x = 1 ∨ upd M.st t 1 x = 2 ∨ upd M.st t 1 x = 3 ∨ upd M.st t 1 x = 4
      by_cases e : x = t
      · subst e; rw [upd_at]; omega
      · rw [upd_ne _ _ e]; exact h.live x hx
  · rename_i h1
    exact h.congr hm hp hst (fun x _ => by rw [hR]) (fun z hz => (hT z hz).1) (hs (by omega))
theorem remW_none {W : List WaitT} {t : Int} (h : ¬ ∃ v, v ∈ W ∧ v.1 = t) : remW W t = W := by
  unfold remW
  exact List.filter_eq_self.2 fun v hv => by simpa using fun e => h ⟨v, hv, e⟩
theorem Inv.wake (h : Inv M) (t : Nat) (ht : t < M.many) : Inv (wakeS M t) := by
  unfold wakeS
  refine h.over t ht _ _ ?_ ?_ ?_ ?_ (fun z hz => ?_) rfl (fun hs => remW_none fun e => hs ((h.wait t ht).2 e))
  · unfold endM; split <;> rfl
  · unfold endM; split <;> rfl
  · unfold endM; split <;> rfl
  · unfold endM; split <;> rfl
  · have hz' : (if (z : Int) = (t : Int) then 0 else M.T (z : Int)) ≠ 0 := hz
    split at hz'
    · exact absurd rfl hz'
    · exact ⟨hz', by omega⟩
theorem Inv.overT (h : Inv M) (t : Nat) (ht : t < M.many) (h0 : M.T (t : Int) = 0) : Inv (overM M (t : Int)) := by
  unfold overM
  refine h.over t ht _ _ rfl rfl rfl rfl (fun z hz => ⟨hz, ?_⟩) rfl (fun hs => remW_none fun e => hs ((h.wait t ht).2 e))
  rintro rfl
  exact hz h0
theorem over_T (t : Int) : (overM M t).T = M.T := by
  unfold overM resumeM
  split
  · unfold wakeM; split <;> rfl
  · rfl
theorem over_many (t : Int) : (overM M t).many = M.many := by
  unfold overM resumeM
  split
  · unfold wakeM; split <;> rfl
  · rfl
theorem Inv.overs : ∀ (l : List Int) (M : ScM), Inv M → (∀ t, t ∈ l → (0 ≤ t ∧ t < (M.many : Int)) ∧ M.T t = 0) → Inv (l.foldl overM M)
  | [], M, h, _ => h
  | t :: l, M, h, hl => by
    obtain ⟨⟨h1, h2⟩, h3⟩ := hl t (.head _)
    obtain ⟨n, rfl⟩ := Int.eq_ofNat_of_zero_le h1
    exact Inv.overs l _ (h.overT n (by omega) h3) fun z hz => by rw [over_T, over_many]; exact hl z (.tail _ hz)
theorem Inv.tick (h : Inv M) {l : List Int} (hl : ToldN M.T l) (hin : ∀ t, M.T t ≠ 0 → 0 ≤ t ∧ t < (M.many : Int)) : Inv (tickM M l) := by
  unfold tickM
  refine Inv.overs l _ (h.congr rfl rfl rfl (fun _ _ => Iff.rfl) (fun t ht => ?_) rfl) fun t ht => ?_
  · intro e
    have ht' : M.T (t : Int) - 1 ≠ 0 := ht
    omega
  · have h1 := (hl.one t).1 ht
    exact ⟨hin t (by omega), by show M.T t - 1 = 0; omega⟩
theorem Inv.await (h : Inv M) (t : Nat) (ht : t < M.many) (n : Nat) : Inv (awaitM M t n) := by
  unfold awaitM
  split
  · exact (h.clear t).give t _
  · split
    · exact (h.clear t).give t _
    · exact (h.clear t).wait' t ht 18 0 0 n
theorem Inv.serve (h : Inv M) (hr : ∀ t, t < 16 → M.R.2 t ≤ 32) (hc : M.cur = -1 ∨ (0 ≤ M.cur ∧ M.cur < (M.many : Int))) (k o : Int) (m d b : Nat) : Inv (serveM M k o m d b).1 := by
  unfold serveM
  split
  · exact h
  · rename_i h0
    have ht : M.cur.toNat < M.many := by omega
    split
    · exact h.leave _ ht 4 (.inr rfl)
    split
    · split
      · exact (h.note _ _).give _ _
      · exact h
    split
    · split
      · exact h.sleep _ ht _
      · exact h.yield hr _ ht
    split
    · exact h.yield hr _ ht
    split
    · exact h.await _ ht _
    split
    · split
      · exact h.give _ _
      · exact h.wait' _ ht _ _ _ _
    · exact h
end
end Go.Proofs.YthnmlklgbggmbaaGreat
