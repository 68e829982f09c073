import Derived.Test.YthnmlklgbggmbaaGreatObjq
import Derived.Test.YthnmlklgbggmbaaGreatRows
import Derived.WalkKit
import Derived.ProofKit
import Derived.OpenShut
import Derived.WalkLawsBesides
import Derived.WalkSpells
import Derived.Lib.Hide
import Derived.Laws.BitsAllLaws
import Derived.Deep.QuietTactic
import Derived.BigQuiet
import Derived.Laws.StructEq
import Derived.Test.YthnmlklgbggmbaaGreatGhostq
import Derived.Test.YthnmlklgbggmbaaGreatDeltaOpsq
import Derived.Test.YthnmlklgbggmbaaGreatQuPq
namespace Go.Proofs.YthnmlklgbggmbaaGreat
open Go.ChangeShapes Go.WideShapes Go.ChangeAt Go.RowKit
set_option linter.unusedVariables false


def AnsAt (w : World) (v : Value) : Option (Bool × Int × Int) → Prop
  | none => v = .pointer none
  | some (a, b, c) => ∃ p, v = .pointer (some ⟨p, 0, none⟩) ∧ w.heap[p]? = some (.cells #[.bool a, .int .u32 b, .int .u32 c] 169 (0, 0))
def IsTask (w : World) (b : Nat) (st bits : Int) (ans : Option (Bool × Int × Int)) : Prop :=
  ∃ v, w.heap[b]? = some (.cells #[.int .i64 st, .int .u32 bits, v] 167 (0, 0)) ∧ AnsAt w v ans

theorem AnsAt.keeps {w w' : World} {v : Value} {ans : Option (Bool × Int × Int)} {b : Nat} {cs : Array Value} {fr : Nat × Nat} (h : AnsAt w v ans) (hk : Keeps (fun k => k = b) w w')
    (hb : w.heap[b]? = some (.cells cs 167 fr)) : AnsAt w' v ans := by
  match ans, h with
  | none, h => exact h
  | some (x, y, z), ⟨p, hv, hp⟩ =>
    refine ⟨p, hv, hk.at hp ?_⟩
    rintro rfl
    rw [hb] at hp
    simp at hp
theorem IsTask.keeps {S : Nat → Prop} {w w' : World} {b : Nat} {st bits : Int} {ans : Option (Bool × Int × Int)} (h : IsTask w b st bits ans) (hk : Keeps S w w') (hs : ∀ k, k < w.heap.size → ¬ S k) : IsTask w' b st bits ans := by
  obtain ⟨v, hb, hv⟩ := h
  refine ⟨v, hk.at hb (hs _ (lt_of hb)), ?_⟩
  match ans, hv with
  | none, h => exact h
  | some (x, y, z), ⟨p, hv, hp⟩ => exact ⟨p, hv, hk.at hp (hs _ (lt_of hp))⟩
theorem IsTask.lt {w : World} {b : Nat} {st bits : Int} {ans : Option (Bool × Int × Int)} (h : IsTask w b st bits ans) : b < w.heap.size := lt_of h.choose_spec.1

theorem eq_ans (a a' : Bool) (b b' c c' : Int) (w : World) :
    (Op.equalIn 10000 169 (.agg #[.bool a, .int .u32 b, .int .u32 c]) (.agg #[.bool a', .int .u32 b', .int .u32 c'])).run Tryz.prog w = .ok (a == a' && (b == b' && c == c')) w := by
  have u1 := Tryz.underlying4
  have u2 := Tryz.underlying38
  have hS : Tryz.prog.underlying 169 = some (.struct (Tryz.prog.fieldsOf 169)) := by kernel_rfl
  rw [show (10000 : Nat) = 9999 + 1 from rfl, run_equalIn_agg w 9999 169 _ _ hS Tryz.stoodInHeld169]
  simp only [Program.fieldsOf, Tryz.underlying169]
  go_simp
  by_cases h0 : a = a' <;> by_cases h1 : b = b' <;> by_cases h2 : c = c' <;> simp [h0, h1, h2]
@[go_sem ↓] theorem neq_ans (a a' : Bool) (b b' c c' : Int) (w : World) :
    (binOp .neq 169 (.agg #[.bool a, .int .u32 b, .int .u32 c]) (.agg #[.bool a', .int .u32 b', .int .u32 c'])).run Tryz.prog w = .ok (.bool (!(a == a' && (b == b' && c == c')))) w := by
  rw [run_neq_struct, eq_ans]; rfl

theorem new_any (w : World) :
    Calls Tryz.prog 73 #[] w fun e w' => e = .returned (.pointer (some ⟨w.heap.size, 0, none⟩)) ∧ IsTask w' w.heap.size 1 0 none ∧ Keeps (fun _ => False) w w' := by
  go_enter Tryz.func73, Tryz.ntmps73
  go_wp2
  go_ret
  exact ⟨rfl, ⟨_, heap_new _ _, rfl⟩, (Keeps.refl _ _).alloc _⟩
theorem state_any (b : Nat) (st bits : Int) (ans : Option (Bool × Int × Int)) (w : World) (h : IsTask w b st bits ans) :
    Calls Tryz.prog 77 #[.pointer (some ⟨b, 0, none⟩)] w fun e w' => e = .returned (.int .i64 st) ∧ w = w' := by
  obtain ⟨v, hb, _⟩ := h
  have c0 : w.cell? ⟨b, 0, none⟩ = some (.int .i64 st) := cell_of hb 0
  clear hb
  go_enter Tryz.func77, Tryz.ntmps77
  go_wp2
  go_ret
  exact ⟨rfl, rfl⟩
theorem go_yes (b : Nat) (bits : Int) (ans : Option (Bool × Int × Int)) (st : Int) (w : World) (hst : st = 2 ∨ st = 3 ∨ st = 4) (h : IsTask w b 1 bits ans) :
    Calls Tryz.prog 75 #[.pointer (some ⟨b, 0, none⟩), .int .i64 st] w fun e w' => e = .returned (.bool true) ∧ IsTask w' b st bits ans ∧ Keeps (fun k => k = b) w w' := by
  have H2 := Lib.hid h
  obtain ⟨v, hb, hv⟩ := h
  have hlt := lt_of hb
  have f0 : w.frozen? ⟨b, 0, none⟩ = false := free_of hb 0
  have c0 : w.cell? ⟨b, 0, none⟩ = some (.int .i64 1) := cell_of hb 0
  have HB := Lib.hid hb
  clear hb
  have hk : ∀ x : Int, Keeps (fun k => k = b) w (w.setCell ⟨b, 0, none⟩ (.int .i64 x)) := fun x => Keeps.setCell (S := fun k => k = b) (Keeps.refl _ w) (p := ⟨b, 0, none⟩) (.inl rfl) _
  rcases hst with rfl | rfl | rfl
  all_goals
    go_enter Tryz.func75, Tryz.ntmps75
    go_wp2_with (go_at_call 77; refine (state_any _ _ _ _ _ H2.out).mono ?_; rintro e w' ⟨rfl, rfl⟩)
    go_ret
    exact ⟨rfl, ⟨v, heap_set HB.out 0 _, hv.keeps (hk _) HB.out⟩, hk _⟩
theorem go_no (b : Nat) (st0 bits : Int) (ans : Option (Bool × Int × Int)) (st : Int) (w : World) (hst : (st0 != 1) = true) (h : IsTask w b st0 bits ans) :
    Calls Tryz.prog 75 #[.pointer (some ⟨b, 0, none⟩), .int .i64 st] w fun e w' => e = .returned (.bool false) ∧ w = w' := by
  have H2 := Lib.hid h
  clear h
  go_enter Tryz.func75, Tryz.ntmps75
  go_wp2_with (go_at_call 77; refine (state_any _ _ _ _ _ H2.out).mono ?_; rintro e w' ⟨rfl, rfl⟩)
  go_ret
  exact ⟨rfl, rfl⟩
end Go.Proofs.YthnmlklgbggmbaaGreat
namespace Go.Proofs.YthnmlklgbggmbaaGreat
open Go.ChangeShapes Go.WideShapes Go.ChangeAt Go.RowKit
set_option linter.unusedVariables false

/-! ### No task -/
theorem state_nil (w : World) : Calls Tryz.prog 77 #[.pointer none] w fun e w' => e = .returned (.int .i64 0) ∧ w = w' := by
  go_enter Tryz.func77, Tryz.ntmps77
  go_wp2
  go_ret
  exact ⟨rfl, rfl⟩
theorem copy_nil (w : World) : Calls Tryz.prog 34 #[.pointer none] w fun e w' => e = .returned (.pointer none) ∧ w = w' := by
  go_enter Tryz.func34, Tryz.ntmps34
  go_wp2_with (go_at_call 77; refine (state_nil _).mono ?_; rintro e w' ⟨rfl, rfl⟩)
  go_ret
  exact ⟨rfl, rfl⟩
theorem copy_some (b : Nat) (st bits : Int) (x : Bool) (y z : Int) (w : World) (hst : (st == 0) = false) (h : IsTask w b st bits (some (x, y, z))) :
    Calls Tryz.prog 34 #[.pointer (some ⟨b, 0, none⟩)] w fun e w' => e = .returned (.pointer (some ⟨w.heap.size, 0, none⟩)) ∧ IsTask w' w.heap.size st bits (some (x, y, z)) ∧ Keeps (fun _ => False) w w' := by
  have HT := Lib.hid h
  obtain ⟨v, hb, q, rfl, hq⟩ := h
  have hlt := lt_of hb
  have hqlt := lt_of hq
  have c0 : w.cell? ⟨b, 0, none⟩ = some (.int .i64 st) := cell_of hb 0
  have c1 : w.cell? ⟨b, 1, none⟩ = some (.int .u32 bits) := cell_of hb 1
  have c2 : w.cell? ⟨b, 2, none⟩ = some (.pointer (some ⟨q, 0, none⟩)) := cell_of hb 2
  have q0 : w.cell? ⟨q, 0, none⟩ = some (.bool x) := cell_of hq 0
  have q1 : w.cell? ⟨q, 1, none⟩ = some (.int .u32 y) := cell_of hq 1
  have q2 : w.cell? ⟨q, 2, none⟩ = some (.int .u32 z) := cell_of hq 2
  clear hb hq
  go_enter Tryz.func34, Tryz.ntmps34
  go_wp2_with (go_at_call 77; refine (state_any _ _ _ _ _ HT.out).mono ?_; rintro e w' ⟨rfl, rfl⟩)
  go_ret
  refine ⟨rfl, ⟨_, heap_old (heap_new _ _) _, _, rfl, ?_⟩, ((Keeps.refl _ _).alloc _).alloc _⟩
  have e : ∀ o o2, ((w.alloc o).alloc o2).heap[w.heap.size + 1]? = some o2 := fun o o2 => by
    have := heap_new (w.alloc o) o2
    rwa [show (w.alloc o).heap.size = w.heap.size + 1 by simp] at this
  exact e _ _
end Go.Proofs.YthnmlklgbggmbaaGreat
namespace Go.Proofs.YthnmlklgbggmbaaGreat
open Go.ChangeShapes Go.WideShapes Go.ChangeAt Go.RowKit
set_option linter.unusedVariables false
set_option linter.unusedSimpArgs false
def upd {α : Type} (f : Nat → α) (t : Nat) (v : α) : Nat → α := fun j => if j = t then v else f j
theorem upd_at {α : Type} (f : Nat → α) (t : Nat) (v : α) : upd f t v t = v := if_pos rfl
theorem upd_ne {α : Type} (f : Nat → α) {t j : Nat} (v : α) (h : j ≠ t) : upd f t v j = f j := if_neg h
abbrev WaitT : Type := Int × Int × Int × Nat
structure ScM where
  many : Nat
  cur : Int
  prio : Nat → Int
  st : Nat → Int
  bits : Nat → Nat
  ans : Nat → Option (Bool × Int × Int)
  R : RkT
  T : Int → Nat
  W : List WaitT
structure ScA where
  n : Nat
  s : Nat
  tb : Nat → Nat
  rk : Nat
  D : Nat
  Q : Nat
structure ScCells (cs : Array Value) (a : ScA) (M : ScM) : Prop where
  size : cs.size = 37
  task : ∀ t, t < 16 → cs[t]? = some (.pointer (if t < M.many then some ⟨a.tb t, 0, none⟩ else none))
  prio : ∀ t, t < 16 → cs[16 + t]? = some (.int .i64 (M.prio t))
  many : cs[32]? = some (.int .i64 (a.n : Int))
  cur : cs[33]? = some (.int .i64 M.cur)
  rk : cs[34]? = some (.pointer (some ⟨a.rk, 0, none⟩))
  D : cs[35]? = some (.pointer (some ⟨a.D, 0, none⟩))
  Q : cs[36]? = some (.pointer (some ⟨a.Q, 0, none⟩))
structure ScW (w : World) (P : Nat → Prop) (a : ScA) (M : ScM) : Prop where
  blk : ∃ cs, w.heap[a.s]? = some (.cells cs 100 (0, 0)) ∧ ScCells cs a M
  le : M.many ≤ 16
  task : ∀ t, t < M.many → IsTask w (a.tb t) (M.st t) (M.bits t : Int) (M.ans t)
  inj : ∀ i j, i < M.many → j < M.many → a.tb i = a.tb j → i = j
  live : ∀ t, t < M.many → M.st t = 1 ∨ M.st t = 2 ∨ M.st t = 3 ∨ M.st t = 4
  small : ∀ t, t < M.many → M.bits t < 4294967296
  rank : RkS w a.rk M.R
  delta : ∃ L, IsDelta w a.D L ∧ Abs L M.T ∧ ∀ (i : Nat) (nd : Nd), L[i]? = some nd → P nd.g
  tin : ∀ t, M.T t ≠ 0 → 0 ≤ t ∧ t < (M.many : Int)
  queue : ∃ N h, IsQ w a.Q N h ∧ Good N ∧ N.map QN.wait = M.W ∧ ∀ x, x ∈ N → P x.g
  low : P a.s ∧ P a.rk ∧ P a.D ∧ P a.Q ∧ ∀ t, t < M.many → P (a.tb t)
  new : ∀ k, w.heap.size ≤ k → P k
  cin : M.cur = -1 ∨ (0 ≤ M.cur ∧ M.cur < (M.many : Int))
  rin : ∀ t, t < 16 → M.R.2 t ≠ 0 → t < M.many
def Ty (w : World) (k : Nat) (T : TypeId) : Prop := ∃ cs fr, w.heap[k]? = some (.cells cs T fr)
theorem Ty.ne {w : World} {k k' : Nat} {T T' : TypeId} (h : Ty w k T) (h' : Ty w k' T') (hT : T ≠ T') : k ≠ k' := by
  rintro rfl
  obtain ⟨cs, fr, h1⟩ := h
  obtain ⟨cs', fr', h2⟩ := h'
  rw [h1] at h2
  injection h2 with h2
  injection h2 with _ h2 _
  exact hT h2
abbrev KeepsTy (Ts : List TypeId) (w w' : World) : Prop := Keeps (fun k => ∃ T, T ∈ Ts ∧ Ty w k T) w w'
theorem keepsTy {S : Nat → Prop} {w w' : World} {Ts : List TypeId} (hk : Keeps S w w') (h : ∀ k, k < w.heap.size → S k → ∃ T, T ∈ Ts ∧ Ty w k T) : KeepsTy Ts w w' := hk.mono h
theorem keepsTy_none {w w' : World} (hk : Keeps (fun _ => False) w w') : KeepsTy [] w w' := hk.mono fun _ _ h => h.elim
theorem KeepsTy.apart {Ts : List TypeId} {w : World} {k : Nat} {T : TypeId} (h : Ty w k T) (hT : T ∉ Ts) : ¬ ∃ U, U ∈ Ts ∧ Ty w k U := by
  rintro ⟨U, hU, h'⟩
  by_cases e : T = U
  · exact hT (e ▸ hU)
  · exact h.ne h' e rfl
theorem KeepsTy.at {Ts : List TypeId} {w w' : World} (hk : KeepsTy Ts w w') {b : Nat} {cs : Array Value} {T : TypeId} {fr : Nat × Nat} (h : w.heap[b]? = some (.cells cs T fr)) (hT : T ∉ Ts) : w'.heap[b]? = some (.cells cs T fr) :=
  Keeps.at hk h (KeepsTy.apart ⟨cs, fr, h⟩ hT)
theorem rank_ty {w : World} {b : Nat} {s : RkT} (h : RkS w b s) : Ty w b 154 := by
  obtain ⟨X, m, bs, h1, _⟩ := h.one
  obtain ⟨cs, h2, _⟩ := h1.one
  exact ⟨cs, _, h2⟩
theorem task_ty {w : World} {b : Nat} {st bits : Int} {ans : Option (Bool × Int × Int)} (h : IsTask w b st bits ans) : Ty w b 167 := by
  obtain ⟨v, h1, _⟩ := h
  exact ⟨_, _, h1⟩
section
variable {w w' : World} {P : Nat → Prop} {a : ScA} {M : ScM} {Ts : List TypeId}
theorem task_kept {b : Nat} {st bits : Int} {ans : Option (Bool × Int × Int)} {S : Nat → Prop} (h : IsTask w b st bits ans) (hk : Keeps S w w') (hb : ¬ S b) (hS : ∀ k, S k → ¬ Ty w k 169) : IsTask w' b st bits ans := by
  obtain ⟨v, h1, h2⟩ := h
  refine ⟨v, hk.at h1 hb, ?_⟩
  match ans, h2 with
  | none, h2 => exact h2
  | some (x, y, z), ⟨p, hv, hp⟩ => exact ⟨p, hv, hk.at hp fun hs => hS p hs ⟨_, _, hp⟩⟩
theorem rank_kept {b : Nat} {s : RkT} (h : RkS w b s) (hk : KeepsTy Ts w w') (hT : 154 ∉ Ts) : RkS w' b s := h.keeps hk (KeepsTy.apart (rank_ty h) hT)
theorem delta_kept {D : Nat} {L : List Nd} (h : IsDelta w D L) (hk : KeepsTy Ts w w') (h1 : 157 ∉ Ts) (h2 : 172 ∉ Ts) : IsDelta w' D L :=
  h.keeps hk (KeepsTy.apart ⟨_, _, h.head⟩ h1) fun i nd hi => KeepsTy.apart ⟨_, _, h.node i nd hi⟩ h2
theorem queue_kept {Q : Nat} {N : List QN} {b : Bool} (h : IsQ w Q N b) (hk : KeepsTy Ts w w') (h1 : 162 ∉ Ts) (h2 : 160 ∉ Ts) : IsQ w' Q N b :=
  h.keeps hk (KeepsTy.apart ⟨_, _, h.head⟩ h1) fun i x hi => KeepsTy.apart ⟨_, _, h.node i x hi⟩ h2
theorem ScW.deltaK (h : ScW w P a M) (hk : KeepsTy Ts w w') (h1 : 157 ∉ Ts) (h2 : 172 ∉ Ts) : ∃ L, IsDelta w' a.D L ∧ Abs L M.T ∧ ∀ (i : Nat) (nd : Nd), L[i]? = some nd → P nd.g := by
  obtain ⟨L, hd, ha, hl⟩ := h.delta
  exact ⟨L, delta_kept hd hk h1 h2, ha, hl⟩
theorem ScW.queueK (h : ScW w P a M) (hk : KeepsTy Ts w w') (h1 : 162 ∉ Ts) (h2 : 160 ∉ Ts) : ∃ N b, IsQ w' a.Q N b ∧ Good N ∧ N.map QN.wait = M.W ∧ ∀ x, x ∈ N → P x.g := by
  obtain ⟨N, b, hd, ha, hl⟩ := h.queue
  exact ⟨N, b, queue_kept hd hk h1 h2, ha, hl⟩
theorem ScW.blkK (h : ScW w P a M) (hk : KeepsTy Ts w w') (h1 : 100 ∉ Ts) : ∃ cs, w'.heap[a.s]? = some (.cells cs 100 (0, 0)) ∧ ScCells cs a M := by
  obtain ⟨cs, hb, hc⟩ := h.blk
  exact ⟨cs, KeepsTy.at hk hb h1, hc⟩
theorem ScW.taskK (h : ScW w P a M) (hk : KeepsTy Ts w w') (h1 : 167 ∉ Ts) (h2 : 169 ∉ Ts) : ∀ t, t < M.many → IsTask w' (a.tb t) (M.st t) (M.bits t : Int) (M.ans t) := fun t ht =>
  task_kept (h.task t ht) hk (KeepsTy.apart (task_ty (h.task t ht)) h1) fun k ⟨T, hT, hk⟩ hk' => (by
    by_cases e : 169 = T
    · exact h2 (e ▸ hT)
    · exact hk'.ne hk e rfl)
theorem ScW.newK {S : Nat → Prop} (h : ScW w P a M) (hk : Keeps S w w') : ∀ k, w'.heap.size ≤ k → P k := fun k h1 => h.new k (Nat.le_trans hk.size h1)
theorem ScW.keepTy (h : ScW w P a M) (hk : KeepsTy Ts w w') (h0 : ∀ T, T ∈ Ts → T ∉ [100, 167, 169, 154, 157, 172, 162, 160]) : ScW w' P a M :=
  { h with
    blk := h.blkK hk fun e => h0 _ e (by simp)
    task := h.taskK hk (fun e => h0 _ e (by simp)) (fun e => h0 _ e (by simp))
    rank := rank_kept h.rank hk fun e => h0 _ e (by simp)
    delta := h.deltaK hk (fun e => h0 _ e (by simp)) (fun e => h0 _ e (by simp))
    queue := h.queueK hk (fun e => h0 _ e (by simp)) (fun e => h0 _ e (by simp))
    new := h.newK hk }
theorem ScW.quiet (h : ScW w P a M) (hk : Keeps (fun _ => False) w w') : ScW w' P a M := h.keepTy (keepsTy_none hk) fun T hT => by cases hT
theorem ScW.lt (h : ScW w P a M) : a.s < w.heap.size := by obtain ⟨cs, hb, _⟩ := h.blk; exact lt_of hb
theorem ScW.cell (h : ScW w P a M) (k : Nat) {v : Value} (hv : ∀ cs, ScCells cs a M → cs[k]? = some v) : w.cell? ⟨a.s, k, none⟩ = some v := by
  obtain ⟨cs, hb, hc⟩ := h.blk
  exact (cell_of hb k).trans (hv cs hc)
theorem ScW.free (h : ScW w P a M) (k : Nat) : w.frozen? ⟨a.s, k, none⟩ = false := by
  obtain ⟨cs, hb, hc⟩ := h.blk
  exact free_of hb k
theorem ScW.cTask (h : ScW w P a M) (t : Nat) (ht : t < M.many) : w.cell? ⟨a.s, t, none⟩ = some (.pointer (some ⟨a.tb t, 0, none⟩)) := h.cell t fun cs hc => by
  rw [hc.task t (by have := h.le; omega), if_pos ht]
theorem ScW.cPrio (h : ScW w P a M) (t : Nat) (ht : t < 16) : w.cell? ⟨a.s, 16 + t, none⟩ = some (.int .i64 (M.prio t)) := h.cell _ fun cs hc => hc.prio t ht
theorem ScW.cCur (h : ScW w P a M) : w.cell? ⟨a.s, 33, none⟩ = some (.int .i64 M.cur) := h.cell _ fun cs hc => hc.cur
theorem ScW.cRk (h : ScW w P a M) : w.cell? ⟨a.s, 34, none⟩ = some (.pointer (some ⟨a.rk, 0, none⟩)) := h.cell _ fun cs hc => hc.rk
theorem ScW.cD (h : ScW w P a M) : w.cell? ⟨a.s, 35, none⟩ = some (.pointer (some ⟨a.D, 0, none⟩)) := h.cell _ fun cs hc => hc.D
theorem ScW.cQ (h : ScW w P a M) : w.cell? ⟨a.s, 36, none⟩ = some (.pointer (some ⟨a.Q, 0, none⟩)) := h.cell _ fun cs hc => hc.Q
theorem ScW.setCur (h : ScW w P a M) (c : Int) (hcin : c = -1 ∨ (0 ≤ c ∧ c < (M.many : Int))) : ScW (w.setCell ⟨a.s, 33, none⟩ (.int .i64 c)) P a { M with cur := c } := by
  obtain ⟨cs, hb, hc⟩ := h.blk
  have hk : KeepsTy [100] w (w.setCell ⟨a.s, 33, none⟩ (.int .i64 c)) := keepsTy ((Keeps.refl (fun k => k = a.s) w).setCell (p := ⟨a.s, 33, none⟩) (.inl rfl) _) fun k _ e => ⟨_, .head _, by rw [e]; exact ⟨_, _, hb⟩⟩
  refine { h with
    blk := ⟨_, heap_set hb 33 _, ⟨by simpa using hc.size, fun t ht => ?_, fun t ht => ?_, ?_, ?_, ?_, ?_, ?_⟩⟩
    task := h.taskK hk (by decide) (by decide)
    rank := rank_kept h.rank hk (by decide)
    delta := h.deltaK hk (by decide) (by decide)
    queue := h.queueK hk (by decide) (by decide)
    new := h.newK hk
    cin := hcin }
  · rw [Array.getElem?_setIfInBounds_ne (by omega)]; exact hc.task t ht
  · rw [Array.getElem?_setIfInBounds_ne (by omega)]; exact hc.prio t ht
  · rw [Array.getElem?_setIfInBounds_ne (by omega)]; exact hc.many
  · rw [Array.getElem?_setIfInBounds_self_of_lt (by rw [hc.size]; omega)]
  · rw [Array.getElem?_setIfInBounds_ne (by omega)]; exact hc.rk
  · rw [Array.getElem?_setIfInBounds_ne (by omega)]; exact hc.D
  · rw [Array.getElem?_setIfInBounds_ne (by omega)]; exact hc.Q
theorem ScW.setTask (h : ScW w P a M) (t : Nat) (ht : t < M.many) {st : Int} {bits : Nat} {ans : Option (Bool × Int × Int)} (hk : Keeps (fun k => k = a.tb t) w w') (hT : IsTask w' (a.tb t) st (bits : Int) ans) (hs : st = 1 ∨ st = 2 ∨ st = 3 ∨ st = 4) (hb : bits < 4294967296) :
    ScW w' P a { M with st := upd M.st t st, bits := upd M.bits t bits, ans := upd M.ans t ans } := by
  have hty := task_ty (h.task t ht)
  have hkt : KeepsTy [167] w w' := keepsTy hk fun k _ e => ⟨_, .head _, by rw [e]; exact hty⟩
  refine { h with
    blk := ?_
    task := fun j hj => ?_
    live := fun j hj => ?_
    small := fun j hj => ?_
    rank := rank_kept h.rank hkt (by decide)
    delta := h.deltaK hkt (by decide) (by decide)
    queue := h.queueK hkt (by decide) (by decide)
    new := h.newK hk }
  · obtain ⟨cs, h1, h2⟩ := h.blkK hkt (by decide)
    exact ⟨cs, h1, ⟨h2.size, h2.task, h2.prio, h2.many, h2.cur, h2.rk, h2.D, h2.Q⟩⟩
  · show IsTask w' (a.tb j) (upd M.st t st j) ((upd M.bits t bits j : Nat) : Int) (upd M.ans t ans j)
    by_cases e : j = t
    · subst e
      rw [upd_at, upd_at, upd_at]
      exact hT
    · rw [upd_ne _ _ e, upd_ne _ _ e, upd_ne _ _ e]
      refine task_kept (h.task j hj) hk (fun e' => e (h.inj j t hj ht e')) fun k e' hA => ?_
      subst e'
      exact hA.ne hty (by decide) rfl
  · show upd M.st t st j = 1 ∨ upd M.st t st j = 2 ∨ upd M.st t st j = 3 ∨ upd M.st t st j = 4
    by_cases e : j = t
    · subst e; rw [upd_at]; exact hs
    · rw [upd_ne _ _ e]; exact h.live j hj
  · show upd M.bits t bits j < 4294967296
    by_cases e : j = t
    · subst e; rw [upd_at]; exact hb
    · rw [upd_ne _ _ e]; exact h.small j hj
theorem ScW.inRow (h : ScW w P a M) {t : Nat} (ht : t ∈ listT M.R) : t < M.many ∧ t < 16 ∧ M.R.2 t ≠ 0 := by
  obtain ⟨q, _, hq, hm⟩ := (mem_flat M.R.1 0 t).1 ht
  have := (h.rank.mem q t hq).1 hm
  exact ⟨h.rin t this.1 (by omega), this.1, by omega⟩
def SchTys : List TypeId := [100, 167, 154, 157, 172, 162, 160]
abbrev KeepsS (P : Nat → Prop) (w w' : World) : Prop := Keeps (fun k => P k ∧ ∃ T, T ∈ SchTys ∧ Ty w k T) w w'
theorem kS {w1 w2 w3 : World} (h : KeepsS P w1 w2) (k : KeepsS P w2 w3) : KeepsS P w1 w3 :=
  ⟨k.os.trans h.os, k.tape.trans h.tape, k.output.trans h.output, Nat.le_trans h.size k.size, fun i hi hs => by
    have h1 := h.block i hi hs
    rw [k.block i (Nat.lt_of_lt_of_le hi h.size) (fun ⟨e1, T, e2, cs, fr, e3⟩ => hs ⟨e1, T, e2, cs, fr, by rw [← h1]; exact e3⟩), h1]⟩
theorem KeepsS.at {b : Nat} {cs : Array Value} {T : TypeId} {fr : Nat × Nat} (h : KeepsS P w w') (hb : w.heap[b]? = some (.cells cs T fr)) (hT : T ∉ SchTys) : w'.heap[b]? = some (.cells cs T fr) :=
  Keeps.at h hb fun ⟨_, e⟩ => KeepsTy.apart ⟨cs, fr, hb⟩ hT e
theorem ScW.same {M' : ScM} (h : ScW w P a M) (e : M = M') : ScW w P a M' := e ▸ h
end
theorem upd_same {α : Type} (f : Nat → α) (t : Nat) : upd f t (f t) = f := by
  funext j
  unfold upd
  split
  · rename_i e; rw [e]
  · rfl
end Go.Proofs.YthnmlklgbggmbaaGreat
namespace Go.Proofs.YthnmlklgbggmbaaGreat
open Go.ChangeShapes Go.WideShapes Go.ChangeAt Go.RowKit
set_option linter.unusedVariables false
set_option linter.unusedSimpArgs false
def goM (M : ScM) (t : Nat) (s : Int) : ScM := if M.st t = 1 then { M with st := upd M.st t s } else M
def giveM (M : ScM) (t : Nat) (x : Bool × Int × Int) : ScM := if M.st t = 1 then { M with ans := upd M.ans t (some x) } else M
def wakeM (M : ScM) (t : Nat) (x : Bool × Int × Int) : ScM := if M.st t = 2 ∨ M.st t = 3 then { M with st := upd M.st t 1, ans := upd M.ans t (some x) } else M
theorem sc_go (w : World) (P : Nat → Prop) (a : ScA) (M : ScM) (h : ScW w P a M) (t : Nat) (ht : t < M.many) (s : Int) (hs : s = 2 ∨ s = 3 ∨ s = 4) :
    Calls Tryz.prog 75 #[.pointer (some ⟨a.tb t, 0, none⟩), .int .i64 s] w fun e w' => e = .returned (.bool (decide (M.st t = 1))) ∧ ScW w' P a (goM M t s) ∧ KeepsS P w w' := by
  unfold goM
  have hT := h.task t ht
  by_cases e1 : M.st t = 1
  · rw [if_pos e1, decide_eq_true e1]
    rw [e1] at hT
    refine (go_yes (a.tb t) _ _ s w hs hT).mono ?_
    rintro e w' ⟨rfl, hT', hk⟩
    exact ⟨rfl, (h.setTask t ht hk hT' (by omega) (h.small t ht)).same (by rw [upd_same, upd_same]), (hk.mono fun k _ e => by rw [e]; exact ⟨h.low.2.2.2.2 t ht, _, .tail _ (.head _), task_ty (h.task t ht)⟩)⟩
  · rw [if_neg e1, decide_eq_false e1]
    refine (go_no (a.tb t) _ _ _ s w (by simpa using e1) hT).mono ?_
    rintro e w' ⟨rfl, rfl⟩
    exact ⟨rfl, h, Keeps.refl _ _⟩
theorem add_in {R : RkT} {n t : Nat} {p : Int} (h : ∀ x, x < 16 → R.2 x ≠ 0 → x < n) (ht : t < n) (x : Nat) (hx : x < 16) (hne : (addT R (t : Int) p).2 x ≠ 0) : x < n := by
  unfold addT at hne
  split at hne
  · have h' : (if x = ((t : Int)).toNat then p.toNat + 1 else R.2 x) ≠ 0 := hne
    split at h'
    · omega
    · exact h x hx h'
  · exact h x hx hne
theorem sc_radd (w : World) (P : Nat → Prop) (a : ScA) (M : ScM) (h : ScW w P a M) (t : Nat) (ht : t < M.many) (p : Int) :
    Calls Tryz.prog 74 #[.pointer (some ⟨a.rk, 0, none⟩), .int .i64 (t : Int), .int .i64 p] w fun e w' => e = .returned (.bool (canAdd M.R.2 (t : Int) p)) ∧ ScW w' P a { M with R := addT M.R (t : Int) p } ∧ KeepsS P w w' := by
  refine (rks_add w a.rk M.R h.rank (t : Int) p).mono ?_
  rintro e w' ⟨rfl, hr, hk⟩
  have hty := rank_ty h.rank
  have hkt : KeepsTy [154] w w' := keepsTy hk fun k _ e => ⟨_, .head _, by rw [e]; exact hty⟩
  refine ⟨rfl, { h with
    blk := ?_
    task := h.taskK hkt (by decide) (by decide)
    rank := hr
    delta := h.deltaK hkt (by decide) (by decide)
    queue := h.queueK hkt (by decide) (by decide)
    new := h.newK hk
    rin := ?_ }, hk.mono fun k _ e => by rw [e]; exact ⟨h.low.2.1, _, .tail _ (.tail _ (.head _)), hty⟩⟩
  rotate_left
  · exact fun x hx hne => add_in (fun x hx hne => h.rin x hx hne) ht x hx hne
  obtain ⟨cs, h1, h2⟩ := h.blkK hkt (by decide)
  exact ⟨cs, h1, ⟨h2.size, h2.task, h2.prio, h2.many, h2.cur, h2.rk, h2.D, h2.Q⟩⟩
theorem sc_rfirst (w : World) (P : Nat → Prop) (a : ScA) (M : ScM) (h : ScW w P a M) :
    Calls Tryz.prog 127 #[.pointer (some ⟨a.rk, 0, none⟩)] w fun e w' => e = .returned (.tuple #[.int .i64 ((listT M.R).headD 0 : Int), .bool (!(listT M.R).isEmpty)]) ∧ w = w' := rks_first w a.rk M.R h.rank
structure ToldN (T : Int → Nat) (l : List Int) : Prop where
  one : ∀ t, t ∈ l ↔ T t = 1
  nd : l.Nodup
theorem cntT_le (T : Int → Nat) : ∀ n, cntT T n ≤ n
  | 0 => Nat.le_refl _
  | n + 1 => by
    have := cntT_le T n
    show cntT T n + (if T n = 0 then 0 else 1) ≤ n + 1
    split <;> omega
def remW (W : List WaitT) (t : Int) : List WaitT := W.filter fun v => v.1 != t
theorem keeps_below {w w' : World} {S : Nat → Prop} (h : Below w.heap.size w w') : Keeps S w w' := keeps_of_below h (Nat.le_refl _) S
end Go.Proofs.YthnmlklgbggmbaaGreat
namespace Go.Proofs.YthnmlklgbggmbaaGreat
open Go.ChangeShapes Go.WideShapes Go.ChangeAt Go.RowKit
set_option linter.unusedVariables false
set_option linter.unusedSimpArgs false
def resumeM (M : ScM) (t : Nat) (x : Bool × Int × Int) : ScM := if M.st t = 2 ∨ M.st t = 3 then { wakeM M t x with R := addT M.R (t : Int) (M.prio t) } else M
def clearM (M : ScM) (t : Nat) : ScM := { M with bits := upd M.bits t 0 }
def yieldM (M : ScM) (t : Nat) : ScM := giveM { M with R := turnT M.R (t : Int) } t (true, 0, 0)
def overM (M : ScM) (t : Int) : ScM := resumeM { M with W := remW M.W t } t.toNat (decide (M.st t.toNat = 3), 0, 0)
def tickM (M : ScM) (l : List Int) : ScM := l.foldl overM { M with T := fun t => M.T t - 1 }
def firstM (M : ScM) : Int := if (listT M.R).isEmpty then -1 else ((listT M.R).headD 0 : Int)
def dispM (M : ScM) : ScM := { M with cur := firstM M }
end Go.Proofs.YthnmlklgbggmbaaGreat
