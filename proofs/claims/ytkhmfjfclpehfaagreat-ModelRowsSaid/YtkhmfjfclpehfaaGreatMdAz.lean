import Derived.Test.YtkhmfjfclpehfaaGreatBaseZ
import Derived.Test.YtkhmfjfclpehfaaGreatSchAz
import Derived.Great.BuildSlice
import Derived.Laws.Tables
import Derived.Laws.Rows
import Derived.BigQuiet
import Derived.Deep.QuietTactic
namespace Go.Proofs.YtkhmfjfclpehfaaGreat
open Go.ChangeShapes Go.WideShapes Go.ChangeAt Go.RowKit
set_option linter.unusedVariables false
set_option linter.unusedSimpArgs false
def RecAt (w : World) (g : Nat) (T : TypeId) (n k : Nat) (F : Nat → List Value) : Prop := ∃ cs : Array Value, w.heap[g]? = some (.cells cs T (0, 0)) ∧ n * k ≤ cs.size ∧ ∀ i, i < n → ∀ (j : Nat) (v : Value), (F i)[j]? = some v → cs[i * k + j]? = some v
section
variable {w w' : World} {g n k : Nat} {T : TypeId} {F : Nat → List Value} {S : Nat → Prop}
theorem RecAt.keep (h : RecAt w g T n k F) (hk : Keeps S w w') (hs : ¬ S g) : RecAt w' g T n k F := by
  obtain ⟨cs, h1, h2, h3⟩ := h
  exact ⟨cs, hk.at h1 hs, h2, h3⟩
theorem RecAt.cell (h : RecAt w g T n k F) {i j : Nat} {v : Value} (hi : i < n) (hv : (F i)[j]? = some v) : w.cell? ⟨g, i * k + j, none⟩ = some v := by
  obtain ⟨cs, h1, h2, h3⟩ := h
  exact (cell_of h1 _).trans (h3 i hi j v hv)
theorem RecAt.free (h : RecAt w g T n k F) (i : Nat) : w.frozen? ⟨g, i, none⟩ = false := by obtain ⟨cs, h1, _⟩ := h; exact free_of h1 i
theorem RecAt.lt (h : RecAt w g T n k F) : g < w.heap.size := by obtain ⟨cs, h1, _⟩ := h; exact lt_of h1
theorem RecAt.ty (h : RecAt w g T n k F) : Ty w g T := by obtain ⟨cs, h1, _⟩ := h; exact ⟨cs, _, h1⟩
theorem RecAt.same {G : Nat → List Value} (h : RecAt w g T n k F) (e : ∀ i, i < n → F i = G i) : RecAt w g T n k G := by
  obtain ⟨cs, h1, h2, h3⟩ := h
  exact ⟨cs, h1, h2, fun i hi => by rw [← e i hi]; exact h3 i hi⟩
theorem RecAt.set (h : RecAt w g T n k F) {i j : Nat} (hi : i < n) (hj : j < k) (hl : ∀ i, i < n → (F i).length = k) (v : Value) : RecAt (w.setCell ⟨g, i * k + j, none⟩ v) g T n k (fun x => if x = i then (F i).set j v else F x) := by
  obtain ⟨cs, h1, h2, h3⟩ := h
  refine ⟨_, heap_set h1 (i * k + j) v, by simpa using h2, ?_⟩
  intro x hx y u hu
  replace hu : (if x = i then (F i).set j v else F x)[y]? = some u := hu
  have hik : i * k + k ≤ n * k := by rw [← Nat.succ_mul]; exact Nat.mul_le_mul_right k hi
  by_cases e : x = i
  · rw [if_pos e] at hu
    subst e
    by_cases ey : y = j
    · subst ey
      rw [List.getElem?_set_self (by rw [hl x hx]; exact hj)] at hu
      rw [Array.getElem?_setIfInBounds_self_of_lt (by omega)]; exact hu
    · rw [List.getElem?_set_ne (Ne.symm ey)] at hu
      rw [Array.getElem?_setIfInBounds_ne (by omega)]; exact h3 x hx y u hu
  · rw [if_neg e] at hu
    have hy : y < k := by
      have := (List.getElem?_eq_some_iff.1 hu).1
      rw [hl x hx] at this; exact this
    have hne : i * k + j ≠ x * k + y := by
      intro he
      rcases Nat.lt_or_gt_of_ne e with h | h
      · have := Nat.mul_le_mul_right k (show x + 1 ≤ i from h)
        rw [Nat.succ_mul] at this; omega
      · have := Nat.mul_le_mul_right k (show i + 1 ≤ x from h)
        rw [Nat.succ_mul] at this; omega
    rw [Array.getElem?_setIfInBounds_ne hne]; exact h3 x hx y u hu
end
structure AskX where
  is : Bool
  k : Int
  o : Int
  m : Nat
  d : Nat
  b : Nat
structure AskX.Ok (x : AskX) : Prop where
  d : x.d < 4294967296
  b : x.b < 4294967296
@[reducible] def AskX.l (x : AskX) : List Value := [.bool x.is, .int .i64 x.k, .int .i64 x.o, .int .u32 (x.m : Int), .int .u32 (x.d : Int), .int .u32 (x.b : Int)]
def AskX.no : AskX := ⟨false, 0, 0, 0, 0, 0⟩
structure MoA where
  m : Nat
  sa : ScA
  items : Value
  lines : Value
  ab : Nat
  mb : Nat
structure MoW (w : World) (P : Nat → Prop) (a : MoA) (M : ScM) (ticks : Int) (A : Nat → AskX) : Prop where
  blk : w.heap[a.m]? = some (.cells #[a.items, .pointer (some ⟨a.sa.s, 0, none⟩), a.lines, .int .u32 ticks, .slice (some ⟨a.ab, 0, none⟩) M.many M.many, .map (some a.mb)] 80 (0, 0))
  map : w.heap[a.mb]? = some (.map (movesE a.m 9) 9)
  sch : ScW w P a.sa M
  n : a.sa.n = M.many
  asks : RecAt w a.ab 99 M.many 6 (fun i => (A i).l)
  aok : ∀ i, i < M.many → (A i).Ok
def MoTys : List TypeId := 80 :: 99 :: 82 :: SchTys
abbrev KeepsM (P : Nat → Prop) (w w' : World) : Prop := Keeps (fun k => P k ∧ ∃ T, T ∈ MoTys ∧ Ty w k T) w w'
section
variable {P : Nat → Prop} {w w' w1 w2 w3 : World}
theorem kM (h : KeepsM P w1 w2) (k : KeepsM P w2 w3) : KeepsM P w1 w3 :=
  ⟨k.os.trans h.os, k.tape.trans h.tape, k.output.trans h.output, Nat.le_trans h.size k.size, fun i hi hs => by
    have h1 := h.block i hi hs
    rw [k.block i (Nat.lt_of_lt_of_le hi h.size) (fun ⟨e1, T, e2, cs, fr, e3⟩ => hs ⟨e1, T, e2, cs, fr, by rw [← h1]; exact e3⟩), h1]⟩
theorem kM_none (h : Keeps (fun _ => False) w w') : KeepsM P w w' := h.mono fun k _ e => e.elim
theorem kM_S (h : KeepsS P w w') : KeepsM P w w' := h.mono fun k _ e => ⟨e.1, e.2.elim fun T hT => ⟨T, List.mem_cons_of_mem _ (List.mem_cons_of_mem _ (List.mem_cons_of_mem _ hT.1)), hT.2⟩⟩
theorem KeepsM.at {b : Nat} {cs : Array Value} {T : TypeId} {fr : Nat × Nat} (h : KeepsM P w w') (hb : w.heap[b]? = some (.cells cs T fr)) (hT : T ∉ MoTys) : w'.heap[b]? = some (.cells cs T fr) :=
  Keeps.at h hb fun ⟨_, e⟩ => KeepsTy.apart ⟨cs, fr, hb⟩ hT e
theorem kM_one {b : Nat} {T : TypeId} (h : Keeps (fun k => k = b) w w') (hb : Ty w b T) (hT : T ∈ MoTys) (hP : P b) : KeepsM P w w' := h.mono fun k _ e => by have e' : k = b := e; subst e'; exact ⟨hP, T, hT, hb⟩
theorem map_no {b : Nat} {es : Array MapEntry} {c : Nat} {T : TypeId} (h : w.heap[b]? = some (.map es c)) : ¬ Ty w b T := by
  rintro ⟨cs, fr, h'⟩
  rw [h] at h'; injection h' with h'; cases h'
theorem MoW.lt {a : MoA} {M : ScM} {ticks : Int} {A : Nat → AskX} (h : MoW w P a M ticks A) : a.m < w.heap.size := lt_of h.blk
theorem MoW.quiet {a : MoA} {M : ScM} {ticks : Int} {A : Nat → AskX} (h : MoW w P a M ticks A) (k : Keeps (fun _ => False) w w') : MoW w' P a M ticks A :=
  ⟨k.at h.blk fun h => h, k.at h.map fun h => h, h.sch.quiet k, h.n, h.asks.keep k fun h => h, h.aok⟩
theorem MoW.sched {a : MoA} {M M' : ScM} {ticks : Int} {A : Nat → AskX} (h : MoW w P a M ticks A) (k : KeepsS P w w') (hs : ScW w' P a.sa M') (hm : M'.many = M.many) : MoW w' P a M' ticks A := by
  refine ⟨?_, ?_, hs, h.n.trans hm.symm, ?_, fun i hi => h.aok i (by omega)⟩
  · rw [hm]; exact k.at h.blk (by decide)
  · exact Keeps.at k h.map fun ⟨_, T, _, e⟩ => map_no h.map e
  · rw [hm]; exact h.asks.keep k fun ⟨_, e⟩ => KeepsTy.apart h.asks.ty (by decide) e
end
end Go.Proofs.YtkhmfjfclpehfaaGreat
namespace Go.Proofs.YtkhmfjfclpehfaaGreat
open Go.ChangeShapes Go.WideShapes Go.ChangeAt Go.RowKit
set_option linter.unusedVariables false
set_option linter.unusedSimpArgs false
set_option maxRecDepth 100000
@[reducible] def moC (k who v : Int) (Z : Nat → Int) (x : AskX) : Array Value := #[.int .i64 k, .int .i64 who, .int .u32 v, .int .i64 (Z 0), .int .i64 (Z 1), .int .u32 (Z 2), .int .u32 (Z 3), .int .u32 (Z 4), .int .u32 (Z 5), .int .u32 (Z 6), .int .i64 (Z 7), .int .u32 (Z 8), .int .u32 (Z 9), .int .u32 (Z 10), .int .u32 (Z 11), .int .i64 x.k, .int .i64 x.o, .int .u32 (x.m : Int), .int .u32 (x.d : Int), .int .u32 (x.b : Int)]
@[reducible] def outC (f : Int) (V : Nat → Int) (v : Int) (a : Option Addr) (n c : Nat) : Array Value := #[.int .i64 f, .int .u32 (V 0), .int .u32 (V 1), .int .u32 (V 2), .int .u32 (V 3), .int .u32 v, .slice a n c]
theorem out_one (f : Int) (V : Nat → Int) (v : Int) (a : Option Addr) (n c : Nat) : (outC f V v a n c).all (·.oneCell') = true := by kernel_rfl
theorem out_info : (Tryz.prog.info? 51).map (·.size) = some 7 := by kernel_rfl
theorem move_info : (Tryz.prog.info? 45).map (·.size) = some 20 := by kernel_rfl
@[reducible] def zV : Nat → Int := fun _ => 0
theorem out_zero (w : World) : (zeroValue 51).run Tryz.prog w = .ok (.agg (outC 0 zV 0 none 0 0)) w := by kernel_rfl
theorem res_out (fn : Func) (hf : fn.results = #[.cell 4 51, .tmp 5]) (W : World) (T : Array Value) (B : Nat) (cs : Array Value) (g : Value) (hs : cs.size = 7) (h2 : T.getD 4 undef = .pointer (some ⟨B, 0, none⟩)) (h3 : T.getD 5 undef = g) (hc : W.heap[B]? = some (.cells cs 51 (0, 0))) :
    (results fn T).run Tryz.prog W = .ok (.tuple #[.agg cs, g]) W := by
  simp only [Array.getD_eq_getD_getElem?] at h2 h3
  have hr := run_loadVar_row (P := Tryz.prog) W B 51 51 cs (0, 0) _ hc Tryz.underlying51 rfl (by rw [hs]; exact out_info)
  simp [results, hf, h2, h3, asAddr, hr]
def OutQ (P : Nat → Prop) (w : World) (R : Int → (Nat → Int) → Int → Option Addr → Nat → Nat → Int → World → Prop) (e : Ending) (w' : World) : Prop := ∃ f V v a n c g w1, e = .returned (.tuple #[.agg (outC f V v a n c), .int .i64 g]) ∧ R f V v a n c g w1 ∧ KeepsTy [51] w1 w' ∧ KeepsM P w w'
def MvQ (P : Nat → Prop) (W : World) (R : Int → (Nat → Int) → Int → Option Addr → Nat → Nat → Int → World → Prop) (e : Ending) (w1 : World) : Prop := ∃ f V v a n c g, e = .returned (.tuple #[.agg (outC f V v a n c), .int .i64 g]) ∧ R f V v a n c g w1 ∧ KeepsM P W w1
theorem MoW.out {P : Nat → Prop} {w w' : World} {a : MoA} {M : ScM} {tk : Int} {A : Nat → AskX} (h : MoW w P a M tk A) (k : KeepsTy [51] w w') : MoW w' P a M tk A :=
  ⟨k.at h.blk (by decide), Keeps.at k h.map fun ⟨T, _, e⟩ => map_no h.map e, h.sch.keepTy k (by intro T hT; obtain rfl := List.mem_singleton.1 hT; decide), h.n, h.asks.keep k (fun e => KeepsTy.apart h.asks.ty (by decide) e), h.aok⟩
theorem mo_nil (b : Nat) (w : World) : (binOp .eql 30 (.pointer (some ⟨b, 0, none⟩)) (.pointer none)).run Tryz.prog w = .ok (.bool false) w := by kernel_rfl
set_option maxHeartbeats 4000000 in
theorem do_hit (w : World) (P : Nat → Prop) (a : MoA) (M : ScM) (tk : Int) (A : Nat → AskX) (h : MoW w P a M tk A) (k who v : Int) (Z : Nat → Int) (x : AskX) (i : Nat) (f : FuncId) (hf : Instr.findNow (.int .i64) (.int .i64 k) (movesE a.m 9).toList 0 = some (some (i, mvV a.m f)))
    (hcf : ∀ (args : Array Value) (W : World), Sem.run Tryz.prog (callFunc f args) W = .ok (.enter f args) W)
    (R : Int → (Nat → Int) → Int → Option Addr → Nat → Nat → Int → World → Prop)
    (hR : ∀ W, Keeps (fun _ => False) w W → Calls Tryz.prog f #[.pointer (some ⟨a.m, 0, none⟩), .agg (moC k who v Z x)] W (MvQ P W R)) :
    Calls Tryz.prog 9 #[.pointer (some ⟨a.m, 0, none⟩), .agg (moC k who v Z x)] w (OutQ P w R) := by
  obtain ⟨P1, hP1⟩ : ∃ W, W = w.alloc (.cells (moC k who v Z x) 45) := ⟨_, rfl⟩
  obtain ⟨W1, hW1⟩ : ∃ W, W = P1.alloc (.cells (outC 0 zV 0 none 0 0) 51) := ⟨_, rfl⟩
  have kP : Keeps (fun _ => False) w P1 := by rw [hP1]; exact (Keeps.refl _ w).alloc _
  have hb1 : P1.heap[w.heap.size]? = some (.cells (moC k who v Z x) 45 (0, 0)) := by rw [hP1]; exact heap_new _ _
  have k1 : Keeps (fun _ => False) w W1 := by rw [hW1]; exact kP.alloc _
  have hb2 : W1.heap[w.heap.size]? = some (.cells (moC k who v Z x) 45 (0, 0)) := by rw [hW1]; exact ((Keeps.refl (fun _ => False) P1).alloc _).at hb1 fun h => h
  have ho : W1.heap[P1.heap.size]? = some (.cells (outC 0 zV 0 none 0 0) 51 (0, 0)) := by rw [hW1]; exact heap_new _ _
  have hq := h.quiet k1
  have HR := Lib.hid (fun n => hR (W1.drewN n) (k1.drewN n))
  have c5 := cell_of hq.blk 5
  have lm := hq.lt
  have x0 := cell_of hb2 0
  have lx := lt_of hb2
  have hl : ∀ n, (Instr.lookup 78 (.map (some a.mb)) (.int .i64 k) true).run Tryz.prog (W1.drewN n) = .ok (.tuple #[mvV a.m f, .bool true]) (W1.drewN n) := fun n => run_lookI_hit (P := Tryz.prog) 78 _ _ a.mb 9 i (movesE a.m 9) k _ Tryz.underlying78 Tryz.underlying3 (show (W1.drewN n).heap[a.mb]? = _ from hq.map) hf
  have hn := fun W => mo_nil a.m W
  have HB2 := Lib.hid hb2
  have HO := Lib.hid ho
  have HK1 := Lib.hid k1
  have HP1 := Lib.hid hP1
  have HW1 := Lib.hid hW1
  have HZ := Lib.hid kP.size
  clear hP1 hW1 kP hb1 k1 hb2 ho hq h hf hR
  go_enter Tryz.func9, Tryz.ntmps9
  go_wp2_with (first
    | (refine Great.wpList_boxTo rfl 45 (.tmp 1) rfl (some 3) rfl w.heap.size rfl (moC k who v Z x) rfl ?_; rw [← HP1.out])
    | (refine wpList_alloc_as rfl 51 rfl (some 4) rfl P1.heap.size rfl _ (out_zero _) (outC 0 zV 0 none 0 0) rfl ?_; rw [← HW1.out]))
  go_quiet (fail)
  all_goals
    have HKD := Lib.hid (HK1.out.drewN nq)
    clear hl c5 lm x0 lx hn
    go_wp2_with (first
      | (refine wpList_load_row rfl 45 (.tmp 3) rfl w.heap.size rfl 45 (moC k who v Z x) (0, 0) _ (show (W1.drewN nq).heap[w.heap.size]? = _ from HB2.out) Tryz.underlying45 rfl move_info ?_))
    refine (HR.out nq).mono ?_
    rintro e w1 ⟨f', V, v', a', n', c', g, rfl, hR, k2⟩
    have HO1 := Lib.hid (k2.at (show (W1.drewN nq).heap[P1.heap.size]? = _ from HO.out) (by decide))
    have HRR := Lib.hid hR
    have HK2 := Lib.hid (kM (kM_none (P := P) HKD.out) k2)
    clear hR k2
    go_wp2_with (first
      | (refine wpList_store_row rfl 51 (.tmp 4) (.tmp 27) rfl P1.heap.size (outC f' V v' a' n' c') rfl rfl 51 _ HO1.out out_info rfl (out_one _ _ _ _ _ _) ?_))
    refine bodyPost_ret (v := .tuple #[.agg (outC f' V v' a' n' c'), .int .i64 g]) (res_out _ Tryz.results9 _ _ P1.heap.size _ _ rfl rfl rfl (setRow_heap _ _ _ _ _ _ HO1.out)) rfl ?_
    exact ⟨f', V, v', a', n', c', g, w1, rfl, HRR.out, ((Keeps.refl (fun k => k = P1.heap.size) w1).setRow (.inl rfl) _).mono (fun k _ e => ⟨_, .head _, by obtain rfl : k = P1.heap.size := e; exact ⟨_, _, HO1.out⟩⟩), Keeps.setRow HK2.out (.inr HZ.out) _⟩
end Go.Proofs.YtkhmfjfclpehfaaGreat
