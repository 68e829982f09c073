import Derived.Test.YtdbplamhpkahaaaSchP
import Derived.Test.YtdbplamhpkahaaaOpen
namespace Go.Proofs.Ytdbplamhpkahaaa
open Go.ChangeShapes Go.WideShapes Go.ChangeAt Go.RowKit
set_option linter.unusedVariables false
set_option linter.unusedSimpArgs false
theorem ScV.cell {w : World} {a : ScA} {M : ScM} (h : ScV w a M) (k : Nat) {v : Value} (hv : ∀ cs, ScCells cs a M → cs[k]? = some v) : w.cell? ⟨a.s, k, none⟩ = some v := by
  obtain ⟨cs, hb, hc⟩ := h.blk
  exact (cell_of hb k).trans (hv cs hc)
theorem ScV.kept {w w' : World} {a : ScA} {M : ScM} {S : Nat → Prop} (h : ScV w a M) (hk : Keeps S w w') (h1 : ¬ S a.s) (h2 : ¬ S a.rk) (h3 : ∀ t, t < M.many → ¬ S (a.tb t)) : ScV w' a M := by
  obtain ⟨cs, hb, hc⟩ := h.blk
  exact ⟨⟨cs, hk.at hb h1, hc⟩, h.le, fun t ht => by obtain ⟨v, hv⟩ := h.task t ht; exact ⟨v, hk.at hv (h3 t ht)⟩, h.rank.keeps hk h2⟩
set_option maxRecDepth 20000 in
set_option maxHeartbeats 2000000 in
theorem vdisp (w : World) (a : ScA) (M : ScM) (h : ScV w a M) :
    Calls Try.prog 57 #[.pointer (some ⟨a.s, 0, none⟩)] w fun e w' => ∃ b, e = .returned (.tuple #[.int .i64 (firstM M), .bool b]) ∧ Keeps (fun k => k = a.s) w w' := by
  have c33 := h.cell 33 fun cs hc => hc.cur
  have f33 : w.frozen? ⟨a.s, 33, none⟩ = false := by obtain ⟨cs, hb, _⟩ := h.blk; exact free_of hb 33
  have c34 := h.cell 34 fun cs hc => hc.rk
  have HF := Lib.hid (rks_first w a.rk M.R h.rank)
  have HK := Lib.hid (fun v => (Keeps.refl (fun k => k = a.s) w).setCell (p := ⟨a.s, 33, none⟩) (.inl rfl) v)
  clear h
  unfold firstM
  cases hl : listT M.R with
  | nil =>
    rw [hl] at HF
    simp only [List.isEmpty_nil, if_true, Bool.not_true, List.headD_nil] at HF ⊢
    go_enter Try.func57, Try.ntmps57
    go_wp2_with fail
    refine HF.out.mono ?_
    rintro e w' ⟨rfl, rfl⟩
    go_wp2_with fail
    refine bodyPost_ret (v := .tuple #[.int .i64 (-1), .bool (-1 != M.cur)]) (by simp [results, Try.results57, go_sem]) rfl ⟨_, rfl, HK.out _⟩
  | cons x r =>
    rw [hl] at HF
    simp only [List.isEmpty_cons, List.headD_cons, Bool.false_eq_true, if_false, Bool.not_false] at HF ⊢
    go_enter Try.func57, Try.ntmps57
    go_wp2_with fail
    refine HF.out.mono ?_
    rintro e w' ⟨rfl, rfl⟩
    go_wp2_with fail
    refine bodyPost_ret (v := .tuple #[.int .i64 (x : Int), .bool ((x : Int) != M.cur)]) (by simp [results, Try.results57, go_sem]) rfl ⟨_, rfl, HK.out _⟩
set_option maxRecDepth 20000 in
set_option maxHeartbeats 2000000 in
theorem vstate (w : World) (a : ScA) (M : ScM) (h : ScV w a M) (hn : a.n = M.many) (t : Nat) (ht : t < M.many) :
    Calls Try.prog 60 #[.pointer (some ⟨a.s, 0, none⟩), .int .i64 (t : Int)] w fun e w' => e = .returned (.int .i64 (M.st t)) ∧ w = w' := by
  have le := h.le
  have c32 := h.cell 32 fun cs hc => hc.many
  rw [hn] at c32
  have ct := h.cell t fun cs hc => by rw [hc.task t (by omega), if_pos ht]
  obtain ⟨v, hv⟩ := h.task t ht
  have cs : w.cell? ⟨a.tb t, 0, none⟩ = some (.int .i64 (M.st t)) := cell_of hv 0
  have d1 : decide ((t : Int) < 16) = true := decide_eq_true (by omega)
  have d2 : t < 16 := by omega
  have d3 : (0 : Int) ≤ (t : Int) := by omega
  have d4 : (t : Int) < 16 := by omega
  have d5 : decide (t < M.many) = true := decide_eq_true ht
  have d6 : decide ((t : Int) < (M.many : Int)) = true := decide_eq_true (by omega)
  have d7 : decide ((0 : Int) ≤ (t : Int)) = true := decide_eq_true d3
  have HS : Hid (Calls Try.prog 47 #[.pointer (some ⟨a.tb t, 0, none⟩)] w fun e w' => e = .returned (.int .i64 (M.st t)) ∧ w = w') := Lib.hid (by
    go_enter Try.func47, Try.ntmps47
    go_wp2
    go_ret
    exact ⟨rfl, rfl⟩)
  have HH : Hid (Calls Try.prog 82 #[.pointer (some ⟨a.s, 0, none⟩), .int .i64 (t : Int)] w fun e w' => e = .returned (.bool true) ∧ w = w') := Lib.hid (by
    go_enter Try.func82, Try.ntmps82
    go_wp2
    go_ret
    exact ⟨rfl, rfl⟩)
  clear h hv c32 cs
  go_enter Try.func60, Try.ntmps60
  go_wp2_with fail
  refine HH.out.mono ?_
  rintro e w' ⟨rfl, rfl⟩
  go_wp2_with fail
  refine HS.out.mono ?_
  rintro e w' ⟨rfl, rfl⟩
  go_wp2_with fail
  go_ret
  exact ⟨rfl, rfl⟩
/-- The blocks of a scheduler are among those that there are: another set will do as well. -/
theorem ScW.narrow {w : World} {P Q : Nat → Prop} {a : ScA} {M : ScM} (h : ScW w P a M) (hq : ∀ k, k < w.heap.size → P k → Q k) (hn : ∀ k, w.heap.size ≤ k → Q k) : ScW w Q a M :=
  { h with
    delta := by
      obtain ⟨L, hd, ha, hl⟩ := h.delta
      exact ⟨L, hd, ha, fun i nd hi => hq _ (lt_of (hd.node i nd hi)) (hl i nd hi)⟩
    queue := by
      obtain ⟨N, b, hd, hg, hw, hl⟩ := h.queue
      refine ⟨N, b, hd, hg, hw, fun x hx => ?_⟩
      obtain ⟨i, hi⟩ := List.getElem?_of_mem hx
      exact hq _ (lt_of (hd.node i x hi)) (hl x hx)
    low := ⟨hq _ h.lt h.low.1, hq _ h.rank.lt h.low.2.1, by obtain ⟨L, hd, _⟩ := h.delta; exact hq _ hd.lt h.low.2.2.1, by obtain ⟨N, b, hd, _⟩ := h.queue; exact hq _ (lt_of hd.head) h.low.2.2.2.1, fun t ht => hq _ (h.task t ht).lt (h.low.2.2.2.2 t ht)⟩
    new := hn }
set_option maxRecDepth 20000 in
set_option maxHeartbeats 2000000 in
theorem sleft_any (w : World) (P : Nat → Prop) (a : ScA) (M : ScM) (h : ScW w P a M) (hn : a.n = M.many) (t : Nat) (ht : t < M.many) :
    Calls Try.prog 61 #[.pointer (some ⟨a.s, 0, none⟩), .int .i64 (t : Int)] w fun e w' => e = .returned (.tuple #[.int .u32 (M.T (t : Int) : Int), .bool (decide (M.T (t : Int) ≠ 0))]) ∧ ScW w' P a M ∧ KeepsS P w w' := by
  have le := h.le
  have HH := Lib.hid (has_yes w P a M h hn (t : Int) ⟨by omega, by omega⟩)
  have c35 := h.cD
  have HS := Lib.hid (sc_dleft w P a M h (t : Int))
  have d1 : decide ((t : Int) < 16) = true := decide_eq_true (by omega)
  have d2 : t < 16 := by omega
  have d3 : (0 : Int) ≤ (t : Int) := by omega
  have d4 : (t : Int) < 16 := by omega
  clear h
  go_enter Try.func61, Try.ntmps61
  go_wp2_with fail
  refine HH.out.mono ?_
  rintro e w' ⟨rfl, rfl⟩
  go_wp2_with fail
  refine HS.out.mono ?_
  rintro e w2 ⟨rfl, h2, k2⟩
  have HZ := Lib.hid (And.intro h2 k2)
  clear h2 k2 HS
  go_wp2_with fail
  refine bodyPost_ret (v := .tuple #[.int .u32 (M.T (t : Int) : Int), .bool (decide (M.T (t : Int) ≠ 0))]) (by simp [results, Try.results61, go_sem]) rfl ⟨rfl, HZ.out⟩
set_option maxRecDepth 20000 in
set_option maxHeartbeats 2000000 in
theorem sready_any (w : World) (P : Nat → Prop) (a : ScA) (M : ScM) (h : ScW w P a M) :
    Calls Try.prog 58 #[.pointer (some ⟨a.s, 0, none⟩)] w fun e w' => ∃ v, e = .returned v ∧ w'.ownsRow w.heap.size 3 1 v (listT M.R).length (ints (listT M.R)) ∧ ScW w' P a M ∧ Keeps (fun _ => False) w w' := by
  have c34 := h.cRk
  have HS := Lib.hid (sc_rlist w P a M h)
  clear h
  go_enter Try.func58, Try.ntmps58
  go_wp2_with fail
  refine HS.out.mono ?_
  rintro e w2 ⟨v, rfl, hz⟩
  have HZ := Lib.hid hz
  clear hz HS
  go_wp2_with fail
  go_ret
  exact ⟨v, rfl, HZ.out⟩
set_option maxRecDepth 20000 in
set_option maxHeartbeats 2000000 in
theorem swaits_any (w : World) (P : Nat → Prop) (a : ScA) (M : ScM) (h : ScW w P a M) (hm : M.W.length < 1000000) :
    Calls Try.prog 59 #[.pointer (some ⟨a.s, 0, none⟩)] w fun e w' => ∃ v, e = .returned v ∧ w'.ownsRow w.heap.size 56 4 v M.W.length (waitsC M.W) ∧ ScW w' P a M ∧ Keeps (fun _ => False) w w' := by
  have c36 := h.cQ
  have HS := Lib.hid (sc_qlist w P a M h hm)
  clear h
  go_enter Try.func59, Try.ntmps59
  go_wp2_with fail
  refine HS.out.mono ?_
  rintro e w2 ⟨v, rfl, hz⟩
  have HZ := Lib.hid hz
  clear hz HS
  go_wp2_with fail
  go_ret
  exact ⟨v, rfl, HZ.out⟩
/-- The priorities of a row of tasks. -/
theorem prios_open {w : World} {cs : List Value} (h : Reads Try.prog w 87 cs) : ∃ (a : Option Addr) (n c : Nat) (L : List Int), cs = [.slice a n c] ∧ n ≤ maxLen ∧ PriosAt w a n L := by
  obtain ⟨a, n, c, e, hl, hm, r⟩ := h.rows Try.underlying87 (n := 3) (by kernel_rfl) (by omega)
  rcases Nat.eq_zero_or_pos n with rfl | hp
  · exact ⟨a, 0, c, [], e, by omega, rfl, fun h => by omega⟩
  · obtain ⟨b, off, rfl, hb, hr⟩ := r hp
    obtain ⟨F, hF⟩ := Deep.choose_lt (n := n) (p := fun i (x : Int) => w.cell? ⟨b, off + i * 3, none⟩ = some (.int .i64 x)) (fun i hi => by
      obtain ⟨cs', hl3, hc, hrd⟩ := hr i hi
      match cs', hl3 with
      | [a0, a1, a2], _ =>
        obtain ⟨x, e0, _⟩ := (hrd.field Try.underlying105 0 3 0 1 rfl (by kernel_rfl)).int Try.underlying3
        have e1 : a0 = .int .i64 x := by simpa using e0
        refine ⟨x, ?_⟩
        have := hc 0 (by omega)
        rw [Nat.add_zero] at this
        rw [this, e1]
        rfl)
    refine ⟨_, n, c, (List.range n).map F, e, by omega, by simp, fun _ => ⟨b, off, rfl, hb, fun k p hk => ?_⟩⟩
    rw [List.getElem?_map] at hk
    obtain ⟨j, hj, rfl⟩ := Option.map_eq_some_iff.1 hk
    have hin : k < n := by
      rcases Nat.lt_or_ge k n with h | h
      · exact h
      · rw [List.getElem?_eq_none (by simpa using h)] at hj; cases hj
    rw [List.getElem?_range hin] at hj
    obtain rfl := Option.some.inj hj
    exact hF _ hin
/-- A step: its kind, its task, its request, its bits. -/
structure StepX where
  k : Int
  t : Int
  rk : Int
  ro : Int
  m : Nat
  d : Nat
  b : Nat
  bits : Nat
structure StepX.Ok (x : StepX) : Prop where
  m : x.m < 4294967296
  d : x.d < 4294967296
  b : x.b < 4294967296
  bits : x.bits < 4294967296
def stepC (x : StepX) : List Value := [.int .i64 x.k, .int .i64 x.t, .int .i64 x.rk, .int .i64 x.ro, .int .u32 (x.m : Int), .int .u32 (x.d : Int), .int .u32 (x.b : Int), .int .u32 (x.bits : Int)]
theorem u32_nat {x : Int} (h : (Lit.int .u32 x).wf = true) : ∃ n : Nat, x = (n : Int) ∧ n < 4294967296 := by
  have := bounds_u32 h
  exact ⟨x.toNat, by omega, by omega⟩
set_option maxRecDepth 100000 in
theorem step_reads {w : World} {cs : List Value} (h : Reads Try.prog w 95 cs) : ∃ x : StepX, cs = stepC x ∧ x.Ok := by
  obtain ⟨hl, _⟩ := h.struct Try.underlying95
  have hc : Try.prog.cellsOf 95 = 8 := by kernel_rfl
  have hi : Try.prog.cellsOf 3 = 1 := by kernel_rfl
  have hu : Try.prog.cellsOf 30 = 1 := by kernel_rfl
  have h5 : Try.prog.cellsOf 93 = 5 := by kernel_rfl
  rw [hc] at hl
  match cs, hl with
  | [a0, a1, a2, a3, a4, a5, a6, a7], _ =>
    have hR := h.field Try.underlying95 2 93 2 5 rfl h5
    obtain ⟨x0, e0, _⟩ := (h.field Try.underlying95 0 3 0 1 rfl hi).int Try.underlying3
    obtain ⟨x1, e1, _⟩ := (h.field Try.underlying95 1 3 1 1 rfl hi).int Try.underlying3
    obtain ⟨x2, e2, _⟩ := (hR.field Try.underlying93 0 3 0 1 rfl hi).int Try.underlying3
    obtain ⟨x3, e3, _⟩ := (hR.field Try.underlying93 1 3 1 1 rfl hi).int Try.underlying3
    obtain ⟨x4, e4, b4⟩ := (hR.field Try.underlying93 2 30 2 1 rfl hu).int Try.underlying30
    obtain ⟨x5, e5, b5⟩ := (hR.field Try.underlying93 3 30 3 1 rfl hu).int Try.underlying30
    obtain ⟨x6, e6, b6⟩ := (hR.field Try.underlying93 4 30 4 1 rfl hu).int Try.underlying30
    obtain ⟨x7, e7, b7⟩ := (h.field Try.underlying95 3 30 7 1 rfl hu).int Try.underlying30
    obtain ⟨m, rfl, hm⟩ := u32_nat b4
    obtain ⟨d, rfl, hd⟩ := u32_nat b5
    obtain ⟨b, rfl, hb⟩ := u32_nat b6
    obtain ⟨g, rfl, hg⟩ := u32_nat b7
    simp at e0 e1 e2 e3 e4 e5 e6 e7
    subst e0 e1 e2 e3 e4 e5 e6 e7
    exact ⟨⟨x0, x1, x2, x3, m, d, b, g⟩, rfl, ⟨hm, hd, hb, hg⟩⟩
structure StepsAt (w : World) (la : Option Addr) (n : Nat) (L : List StepX) : Prop where
  len : L.length = n
  ok : ∀ x, x ∈ L → x.Ok
  lies : 0 < n → ∃ b off, la = some ⟨b, off, none⟩ ∧ b < w.heap.size ∧ ∀ (k : Nat) (x : StepX), L[k]? = some x → w.rangeAt b (off + k * 8) (stepC x)
theorem steps_open {w : World} {cs : List Value} (h : Reads Try.prog w 88 cs) : ∃ (a : Option Addr) (n c : Nat) (L : List StepX), cs = [.slice a n c] ∧ n ≤ maxLen ∧ StepsAt w a n L := by
  obtain ⟨a, n, c, e, hl, hm, r⟩ := h.rows Try.underlying88 (n := 8) (by kernel_rfl) (by omega)
  rcases Nat.eq_zero_or_pos n with rfl | hp
  · exact ⟨a, 0, c, [], e, by omega, rfl, fun x hx => by (cases hx), fun h => by omega⟩
  · obtain ⟨b, off, rfl, hb, hr⟩ := r hp
    haveI : Inhabited StepX := ⟨⟨0, 0, 0, 0, 0, 0, 0, 0⟩⟩
    obtain ⟨F, hF⟩ := Deep.choose_lt (n := n) (p := fun i (x : StepX) => x.Ok ∧ w.rangeAt b (off + i * 8) (stepC x)) (fun i hi => by
      obtain ⟨cs', hl8, hc, hrd⟩ := hr i hi
      obtain ⟨x, rfl, hx⟩ := step_reads hrd
      refine ⟨x, hx, fun j v hj => ?_⟩
      have hj8 : j < 8 := by
        rcases Nat.lt_or_ge j 8 with h | h
        · exact h
        · rw [List.getElem?_eq_none (by show 8 ≤ j; exact h)] at hj; cases hj
      rw [hc j hj8]
      exact hj)
    refine ⟨_, n, c, (List.range n).map F, e, by omega, by simp, fun x hx => ?_, fun _ => ⟨b, off, rfl, hb, fun i x hi => ?_⟩⟩
    · obtain ⟨i, hi, rfl⟩ := List.mem_map.1 hx
      exact (hF i (List.mem_range.1 hi)).1
    · rw [List.getElem?_map] at hi
      obtain ⟨j, hj, rfl⟩ := Option.map_eq_some_iff.1 hi
      have hin : i < n := by
        rcases Nat.lt_or_ge i n with h | h
        · exact h
        · rw [List.getElem?_eq_none (by simpa using h)] at hj; cases hj
      rw [List.getElem?_range hin] at hj
      obtain rfl := Option.some.inj hj
      exact (hF _ hin).2
end Go.Proofs.Ytdbplamhpkahaaa
