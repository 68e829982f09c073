import Derived.Test.YtkhmfjfclpehfaaGreatRow
import Derived.Laws.AppendOwn
import Derived.Laws.AppendOwnNone
import Derived.WalkKit
import Derived.Handy
import Derived.Test.YtkhmfjfclpehfaaGreatMdAz
import Derived.Test.YtkhmfjfclpehfaaGreatConfGz
import Derived.Test.YtkhmfjfclpehfaaGreatSpecPz
import Derived.Test.YtkhmfjfclpehfaaGreatSchMz
import Derived.Deep.RegionHeld3
import Derived.Deep.RegionLaw
import Derived.Deep.AppendLies
namespace Go.Proofs.YtkhmfjfclpehfaaGreat
open Go.ChangeShapes Go.WideShapes Go.ChangeAt Go.RowKit
set_option linter.unusedVariables false
set_option linter.unusedSimpArgs false
section
variable {P : Program} {w : World}
/-- append to a row that is the call's own, of whatever row: of none, of an empty one, of some. -/
theorem wp_app_any {o : Oper} {a : Act} {K : Act → World → Prop} {Q : Exit → Act → World → Prop} (s x : Operand) (t : TypeId)
    (ho : o.op = .call { callee := .builtin .append, args := #[s, x], argTypes := #[t, t] })
    (base : Nat) (e : TypeId) (i : TypeInfo) (z : Value) (size bytes : Nat) (ht : P.underlying t = some (.slice e)) (hi : P.info? e = some i) (hz : i.zero = some z)
    (hsize : i.size = size) (hby : i.bytes = bytes) (hzs : z.cells.size = size) (hsz : 0 < size)
    (v : Value) (n : Nat) (xs : List Value) (hs : a.eval s = v) (hown : w.ownsRow base e size v n xs)
    (A : Option Addr) (m c : Nat) (news : List Value) (hx : a.eval x = .slice A m c) (hA : A = none → m = 0 ∧ c = 0) (hl : news.length = m * size) (hnews : ∀ ad, A = some ad → ∀ j u, news[j]? = some u → w.cell? (ad.add j) = some u) (h1 : ∀ u ∈ news, u.oneCell' = true)
    (h63 : n + m ≤ maxLen) (hbytes : (n + m) * bytes ≤ 140737488355328) (hbase : base ≤ w.heap.size)
    (h : ∀ v' w', w'.ownsRow base e size v' (n + m) (xs ++ news) → w.grownBy w' v.ownBlock → K (a.put o.dst v') w') : o.wp P a w K Q := by
  cases A with
  | some ad => exact wp_append_own w s x t ho base e i z size bytes ht hi hz hsize hby hzs hsz v n xs hs hown ad m c news hx hl (hnews ad rfl) h1 h63 hbytes hbase fun v' w' h2 h3 _ => h v' w' h2 h3
  | none =>
    obtain ⟨rfl, rfl⟩ := hA rfl
    have hn : news = [] := List.eq_nil_of_length_eq_zero (by rw [hl]; simp)
    subst hn
    have hrun := run_append_owned_none (P := P) (w := w) base t o.type e i size ht hi v n xs hown
    unfold Oper.wp
    simp [execOp, ho, resolve, invoke, builtin, hs, hx, hrun, Result.andThen]
    exact h v w (by simpa using hown) ⟨rfl, rfl, rfl, Nat.le_refl _, fun _ _ _ => rfl⟩
theorem wpList_app_any {ops : Array Oper} {rest : List Oper} {o : Oper} {a : Act} {Q : Exit → Act → World → Prop} (hgd : o.guard = none) (s x : Operand) (t : TypeId)
    (ho : o.op = .call { callee := .builtin .append, args := #[s, x], argTypes := #[t, t] })
    (base : Nat) (e : TypeId) (i : TypeInfo) (z : Value) (size bytes : Nat) (ht : P.underlying t = some (.slice e)) (hi : P.info? e = some i) (hz : i.zero = some z)
    (hsize : i.size = size) (hby : i.bytes = bytes) (hzs : z.cells.size = size) (hsz : 0 < size)
    (v : Value) (n : Nat) (xs : List Value) (hs : a.eval s = v) (hown : w.ownsRow base e size v n xs)
    (A : Option Addr) (m c : Nat) (news : List Value) (hx : a.eval x = .slice A m c) (hA : A = none → m = 0 ∧ c = 0) (hl : news.length = m * size) (hnews : ∀ ad, A = some ad → ∀ j u, news[j]? = some u → w.cell? (ad.add j) = some u) (h1 : ∀ u ∈ news, u.oneCell' = true)
    (h63 : n + m ≤ maxLen) (hbytes : (n + m) * bytes ≤ 140737488355328) (hbase : base ≤ w.heap.size)
    (h : ∀ v' w', w'.ownsRow base e size v' (n + m) (xs ++ news) → w.grownBy w' v.ownBlock → wpList P ops Q rest (a.put o.dst v') w') : wpList P ops Q (o :: rest) a w :=
  wpList_plain hgd fun _ hK => wp_app_any s x t ho base e i z size bytes ht hi hz hsize hby hzs hsz v n xs hs hown A m c news hx hA hl hnews h1 h63 hbytes hbase fun v' w' h2 h3 => hK _ _ (h v' w' h2 h3)
theorem step_app_any {ops : Array Oper} {o : Oper} {a : Act} {K : Act → World → Prop} {Q : Exit → Act → World → Prop} {E : Prop} (hgd : o.guard = none) (s x : Operand) (t : TypeId)
    (ho : o.op = .call { callee := .builtin .append, args := #[s, x], argTypes := #[t, t] })
    (base : Nat) (e : TypeId) (i : TypeInfo) (z : Value) (size bytes : Nat) (ht : P.underlying t = some (.slice e)) (hi : P.info? e = some i) (hz : i.zero = some z)
    (hsize : i.size = size) (hby : i.bytes = bytes) (hzs : z.cells.size = size) (hsz : 0 < size)
    (v : Value) (n : Nat) (xs : List Value) (hs : a.eval s = v) (hown : w.ownsRow base e size v n xs)
    (A : Option Addr) (m c : Nat) (news : List Value) (hx : a.eval x = .slice A m c) (hA : A = none → m = 0 ∧ c = 0) (hl : news.length = m * size) (hnews : ∀ ad, A = some ad → ∀ j u, news[j]? = some u → w.cell? (ad.add j) = some u) (h1 : ∀ u ∈ news, u.oneCell' = true)
    (h63 : n + m ≤ maxLen) (hbytes : (n + m) * bytes ≤ 140737488355328) (hbase : base ≤ w.heap.size)
    (h : ∀ v' w', w'.ownsRow base e size v' (n + m) (xs ++ news) → w.grownBy w' v.ownBlock → K (a.put o.dst v') w') :
    if Region.wanted o (yielded ops a.tmps) = true then Oper.wp P o a w K Q else E := by
  have hw : Region.wanted o (yielded ops a.tmps) = true := by simp [Region.wanted, hgd]
  rw [if_pos hw]
  exact wp_app_any s x t ho base e i z size bytes ht hi hz hsize hby hzs hsz v n xs hs hown A m c news hx hA hl hnews h1 h63 hbytes hbase h
end
theorem own_apartC {w : World} {base : Nat} {e t : TypeId} {size n g : Nat} {v : Value} {xs : List Value} {cs : Array Value} (h : w.ownsRow base e size v n xs) (hg : w.heap[g]? = some (.cells cs t (0, 0))) (hne : e ≠ t) : v.ownBlock ≠ some g := by
  rcases h.2 with ⟨rfl, _⟩ | ⟨g', cap, cur, rfl, _, hh, _⟩
  · simp [Value.ownBlock]
  · intro he
    have e1 : g' = g := by simpa [Value.ownBlock] using he
    subst e1
    rw [hg] at hh
    injection hh with hh
    injection hh with _ ht
    exact hne ht.symm
theorem own_differC {w : World} {b1 b2 : Nat} {e1 e2 : TypeId} {s1 s2 n1 n2 : Nat} {v1 v2 : Value} {xs1 xs2 : List Value} (h1 : w.ownsRow b1 e1 s1 v1 n1 xs1) (h2 : w.ownsRow b2 e2 s2 v2 n2 xs2) (hne : e1 ≠ e2) : v1.ownBlock = none ∨ v1.ownBlock ≠ v2.ownBlock := by
  rcases h2.2 with ⟨rfl, _⟩ | ⟨g', cap, cur, rfl, _, hh, _⟩
  · cases hv : v1.ownBlock with
    | none => exact .inl rfl
    | some g => exact .inr (by simp [Value.ownBlock])
  · exact .inr (own_apartC h1 hh hne)
theorem own_slice {w : World} {base : Nat} {e : TypeId} {size n : Nat} {v : Value} {xs : List Value} (h : w.ownsRow base e size v n xs) : ∃ a c, v = .slice a n c := by
  rcases h.2 with ⟨rfl, rfl⟩ | ⟨g', cap, cur, rfl, _⟩
  · exact ⟨_, _, rfl⟩
  · exact ⟨_, _, rfl⟩
end Go.Proofs.YtkhmfjfclpehfaaGreat
namespace Go.Proofs.YtkhmfjfclpehfaaGreat
open Go.ChangeShapes Go.WideShapes Go.ChangeAt Go.RowKit
set_option linter.unusedVariables false
set_option linter.unusedSimpArgs false
set_option maxRecDepth 100000
theorem bad_zero {c : CfD} (h : (badOf c).1 = 0) : badOf c = (0, 0, 0) := by
  unfold badOf at h ⊢
  by_cases h1 : (bad1 c).1 = 0
  · rw [if_pos h1] at h ⊢
    by_cases h2 : (bad2 c).1 = 0
    · rw [if_pos h2] at h ⊢
      by_cases h3 : (bad3 c).1 = 0
      · rw [if_pos h3] at h ⊢
        exact eachV_zero h
      · rw [if_neg h3] at h; exact absurd h h3
    · rw [if_neg h2] at h; exact absurd h h2
  · rw [if_neg h1] at h; exact absurd h h1
set_option maxHeartbeats 4000000 in
theorem new_bad (c : CfD) (w : World) (hc : CfIn w c) (ho : c.Ok) (hv : badOf c ≠ (0, 0, 0)) :
    Calls Tryz.prog 7 #[.agg c.cells] w fun e w' => e = .returned (.pointer none) ∧ Keeps (fun _ => False) w w' := by
  have HCK := Lib.hid (fun W (k : Keeps (fun _ => False) w W) => check_any c W (hc.none k) ho)
  have HB := Lib.hid ((Has.start w).alloc (.cells c.cells 26))
  have HV := Lib.hid hv
  clear hc ho hv
  go_enter Tryz.func7, Tryz.ntmps7
  go_wp2_with fail
  refine (HCK.out _ HB.out.keeps).mono ?_
  rintro e1 w1 ⟨rfl, k1⟩
  replace HB := Lib.hid (HB.out.none k1)
  clear k1
  have hz : (badOf c).1 ≠ 0 := fun e => HV.out (bad_zero e)
  generalize badOf c = B at *
  obtain ⟨b0, b1, b2⟩ := B
  have hb0 : (b0 == 0) = false := beq_eq_false_iff_ne.mpr hz
  have hb1 : (b0 = 0) = False := eq_false hz
  clear hz HV
  go_wp2_with fail
  go_ret
  exact ⟨rfl, HB.out.keeps⟩
theorem ask_zero (w : World) : (zeroValue 99).run Tryz.prog w = .ok (.agg #[.bool false, .int .i64 0, .int .i64 0, .int .u32 0, .int .u32 0, .int .u32 0]) w := by kernel_rfl
theorem info_ask : (Tryz.prog.info? 99).map (fun i => (i.zero, i.size, i.bytes)) = some (some (.agg #[.bool false, .int .i64 0, .int .i64 0, .int .u32 0, .int .u32 0, .int .u32 0]), 6, 40) := by kernel_rfl
theorem make_asks (w : World) (n : Nat) (hn : n ≤ 1000) : (Instr.makeSlice 76 (.int .i64 (n : Int)) (.int .i64 (n : Int))).run Tryz.prog w = .ok (.slice (some ⟨w.heap.size, 0, none⟩) n n) (w.alloc (.cells (madeCells #[.bool false, .int .i64 0, .int .i64 0, .int .u32 0, .int .u32 0, .int .u32 0] (n * 6)) 99)) := by
  obtain ⟨i, hi, hz0, hz1, hz2⟩ := info_parts info_ask
  have h := run_make w 76 99 i (.agg #[.bool false, .int .i64 0, .int .i64 0, .int .u32 0, .int .u32 0, .int .u32 0]) Tryz.underlying76 hi hz0 .i64 .i64 (n : Int) (n : Int) (by omega) (by omega) (by rw [hz2]; omega) (by omega)
  rw [hz1] at h
  exact h
theorem asks_new (w : World) (n : Nat) : RecAt (w.alloc (.cells (madeCells #[.bool false, .int .i64 0, .int .i64 0, .int .u32 0, .int .u32 0, .int .u32 0] (n * 6)) 99)) w.heap.size 99 n 6 (fun _ => AskX.no.l) :=
  ⟨_, heap_new w _, Nat.le_of_eq (size_madeCells _ _).symm, fun i hi j v hv => by
    have hj : j < 6 := (List.getElem?_eq_some_iff.1 hv).1
    unfold madeCells
    rw [Array.getElem?_map, Array.getElem?_range, if_pos (by omega)]
    have e : (i * 6 + j) % 6 = j := by omega
    rcases (by omega : j = 0 ∨ j = 1 ∨ j = 2 ∨ j = 3 ∨ j = 4 ∨ j = 5) with rfl | rfl | rfl | rfl | rfl | rfl <;> simp [AskX.no] at hv <;> simp [e, ← hv]⟩
/-- Objects as an argument. -/
theorem objs_of {c : CfD} {w : World} (hc : CfIn w c) (ho : c.Ok) (hu : ∀ i, i < c.nO → ∀ j, j < 4 → 0 ≤ c.oi i j ∧ c.oi i j < 4294967296) : ObjsArg w c.oa c.nO ((List.range c.nO).map fun i => (c.ob i, c.oi i)) := by
  refine ⟨by simp, ?_, ?_⟩
  · intro p hp
    obtain ⟨i, hi, rfl⟩ := List.mem_map.1 hp
    have hi' : i < c.nO := List.mem_range.1 hi
    exact ⟨fun j hj => ho.ob i hi' j hj, fun j hj => show 0 ≤ c.oi i j ∧ c.oi i j ≤ 4294967295 from ⟨(hu i hi' j hj).1, by have := (hu i hi' j hj).2; omega⟩⟩
  · intro hn
    obtain ⟨b, off, e, hb, h⟩ := hc.o hn
    refine ⟨b, off, e, hb, ?_⟩
    intro k p hk j v hv
    have hk' : k < c.nO := by
      have := (List.getElem?_eq_some_iff.1 hk).1
      simpa using this
    have hp : p = (c.ob k, c.oi k) := by
      rw [List.getElem?_map, List.getElem?_range hk'] at hk
      exact (Option.some.inj hk).symm
    subst hp
    have hj : j < 10 := (List.getElem?_eq_some_iff.1 hv).1
    rw [h k hk' j hj]
    simpa using hv
theorem cfg_box {W : World} {b : Nat} {c : CfD} (h : W.heap[b]? = some (.cells c.cells 26 (0, 0))) : W.cell? ⟨b, 0, none⟩ = some (.slice c.ta c.nT c.tc) ∧ W.cell? ⟨b, 2, none⟩ = some (.slice c.oa c.nO c.oc) := ⟨cell_of h 0, cell_of h 2⟩
theorem below_none {w w' : World} (k : Keeps (fun _ => False) w w') : Below w.heap.size w w' := k.none
theorem ScW.wide {w0 w w' : World} {a : ScA} {M : ScM} (h : ScW w' (fun k => w.heap.size ≤ k) a M) (k : Keeps (fun _ => False) w0 w) : ScW w' (fun k => w0.heap.size ≤ k) a M :=
  ⟨h.blk, h.le, h.task, h.inj, h.live, h.small, h.rank, by obtain ⟨L, h1, h2, h3⟩ := h.delta; exact ⟨L, h1, h2, fun i nd hi => Nat.le_trans k.size (h3 i nd hi)⟩, h.tin, by obtain ⟨N, b, h1, h2, h3, h4⟩ := h.queue; exact ⟨N, b, h1, h2, h3, fun x hx => Nat.le_trans k.size (h4 x hx)⟩, ⟨Nat.le_trans k.size h.low.1, Nat.le_trans k.size h.low.2.1, Nat.le_trans k.size h.low.2.2.1, Nat.le_trans k.size h.low.2.2.2.1, fun t ht => Nat.le_trans k.size (h.low.2.2.2.2 t ht)⟩, fun j hj => Nat.le_trans k.size (h.new j hj), h.cin, h.rin⟩
@[reducible] def akC (n : Nat) : Array Value := madeCells #[.bool false, .int .i64 0, .int .i64 0, .int .u32 0, .int .u32 0, .int .u32 0] (n * 6)
/-- What a new model is made of. -/
structure NewQ0 (w W : World) (ab g : Nat) (sa : ScA) (c : CfD) : Prop where
  asks : RecAt W ab 99 c.nT 6 (fun _ => AskX.no.l)
  n : sa.n = (newM ((List.range c.nT).map c.tp)).many
  sch : ScW W (fun k => w.heap.size ≤ k) sa (dispM (newM ((List.range c.nT).map c.tp)))
  items : StateAt W g (startP ((List.range c.nO).map fun i => (c.ob i, c.oi i)))
  keeps : Keeps (fun _ => False) w W
  box : W.heap[w.heap.size]? = some (.cells c.cells 26 (0, 0))
  abge : w.heap.size ≤ ab
theorem NewQ0.quiet {w W W' : World} {ab g : Nat} {sa : ScA} {c : CfD} (h : NewQ0 w W ab g sa c) (k : Keeps (fun _ => False) W W') : NewQ0 w W' ab g sa c := ⟨h.asks.keep k fun h => h, h.n, h.sch.quiet k, h.items.below (below_none k), h.keeps.trans k, k.at h.box fun h => h, h.abge⟩
theorem kTy {Ts : List TypeId} {w1 w2 w3 : World} (h : KeepsTy Ts w1 w2) (k : KeepsTy Ts w2 w3) : KeepsTy Ts w1 w3 :=
  ⟨k.os.trans h.os, k.tape.trans h.tape, k.output.trans h.output, Nat.le_trans h.size k.size, fun i hi hs => by
    have h1 := h.block i hi hs
    rw [k.block i (Nat.lt_of_lt_of_le hi h.size) (fun ⟨T, e2, cs, fr, e3⟩ => hs ⟨T, e2, cs, fr, by rw [← h1]; exact e3⟩), h1]⟩
theorem Keeps.farM {w w1 w2 : World} {S : Nat → Prop} (h : Keeps (fun _ => False) w w1) (k : Keeps S w1 w2) (hs : ∀ j, S j → w.heap.size ≤ j) : Keeps (fun _ => False) w w2 :=
  ⟨k.os.trans h.os, k.tape.trans h.tape, k.output.trans h.output, Nat.le_trans h.size k.size, fun j hj _ => (k.block j (Nat.lt_of_lt_of_le hj h.size) (fun e => by have := hs j e; omega)).trans (h.block j hj fun h => h)⟩
theorem own_keepM {w w' : World} {B n size : Nat} {e : TypeId} {v : Value} {xs : List Value} {S : Nat → Prop} (h : w.ownsRow B e size v n xs) (k : Keeps S w w') (hs : ∀ b, v.ownBlock = some b → ¬ S b) : w'.ownsRow B e size v n xs := by
  refine ⟨h.1, ?_⟩
  rcases h.2 with hn | ⟨g, cap, cur, rfl, hb, hg, rest⟩
  · exact .inl hn
  · exact .inr ⟨g, cap, cur, rfl, hb, k.at hg (hs g rfl), rest⟩
theorem own_sliceM {w : World} {base : Nat} {e : TypeId} {size n : Nat} {v : Value} {xs : List Value} (h : w.ownsRow base e size v n xs) : ∃ a c, v = .slice a n c := by
  rcases h.2 with ⟨rfl, rfl⟩ | ⟨g', cap, cur, rfl, _⟩
  · exact ⟨_, _, rfl⟩
  · exact ⟨_, _, rfl⟩
theorem own_tyM {w : World} {B n size : Nat} {e : TypeId} {v : Value} {xs : List Value} (h : w.ownsRow B e size v n xs) {b : Nat} (hb : v.ownBlock = some b) : Ty w b e ∧ B ≤ b := by
  rcases h.2 with ⟨rfl, _⟩ | ⟨g, cap, cur, rfl, hB, hg, rest⟩
  · cases hb
  · have e2 : g = b := by simpa [Value.ownBlock] using hb
    subst e2; exact ⟨⟨_, _, hg⟩, hB⟩
/-- What append leaves. -/
theorem app_afterM {W w4 : World} {B k s : Nat} {e : TypeId} {v : Value} {xs : List Value} {o : Obj} (hown : W.ownsRow B e s v k xs) (hg : ((W.alloc o).drew).grownBy w4 v.ownBlock) : Keeps (fun X => v.ownBlock = some X) W w4 := by
  have k0 := ((Keeps.refl (fun _ => False) W).alloc o).drew
  have hz : ((W.alloc o).drew).heap.size = W.heap.size + 1 := by show (W.alloc o).heap.size = _; rw [World.size_alloc]
  exact ⟨hg.os.trans k0.os, hg.tape.trans k0.tape, hg.output.trans k0.output, Nat.le_trans k0.size hg.size, fun j hj hn => (hg.block j (by omega) (fun h => hn h.symm)).trans (k0.block j hj fun h => h)⟩
def linesX (lr : Nat → Int) : Nat → List Value
  | 0 => []
  | k + 1 => linesX lr k ++ [.int .i64 (lr k), .slice none 0 0, .int .u32 0]
theorem info_line : (Tryz.prog.info? 82).map (fun i => (i.zero, i.size, i.bytes)) = some (some (.agg #[.int .i64 0, .slice none 0 0, .int .u32 0]), 3, 40) := by kernel_rfl
/-- Tasks as an argument. -/
theorem prios_of {c : CfD} {w : World} (hc : CfIn w c) (h0 : 0 < c.nT) : PriosAt w c.ta c.nT ((List.range c.nT).map c.tp) := by
  refine ⟨by simp, fun hn => ?_⟩
  obtain ⟨b, off, e, hb, h⟩ := hc.t hn
  refine ⟨b, off, e, hb, fun k p hk => ?_⟩
  have hk' : k < c.nT := by
    have := (List.getElem?_eq_some_iff.1 hk).1
    simpa using this
  have hp : p = c.tp k := by
    rw [List.getElem?_map, List.getElem?_range hk'] at hk
    exact (Option.some.inj hk).symm
  rw [hp]; exact (h k hk').1
theorem new_many {c : CfD} (h : c.nT ≤ 16) : (newM ((List.range c.nT).map c.tp)).many = c.nT := by
  unfold newM
  rw [adds_many]
  show 0 + (((List.range c.nT).map c.tp).take 16).length = c.nT
  simp; omega
/-- A new model. -/
def NewQ (w : World) (c : CfD) (e : Ending) (w' : World) : Prop := ∃ (a : MoA) (g : Nat), e = .returned (.pointer (some ⟨a.m, 0, none⟩)) ∧ MoW w' (fun k => w.heap.size ≤ k) a (dispM (newM ((List.range c.nT).map c.tp))) 0 (fun _ => AskX.no) ∧
  w'.ownsRow a.m 82 3 a.lines c.nL (linesX c.lr c.nL) ∧ w.heap.size ≤ a.ab ∧ w.heap.size ≤ a.m ∧ a.items = .slice (some ⟨g, 0, none⟩) c.nO c.nO ∧ StateAt w' g (startP ((List.range c.nO).map fun i => (c.ob i, c.oi i))) ∧ Keeps (fun _ => False) w w'
set_option maxHeartbeats 8000000 in
theorem new_good (c : CfD) (w : World) (hc : CfIn w c) (ho : c.Ok) (hu : ∀ i, i < c.nO → ∀ j, j < 4 → 0 ≤ c.oi i j ∧ c.oi i j < 4294967296) (hv : badOf c = (0, 0, 0)) :
    Calls Tryz.prog 7 #[.agg c.cells] w (NewQ w c) := by
  have HCK := Lib.hid (fun W (k : Keeps (fun _ => False) w W) => check_any c W (hc.none k) ho)
  have HG := Lib.hid (good_of hv)
  have HST := Lib.hid (fun W (k : Keeps (fun _ => False) w W) => start_any W c.oa c.nO c.oc _ (objs_of (hc.none k) ho hu) (by have := HG.out.o; omega))
  have HSN := Lib.hid (fun W (k : Keeps (fun _ => False) w W) => snew_any W c.ta c.nT c.tc _ (prios_of (hc.none k) HG.out.t1) (by have := HG.out.t; omega))
  have HC := Lib.hid hc
  have HB := Lib.hid ((Has.start w).alloc (.cells c.cells 26))
  rw [hv] at HCK
  have hmk := fun W => make_asks W c.nT (by have := HG.out.t; omega)
  clear hc ho hv hu
  go_enter Tryz.func7, Tryz.ntmps7
  go_wp2_with fail
  refine (HCK.out _ HB.out.keeps).mono ?_
  rintro e1 w1 ⟨rfl, k1⟩
  replace HB := Lib.hid (HB.out.none k1)
  clear k1
  obtain ⟨q0, q1, q2, q3⟩ := four_cells (HB.out.at 0 rfl)
  have lq := lt_of (HB.out.at 0 rfl)
  have HQS := Lib.hid (And.intro q0 (And.intro q1 q2))
  have HM1 := Lib.hid (asks_new w1.drew c.nT)
  go_wp2_with fail
  go_region_held3 (fun w' => w'.cell? ⟨w.heap.size, 0, none⟩ = some (.slice c.ta c.nT c.tc) ∧ w'.cell? ⟨w.heap.size, 2, none⟩ = some (.slice c.oa c.nO c.oc))
    (first
      | exact ⟨HQS.out.1, HQS.out.2.2⟩
      | exact HX3.out
      | exact HX4.out
      | go_keep)
    (first
      | (go_at_call 19; refine (HST.out _ HB.out.keeps.drew).mono ?_; rintro e3 w3 ⟨b3, g3, rfl, hs3⟩; have HT3 := Lib.hid hs3; have HK3 := Lib.hid (HB.out.drew.none (Keeps.ofBelow b3)); have HX3 := Lib.hid (cfg_box (HK3.out.at 0 rfl)); clear b3 hs3)
      | (go_at_call 19; refine (HST.out _ (HB.out.keeps.drew.alloc _)).mono ?_; rintro e3 w3 ⟨b3, g3, rfl, hs3⟩; have HT3 := Lib.hid hs3; have HK3 := Lib.hid ((HB.out.drew.none ((Keeps.refl _ _).alloc _)).none (Keeps.ofBelow b3)); have HX3 := Lib.hid (cfg_box (HK3.out.at 0 rfl)); have HM3 := Lib.hid (HM1.out.keep (Keeps.ofBelow b3) fun h => h); clear b3 hs3)
      | (go_at_call 20; refine (HSN.out _ HK3.out.keeps).mono ?_; rintro e4 w4 ⟨sa, rfl, hn4, hs4, k4⟩; have HT4 := Lib.hid (And.intro hn4 (hs4.wide HK3.out.keeps)); have HK4 := Lib.hid (HK3.out.none k4); have HX4 := Lib.hid (cfg_box (HK4.out.at 0 rfl)); have HI4 := Lib.hid (HT3.out.below (below_none k4)); (try have HM4 := Lib.hid (HM3.out.keep k4 fun h => h)); clear hn4 hs4 k4)
      | (go_at_call 20; refine (HSN.out _ (HK3.out.keeps.alloc _)).mono ?_; rintro e4 w4 ⟨sa, rfl, hn4, hs4, k4⟩; have HT4 := Lib.hid (And.intro hn4 (hs4.wide (HK3.out.keeps.alloc _))); have HK4 := Lib.hid ((HK3.out.none ((Keeps.refl _ _).alloc _)).none k4); have HX4 := Lib.hid (cfg_box (HK4.out.at 0 rfl)); have HI4 := Lib.hid ((HT3.out.below (below_none ((Keeps.refl (fun _ => False) w3).alloc _))).below (below_none k4)); have HM4 := Lib.hid ((asks_new w3 c.nT).keep k4 fun h => h); clear hn4 hs4 k4)
      | fail)
  all_goals
    first
      | (have HFQ := Lib.hid (show NewQ0 w (w4.alloc (.cells (akC c.nT) 99)) w4.heap.size g3 sa c from ⟨asks_new w4 c.nT, HT4.out.1, HT4.out.2.quiet ((Keeps.refl _ _).alloc _), HI4.out.below (below_none ((Keeps.refl (fun _ => False) w4).alloc _)), HK4.out.keeps.alloc _, ((Keeps.refl (fun _ => False) w4).alloc _).at (HK4.out.at 0 rfl) fun h => h, HK4.out.keeps.size⟩); (try clear HM4); generalize hWX : w4.alloc (.cells (akC c.nT) 99) = WX at HFQ ⊢; rw [show w4.heap.size + 1 = WX.heap.size from by rw [← hWX]; simp]; generalize hAB : w4.heap.size = AB at HFQ ⊢)
      | (have HFQ := Lib.hid (show NewQ0 w w4 w3.heap.size g3 sa c from ⟨HM4.out, HT4.out.1, HT4.out.2, HI4.out, HK4.out.keeps, HK4.out.at 0 rfl, HK3.out.keeps.size⟩); generalize hWX : w4 = WX at HFQ ⊢; generalize hAB : w3.heap.size = AB at HFQ ⊢)
      | (have HFQ := Lib.hid (show NewQ0 w w4 w1.heap.size g3 sa c from ⟨HM4.out, HT4.out.1, HT4.out.2, HI4.out, HK4.out.keeps, HK4.out.at 0 rfl, HB.out.keeps.size⟩); generalize hWX : w4 = WX at HFQ ⊢; generalize hAB : w1.heap.size = AB at HFQ ⊢)
    clear hWX hAB
    have hgo := HG.out
    obtain ⟨W0, hW0⟩ : ∃ W, W = WX.alloc (.cells #[.slice (some ⟨g3, 0, none⟩) c.nO c.nO, .pointer (some ⟨sa.s, 0, none⟩), .slice none 0 0, .int .u32 0, .slice (some ⟨AB, 0, none⟩) c.nT c.nT, .map none] 80) := ⟨_, rfl⟩
    rw [← hW0]
    have hm0 : W0.heap[WX.heap.size]? = some (.cells #[.slice (some ⟨g3, 0, none⟩) c.nO c.nO, .pointer (some ⟨sa.s, 0, none⟩), .slice none 0 0, .int .u32 0, .slice (some ⟨AB, 0, none⟩) c.nT c.nT, .map none] 80 (0, 0)) := by rw [hW0]; exact heap_new _ _
    have k0 : Keeps (fun _ => False) WX W0 := by rw [hW0]; exact (Keeps.refl _ WX).alloc _
    have HMB := Lib.hid (show WX.heap.size ≤ WX.heap.size from Nat.le_refl _)
    have hbx := k0.at HFQ.out.box fun h => h
    have q1 := cell_of hbx 1
    have lq := lt_of hbx
    have HLL0 := Lib.hid HC.out.l
    have HN := Lib.hid (show W0.ownsRow WX.heap.size 82 3 (.slice none 0 0) 0 (linesX c.lr 0) from ⟨rfl, .inl ⟨rfl, rfl⟩⟩)
    have HM0 := Lib.hid hm0
    have HK0 := Lib.hid k0
    have HSB := Lib.hid (show WX.heap.size < W0.heap.size from lt_of hm0)
    have HWW := Lib.hid HFQ.out.keeps.size
    generalize hMB : WX.heap.size = MB at *
    have HEQ := Lib.hid hMB
    have hnl := HG.out.l
    clear hMB hW0 k0 hm0 hbx hgo HM1 hmk HQS q0 q2 q3
    go_wp2_with fail
    obtain ⟨LA, hLA⟩ : ∃ LA, LA = c.la := ⟨_, rfl⟩
    have HLL := Lib.hid (show 0 < c.nL → ∃ b off, LA = some ⟨b, off, none⟩ ∧ b < w.heap.size ∧ ∀ i, i < c.nL → w.cell? ⟨b, off + i * 2, none⟩ = some (.int .i64 (c.lr i)) ∧ w.cell? ⟨b, off + i * 2 + 1, none⟩ = some (.slice (c.lca i) (c.ll i) (c.lcc i)) from by rw [hLA]; exact HLL0.out)
    rw [← hLA]
    clear hLA q1 lq HLL0
    go_loopw [25] (fun i wr => ∃ (k : Nat) (v : Value), k ≤ c.nL ∧ i = .int .i64 (k : Int) ∧ wr.heap[MB]? = some (.cells #[.slice (some ⟨g3, 0, none⟩) c.nO c.nO, .pointer (some ⟨sa.s, 0, none⟩), v, .int .u32 0, .slice (some ⟨AB, 0, none⟩) c.nT c.nT, .map none] 80 (0, 0)) ∧ wr.ownsRow MB 82 3 v k (linesX c.lr k) ∧ Keeps (fun _ => False) WX wr) (fun i _ => c.nL - (intOf i).toNat)
    case atStart => exact ⟨0, _, by omega, rfl, HM0.out, HN.out, HK0.out⟩
    case round =>
      obtain ⟨k, v, hk, rfl, hm, hown, hkw⟩ := hrel
      clear HN HM0 HK0 HSB
      by_cases hlt : k < c.nL
      · have dl : decide ((k : Int) < (c.nL : Int)) = true := decide_eq_true (by omega)
        obtain ⟨b, off, rfl, hb, hcell⟩ := HLL.out (by omega)
        have hww := HFQ.out.keeps.trans hkw
        have r0 := (hww.none.cell (p := ⟨b, off + k * 2, none⟩) hb).trans (hcell k hlt).1
        have r1 := (hww.none.cell (p := ⟨b, off + k * 2 + 1, none⟩) hb).trans (hcell k hlt).2
        have lb := Nat.lt_of_lt_of_le hb hww.size
        have HM := Lib.hid hm
        have HOW := Lib.hid hown
        have HKW2 := Lib.hid hkw
        have HLT := Lib.hid hlt
        clear hcell hb hm hown hkw hk hww
        go_wp2_with fail
        obtain ⟨WL, hWL⟩ : ∃ W, W = wr.alloc (.cells #[.int .i64 (c.lr k), .slice (c.lca k) (c.ll k) (c.lcc k)] 58) := ⟨_, rfl⟩
        rw [← hWL]
        have kL : Keeps (fun _ => False) wr WL := by rw [hWL]; exact (Keeps.refl _ wr).alloc _
        have hlv : WL.heap[wr.heap.size]? = some (.cells #[.int .i64 (c.lr k), .slice (c.lca k) (c.ll k) (c.lcc k)] 58 (0, 0)) := by rw [hWL]; exact heap_new _ _
        have HML := Lib.hid (kL.at HM.out fun h => h)
        have HOL := Lib.hid (own_keepM HOW.out kL (fun _ _ h => h))
        have HKWL := Lib.hid (HKW2.out.trans kL)
        have hneM : MB ≠ wr.heap.size := Nat.ne_of_lt (lt_of HM.out)
        clear hWL kL r0 r1 lb
        have z2 := cell_of HML.out 2
        have f2 := free_of HML.out 2
        have lz := lt_of HML.out
        have y0 := cell_of hlv 0
        have ly := lt_of hlv
        obtain ⟨i0, hi, hz0, hz1, hz2⟩ := info_parts info_line
        obtain ⟨va, vc, hva⟩ := own_sliceM HOL.out
        subst hva
        have hsz : MB ≤ WL.heap.size := by rw [← HEQ.out]; exact HKWL.out.size
        have hkl := HLT.out
        clear hlv
        go_region_law
          (first
            | (refine step_append_lies _ rfl (.tmp 33) (.tmp 37) 77 rfl MB 82 i0 (.agg #[.int .i64 0, .slice none 0 0, .int .u32 0]) 3 40 Tryz.underlying77 hi hz0 hz1 hz2 rfl (by decide) (.slice va k vc) k (linesX c.lr k) rfl (HOL.out.alloc _) ⟨WL.heap.size, 0, none⟩ 1 1 [.int .i64 (c.lr k), .slice none 0 0, .int .u32 0] rfl rfl (World.news_of_block (heap_new WL (.cells #[.int .i64 (c.lr k), .slice none 0 0, .int .u32 0] 82))) (by simp [Value.oneCell']) (by decide) (by unfold maxLen; omega) (by omega) (show MB ≤ (WL.alloc _).heap.size from by rw [World.size_alloc]; omega) _ rfl ?_; intro g cap w4 hown4 hgrow hat hlt4; have h4 := Lib.hid (app_afterM (W := WL) HOL.out hgrow); have HM4 := Lib.hid (h4.out.at HML.out (fun e => Ty.ne (own_tyM HOL.out e).1 ⟨_, _, HML.out⟩ (by decide) rfl)); have hw4 := Lib.hid (And.intro hown4 hat); have s2 := cell_of HM4.out 2; have t2 := free_of HM4.out 2; have l4 := lt_of HM4.out; clear hown4 hgrow hat)
            | fail)
        all_goals
          have kS : Keeps (fun X => X = MB) w4 (w4.setCell ⟨MB, 2, none⟩ (.slice (some ⟨g, 0, none⟩) (k + 1) cap)) := (Keeps.refl (fun X => X = MB) w4).setCell (p := ⟨MB, 2, none⟩) (.inl rfl) _
          have hM5 := heap_set HM4.out 2 (.slice (some ⟨g, 0, none⟩) (k + 1) cap)
          have hg4 : g ≠ MB := fun e => Ty.ne (own_tyM hw4.out.1 rfl).1 ⟨_, _, HM4.out⟩ (by decide) e
          have HO5 := Lib.hid (own_keepM hw4.out.1 kS (fun X hX e => hg4 ((show g = X by simpa [Value.ownBlock] using hX).trans e)))
          have HKW5 := Lib.hid ((HKWL.out.farM h4.out (fun X hX => by rw [HEQ.out]; exact (own_tyM HOL.out hX).2)).farM kS (fun X e => by have e' : X = MB := e; rw [e', HEQ.out]; exact Nat.le_refl _))
          have HM5 := Lib.hid hM5
          clear hM5 kS hg4 s2 t2 l4 z2 f2 lz y0 ly hi hz0 hz1 hz2
          go_wp2_with fail
          go_roundw
          case rel => exact ⟨k + 1, _, HLT.out, by go_num, HM5.out, HO5.out, HKW5.out⟩
          case measure => simp [intOf]; have := HLT.out; omega
      · have dl : decide ((k : Int) < (c.nL : Int)) = false := decide_eq_false (by omega)
        have dl2 : decide (k < c.nL) = false := decide_eq_false hlt
        have HKN := Lib.hid (show k = c.nL from by omega)
        have hmf : ∀ (fn : Fn) (first cap : Array Value) (w : World), (Instr.makeFunc fn first cap).run Tryz.prog w = .ok (.func fn first cap) w := fun _ _ _ _ => rfl
        obtain ⟨x0, hx0⟩ : ∃ x, x = wr.alloc (.map #[] 0) := ⟨_, rfl⟩
        have bx0 : x0.heap[wr.heap.size]? = some (.map (movesE MB 0) 0) := by rw [hx0]; exact heap_new _ _
        have kx0 : Keeps (fun _ => False) wr x0 := by rw [hx0]; exact (Keeps.refl _ wr).alloc _
        have hmm2 : (Instr.makeMap 78 none).run Tryz.prog wr = .ok (.map (some wr.heap.size)) x0 := by rw [hx0]; exact run_makeMap _ _
        clear hx0
        obtain ⟨x1, bx1, hx1, ux1⟩ := moves_put MB wr.heap.size 0 1 21 (moves_find1 MB) (moves_push1 MB) x0 bx0
        have kx1 : Keeps (fun _ => False) wr x1 := by rw [hx1]; exact kx0.setMp (.inr (Nat.le_refl _)) _
        clear hx1 kx0 bx0
        obtain ⟨x2, bx2, hx2, ux2⟩ := moves_put MB wr.heap.size 1 2 22 (moves_find2 MB) (moves_push2 MB) x1 bx1
        have kx2 : Keeps (fun _ => False) wr x2 := by rw [hx2]; exact kx1.setMp (.inr (Nat.le_refl _)) _
        clear hx2 kx1 bx1
        obtain ⟨x3, bx3, hx3, ux3⟩ := moves_put MB wr.heap.size 2 3 23 (moves_find3 MB) (moves_push3 MB) x2 bx2
        have kx3 : Keeps (fun _ => False) wr x3 := by rw [hx3]; exact kx2.setMp (.inr (Nat.le_refl _)) _
        clear hx3 kx2 bx2
        obtain ⟨x4, bx4, hx4, ux4⟩ := moves_put MB wr.heap.size 3 4 24 (moves_find4 MB) (moves_push4 MB) x3 bx3
        have kx4 : Keeps (fun _ => False) wr x4 := by rw [hx4]; exact kx3.setMp (.inr (Nat.le_refl _)) _
        clear hx4 kx3 bx3
        obtain ⟨x5, bx5, hx5, ux5⟩ := moves_put MB wr.heap.size 4 5 25 (moves_find5 MB) (moves_push5 MB) x4 bx4
        have kx5 : Keeps (fun _ => False) wr x5 := by rw [hx5]; exact kx4.setMp (.inr (Nat.le_refl _)) _
        clear hx5 kx4 bx4
        obtain ⟨x6, bx6, hx6, ux6⟩ := moves_put MB wr.heap.size 5 6 26 (moves_find6 MB) (moves_push6 MB) x5 bx5
        have kx6 : Keeps (fun _ => False) wr x6 := by rw [hx6]; exact kx5.setMp (.inr (Nat.le_refl _)) _
        clear hx6 kx5 bx5
        obtain ⟨x7, bx7, hx7, ux7⟩ := moves_put MB wr.heap.size 6 7 27 (moves_find7 MB) (moves_push7 MB) x6 bx6
        have kx7 : Keeps (fun _ => False) wr x7 := by rw [hx7]; exact kx6.setMp (.inr (Nat.le_refl _)) _
        clear hx7 kx6 bx6
        obtain ⟨x8, bx8, hx8, ux8⟩ := moves_put MB wr.heap.size 7 8 28 (moves_find8 MB) (moves_push8 MB) x7 bx7
        have kx8 : Keeps (fun _ => False) wr x8 := by rw [hx8]; exact kx7.setMp (.inr (Nat.le_refl _)) _
        clear hx8 kx7 bx7
        obtain ⟨x9, bx9, hx9, ux9⟩ := moves_put MB wr.heap.size 8 9 29 (moves_find9 MB) (moves_push9 MB) x8 bx8
        have kx9 : Keeps (fun _ => False) wr x9 := by rw [hx9]; exact kx8.setMp (.inr (Nat.le_refl _)) _
        clear hx9 kx8 bx8
        have hm9 := kx9.at hm fun h => h
        have z5 := cell_of hm9 5
        have f5 := free_of hm9 5
        have lz := lt_of hm9
        have HM9 := Lib.hid hm9
        have HB9 := Lib.hid bx9
        have HO9 := Lib.hid (own_keepM hown kx9 (fun _ _ h => h))
        have HK9 := Lib.hid (hkw.trans kx9)
        have HML := Lib.hid (lt_of hm)
        clear hm9 bx9 kx9 hm hown hkw hk hlt
        go_wp2_with fail
        go_ret
        have kS : Keeps (fun X => X = MB) x9 (x9.setCell ⟨MB, 5, none⟩ (.map (some wr.heap.size))) := (Keeps.refl (fun X => X = MB) x9).setCell (p := ⟨MB, 5, none⟩) (.inl rfl) _
        have hf := HFQ.out.quiet (HK9.out.farM kS (fun X e => by have e' : X = MB := e; rw [e', HEQ.out]; exact Nat.le_refl _))
        have hmy : (dispM (newM ((List.range c.nT).map c.tp))).many = c.nT := new_many HG.out.t
        have hne : wr.heap.size ≠ MB := Nat.ne_of_gt HML.out
        have hown := own_keepM HO9.out kS (fun X hX e => Ty.ne (own_tyM HO9.out hX).1 ⟨_, _, HM9.out⟩ (by decide) e)
        rw [HKN.out] at hown
        refine ⟨⟨MB, sa, .slice (some ⟨g3, 0, none⟩) c.nO c.nO, v, AB, wr.heap.size⟩, g3, rfl, ⟨?_, kS.at HB9.out hne, hf.sch, hf.n, ?_, fun _ _ => ⟨by decide, by decide⟩⟩, hown, hf.abge, HWW.out, rfl, hf.items, hf.keeps⟩
        · rw [hmy]; exact heap_set HM9.out 5 _
        · rw [hmy]; exact hf.asks
end Go.Proofs.YtkhmfjfclpehfaaGreat
