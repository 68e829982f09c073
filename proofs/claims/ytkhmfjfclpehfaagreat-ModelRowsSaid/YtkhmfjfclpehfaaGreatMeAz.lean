import Derived.Test.YtkhmfjfclpehfaaGreatMdIz
import Derived.Test.YtkhmfjfclpehfaaGreatSchPz
import Derived.Laws.CopyOwn
import Derived.Test.YtkhmfjfclpehfaaGreatSpecHz
import Derived.Test.YtkhmfjfclpehfaaGreatSpecNz
namespace Go.Proofs.YtkhmfjfclpehfaaGreat
open Go.ChangeShapes Go.WideShapes Go.ChangeAt Go.RowKit
set_option linter.unusedVariables false
set_option linter.unusedSimpArgs false
set_option maxRecDepth 100000
theorem ScW.but {w : World} {P : Nat → Prop} {a : ScA} {M : ScM} (h : ScW w P a M) {b : Nat} {T : TypeId} (hb : Ty w b T) (hT : T ∉ SchTys) : ScW w (fun k => P k ∧ k ≠ b) a M :=
  { h with
    delta := by
      obtain ⟨L, hd, ha, hl⟩ := h.delta
      exact ⟨L, hd, ha, fun i nd hi => ⟨hl i nd hi, Ty.ne ⟨_, _, hd.node i nd hi⟩ hb (by rintro rfl; revert hT; decide)⟩⟩
    queue := by
      obtain ⟨N, b, hd, hg, hw, hl⟩ := h.queue
      refine ⟨N, b, hd, hg, hw, fun x hx => ⟨hl x hx, ?_⟩⟩
      obtain ⟨i, hi⟩ := List.getElem?_of_mem hx
      exact Ty.ne ⟨_, _, hd.node i x hi⟩ hb (by rintro rfl; revert hT; decide)
    low := by
      refine ⟨⟨h.low.1, ?_⟩, ⟨h.low.2.1, ?_⟩, ⟨h.low.2.2.1, ?_⟩, ⟨h.low.2.2.2.1, ?_⟩, fun t ht => ⟨h.low.2.2.2.2 t ht, ?_⟩⟩
      · obtain ⟨cs, hs, _⟩ := h.blk; exact Ty.ne ⟨_, _, hs⟩ hb (by rintro rfl; revert hT; decide)
      · exact Ty.ne (rank_ty h.rank) hb (by rintro rfl; revert hT; decide)
      · obtain ⟨L, hd, _⟩ := h.delta; exact Ty.ne ⟨_, _, hd.head⟩ hb (by rintro rfl; revert hT; decide)
      · obtain ⟨N, b', hd, _⟩ := h.queue; exact Ty.ne ⟨_, _, hd.head⟩ hb (by rintro rfl; revert hT; decide)
      · obtain ⟨v, hv, _⟩ := h.task t ht; exact Ty.ne ⟨_, _, hv⟩ hb (by rintro rfl; revert hT; decide)
    new := fun k hk => ⟨h.new k hk, by
      obtain ⟨cs, fr, hb'⟩ := hb
      have := lt_of hb'
      omega⟩ }
theorem MoW.mono {w : World} {P Q : Nat → Prop} {a : MoA} {M : ScM} {tk : Int} {A : Nat → AskX} (h : MoW w P a M tk A) (hs : ScW w Q a.sa M) : MoW w Q a M tk A := ⟨h.blk, h.map, hs, h.n, h.asks, h.aok⟩
theorem MoW.wide {w : World} {P Q : Nat → Prop} {a : MoA} {M : ScM} {tk : Int} {A : Nat → AskX} (h : MoW w P a M tk A) (hq : ∀ k, P k → Q k) : MoW w Q a M tk A := h.mono (h.sch.narrow2 (Keeps.refl _ w) (fun k _ => hq k) fun k hk => hq k (h.sch.new k hk))
theorem kM_mono {w w' : World} {P Q : Nat → Prop} (h : KeepsM P w w') (hq : ∀ k, P k → Q k) : KeepsM Q w w' := h.mono fun k _ e => ⟨hq k e.1, e.2⟩
structure LnX where
  r : Int
  q : List Nat
  o : Nat
structure LnX.Ok (x : LnX) : Prop where
  o : x.o < 4294967296
  q : ∀ y, y ∈ x.q → y < 4294967296
  len : (x.q.length : Int) ≤ x.r
  r : x.r ≤ 64
def QAt (w : World) (P : Nat → Prop) (v : Value) (q : List Nat) : Prop := ∃ a c, v = .slice a q.length c ∧ q.length ≤ c ∧ (0 < q.length → ∃ b off cs, a = some ⟨b, off, none⟩ ∧ P b ∧ w.heap[b]? = some (.cells cs 34 (0, 0)) ∧ ∀ (i x : Nat), q[i]? = some x → cs[off + i]? = some (.int .u32 (x : Int)))
theorem QAt.keep {w w' : World} {P : Nat → Prop} {v : Value} {q : List Nat} {S : Nat → Prop} (h : QAt w P v q) (k : Keeps S w w') (hS : ∀ b, P b → Ty w b 34 → ¬ S b) : QAt w' P v q := by
  obtain ⟨a, c, h1, h2, h3⟩ := h
  refine ⟨a, c, h1, h2, fun hp => ?_⟩
  obtain ⟨b, off, cs, e, hP, hb, hc⟩ := h3 hp
  exact ⟨b, off, cs, e, hP, Keeps.at k hb (hS b hP ⟨_, _, hb⟩), hc⟩
theorem QAt.none {w w' : World} {P : Nat → Prop} {v : Value} {q : List Nat} (h : QAt w P v q) (k : Keeps (fun _ => False) w w') : QAt w' P v q := h.keep k fun b _ hb e => e
def LinesAt (w : World) (P : Nat → Prop) (lb : Nat) (v : Value) (n : Nat) (F : Nat → LnX) : Prop := ∃ la cap, v = .slice la n cap ∧ (0 < n → la = some ⟨lb, 0, none⟩ ∧ ∃ V : Nat → Value, RecAt w lb 82 n 3 (fun i => lnL (F i).r (V i) ((F i).o : Int)) ∧ ∀ i, i < n → QAt w P (V i) (F i).q ∧ (F i).Ok)
theorem LinesAt.keep {w w' : World} {P : Nat → Prop} {lb n : Nat} {v : Value} {F : Nat → LnX} {S : Nat → Prop} (h : LinesAt w P lb v n F) (k : Keeps S w w') (h1 : ∀ b, P b → Ty w b 34 → ¬ S b) (h2 : 0 < n → ¬ S lb) : LinesAt w' P lb v n F := by
  obtain ⟨la, cap, e, h3⟩ := h
  refine ⟨la, cap, e, fun hp => ?_⟩
  obtain ⟨e2, V, hr, hq⟩ := h3 hp
  exact ⟨e2, V, hr.keep k (h2 hp), fun i hi => ⟨(hq i hi).1.keep k h1, (hq i hi).2⟩⟩
theorem LinesAt.none {w w' : World} {P : Nat → Prop} {lb n : Nat} {v : Value} {F : Nat → LnX} (h : LinesAt w P lb v n F) (k : Keeps (fun _ => False) w w') : LinesAt w' P lb v n F := h.keep k (fun b _ hb e => e) fun _ e => e
theorem LinesAt.out {w w' : World} {P : Nat → Prop} {lb n : Nat} {v : Value} {F : Nat → LnX} (h : LinesAt w P lb v n F) (k : KeepsTy [51] w w') : LinesAt w' P lb v n F := h.keep k (fun b _ hb e => KeepsTy.apart hb (by decide) e) fun hp e => by
  obtain ⟨_, _, _, h3⟩ := h
  obtain ⟨_, V, hr, _⟩ := h3 hp
  exact KeepsTy.apart hr.ty (by decide) e
theorem LinesAt.but {w : World} {P : Nat → Prop} {lb n : Nat} {v : Value} {F : Nat → LnX} (h : LinesAt w P lb v n F) {g : Nat} (hg : w.heap.size ≤ g) : LinesAt w (fun k => P k ∧ k ≠ g) lb v n F := by
  obtain ⟨la, cap, e, h3⟩ := h
  refine ⟨la, cap, e, fun hp => ?_⟩
  obtain ⟨e2, V, hr, hq⟩ := h3 hp
  refine ⟨e2, V, hr, fun i hi => ⟨?_, (hq i hi).2⟩⟩
  obtain ⟨a, c, h1, h2, h4⟩ := (hq i hi).1
  refine ⟨a, c, h1, h2, fun hp => ?_⟩
  obtain ⟨b, off, cs, e, hP, hb, hc⟩ := h4 hp
  exact ⟨b, off, cs, e, ⟨hP, by have := lt_of hb; omega⟩, hb, hc⟩
theorem RecAt.ln {w : World} {lb n i : Nat} {F : Nat → LnX} {V : Nat → Value} (h : RecAt w lb 82 n 3 (fun i => lnL (F i).r (V i) ((F i).o : Int))) (hi : i < n) : w.cell? ⟨lb, i * 3, none⟩ = some (.int .i64 (F i).r) ∧ w.cell? ⟨lb, i * 3 + 1, none⟩ = some (V i) ∧ w.cell? ⟨lb, i * 3 + 2, none⟩ = some (.int .u32 ((F i).o : Int)) := ⟨h.cell (i := i) (j := 0) hi rfl, h.cell (i := i) (j := 1) hi rfl, h.cell (i := i) (j := 2) hi rfl⟩
theorem RecAt.lnQ {w : World} {lb n i : Nat} {F : Nat → LnX} {V : Nat → Value} (h : RecAt w lb 82 n 3 (fun i => lnL (F i).r (V i) ((F i).o : Int))) (hi : i < n) (v : Value) (q : List Nat) : RecAt (w.setCell ⟨lb, i * 3 + 1, none⟩ v) lb 82 n 3 (fun j => lnL (upd F i ⟨(F i).r, q, (F i).o⟩ j).r (upd V i v j) ((upd F i ⟨(F i).r, q, (F i).o⟩ j).o : Int)) := by
  refine (h.set (j := 1) hi (by omega) (fun _ _ => rfl) v).same fun j hj => ?_
  by_cases e : j = i
  · subst e; simp [upd_at]
  · simp [upd_ne _ _ e, e]
theorem RecAt.lnO {w : World} {lb n i : Nat} {F : Nat → LnX} {V : Nat → Value} (h : RecAt w lb 82 n 3 (fun i => lnL (F i).r (V i) ((F i).o : Int))) (hi : i < n) (o : Nat) : RecAt (w.setCell ⟨lb, i * 3 + 2, none⟩ (.int .u32 (o : Int))) lb 82 n 3 (fun j => lnL (upd F i ⟨(F i).r, (F i).q, o⟩ j).r (V j) ((upd F i ⟨(F i).r, (F i).q, o⟩ j).o : Int)) := by
  refine (h.set (j := 2) hi (by omega) (fun _ _ => rfl) (.int .u32 (o : Int))).same fun j hj => ?_
  by_cases e : j = i
  · subst e; simp [upd_at]
  · simp [upd_ne _ _ e, e]
theorem MoW.lnSet {w : World} {P : Nat → Prop} {a : MoA} {M : ScM} {tk : Int} {A : Nat → AskX} (h : MoW w P a M tk A) {lb n : Nat} {F : Nat → List Value} (hr : RecAt w lb 82 n 3 F) (j : Nat) (v : Value) :
    MoW (w.setCell ⟨lb, j, none⟩ v) P a M tk A ∧ Keeps (fun k => k = lb) w (w.setCell ⟨lb, j, none⟩ v) := by
  have kk : Keeps (fun k => k = lb) w (w.setCell ⟨lb, j, none⟩ v) := (Keeps.refl (fun k => k = lb) w).setCell (p := ⟨lb, j, none⟩) (.inl rfl) _
  have kt : KeepsTy [82] w (w.setCell ⟨lb, j, none⟩ v) := kk.mono (fun k _ e => ⟨_, .head _, by obtain rfl : k = lb := e; exact hr.ty⟩)
  exact ⟨⟨kt.at h.blk (by decide), Keeps.at kt h.map fun ⟨T, _, e⟩ => map_no h.map e, h.sch.keepTy kt (by intro T hT; obtain rfl := List.mem_singleton.1 hT; decide), h.n, h.asks.keep kt (fun e => KeepsTy.apart h.asks.ty (by decide) e), h.aok⟩, kk⟩
set_option maxHeartbeats 4000000 in
theorem line_low (w : World) (P : Nat → Prop) (a : MoA) (M : ScM) (tk : Int) (A : Nat → AskX) (h : MoW w P a M tk A) (t : Int) (ht : t < 1) :
    Calls Tryz.prog 30 #[.pointer (some ⟨a.m, 0, none⟩), .int .i64 t] w fun e w' => e = .returned (.pointer none) ∧ w' = w := by
  have lm := lt_of h.blk
  have hn := fun W => mo_nil a.m W
  have d0 : decide (t < 1) = true := decide_eq_true ht
  clear h ht
  go_enter Tryz.func30, Tryz.ntmps30
  go_wp2_with fail
  go_ret
  exact ⟨rfl, rfl⟩
set_option maxHeartbeats 4000000 in
theorem line_high (w : World) (P : Nat → Prop) (a : MoA) (M : ScM) (tk : Int) (A : Nat → AskX) (h : MoW w P a M tk A) (la : Option Addr) (n cap : Nat) (hl : a.lines = .slice la n cap) (t : Int) (h1 : 1 ≤ t) (ht : (n : Int) < t) :
    Calls Tryz.prog 30 #[.pointer (some ⟨a.m, 0, none⟩), .int .i64 t] w fun e w' => e = .returned (.pointer none) ∧ w' = w := by
  have hb := h.blk
  rw [hl] at hb
  have c2 := cell_of hb 2
  have lm := lt_of hb
  have hn := fun W => mo_nil a.m W
  have d0 : decide (t < 1) = false := decide_eq_false (by omega)
  have d1 : decide ((n : Int) < t) = true := decide_eq_true ht
  clear hb h hl ht h1
  go_enter Tryz.func30, Tryz.ntmps30
  go_wp2_with fail
  go_ret
  exact ⟨rfl, rfl⟩
set_option maxHeartbeats 4000000 in
theorem line_in (w : World) (P : Nat → Prop) (a : MoA) (M : ScM) (tk : Int) (A : Nat → AskX) (h : MoW w P a M tk A) (lb n cap : Nat) (hl : a.lines = .slice (some ⟨lb, 0, none⟩) n cap) (i : Nat) (hi : i < n) (hn1 : n ≤ 1000) :
    Calls Tryz.prog 30 #[.pointer (some ⟨a.m, 0, none⟩), .int .i64 ((i : Int) + 1)] w fun e w' => e = .returned (.pointer (some ⟨lb, i * 3, none⟩)) ∧ w' = w := by
  have hb := h.blk
  rw [hl] at hb
  have c2 := cell_of hb 2
  have lm := lt_of hb
  have hn := fun W => mo_nil a.m W
  have d0 : decide ((i : Int) + 1 < 1) = false := decide_eq_false (by omega)
  have d1 : decide ((n : Int) < (i : Int) + 1) = false := decide_eq_false (by omega)
  have d2 : (i : Int) + 1 - 1 = (i : Int) := by omega
  have d3 : decide ((i : Int) < (n : Int)) = true := decide_eq_true (by omega)
  have d4 : wrap64 (i : Int) = (i : Int) := by unfold wrap64; omega
  clear hb h hl
  go_enter Tryz.func30, Tryz.ntmps30
  go_wp2_with fail
  go_ret
  exact ⟨rfl, rfl⟩
theorem line_any (w : World) (P : Nat → Prop) (a : MoA) (M : ScM) (tk : Int) (A : Nat → AskX) (h : MoW w P a M tk A) (la : Option Addr) (n cap : Nat) (hl : a.lines = .slice la n cap) (t : Int) (ht : t < 1 ∨ (n : Int) < t) :
    Calls Tryz.prog 30 #[.pointer (some ⟨a.m, 0, none⟩), .int .i64 t] w fun e w' => e = .returned (.pointer none) ∧ w' = w := by
  rcases ht with ht | ht
  · exact line_low w P a M tk A h t ht
  · by_cases h1 : 1 ≤ t
    · exact line_high w P a M tk A h la n cap hl t h1 ht
    · exact line_low w P a M tk A h t (by omega)
theorem more_all (w : World) (a : Nat) (ha : a < 4294967296) : Calls Tryz.prog 43 #[.int .u32 (a : Int)] w fun e w' => ∃ b : Nat, b < 4294967296 ∧ e = .returned (.int .u32 (b : Int)) ∧ w' = w := by
  by_cases h : a = 4294967295
  · subst h
    go_enter Tryz.func43, Tryz.ntmps43
    go_wp2_with fail
    go_ret
    exact ⟨4294967295, by omega, rfl, rfl⟩
  · have d0 : ((a : Int) == 4294967295) = false := beq_eq_false_iff_ne.mpr (by omega)
    have d1 : ((a : Int) = 4294967295) = False := eq_false (by omega)
    have d2 : ((a : Int) + 1) % 4294967296 = (a : Int) + 1 := by omega
    go_enter Tryz.func43, Tryz.ntmps43
    go_wp2_with fail
    go_ret
    exact ⟨a + 1, by omega, by simp [IntKind.wrap, d2], rfl⟩
theorem read_any (w : World) (x : Nat) (hx : x < 4294967296) : Calls Tryz.prog 46 #[.int .u32 (x : Int)] w fun e w' => ∃ (t : Int) (b : Nat), b < 4294967296 ∧ e = .returned (.tuple #[.int .i64 t, .int .u32 (b : Int)]) ∧ w' = w := by
  have hb : bits .and .u32 (x : Int) 65535 = ((x &&& 65535 : Nat) : Int) := u32_and_nat x 65535 hx (by omega)
  have hl : x &&& 65535 ≤ 65535 := Nat.and_le_right
  go_enter Tryz.func46, Tryz.ntmps46
  go_wp2_with fail
  refine bodyPost_ret (v := .tuple #[.int .i64 _, .int .u32 ((x &&& 65535 : Nat) : Int)]) (by simp [results, Tryz.results46, hb]; rfl) rfl ⟨_, x &&& 65535, by omega, rfl, rfl⟩
end Go.Proofs.YtkhmfjfclpehfaaGreat
namespace Go.Proofs.YtkhmfjfclpehfaaGreat
open Go.ChangeShapes Go.WideShapes Go.ChangeAt Go.RowKit
set_option linter.unusedVariables false
set_option linter.unusedSimpArgs false
set_option maxRecDepth 100000
theorem lp_nil (w : World) : (binOp .eql 84 (.pointer none) (.pointer none)).run Tryz.prog w = .ok (.bool true) w := by kernel_rfl
theorem LnX.Ok.setO {x : LnX} (h : x.Ok) (o : Nat) (ho : o < 4294967296) : LnX.Ok ⟨x.r, x.q, o⟩ := ⟨ho, h.q, h.len, h.r⟩
set_option maxHeartbeats 8000000 in
theorem post_none (w : World) (P Q : Nat → Prop) (a : MoA) (M : ScM) (tk : Int) (A : Nat → AskX) (h : MoW w P a M tk A) (hPQ : ∀ k, P k → Q k) (vv : Int) (Z : Nat → Int) (x : AskX) (who : Int) (la : Option Addr) (n cap : Nat) (hl : a.lines = .slice la n cap) (ht : who < 1 ∨ (n : Int) < who) : Calls Tryz.prog 22 #[.pointer (some ⟨a.m, 0, none⟩), .agg (moC 2 who vv Z x)] w (MvQ P w (SayR P a M tk A 4)) := by
  obtain ⟨P1, hP1⟩ : ∃ W, W = w.alloc (.cells (moC 2 who vv Z x) 45) := ⟨_, rfl⟩
  obtain ⟨W1, hW1⟩ : ∃ W, W = P1.alloc (.cells (outC 0 zV 0 none 0 0) 51) := ⟨_, rfl⟩
  have kP : Keeps (fun _ => False) w P1 := by rw [hP1]; exact (Keeps.refl _ w).alloc _
  have hb1 : P1.heap[w.heap.size]? = some (.cells (moC 2 who vv Z x) 45 (0, 0)) := by rw [hP1]; exact heap_new _ _
  have k1 : Keeps (fun _ => False) w W1 := by rw [hW1]; exact kP.alloc _
  have hb2 : W1.heap[w.heap.size]? = some (.cells (moC 2 who vv Z x) 45 (0, 0)) := by rw [hW1]; exact ((Keeps.refl (fun _ => False) P1).alloc _).at hb1 fun h => h
  have ho : W1.heap[P1.heap.size]? = some (.cells (outC 0 zV 0 none 0 0) 51 (0, 0)) := by rw [hW1]; exact heap_new _ _
  have hq := h.quiet k1
  have HZ := Lib.hid kP.size
  have HB2 := Lib.hid hb2
  have HO := Lib.hid ho
  have HQ := Lib.hid hq
  have HK1 := Lib.hid k1
  have HP1 := Lib.hid hP1
  have HW1 := Lib.hid hW1
  have k1r := HK1.out
  clear hP1 hW1 kP hb1 k1 hb2 ho
  have HL := Lib.hid (fun (W : World) (k : Keeps (fun _ => False) W1 W) => line_any W P a M tk A (hq.quiet k) la n cap hl who ht)
  have hn := fun W => lp_nil W
  have x1 := cell_of HB2.out 1
  have lx := lt_of HB2.out
  clear hq h k1r hl ht hPQ
  go_enter Tryz.func22, Tryz.ntmps22
  go_wp2_with (first
    | (refine Great.wpList_boxTo rfl 45 (.tmp 1) rfl (some 3) rfl w.heap.size rfl (moC 2 who vv Z x) rfl ?_; rw [← HP1.out])
    | (refine wpList_alloc_as rfl 51 rfl (some 4) rfl P1.heap.size rfl _ (out_zero _) (outC 0 zV 0 none 0 0) rfl ?_; rw [← HW1.out]))
  refine (HL.out _ (Keeps.refl _ W1)).mono ?_
  rintro e w1 ⟨rfl, hw1⟩
  subst hw1
  go_wp2_with (first
    | (refine Great.wpList_buildTo rfl 51 _ rfl (some 15) rfl (outC 0 zV 0 none 0 0) (by kernel_rfl) ?_)
    | (refine wpList_store_row rfl 51 (.tmp 4) (.tmp 15) rfl P1.heap.size (outC 0 zV 0 none 0 0) rfl rfl 51 _ HO.out out_info rfl (out_one _ _ _ _ _ _) ?_))
  have kq : KeepsTy [51] w1 (World.setRow w1 P1.heap.size (outC 0 zV 0 none 0 0)) := ((Keeps.refl (fun k => k = P1.heap.size) w1).setRow (.inl rfl) _).mono (fun k _ e => ⟨_, .head _, by obtain rfl : k = P1.heap.size := e; exact ⟨_, _, HO.out⟩⟩)
  refine bodyPost_ret (v := .tuple #[.agg (outC 0 zV 0 none 0 0), .int .i64 4]) (res_out _ Tryz.results22 _ _ P1.heap.size _ _ rfl rfl rfl (setRow_heap _ _ _ _ _ _ HO.out)) rfl ?_
  exact ⟨0, zV, 0, none, 0, 0, 4, rfl, ⟨rfl, rfl, HQ.out.out kq⟩, Keeps.setRow (kM_none (P := P) HK1.out) (.inr HZ.out) _⟩
set_option maxHeartbeats 8000000 in
theorem apply_none (w : World) (P Q : Nat → Prop) (a : MoA) (M : ScM) (tk : Int) (A : Nat → AskX) (h : MoW w P a M tk A) (hPQ : ∀ k, P k → Q k) (vv : Int) (Z : Nat → Int) (x : AskX) (who : Int) (la : Option Addr) (n cap : Nat) (hl : a.lines = .slice la n cap) (ht : who < 1 ∨ (n : Int) < who) : Calls Tryz.prog 27 #[.pointer (some ⟨a.m, 0, none⟩), .agg (moC 7 who vv Z x)] w (MvQ P w (SayR P a M tk A 4)) := by
  obtain ⟨P1, hP1⟩ : ∃ W, W = w.alloc (.cells (moC 7 who vv Z x) 45) := ⟨_, rfl⟩
  obtain ⟨W1, hW1⟩ : ∃ W, W = P1.alloc (.cells (outC 0 zV 0 none 0 0) 51) := ⟨_, rfl⟩
  have kP : Keeps (fun _ => False) w P1 := by rw [hP1]; exact (Keeps.refl _ w).alloc _
  have hb1 : P1.heap[w.heap.size]? = some (.cells (moC 7 who vv Z x) 45 (0, 0)) := by rw [hP1]; exact heap_new _ _
  have k1 : Keeps (fun _ => False) w W1 := by rw [hW1]; exact kP.alloc _
  have hb2 : W1.heap[w.heap.size]? = some (.cells (moC 7 who vv Z x) 45 (0, 0)) := by rw [hW1]; exact ((Keeps.refl (fun _ => False) P1).alloc _).at hb1 fun h => h
  have ho : W1.heap[P1.heap.size]? = some (.cells (outC 0 zV 0 none 0 0) 51 (0, 0)) := by rw [hW1]; exact heap_new _ _
  have hq := h.quiet k1
  have HZ := Lib.hid kP.size
  have HB2 := Lib.hid hb2
  have HO := Lib.hid ho
  have HQ := Lib.hid hq
  have HK1 := Lib.hid k1
  have HP1 := Lib.hid hP1
  have HW1 := Lib.hid hW1
  have k1r := HK1.out
  clear hP1 hW1 kP hb1 k1 hb2 ho
  have HL := Lib.hid (fun (W : World) (k : Keeps (fun _ => False) W1 W) => line_any W P a M tk A (hq.quiet k) la n cap hl who ht)
  have hn := fun W => lp_nil W
  have x1 := cell_of HB2.out 1
  have lx := lt_of HB2.out
  clear hq h k1r hl ht hPQ
  go_enter Tryz.func27, Tryz.ntmps27
  go_wp2_with (first
    | (refine Great.wpList_boxTo rfl 45 (.tmp 1) rfl (some 3) rfl w.heap.size rfl (moC 7 who vv Z x) rfl ?_; rw [← HP1.out])
    | (refine wpList_alloc_as rfl 51 rfl (some 4) rfl P1.heap.size rfl _ (out_zero _) (outC 0 zV 0 none 0 0) rfl ?_; rw [← HW1.out]))
  refine (HL.out _ (Keeps.refl _ W1)).mono ?_
  rintro e w1 ⟨rfl, hw1⟩
  subst hw1
  go_wp2_with (first
    | (refine Great.wpList_buildTo rfl 51 _ rfl (some 17) rfl (outC 0 zV 0 none 0 0) (by kernel_rfl) ?_)
    | (refine wpList_store_row rfl 51 (.tmp 4) (.tmp 17) rfl P1.heap.size (outC 0 zV 0 none 0 0) rfl rfl 51 _ HO.out out_info rfl (out_one _ _ _ _ _ _) ?_))
  have kq : KeepsTy [51] w1 (World.setRow w1 P1.heap.size (outC 0 zV 0 none 0 0)) := ((Keeps.refl (fun k => k = P1.heap.size) w1).setRow (.inl rfl) _).mono (fun k _ e => ⟨_, .head _, by obtain rfl : k = P1.heap.size := e; exact ⟨_, _, HO.out⟩⟩)
  refine bodyPost_ret (v := .tuple #[.agg (outC 0 zV 0 none 0 0), .int .i64 4]) (res_out _ Tryz.results27 _ _ P1.heap.size _ _ rfl rfl rfl (setRow_heap _ _ _ _ _ _ HO.out)) rfl ?_
  exact ⟨0, zV, 0, none, 0, 0, 4, rfl, ⟨rfl, rfl, HQ.out.out kq⟩, Keeps.setRow (kM_none (P := P) HK1.out) (.inr HZ.out) _⟩
set_option maxHeartbeats 8000000 in
theorem post_over (w : World) (P Q : Nat → Prop) (a : MoA) (M : ScM) (tk : Int) (A : Nat → AskX) (h : MoW w P a M tk A) (hPQ : ∀ k, P k → Q k) (vv : Int) (Z : Nat → Int) (x : AskX) (lb n : Nat) (F : Nat → LnX) (hl : LinesAt w P lb a.lines n F) (hQ : Q lb) (i : Nat) (hi : i < n) (hn1 : n ≤ 1000) (hfull : (F i).r ≤ ((F i).q.length : Int)) : Calls Tryz.prog 22 #[.pointer (some ⟨a.m, 0, none⟩), .agg (moC 2 ((i : Int) + 1) vv Z x)] w (MvQ Q w (fun f V v l n2 c g w1 => g = 0 ∧ f = 6 ∧ MoW w1 P a M tk A ∧ ∃ o, LinesAt w1 P lb a.lines n (upd F i ⟨(F i).r, (F i).q, o⟩))) := by
  obtain ⟨la, cap, hl, h3⟩ := hl
  obtain ⟨rfl, V, hr, hqs⟩ := h3 (by omega)
  obtain ⟨⟨qa, qc, ev, hqc, hqd⟩, hok⟩ := hqs i hi
  obtain ⟨q, hq0⟩ : ∃ q, (F i).q = q := ⟨_, rfl⟩
  obtain ⟨r, hr0⟩ : ∃ r, (F i).r = r := ⟨_, rfl⟩
  obtain ⟨o, ho0⟩ : ∃ o, (F i).o = o := ⟨_, rfl⟩
  obtain ⟨P1, hP1⟩ : ∃ W, W = w.alloc (.cells (moC 2 ((i : Int) + 1) vv Z x) 45) := ⟨_, rfl⟩
  obtain ⟨W1, hW1⟩ : ∃ W, W = P1.alloc (.cells (outC 0 zV 0 none 0 0) 51) := ⟨_, rfl⟩
  have kP : Keeps (fun _ => False) w P1 := by rw [hP1]; exact (Keeps.refl _ w).alloc _
  have hb1 : P1.heap[w.heap.size]? = some (.cells (moC 2 ((i : Int) + 1) vv Z x) 45 (0, 0)) := by rw [hP1]; exact heap_new _ _
  have k1 : Keeps (fun _ => False) w W1 := by rw [hW1]; exact kP.alloc _
  have hb2 : W1.heap[w.heap.size]? = some (.cells (moC 2 ((i : Int) + 1) vv Z x) 45 (0, 0)) := by rw [hW1]; exact ((Keeps.refl (fun _ => False) P1).alloc _).at hb1 fun h => h
  have ho : W1.heap[P1.heap.size]? = some (.cells (outC 0 zV 0 none 0 0) 51 (0, 0)) := by rw [hW1]; exact heap_new _ _
  have hq := h.quiet k1
  have HZ := Lib.hid kP.size
  have HB2 := Lib.hid hb2
  have HO := Lib.hid ho
  have HQ := Lib.hid hq
  have HK1 := Lib.hid k1
  have HP1 := Lib.hid hP1
  have HW1 := Lib.hid hW1
  have k1r := HK1.out
  clear hP1 hW1 kP hb1 k1 hb2 ho
  have HL := Lib.hid (fun (W : World) (k : Keeps (fun _ => False) W1 W) => line_in W P a M tk A (hq.quiet k) lb n cap hl i hi hn1)
  have HRL := Lib.hid (hr.keep k1r fun h => h)
  have HQS := Lib.hid (fun j (hj : j < n) => And.intro ((hqs j hj).1.none k1r) (hqs j hj).2)
  have HQL := Lib.hid hQ
  have HPQ := Lib.hid hPQ
  have HI := Lib.hid hi
  have HE := Lib.hid hl
  have hn := fun W => ln_nil lb (i * 3) W
  have x1 := cell_of HB2.out 1
  have lx := lt_of HB2.out
  have d0 : decide (r ≤ (q.length : Int)) = true := decide_eq_true (by rw [← hq0, ← hr0]; exact hfull)
  have HF := Lib.hid (And.intro hq0 (And.intro hr0 ho0))
  have HOO := Lib.hid (show o < 4294967296 from by rw [← ho0]; exact hok.o)
  rw [hq0] at ev
  have HEV := Lib.hid ev
  obtain ⟨qn, hqn⟩ : ∃ qn, q.length = qn := ⟨_, rfl⟩
  have HQN := Lib.hid hqn
  clear hq h hl h3 hr hQ k1r hPQ hqs hqd hqc hok hfull hq0 hr0 ho0 ev hqn
  go_enter Tryz.func22, Tryz.ntmps22
  go_wp2_with (first
    | (refine Great.wpList_boxTo rfl 45 (.tmp 1) rfl (some 3) rfl w.heap.size rfl (moC 2 ((i : Int) + 1) vv Z x) rfl ?_; rw [← HP1.out])
    | (refine wpList_alloc_as rfl 51 rfl (some 4) rfl P1.heap.size rfl _ (out_zero _) (outC 0 zV 0 none 0 0) rfl ?_; rw [← HW1.out]))
  refine (HL.out _ (Keeps.refl _ W1)).mono ?_
  rintro e w1 ⟨rfl, hw1⟩
  subst hw1
  obtain ⟨r0, r1, r2⟩ := HRL.out.ln HI.out
  rw [HF.out.2.1] at r0
  rw [HF.out.2.2] at r2
  rw [HEV.out, HQN.out] at r1
  rw [HQN.out] at d0
  have f2 := HRL.out.free (i * 3 + 2)
  have lr := HRL.out.lt
  go_wp2_with fail
  refine (more_all _ o HOO.out).mono ?_
  rintro e w2 ⟨o2, ho2, rfl, hw2⟩
  subst hw2
  obtain ⟨hm3, kk3⟩ := HQ.out.lnSet HRL.out (i * 3 + 2) (.int .u32 (o2 : Int))
  have ho3 := kk3.at HO.out (Ty.ne ⟨_, _, HO.out⟩ HRL.out.ty (by decide))
  have kw3 := kM (kM_none (P := Q) HK1.out) (kM_one kk3 HRL.out.ty (by decide) HQL.out)
  obtain ⟨W3, hW3⟩ : ∃ W, W = w2.setCell ⟨lb, i * 3 + 2, none⟩ (.int .u32 (o2 : Int)) := ⟨_, rfl⟩
  have hla : LinesAt W3 P lb a.lines n (upd F i ⟨(F i).r, (F i).q, o2⟩) := ⟨_, cap, HE.out, fun _ => ⟨rfl, V, by rw [hW3]; exact HRL.out.lnO HI.out o2, fun j hj => by
    have h1 := HQS.out j hj
    have h2 := h1.1.keep kk3 fun b _ hb e => Ty.ne hb HRL.out.ty (by decide) e
    rw [← hW3] at h2
    by_cases e : j = i
    · subst e; rw [upd_at]; exact ⟨h2, h1.2.setO o2 ho2⟩
    · rw [upd_ne _ _ e]; exact ⟨h2, h1.2⟩⟩⟩
  rw [← hW3] at hm3 ho3 kw3
  have HM3 := Lib.hid hm3
  have HO3 := Lib.hid ho3
  have HK3 := Lib.hid kw3
  have HW3 := Lib.hid hW3
  have HLA := Lib.hid hla
  clear hm3 kk3 ho3 kw3 hW3 hla
  go_wp2_with (first
    | (rw [← HW3.out]; refine wpList_buildTo rfl 51 _ rfl (some 36) rfl (outC 6 zV 0 none 0 0) (by kernel_rfl) ?_)
    | (refine wpList_store_row rfl 51 (.tmp 4) (.tmp 36) rfl P1.heap.size (outC 6 zV 0 none 0 0) rfl rfl 51 _ HO3.out out_info rfl (out_one _ _ _ _ _ _) ?_))
  have kq : KeepsTy [51] W3 (World.setRow W3 P1.heap.size (outC 6 zV 0 none 0 0)) := ((Keeps.refl (fun k => k = P1.heap.size) W3).setRow (.inl rfl) _).mono (fun k _ e => ⟨_, .head _, by obtain rfl : k = P1.heap.size := e; exact ⟨_, _, HO3.out⟩⟩)
  refine bodyPost_ret (v := .tuple #[.agg (outC 6 zV 0 none 0 0), .int .i64 0]) (res_out _ Tryz.results22 _ _ P1.heap.size _ _ rfl rfl rfl (setRow_heap _ _ _ _ _ _ HO3.out)) rfl ?_
  exact ⟨6, zV, 0, none, 0, 0, 0, rfl, ⟨rfl, rfl, HM3.out.out kq, o2, HLA.out.out kq⟩, Keeps.setRow HK3.out (.inr HZ.out) _⟩
set_option maxHeartbeats 8000000 in
theorem apply_empty (w : World) (P Q : Nat → Prop) (a : MoA) (M : ScM) (tk : Int) (A : Nat → AskX) (h : MoW w P a M tk A) (hPQ : ∀ k, P k → Q k) (vv : Int) (Z : Nat → Int) (x : AskX) (lb n : Nat) (F : Nat → LnX) (hl : LinesAt w P lb a.lines n F) (i : Nat) (hi : i < n) (hn1 : n ≤ 1000) (hem : (F i).q = []) : Calls Tryz.prog 27 #[.pointer (some ⟨a.m, 0, none⟩), .agg (moC 7 ((i : Int) + 1) vv Z x)] w (MvQ P w (SayR P a M tk A 15)) := by
  obtain ⟨la, cap, hl, h3⟩ := hl
  obtain ⟨rfl, V, hr, hqs⟩ := h3 (by omega)
  obtain ⟨⟨qa, qc, ev, hqc, hqd⟩, hok⟩ := hqs i hi
  obtain ⟨q, hq0⟩ : ∃ q, (F i).q = q := ⟨_, rfl⟩
  obtain ⟨r, hr0⟩ : ∃ r, (F i).r = r := ⟨_, rfl⟩
  obtain ⟨o, ho0⟩ : ∃ o, (F i).o = o := ⟨_, rfl⟩
  obtain ⟨P1, hP1⟩ : ∃ W, W = w.alloc (.cells (moC 7 ((i : Int) + 1) vv Z x) 45) := ⟨_, rfl⟩
  obtain ⟨W1, hW1⟩ : ∃ W, W = P1.alloc (.cells (outC 0 zV 0 none 0 0) 51) := ⟨_, rfl⟩
  have kP : Keeps (fun _ => False) w P1 := by rw [hP1]; exact (Keeps.refl _ w).alloc _
  have hb1 : P1.heap[w.heap.size]? = some (.cells (moC 7 ((i : Int) + 1) vv Z x) 45 (0, 0)) := by rw [hP1]; exact heap_new _ _
  have k1 : Keeps (fun _ => False) w W1 := by rw [hW1]; exact kP.alloc _
  have hb2 : W1.heap[w.heap.size]? = some (.cells (moC 7 ((i : Int) + 1) vv Z x) 45 (0, 0)) := by rw [hW1]; exact ((Keeps.refl (fun _ => False) P1).alloc _).at hb1 fun h => h
  have ho : W1.heap[P1.heap.size]? = some (.cells (outC 0 zV 0 none 0 0) 51 (0, 0)) := by rw [hW1]; exact heap_new _ _
  have hq := h.quiet k1
  have HZ := Lib.hid kP.size
  have HB2 := Lib.hid hb2
  have HO := Lib.hid ho
  have HQ := Lib.hid hq
  have HK1 := Lib.hid k1
  have HP1 := Lib.hid hP1
  have HW1 := Lib.hid hW1
  have k1r := HK1.out
  clear hP1 hW1 kP hb1 k1 hb2 ho
  have HL := Lib.hid (fun (W : World) (k : Keeps (fun _ => False) W1 W) => line_in W P a M tk A (hq.quiet k) lb n cap hl i hi hn1)
  have HRL := Lib.hid (hr.keep k1r fun h => h)
  have HQS := Lib.hid (fun j (hj : j < n) => And.intro ((hqs j hj).1.none k1r) (hqs j hj).2)
  have HPQ := Lib.hid hPQ
  have HI := Lib.hid hi
  have HE := Lib.hid hl
  have hn := fun W => ln_nil lb (i * 3) W
  have x1 := cell_of HB2.out 1
  have lx := lt_of HB2.out
  rw [hem] at ev
  have HEV := Lib.hid ev
  clear hq h hl h3 hr k1r hPQ hqs hqd hqc hok hem hq0 hr0 ho0 ev
  go_enter Tryz.func27, Tryz.ntmps27
  go_wp2_with (first
    | (refine Great.wpList_boxTo rfl 45 (.tmp 1) rfl (some 3) rfl w.heap.size rfl (moC 7 ((i : Int) + 1) vv Z x) rfl ?_; rw [← HP1.out])
    | (refine wpList_alloc_as rfl 51 rfl (some 4) rfl P1.heap.size rfl _ (out_zero _) (outC 0 zV 0 none 0 0) rfl ?_; rw [← HW1.out]))
  refine (HL.out _ (Keeps.refl _ W1)).mono ?_
  rintro e w1 ⟨rfl, hw1⟩
  subst hw1
  obtain ⟨r0, r1, r2⟩ := HRL.out.ln HI.out
  rw [HEV.out] at r1
  have lr := HRL.out.lt
  clear r0 r2
  go_wp2_with (first
    | (refine Great.wpList_buildTo rfl 51 _ rfl (some 25) rfl (outC 0 zV 0 none 0 0) (by kernel_rfl) ?_)
    | (refine wpList_store_row rfl 51 (.tmp 4) (.tmp 25) rfl P1.heap.size (outC 0 zV 0 none 0 0) rfl rfl 51 _ HO.out out_info rfl (out_one _ _ _ _ _ _) ?_))
  have kq : KeepsTy [51] w1 (World.setRow w1 P1.heap.size (outC 0 zV 0 none 0 0)) := ((Keeps.refl (fun k => k = P1.heap.size) w1).setRow (.inl rfl) _).mono (fun k _ e => ⟨_, .head _, by obtain rfl : k = P1.heap.size := e; exact ⟨_, _, HO.out⟩⟩)
  refine bodyPost_ret (v := .tuple #[.agg (outC 0 zV 0 none 0 0), .int .i64 15]) (res_out _ Tryz.results27 _ _ P1.heap.size _ _ rfl rfl rfl (setRow_heap _ _ _ _ _ _ HO.out)) rfl ?_
  exact ⟨0, zV, 0, none, 0, 0, 15, rfl, ⟨rfl, rfl, HQ.out.out kq⟩, Keeps.setRow (kM_none (P := P) HK1.out) (.inr HZ.out) _⟩
end Go.Proofs.YtkhmfjfclpehfaaGreat
namespace Go.Proofs.YtkhmfjfclpehfaaGreat
open Go.ChangeShapes Go.WideShapes Go.ChangeAt Go.RowKit
set_option linter.unusedVariables false
set_option linter.unusedSimpArgs false
set_option maxRecDepth 100000
def recs (q : List Nat) : List Value := q.map fun (x : Nat) => Value.int .u32 (x : Int)
theorem recs_len (q : List Nat) : (recs q).length = q.length := by unfold recs; exact List.length_map _
theorem recs_get {q : List Nat} {i : Nat} {x : Nat} (h : q[i]? = some x) : (recs q)[i]? = some (.int .u32 (x : Int)) := by unfold recs; rw [List.getElem?_map, h]; rfl
theorem recs_of {q : List Nat} {i : Nat} {v : Value} (h : (recs q)[i]? = some v) : ∃ x, q[i]? = some x ∧ v = .int .u32 (x : Int) := by
  unfold recs at h
  rw [List.getElem?_map] at h
  obtain ⟨x, hx, e⟩ := Option.map_eq_some_iff.1 h
  exact ⟨x, hx, e.symm⟩
theorem recs_one (q : List Nat) : ∀ v ∈ recs q, v.oneCell' = true := by
  intro v hv
  obtain ⟨x, _, rfl⟩ := List.mem_map.1 hv
  rfl
@[reducible] def zeros (c : Nat) : Array Value := madeCells #[.int .u32 0] c
theorem make_u32 (w : World) (n c : Nat) (hn : n ≤ c) (hc : c ≤ 1000) : (Instr.makeSlice 54 (.int .i64 (n : Int)) (.int .i64 (c : Int))).run Tryz.prog w = .ok (.slice (some ⟨w.heap.size, 0, none⟩) n c) (w.alloc (.cells (zeros c) 34)) := by
  obtain ⟨i, hi, hz0, hz1, hz2⟩ := info_parts info_u32
  have h := run_make w 54 34 i (.int .u32 0) Tryz.underlying54 hi hz0 .i64 .i64 (n : Int) (c : Int) (by omega) (by omega) (by rw [hz2]; omega) (by omega)
  rw [hz1] at h
  simpa [zeros, Value.cells] using h
theorem own_q {w : World} {P : Nat → Prop} {B n : Nat} {v : Value} {q : List Nat} (h : w.ownsRow B 34 1 v n (recs q)) (hn : q.length = n) (hP : ∀ k, B ≤ k → P k) : QAt w P v q := by
  subst hn
  obtain ⟨_, h | ⟨g, cap, cur, rfl, hB, hg, hc, hm, hs, ht⟩⟩ := h
  · exact ⟨none, 0, by rw [h.1, h.2], by omega, fun hp => by omega⟩
  · refine ⟨_, cap, rfl, hc, fun hp => ⟨g, 0, cur, rfl, hP g hB, hg, fun i x hx => ?_⟩⟩
    have hi : i < q.length := (List.getElem?_eq_some_iff.1 hx).1
    have h0 := recs_get hx
    rw [← ht, List.getElem?_take_of_lt (by omega)] at h0
    rw [Nat.zero_add, ← Array.getElem?_toList]; exact h0
theorem q_copy (w : World) {P : Nat → Prop} (v : Value) (q : List Nat) (c : Nat) (hq : QAt w P v q) (hc : q.length ≤ c) (hc2 : c ≤ 1000) (ty : TypeId) : ∃ w3, (Builtin.copy_ #[54, 54] ty #[.slice (some ⟨w.heap.size, 0, none⟩) q.length c, v]).run Tryz.prog (w.alloc (.cells (zeros c) 34)) = .ok (goInt q.length) w3 ∧
    w3.ownsRow w.heap.size 34 1 (.slice (some ⟨w.heap.size, 0, none⟩) q.length c) q.length (recs q) ∧ Keeps (fun _ => False) w w3 := by
  have hsz : (Tryz.prog.info? 34).map (·.size) = some 1 := by kernel_rfl
  have hg : (w.alloc (.cells (zeros c) 34)).heap[w.heap.size]? = some (.cells (zeros c) 34 (0, 0)) := heap_new _ _
  have k0 : Keeps (fun _ => False) w (w.alloc (.cells (zeros c) 34)) := (Keeps.refl _ w).alloc _
  have hzl : (zeros c).size = c := size_madeCells _ _
  obtain ⟨a, k, rfl, hk, hd⟩ := hq
  rcases Nat.eq_zero_or_pos q.length with h0 | hp
  · have hq0 : q = [] := List.eq_nil_of_length_eq_zero h0
    subst hq0
    exact ⟨_, run_copy_zero _ 54 54 ty 34 1 _ _ 0 c 0 k Tryz.underlying54 hsz rfl, ⟨rfl, .inr ⟨w.heap.size, c, zeros c, rfl, Nat.le_refl _, hg, Nat.zero_le _, by unfold maxLen; omega, by rw [hzl]; omega, by simp [recs]⟩⟩, k0⟩
  · obtain ⟨b, off, cs, rfl, _, hb, hx⟩ := hd hp
    have hrun := run_copy_row (P := Tryz.prog) (w.alloc (.cells (zeros c) 34)) 54 54 ty 34 w.heap.size 0 q.length c ⟨b, off, none⟩ q.length k (zeros c) 34 (recs q) Tryz.underlying54 hsz hg (by rw [recs_len]; exact (Nat.min_self _).symm) (fun j u hj => by
      obtain ⟨x, hxj, rfl⟩ := recs_of hj
      rw [show (⟨b, off, none⟩ : Addr).add j = ⟨b, off + j, none⟩ by unfold Addr.add; split <;> simp_all]
      exact (cell_of (k0.at hb fun h => h) (off + j)).trans (hx j x hxj)) (by rw [recs_len, hzl]; omega) (recs_one q)
    rw [recs_len] at hrun
    refine ⟨_, hrun, ⟨by rw [recs_len]; omega, .inr ⟨w.heap.size, c, _, rfl, Nat.le_refl _, setRow_heap _ _ _ _ _ _ hg, hc, by unfold maxLen; omega, ?_, ?_⟩⟩, k0.setRow (.inr (Nat.le_refl _)) _⟩
    · simp [recs_len, hzl]; omega
    · rw [List.take_zero, List.nil_append, Nat.mul_one]
      simp only [List.toList_toArray]
      rw [List.take_append_of_le_length (by rw [recs_len]; omega), List.take_of_length_le (by rw [recs_len]; omega)]
set_option maxHeartbeats 8000000 in
theorem post_in (w : World) (P Q : Nat → Prop) (a : MoA) (M : ScM) (tk : Int) (A : Nat → AskX) (h : MoW w P a M tk A) (hPQ : ∀ k, P k → Q k) (vv : Int) (y : Nat) (hvv : vv = (y : Int)) (hy : y < 4294967296) (Z : Nat → Int) (x : AskX) (lb n : Nat) (F : Nat → LnX) (hl : LinesAt w P lb a.lines n F) (hQ : Q lb) (i : Nat) (hi : i < n) (hn1 : n ≤ 1000) (hroom : ¬ (F i).r ≤ ((F i).q.length : Int)) : Calls Tryz.prog 22 #[.pointer (some ⟨a.m, 0, none⟩), .agg (moC 2 ((i : Int) + 1) vv Z x)] w (MvQ Q w (fun f V v l n2 c g w1 => g = 0 ∧ f = 0 ∧ MoW w1 P a M tk A ∧ LinesAt w1 P lb a.lines n (upd F i ⟨(F i).r, (F i).q ++ [y], (F i).o⟩))) := by
  subst hvv
  obtain ⟨la, cap0, hl, h3⟩ := hl
  obtain ⟨rfl, V, hr, hqs⟩ := h3 (by omega)
  obtain ⟨⟨qa, qc, ev, hqc, hqd⟩, hok⟩ := hqs i hi
  obtain ⟨q, hq0⟩ : ∃ q, (F i).q = q := ⟨_, rfl⟩
  obtain ⟨r, hr0⟩ : ∃ r, (F i).r = r := ⟨_, rfl⟩
  obtain ⟨o, ho0⟩ : ∃ o, (F i).o = o := ⟨_, rfl⟩
  obtain ⟨P1, hP1⟩ : ∃ W, W = w.alloc (.cells (moC 2 ((i : Int) + 1) (y : Int) Z x) 45) := ⟨_, rfl⟩
  obtain ⟨W1, hW1⟩ : ∃ W, W = P1.alloc (.cells (outC 0 zV 0 none 0 0) 51) := ⟨_, rfl⟩
  have kP : Keeps (fun _ => False) w P1 := by rw [hP1]; exact (Keeps.refl _ w).alloc _
  have hb1 : P1.heap[w.heap.size]? = some (.cells (moC 2 ((i : Int) + 1) (y : Int) Z x) 45 (0, 0)) := by rw [hP1]; exact heap_new _ _
  have k1 : Keeps (fun _ => False) w W1 := by rw [hW1]; exact kP.alloc _
  have hb2 : W1.heap[w.heap.size]? = some (.cells (moC 2 ((i : Int) + 1) (y : Int) Z x) 45 (0, 0)) := by rw [hW1]; exact ((Keeps.refl (fun _ => False) P1).alloc _).at hb1 fun h => h
  have ho : W1.heap[P1.heap.size]? = some (.cells (outC 0 zV 0 none 0 0) 51 (0, 0)) := by rw [hW1]; exact heap_new _ _
  have hq := h.quiet k1
  have HZ := Lib.hid kP.size
  have HB2 := Lib.hid hb2
  have HO := Lib.hid ho
  have HQ := Lib.hid hq
  have HK1 := Lib.hid k1
  have HP1 := Lib.hid hP1
  have HW1 := Lib.hid hW1
  have k1r := HK1.out
  clear hP1 hW1 kP hb1 k1 hb2 ho
  have HL := Lib.hid (fun (W : World) (k : Keeps (fun _ => False) W1 W) => line_in W P a M tk A (hq.quiet k) lb n cap0 hl i hi hn1)
  have HRL := Lib.hid (hr.keep k1r fun h => h)
  have HQS := Lib.hid (fun j (hj : j < n) => And.intro ((hqs j hj).1.none k1r) (hqs j hj).2)
  have HQL := Lib.hid hQ
  have HPQ := Lib.hid hPQ
  have HI := Lib.hid hi
  have HE := Lib.hid hl
  have hn := fun W => ln_nil lb (i * 3) W
  have x1 := cell_of HB2.out 1
  have lx := lt_of HB2.out
  have d0 : decide (r ≤ (q.length : Int)) = false := decide_eq_false (by rw [← hq0, ← hr0]; exact hroom)
  have HR64 := Lib.hid (And.intro hok.r hok.len)
  have HF := Lib.hid (And.intro hq0 (And.intro hr0 ho0))
  have HOK := Lib.hid hok
  have HYY := Lib.hid hy
  have hql : q.length ≤ 63 := by have := hok.r; rw [← hq0]; omega
  have HQA := Lib.hid (show QAt W1 P (V i) q from by have h1 := (hqs i hi).1.none k1r; rw [hq0] at h1; exact h1)
  rw [hq0] at ev
  rw [ev] at HQA
  have HEV := Lib.hid ev
  have HCP := Lib.hid (q_copy W1 (.slice qa q.length qc) q (q.length + 1) HQA.out (by omega) (by omega) 3)
  have HRM := Lib.hid hroom
  obtain ⟨w3, hcp, ho3, k3⟩ := HCP.out
  have hmk : (Instr.makeSlice 54 (.int .i64 (q.length : Int)) (.int .i64 ((q.length : Int) + 1))).run Tryz.prog W1 = .ok (.slice (some ⟨W1.heap.size, 0, none⟩) q.length (q.length + 1)) (W1.alloc (.cells (zeros (q.length + 1)) 34)) := make_u32 W1 q.length (q.length + 1) (by omega) (by omega)
  have HO3 := Lib.hid ho3
  have HK3 := Lib.hid k3
  obtain ⟨W2, hW2⟩ : ∃ W, W = W1.alloc (.cells (zeros (q.length + 1)) 34) := ⟨_, rfl⟩
  rw [← hW2] at hmk hcp
  have k2 : Keeps (fun _ => False) W1 W2 := by rw [hW2]; exact (Keeps.refl _ W1).alloc _
  obtain ⟨i0, hinf, hz0, hz1, hz2⟩ := info_parts info_u32
  obtain ⟨r0, r1, r2⟩ := HRL.out.ln HI.out
  rw [HF.out.2.1] at r0
  rw [HEV.out] at r1
  have lr := HRL.out.lt
  have y1 := (k2.none.cell (p := ⟨lb, i * 3 + 1, none⟩) lr).trans r1
  have z2 := (k3.none.cell (p := ⟨w.heap.size, 2, none⟩) lx).trans (cell_of HB2.out 2)
  have lr2 := Nat.lt_of_lt_of_le lr k2.size
  have lx3 := Nat.lt_of_lt_of_le lx k3.size
  have hzz := k3.size
  have HSZ := Lib.hid hql
  obtain ⟨qn, hqn⟩ : ∃ qn, q.length = qn := ⟨_, rfl⟩
  have HQN := Lib.hid hqn
  rw [hqn] at hcp HO3 hmk r1 y1 d0 hql
  have HCPR := Lib.hid hcp
  clear hq h hl h3 hr hQ k1r hPQ hqs hqd hqc hok hroom hq0 hr0 ho0 ev hqn ho3 k3 hW2 k2 hcp HCP r2
  go_enter Tryz.func22, Tryz.ntmps22
  go_wp2_with (first
    | (refine Great.wpList_boxTo rfl 45 (.tmp 1) rfl (some 3) rfl w.heap.size rfl (moC 2 ((i : Int) + 1) (y : Int) Z x) rfl ?_; rw [← HP1.out])
    | (refine wpList_alloc_as rfl 51 rfl (some 4) rfl P1.heap.size rfl _ (out_zero _) (outC 0 zV 0 none 0 0) rfl ?_; rw [← HW1.out]))
  refine (HL.out _ (Keeps.refl _ W1)).mono ?_
  rintro e w1 ⟨rfl, hw1⟩
  subst hw1
  go_wp2_with (first
    | (refine wpList_copy_known rfl (.tmp 41) (.tmp 45) 54 54 rfl _ _ rfl rfl HCPR.out ?_)
    | (refine wpList_append_lies _ rfl (.tmp 48) (.tmp 51) 54 rfl w1.heap.size 34 i0 (.int .u32 0) 1 4 Tryz.underlying54 hinf hz0 hz1 hz2 rfl (by decide) (.slice (some ⟨w1.heap.size, 0, none⟩) qn (qn + 1)) qn (recs q) rfl (HO3.out.alloc _) ⟨w3.heap.size, 0, none⟩ 1 1 [.int .u32 (y : Int)] rfl rfl (World.news_of_block (heap_new w3 (.cells #[.int .u32 (y : Int)] 34))) (by simp [Value.oneCell']) (by decide) (by unfold maxLen; omega) (by omega) (show w1.heap.size ≤ (w3.alloc _).heap.size from by rw [World.size_alloc]; omega) _ rfl ?_; intro g cap w4 hown4 hgrow hat hlt4; have HK4 := Lib.hid (HK3.out.farM (app_afterN (W := w3) HO3.out hgrow) (fun X hX => by have e1 : w1.heap.size = X := by { simpa [Value.ownBlock] using hX }; omega)); have HR4 := Lib.hid (HRL.out.keep HK4.out fun h => h); have HO4 := Lib.hid hown4; have s1 := (HR4.out.ln HI.out).2.1; have u1 := HR4.out.free (i * 3 + 1); have l4 := HR4.out.lt; clear hown4 hgrow hat)
    | (refine wpList_buildTo rfl 51 _ rfl (some 55) rfl (outC 0 zV 0 none 0 0) (by kernel_rfl) ?_)
    | (refine wpList_store_row rfl 51 (.tmp 4) (.tmp 55) rfl P1.heap.size (outC 0 zV 0 none 0 0) rfl rfl 51 _ (show (w4.setCell ⟨lb, i * 3 + 1, none⟩ (.slice (some ⟨g, 0, none⟩) (qn + 1) cap)).heap[P1.heap.size]? = _ from ((HQ.out.quiet HK4.out).lnSet HR4.out (i * 3 + 1) (.slice (some ⟨g, 0, none⟩) (qn + 1) cap)).2.at (HK4.out.at HO.out fun h => h) (Ty.ne ⟨_, _, HK4.out.at HO.out fun h => h⟩ HR4.out.ty (by decide))) out_info rfl (out_one _ _ _ _ _ _) ?_))
  have HQ4 := Lib.hid ((HQ.out.quiet HK4.out).lnSet HR4.out (i * 3 + 1) (.slice (some ⟨g, 0, none⟩) (qn + 1) cap))
  have hq5 := HQ4.out.1
  have kk5 := HQ4.out.2
  have ho5 := kk5.at (HK4.out.at HO.out fun h => h) (Ty.ne ⟨_, _, HK4.out.at HO.out fun h => h⟩ HR4.out.ty (by decide))
  have hk5 := kM (kM_none (P := Q) (HK1.out.trans HK4.out)) (kM_one kk5 HR4.out.ty (by decide) HQL.out)
  have hqq : QAt w4 P (.slice (some ⟨g, 0, none⟩) (qn + 1) cap) (q ++ [y]) := own_q (q := q ++ [y]) (by have h1 := HO4.out; rw [show recs (q ++ [y]) = recs q ++ [.int .u32 (y : Int)] from by unfold recs; simp]; exact h1) (by rw [List.length_append, HQN.out]; rfl) HQ.out.sch.new
  have hqq5 := hqq.keep kk5 fun b _ hb e => Ty.ne hb HR4.out.ty (by decide) e
  have hr5 := HR4.out.lnQ HI.out (.slice (some ⟨g, 0, none⟩) (qn + 1) cap) (q ++ [y])
  have hqs5 := fun j (hj : j < n) => ((HQS.out j hj).1.none HK4.out).keep kk5 fun b _ hb e => Ty.ne hb HR4.out.ty (by decide) e
  obtain ⟨W5, hW5⟩ : ∃ W, W = w4.setCell ⟨lb, i * 3 + 1, none⟩ (.slice (some ⟨g, 0, none⟩) (qn + 1) cap) := ⟨_, rfl⟩
  rw [← hW5] at ho5 hq5 hk5 hr5 hqq5 hqs5 ⊢
  have hla : LinesAt W5 P lb a.lines n (upd F i ⟨(F i).r, (F i).q ++ [y], (F i).o⟩) := by
    rw [HF.out.1]
    refine ⟨_, cap0, HE.out, fun _ => ⟨rfl, _, hr5, fun j hj => ?_⟩⟩
    by_cases e : j = i
    · subst e
      rw [upd_at, upd_at]
      refine ⟨hqq5, HOK.out.o, fun z hz => ?_, ?_, HOK.out.r⟩
      · rcases List.mem_append.1 hz with h1 | h1
        · exact HOK.out.q z (by rw [HF.out.1]; exact h1)
        · rw [List.mem_singleton.1 h1]; exact HYY.out
      · show ((q ++ [y]).length : Int) ≤ (F j).r
        have h1 := HRM.out
        rw [HF.out.1] at h1
        rw [List.length_append, List.length_singleton]
        omega
    · rw [upd_ne _ _ e, upd_ne _ _ e]
      exact ⟨hqs5 j hj, (HQS.out j hj).2⟩
  have kq : KeepsTy [51] W5 (World.setRow W5 P1.heap.size (outC 0 zV 0 none 0 0)) := ((Keeps.refl (fun k => k = P1.heap.size) W5).setRow (.inl rfl) _).mono (fun k _ e => ⟨_, .head _, by obtain rfl : k = P1.heap.size := e; exact ⟨_, _, ho5⟩⟩)
  refine bodyPost_ret (v := .tuple #[.agg (outC 0 zV 0 none 0 0), .int .i64 0]) (res_out _ Tryz.results22 _ _ P1.heap.size _ _ rfl rfl rfl (setRow_heap _ _ _ _ _ _ ho5)) rfl ?_
  exact ⟨0, zV, 0, none, 0, 0, 0, rfl, ⟨rfl, rfl, hq5.out kq, hla.out kq⟩, Keeps.setRow hk5 (.inr HZ.out) _⟩
end Go.Proofs.YtkhmfjfclpehfaaGreat
namespace Go.Proofs.YtkhmfjfclpehfaaGreat
open Go.ChangeShapes Go.WideShapes Go.ChangeAt Go.RowKit
set_option linter.unusedVariables false
set_option linter.unusedSimpArgs false
set_option maxRecDepth 100000
theorem StateAt.keep {w w' : World} {g : Nat} {L : List ItemD} {S : Nat → Prop} (h : StateAt w g L) (k : Keeps S w w') (h1 : ∀ b, TyV w b → ¬ S b) (h2 : ∀ b, TyI w b → ¬ S b) : StateAt w' g L := by
  have hr : ∀ (b o : Nat) (X : List Value), b < w.heap.size → ¬ S b → w.rangeAt b o X → w'.rangeAt b o X := fun b o X hb hS hX j u hu => by
    rw [World.cell?_of_block (a := ⟨b, o + j, none⟩) (k.block b hb hS)]
    exact hX j u hu
  refine ⟨Nat.lt_of_lt_of_le h.lt k.size, fun i x hx => ?_, h.ty.eq (k.block g h.lt (h2 g h.ty))⟩
  obtain ⟨a, c, e1, e2, e3, e4, e5⟩ := h.at' i x hx
  refine ⟨a, c, hr g _ _ h.lt (h2 g h.ty) e1, e2, e3, e4, fun hn => ?_⟩
  obtain ⟨b, off, f1, f2, f3, f4⟩ := e5 hn
  exact ⟨b, off, f1, Nat.lt_of_lt_of_le f2 k.size, f3.eq (k.block b f2 (h1 b f3)), fun j y hy => hr b _ _ f2 (h1 b f3) (f4 j y hy)⟩
theorem StateAt.keepM {w w' : World} {g : Nat} {L : List ItemD} {P : Nat → Prop} (h : StateAt w g L) (k : KeepsM P w w') : StateAt w' g L :=
  h.keep k (fun b hb e => KeepsTy.apart (T := 36) (by obtain ⟨cs, fr, h⟩ := hb; exact ⟨cs, fr, h⟩) (by decide) e.2) fun b hb e => KeepsTy.apart (T := 106) (by obtain ⟨cs, fr, h⟩ := hb; exact ⟨cs, fr, h⟩) (by decide) e.2
theorem StateAt.none {w w' : World} {g : Nat} {L : List ItemD} (h : StateAt w g L) (k : Keeps (fun _ => False) w w') : StateAt w' g L := h.keep k (fun b hb e => e) fun b hb e => e
theorem StateAt.outM {w w' : World} {g : Nat} {L : List ItemD} (h : StateAt w g L) (k : KeepsTy [51] w w') : StateAt w' g L :=
  h.keep k (fun b hb e => KeepsTy.apart (T := 36) (by obtain ⟨cs, fr, h⟩ := hb; exact ⟨cs, fr, h⟩) (by decide) e) fun b hb e => KeepsTy.apart (T := 106) (by obtain ⟨cs, fr, h⟩ := hb; exact ⟨cs, fr, h⟩) (by decide) e
section
variable {w : World} {P : Nat → Prop} {a : MoA} {M : ScM} {tk : Int} {A : Nat → AskX}
theorem MoW.oneM (h : MoW w P a M tk A) (j : Nat) (v : Value) : Keeps (fun k => k = a.m) w (w.setCell ⟨a.m, j, none⟩ v) := (Keeps.refl (fun k => k = a.m) w).setCell (p := ⟨a.m, j, none⟩) (.inl rfl) _
theorem MoW.tyM (h : MoW w P a M tk A) (j : Nat) (v : Value) : KeepsTy [80] w (w.setCell ⟨a.m, j, none⟩ v) := (h.oneM j v).mono (fun k _ e => ⟨_, .head _, by obtain rfl : k = a.m := e; exact ⟨_, _, h.blk⟩⟩)
theorem MoW.setTk (h : MoW w P a M tk A) (t : Int) : MoW (w.setCell ⟨a.m, 3, none⟩ (.int .u32 t)) P a M t A :=
  have kt := h.tyM 3 (.int .u32 t)
  ⟨heap_set h.blk 3 _, Keeps.at kt h.map fun ⟨T, _, e⟩ => map_no h.map e, h.sch.keepTy kt (by intro T hT; obtain rfl := List.mem_singleton.1 hT; decide), h.n, h.asks.keep kt (fun e => KeepsTy.apart h.asks.ty (by decide) e), h.aok⟩
theorem MoW.setIt (h : MoW w P a M tk A) (v : Value) : MoW (w.setCell ⟨a.m, 0, none⟩ v) P { a with items := v } M tk A :=
  have kt := h.tyM 0 v
  ⟨heap_set h.blk 0 _, Keeps.at kt h.map fun ⟨T, _, e⟩ => map_no h.map e, h.sch.keepTy kt (by intro T hT; obtain rfl := List.mem_singleton.1 hT; decide), h.n, h.asks.keep kt (fun e => KeepsTy.apart h.asks.ty (by decide) e), h.aok⟩
end
set_option maxHeartbeats 8000000 in
theorem tickin_max (w : World) (P Q : Nat → Prop) (a : MoA) (M : ScM) (tk : Int) (A : Nat → AskX) (h : MoW w P a M tk A) (hPQ : ∀ k, P k → Q k) (vv : Int) (Z : Nat → Int) (x : AskX) (who : Int) (ht : tk = 4294967295) : Calls Tryz.prog 23 #[.pointer (some ⟨a.m, 0, none⟩), .agg (moC 3 who vv Z x)] w (MvQ P w (SayR P a M tk A 15)) := by
  subst ht
  obtain ⟨P1, hP1⟩ : ∃ W, W = w.alloc (.cells (moC 3 who vv Z x) 45) := ⟨_, rfl⟩
  obtain ⟨W1, hW1⟩ : ∃ W, W = P1.alloc (.cells (outC 0 zV 0 none 0 0) 51) := ⟨_, rfl⟩
  have kP : Keeps (fun _ => False) w P1 := by rw [hP1]; exact (Keeps.refl _ w).alloc _
  have hb1 : P1.heap[w.heap.size]? = some (.cells (moC 3 who vv Z x) 45 (0, 0)) := by rw [hP1]; exact heap_new _ _
  have k1 : Keeps (fun _ => False) w W1 := by rw [hW1]; exact kP.alloc _
  have hb2 : W1.heap[w.heap.size]? = some (.cells (moC 3 who vv Z x) 45 (0, 0)) := by rw [hW1]; exact ((Keeps.refl (fun _ => False) P1).alloc _).at hb1 fun h => h
  have ho : W1.heap[P1.heap.size]? = some (.cells (outC 0 zV 0 none 0 0) 51 (0, 0)) := by rw [hW1]; exact heap_new _ _
  have hq := h.quiet k1
  have HZ := Lib.hid kP.size
  have HB2 := Lib.hid hb2
  have HO := Lib.hid ho
  have HQ := Lib.hid hq
  have HK1 := Lib.hid k1
  have HP1 := Lib.hid hP1
  have HW1 := Lib.hid hW1
  have k1r := HK1.out
  clear hP1 hW1 kP hb1 k1 hb2 ho
  have c3 := cell_of hq.blk 3
  have lm := hq.lt
  clear hq h k1r hPQ
  go_enter Tryz.func23, Tryz.ntmps23
  go_wp2_with (first
    | (refine Great.wpList_boxTo rfl 45 (.tmp 1) rfl (some 3) rfl w.heap.size rfl (moC 3 who vv Z x) rfl ?_; rw [← HP1.out])
    | (refine wpList_alloc_as rfl 51 rfl (some 4) rfl P1.heap.size rfl _ (out_zero _) (outC 0 zV 0 none 0 0) rfl ?_; rw [← HW1.out])
    | (refine Great.wpList_buildTo rfl 51 _ rfl (some 11) rfl (outC 0 zV 0 none 0 0) (by kernel_rfl) ?_)
    | (refine wpList_store_row rfl 51 (.tmp 4) (.tmp 11) rfl P1.heap.size (outC 0 zV 0 none 0 0) rfl rfl 51 _ HO.out out_info rfl (out_one _ _ _ _ _ _) ?_))
  have kq : KeepsTy [51] W1 (World.setRow W1 P1.heap.size (outC 0 zV 0 none 0 0)) := ((Keeps.refl (fun k => k = P1.heap.size) W1).setRow (.inl rfl) _).mono (fun k _ e => ⟨_, .head _, by obtain rfl : k = P1.heap.size := e; exact ⟨_, _, HO.out⟩⟩)
  refine bodyPost_ret (v := .tuple #[.agg (outC 0 zV 0 none 0 0), .int .i64 15]) (res_out _ Tryz.results23 _ _ P1.heap.size _ _ rfl rfl rfl (setRow_heap _ _ _ _ _ _ HO.out)) rfl ?_
  exact ⟨0, zV, 0, none, 0, 0, 15, rfl, ⟨rfl, rfl, HQ.out.out kq⟩, Keeps.setRow (kM_none (P := P) HK1.out) (.inr HZ.out) _⟩
set_option maxHeartbeats 8000000 in
theorem tickout_zero (w : World) (P Q : Nat → Prop) (a : MoA) (M : ScM) (tk : Int) (A : Nat → AskX) (h : MoW w P a M tk A) (hPQ : ∀ k, P k → Q k) (vv : Int) (Z : Nat → Int) (x : AskX) (who : Int) (ht : tk = 0) : Calls Tryz.prog 26 #[.pointer (some ⟨a.m, 0, none⟩), .agg (moC 6 who vv Z x)] w (MvQ P w (SayR P a M tk A 15)) := by
  subst ht
  obtain ⟨P1, hP1⟩ : ∃ W, W = w.alloc (.cells (moC 6 who vv Z x) 45) := ⟨_, rfl⟩
  obtain ⟨W1, hW1⟩ : ∃ W, W = P1.alloc (.cells (outC 0 zV 0 none 0 0) 51) := ⟨_, rfl⟩
  have kP : Keeps (fun _ => False) w P1 := by rw [hP1]; exact (Keeps.refl _ w).alloc _
  have hb1 : P1.heap[w.heap.size]? = some (.cells (moC 6 who vv Z x) 45 (0, 0)) := by rw [hP1]; exact heap_new _ _
  have k1 : Keeps (fun _ => False) w W1 := by rw [hW1]; exact kP.alloc _
  have hb2 : W1.heap[w.heap.size]? = some (.cells (moC 6 who vv Z x) 45 (0, 0)) := by rw [hW1]; exact ((Keeps.refl (fun _ => False) P1).alloc _).at hb1 fun h => h
  have ho : W1.heap[P1.heap.size]? = some (.cells (outC 0 zV 0 none 0 0) 51 (0, 0)) := by rw [hW1]; exact heap_new _ _
  have hq := h.quiet k1
  have HZ := Lib.hid kP.size
  have HB2 := Lib.hid hb2
  have HO := Lib.hid ho
  have HQ := Lib.hid hq
  have HK1 := Lib.hid k1
  have HP1 := Lib.hid hP1
  have HW1 := Lib.hid hW1
  have k1r := HK1.out
  clear hP1 hW1 kP hb1 k1 hb2 ho
  have c3 := cell_of hq.blk 3
  have lm := hq.lt
  clear hq h k1r hPQ
  go_enter Tryz.func26, Tryz.ntmps26
  go_wp2_with (first
    | (refine Great.wpList_boxTo rfl 45 (.tmp 1) rfl (some 3) rfl w.heap.size rfl (moC 6 who vv Z x) rfl ?_; rw [← HP1.out])
    | (refine wpList_alloc_as rfl 51 rfl (some 4) rfl P1.heap.size rfl _ (out_zero _) (outC 0 zV 0 none 0 0) rfl ?_; rw [← HW1.out])
    | (refine Great.wpList_buildTo rfl 51 _ rfl (some 11) rfl (outC 0 zV 0 none 0 0) (by kernel_rfl) ?_)
    | (refine wpList_store_row rfl 51 (.tmp 4) (.tmp 11) rfl P1.heap.size (outC 0 zV 0 none 0 0) rfl rfl 51 _ HO.out out_info rfl (out_one _ _ _ _ _ _) ?_))
  have kq : KeepsTy [51] W1 (World.setRow W1 P1.heap.size (outC 0 zV 0 none 0 0)) := ((Keeps.refl (fun k => k = P1.heap.size) W1).setRow (.inl rfl) _).mono (fun k _ e => ⟨_, .head _, by obtain rfl : k = P1.heap.size := e; exact ⟨_, _, HO.out⟩⟩)
  refine bodyPost_ret (v := .tuple #[.agg (outC 0 zV 0 none 0 0), .int .i64 15]) (res_out _ Tryz.results26 _ _ P1.heap.size _ _ rfl rfl rfl (setRow_heap _ _ _ _ _ _ HO.out)) rfl ?_
  exact ⟨0, zV, 0, none, 0, 0, 15, rfl, ⟨rfl, rfl, HQ.out.out kq⟩, Keeps.setRow (kM_none (P := P) HK1.out) (.inr HZ.out) _⟩
set_option maxHeartbeats 8000000 in
theorem tickin_ok (w : World) (P Q : Nat → Prop) (a : MoA) (M : ScM) (tk : Int) (A : Nat → AskX) (h : MoW w P a M tk A) (hPQ : ∀ k, P k → Q k) (vv : Int) (Z : Nat → Int) (x : AskX) (who : Int) (hP : P a.m) (h0 : 0 ≤ tk) (ht : tk < 4294967295) : Calls Tryz.prog 23 #[.pointer (some ⟨a.m, 0, none⟩), .agg (moC 3 who vv Z x)] w (MvQ P w (SayR P a M (tk + 1) A 0)) := by
  obtain ⟨P1, hP1⟩ : ∃ W, W = w.alloc (.cells (moC 3 who vv Z x) 45) := ⟨_, rfl⟩
  obtain ⟨W1, hW1⟩ : ∃ W, W = P1.alloc (.cells (outC 0 zV 0 none 0 0) 51) := ⟨_, rfl⟩
  have kP : Keeps (fun _ => False) w P1 := by rw [hP1]; exact (Keeps.refl _ w).alloc _
  have hb1 : P1.heap[w.heap.size]? = some (.cells (moC 3 who vv Z x) 45 (0, 0)) := by rw [hP1]; exact heap_new _ _
  have k1 : Keeps (fun _ => False) w W1 := by rw [hW1]; exact kP.alloc _
  have hb2 : W1.heap[w.heap.size]? = some (.cells (moC 3 who vv Z x) 45 (0, 0)) := by rw [hW1]; exact ((Keeps.refl (fun _ => False) P1).alloc _).at hb1 fun h => h
  have ho : W1.heap[P1.heap.size]? = some (.cells (outC 0 zV 0 none 0 0) 51 (0, 0)) := by rw [hW1]; exact heap_new _ _
  have hq := h.quiet k1
  have HZ := Lib.hid kP.size
  have HB2 := Lib.hid hb2
  have HO := Lib.hid ho
  have HQ := Lib.hid hq
  have HK1 := Lib.hid k1
  have HP1 := Lib.hid hP1
  have HW1 := Lib.hid hW1
  have k1r := HK1.out
  clear hP1 hW1 kP hb1 k1 hb2 ho
  have c3 := cell_of hq.blk 3
  have f3 := free_of hq.blk 3
  have lm := hq.lt
  have d0 : (tk == 4294967295) = false := beq_eq_false_iff_ne.mpr (by omega)
  have d1 : (tk = 4294967295) = False := eq_false (by omega)
  have d2 : (tk + 1) % 4294967296 = tk + 1 := by omega
  have HTK := Lib.hid (hq.setTk (tk + 1))
  have HKK := Lib.hid (hq.oneM 3 (.int .u32 (tk + 1)))
  have HTY := Lib.hid (show Ty W1 a.m 80 from ⟨_, _, hq.blk⟩)
  have HPM := Lib.hid hP
  clear hq h k1r hPQ hP
  have ho3 := HKK.out.at HO.out (Ty.ne ⟨_, _, HO.out⟩ HTY.out (by decide))
  have hk3 := kM (kM_none (P := P) HK1.out) (kM_one HKK.out HTY.out (by decide) HPM.out)
  have hm3 := HTK.out
  obtain ⟨W3, hW3⟩ : ∃ W, W = W1.setCell ⟨a.m, 3, none⟩ (.int .u32 (tk + 1)) := ⟨_, rfl⟩
  have HOX := Lib.hid ho3
  rw [← hW3] at ho3 hk3 hm3
  have HM3 := Lib.hid hm3
  have HO3 := Lib.hid ho3
  have HK3 := Lib.hid hk3
  have HW3 := Lib.hid hW3
  clear ho3 hk3 hm3 hW3
  go_enter Tryz.func23, Tryz.ntmps23
  go_wp2_with (first
    | (refine Great.wpList_boxTo rfl 45 (.tmp 1) rfl (some 3) rfl w.heap.size rfl (moC 3 who vv Z x) rfl ?_; rw [← HP1.out])
    | (refine wpList_alloc_as rfl 51 rfl (some 4) rfl P1.heap.size rfl _ (out_zero _) (outC 0 zV 0 none 0 0) rfl ?_; rw [← HW1.out])
    | (refine Great.wpList_buildTo rfl 51 _ rfl (some 19) rfl (outC 0 zV 0 none 0 0) (by kernel_rfl) ?_)
    | (refine wpList_store_row rfl 51 (.tmp 4) (.tmp 19) rfl P1.heap.size (outC 0 zV 0 none 0 0) rfl rfl 51 _ HOX.out out_info rfl (out_one _ _ _ _ _ _) ?_))
  rw [← HW3.out]
  have kq : KeepsTy [51] W3 (World.setRow W3 P1.heap.size (outC 0 zV 0 none 0 0)) := ((Keeps.refl (fun k => k = P1.heap.size) W3).setRow (.inl rfl) _).mono (fun k _ e => ⟨_, .head _, by obtain rfl : k = P1.heap.size := e; exact ⟨_, _, HO3.out⟩⟩)
  refine bodyPost_ret (v := .tuple #[.agg (outC 0 zV 0 none 0 0), .int .i64 0]) (res_out _ Tryz.results23 _ _ P1.heap.size _ _ rfl rfl rfl (setRow_heap _ _ _ _ _ _ HO3.out)) rfl ?_
  exact ⟨0, zV, 0, none, 0, 0, 0, rfl, ⟨rfl, rfl, HM3.out.out kq⟩, Keeps.setRow HK3.out (.inr HZ.out) _⟩
end Go.Proofs.YtkhmfjfclpehfaaGreat
namespace Go.Proofs.YtkhmfjfclpehfaaGreat
open Go.ChangeShapes Go.WideShapes Go.ChangeAt Go.RowKit
set_option linter.unusedVariables false
set_option linter.unusedSimpArgs false
def WOk (M : ScM) : Prop := ∀ v, v ∈ M.W → v.2.2.2 < 4294967296
structure Inv2 (M : ScM) : Prop where
  inv : Inv M
  w : WOk M
theorem WOk.of {M M' : ScM} (h : WOk M) (e : ∀ v, v ∈ M'.W → v ∈ M.W) : WOk M' := fun v hv => h v (e v hv)
theorem mem_addW {W : List WaitT} {u v : WaitT} (h : v ∈ addW W u) : v ∈ W ∨ v = u := by
  unfold addW at h
  split at h
  · exact .inl h
  · rcases List.mem_append.1 h with h1 | h1
    · exact .inl h1
    · exact .inr (List.mem_singleton.1 h1)
theorem goM_W (M : ScM) (t : Nat) (s : Int) : (goM M t s).W = M.W := by unfold goM; split <;> rfl
theorem leaveM_W (M : ScM) (t : Nat) (s : Int) : (leaveM M t s).W = M.W := by
  unfold leaveM
  split
  · exact goM_W M t s
  · rfl
theorem limitM_W (M : ScM) (t n : Nat) : (limitM M t n).W = M.W := by unfold limitM; split <;> rfl
theorem giveM_W (M : ScM) (t : Nat) (x : Bool × Int × Int) : (giveM M t x).W = M.W := by unfold giveM; split <;> rfl
theorem wakeM_W (M : ScM) (t : Nat) (x : Bool × Int × Int) : (wakeM M t x).W = M.W := by unfold wakeM; split <;> rfl
theorem resumeM_W (M : ScM) (t : Nat) (x : Bool × Int × Int) : (resumeM M t x).W = M.W := by
  unfold resumeM
  split
  · exact wakeM_W M t x
  · rfl
theorem WOk.same {M M' : ScM} (h : WOk M) (e : M'.W = M.W) : WOk M' := fun v hv => h v (e ▸ hv)
theorem WOk.wait {M : ScM} (h : WOk M) (t : Nat) (k o : Int) (m n : Nat) (hm : m < 4294967296) : WOk (waitM M t k o m n) := by
  unfold waitM
  split
  · refine WOk.same (M := { leaveM M t 2 with W := addW M.W ((t : Int), k, o, m) }) (fun v hv => ?_) (limitM_W _ _ _)
    rcases mem_addW hv with h1 | h1
    · exact h v h1
    · rw [h1]; exact hm
  · exact h.same (leaveM_W _ _ _)
theorem WOk.serve {M : ScM} (h : WOk M) (k o : Int) (m d b : Nat) (hm : m < 4294967296) : WOk (serveM M k o m d b).1 := by
  unfold serveM sleepM yieldM awaitM
  repeat' split
  all_goals first
    | exact h
    | exact h.same (leaveM_W _ _ _)
    | exact h.same (giveM_W _ _ _)
    | exact h.same ((limitM_W _ _ _).trans (leaveM_W _ _ _))
    | exact h.wait _ _ _ _ _ hm
    | exact WOk.wait (M := clearM M M.cur.toNat) h _ _ _ _ _ (by omega)
theorem WOk.over {M : ScM} (h : WOk M) (t : Int) : WOk (overM M t) := WOk.same (M := { M with W := remW M.W t }) (h.of fun v hv => (mem_remW.1 hv).1) (resumeM_W _ _ _)
theorem WOk.overs : ∀ (l : List Int) {M : ScM}, WOk M → WOk (l.foldl overM M)
  | [], _, h => h
  | t :: l, _, h => WOk.overs l (h.over t)
theorem WOk.tick {M : ScM} (h : WOk M) (l : List Int) : WOk (tickM M l) := WOk.overs l (M := { M with T := fun t => M.T t - 1 }) h
theorem WOk.wake {M : ScM} (h : WOk M) (t : Nat) : WOk (wakeS M t) := WOk.same (M := { endM M t with T := fun z => if z = (t : Int) then 0 else M.T z, W := remW M.W (t : Int) }) (h.of (M' := { endM M t with T := fun z => if z = (t : Int) then 0 else M.T z, W := remW M.W (t : Int) }) fun v hv => (mem_remW.1 hv).1) (resumeM_W _ _ _)
def Went2 (w : World) (P : Nat → Prop) (a : ScA) (M : ScM) (e : Ending) (w' : World) : Prop := ∃ v M', e = .returned v ∧ ScW w' P a M' ∧ Inv2 M' ∧ M'.many = M.many ∧ KeepsS P w w'
section
variable (w : World) (P : Nat → Prop) (a : ScA) (M : ScM) (h : ScW w P a M) (hi : Inv2 M) (hn : a.n = M.many)
include h hi hn
theorem went2_note (t : Int) (b : Nat) (hb : b < 4294967296) : Calls Tryz.prog 47 #[.pointer (some ⟨a.s, 0, none⟩), .int .i64 t, .int .u32 (b : Int)] w (Went2 w P a M) := by
  cases ho : hasM M t with
  | true =>
    have ho' := of_decide_eq_true (show decide (0 ≤ t ∧ t < (M.many : Int)) = true from ho)
    obtain ⟨x, rfl⟩ := Int.eq_ofNat_of_zero_le ho'.1
    refine (snote_any w P a M h hn x (by omega) b hb).mono ?_
    rintro e w' ⟨rfl, h2, k2⟩
    exact ⟨_, _, rfl, h2, ⟨hi.inv.note x b, hi.w⟩, rfl, k2⟩
  | false =>
    refine (snote_not w P a M h hn t b ho).mono ?_
    rintro e w' ⟨rfl, rfl⟩
    exact ⟨_, _, rfl, h, hi, rfl, Keeps.refl _ _⟩
theorem went2_wake (t : Int) : Calls Tryz.prog 49 #[.pointer (some ⟨a.s, 0, none⟩), .int .i64 t] w (Went2 w P a M) := by
  cases ho : hasM M t with
  | true =>
    have ho' := of_decide_eq_true (show decide (0 ≤ t ∧ t < (M.many : Int)) = true from ho)
    obtain ⟨x, rfl⟩ := Int.eq_ofNat_of_zero_le ho'.1
    have hx : x < M.many := by omega
    by_cases hs : M.st x = 2
    · refine (swake_yes w P a M h hn x hx hs ((hi.inv.wait x hx).1 hs)).mono ?_
      rintro e w' ⟨rfl, h2, k2⟩
      exact ⟨_, _, rfl, h2, ⟨hi.inv.wake x hx, hi.w.wake x⟩, wakeS_many M x, k2⟩
    · refine (swake_no w P a M h hn x hx hs).mono ?_
      rintro e w' ⟨rfl, rfl⟩
      exact ⟨_, _, rfl, h, hi, rfl, Keeps.refl _ _⟩
  | false =>
    refine (swake_out w P a M h hn t ho).mono ?_
    rintro e w' ⟨rfl, rfl⟩
    exact ⟨_, _, rfl, h, hi, rfl, Keeps.refl _ _⟩
end
end Go.Proofs.YtkhmfjfclpehfaaGreat
