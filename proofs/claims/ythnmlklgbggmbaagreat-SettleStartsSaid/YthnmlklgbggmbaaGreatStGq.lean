import Derived.Test.YthnmlklgbggmbaaGreatStBq
import Derived.Test.YthnmlklgbggmbaaGreatSchQq
import Derived.Test.YthnmlklgbggmbaaGreatRankBq
import Derived.WalkKit
namespace Go.Proofs.YthnmlklgbggmbaaGreat
open Go.ChangeShapes Go.WideShapes Go.ChangeAt Go.RowKit
set_option linter.unusedVariables false
set_option linter.unusedSimpArgs false
attribute [local irreducible] wpList
structure CoreS (w : World) (x mb q gb zb fb : Nat) (c : CfD) (p : DrP) (a : ScA) (M : ScM) (P : Nat → Prop) : Prop where
  blk : ∃ v0 v1 v2 v3, w.heap[x]? = some (.cells #[v0, v1, v2, v3, .pointer (some ⟨mb, 0, none⟩), .pointer (some ⟨gb, 0, none⟩), .pointer (some ⟨zb, 0, none⟩), .map (some fb), .slice none 0 0, .int .i64 0] 123 (0, 0))
  mem : IsMem w mb q (cellsN c) (memW (startW c.ob c.oi c.nO) (baseP c).toNat)
  gate : IsGate0 w gb c.nL
  dr : IsDr w zb p 0 0 0 .nilFunc 0 0
  sc : ScW w P a M
  ps : p.s = a.s
  ww : M.W = []
  map : ∃ B, MapOk w fb B
theorem CoreS.quiet {w w' : World} {x mb q gb zb fb : Nat} {c : CfD} {p : DrP} {a : ScA} {M : ScM} {P : Nat → Prop} (h : CoreS w x mb q gb zb fb c p a M P) (k : Keeps (fun _ => False) w w') : CoreS w' x mb q gb zb fb c p a M P := by
  obtain ⟨v0, v1, v2, v3, hb⟩ := h.blk
  obtain ⟨B, hm⟩ := h.map
  exact ⟨⟨v0, v1, v2, v3, k.at hb fun h => h⟩, h.mem.none k, k.at h.gate fun h => h, h.dr.at k fun h => h, h.sc.quiet k, h.ps, h.ww, B, hm.quiet k⟩
section
variable {w : World} {x mb q gb zb fb : Nat} {c : CfD} {p : DrP} {a : ScA} {M : ScM} {P : Nat → Prop}
theorem CoreS.lt (h : CoreS w x mb q gb zb fb c p a M P) : x < w.heap.size := by obtain ⟨_, _, _, _, hb⟩ := h.blk; exact lt_of hb
theorem core_level (h : CoreS w x mb q gb zb fb c p a M P) : Calls Tryz.prog 112 #[.pointer (some ⟨x, 0, none⟩)] w fun e w' => e = .returned (.int .i64 (-1)) ∧ w = w' := by
  have HG := Lib.hid (gate_level w gb c.nL h.gate)
  have c5 : w.cell? ⟨x, 5, none⟩ = some (.pointer (some ⟨gb, 0, none⟩)) := by obtain ⟨_, _, _, _, hb⟩ := h.blk; exact cell_of hb 5
  clear h
  go_enter Tryz.func112, Tryz.ntmps112
  go_wp2_with fail
  refine HG.out.mono ?_
  rintro e1 w1 ⟨rfl, rfl⟩
  go_wp2_with fail
  go_ret
  exact ⟨rfl, rfl⟩
theorem core_pending (h : CoreS w x mb q gb zb fb c p a M P) : Calls Tryz.prog 113 #[.pointer (some ⟨x, 0, none⟩)] w fun e w' => e = .returned (.int .u32 0) ∧ w = w' := by
  have HG := Lib.hid (gate_pending w gb c.nL h.gate)
  have c5 : w.cell? ⟨x, 5, none⟩ = some (.pointer (some ⟨gb, 0, none⟩)) := by obtain ⟨_, _, _, _, hb⟩ := h.blk; exact cell_of hb 5
  clear h
  go_enter Tryz.func113, Tryz.ntmps113
  go_wp2_with fail
  refine HG.out.mono ?_
  rintro e1 w1 ⟨rfl, rfl⟩
  go_wp2_with fail
  go_ret
  exact ⟨rfl, rfl⟩
theorem core_seen (h : CoreS w x mb q gb zb fb c p a M P) : Calls Tryz.prog 116 #[.pointer (some ⟨x, 0, none⟩)] w fun e w' => e = .returned (.int .u32 0) ∧ w = w' := by
  have HG := Lib.hid (seen_any w zb p 0 0 0 _ 0 0 h.dr)
  have c6 : w.cell? ⟨x, 6, none⟩ = some (.pointer (some ⟨zb, 0, none⟩)) := by obtain ⟨_, _, _, _, hb⟩ := h.blk; exact cell_of hb 6
  clear h
  go_enter Tryz.func116, Tryz.ntmps116
  go_wp2_with fail
  refine HG.out.mono ?_
  rintro e1 w1 ⟨rfl, rfl⟩
  go_wp2_with fail
  go_ret
  exact ⟨rfl, rfl⟩
theorem core_sched (h : CoreS w x mb q gb zb fb c p a M P) : Calls Tryz.prog 63 #[.pointer (some ⟨x, 0, none⟩)] w fun e w' => ∃ a' : ScA, e = .returned (.pointer (some ⟨a'.s, 0, none⟩)) ∧ ScV w' a' M ∧ (∃ hd, IsQ w' a'.Q [] hd) ∧ Keeps (fun _ => False) w w' := by
  have HG := Lib.hid (sched_any w zb p 0 0 0 _ 0 0 h.dr)
  have HC := Lib.hid (scopyq_any w P a M h.sc h.ww)
  have HP := Lib.hid h.ps
  have c6 : w.cell? ⟨x, 6, none⟩ = some (.pointer (some ⟨zb, 0, none⟩)) := by obtain ⟨_, _, _, _, hb⟩ := h.blk; exact cell_of hb 6
  clear h
  go_enter Tryz.func63, Tryz.ntmps63
  go_wp2_with fail
  refine HG.out.mono ?_
  rintro e1 w1 ⟨rfl, rfl⟩
  rw [HP.out]
  go_wp2_with fail
  refine HC.out.mono ?_
  rintro e2 w2 ⟨a', rfl, _, hv, _, _, _, hq, k2⟩
  have HV := Lib.hid (And.intro hv (And.intro hq k2))
  clear hv hq k2
  go_wp2_with fail
  go_ret
  exact ⟨a', rfl, HV.out⟩
theorem core_words (h : CoreS w x mb q gb zb fb c p a M P) : Calls Tryz.prog 115 #[.pointer (some ⟨x, 0, none⟩)] w fun e w' => ∃ g, e = .returned (.slice (some ⟨g, 0, none⟩) (cellsN c) (cellsN c)) ∧ w'.heap[g]? = some (.cells (words (memW (startW c.ob c.oi c.nO) (baseP c).toNat) (cellsN c)).toArray 38 (0, 0)) ∧ w.heap.size ≤ g ∧ Keeps (fun _ => False) w w' := by
  have HA := Lib.hid (all_any mb q _ _ w h.mem)
  have c4 : w.cell? ⟨x, 4, none⟩ = some (.pointer (some ⟨mb, 0, none⟩)) := by obtain ⟨_, _, _, _, hb⟩ := h.blk; exact cell_of hb 4
  clear h
  go_enter Tryz.func115, Tryz.ntmps115
  go_wp2_with fail
  refine HA.out.mono ?_
  rintro e1 w1 ⟨rfl, hr, k1⟩
  have HR := Lib.hid (And.intro hr k1)
  clear hr k1
  go_wp2_with fail
  go_ret
  exact ⟨w.heap.size, rfl, HR.out.1, Nat.le_refl _, HR.out.2⟩
theorem core_busy (h : CoreS w x mb q gb zb fb c p a M P) (t : Int) : Calls Tryz.prog 183 #[.pointer (some ⟨x, 0, none⟩), .int .i64 t] w fun e w' => e = .returned (.pointer none) ∧ w = w' := by
  have c7 : w.cell? ⟨x, 7, none⟩ = some (.map (some fb)) := by obtain ⟨_, _, _, _, hb⟩ := h.blk; exact cell_of hb 7
  obtain ⟨B, hm⟩ := h.map
  obtain ⟨o, hl, ho⟩ := hm.look t
  clear h hm
  rcases ho with rfl | ⟨f, rfl, cs, hf, h10⟩
  · go_enter Tryz.func183, Tryz.ntmps183
    go_wp2_with fail
    go_ret
    exact ⟨rfl, rfl⟩
  · have d10 : w.cell? ⟨f, 10, none⟩ = some (.pointer none) := (cell_of hf 10).trans h10
    clear hf h10
    go_enter Tryz.func183, Tryz.ntmps183
    go_wp2_with fail
    go_ret
    exact ⟨rfl, rfl⟩
set_option maxHeartbeats 1000000 in
theorem core_now (h : CoreS w x mb q gb zb fb c p a M P) (t : Int) : Calls Tryz.prog 163 #[.pointer (some ⟨x, 0, none⟩), .int .i64 t] w fun e w' => e = .returned (.tuple #[.agg #[.int .i64 0, .int .i64 0, .int .u32 0, .int .u32 0, .int .u32 0, .int .u32 0, .int .u32 0], .agg #[.int .i64 0, .int .i64 0, .int .u32 0], .bool false]) ∧ Keeps (fun _ => False) w w' := by
  have HC := Lib.hid (fun W (k : Keeps (fun _ => False) w W) => core_busy (h.quiet k) t)
  clear h
  go_enter Tryz.func163, Tryz.ntmps163
  go_wp2_with fail
  refine (HC.out _ (((Keeps.refl _ w).alloc _).alloc _)).mono ?_
  rintro e1 w1 ⟨rfl, rfl⟩
  go_wp2_with fail
  refine bodyPost_ret (v := .tuple #[.agg #[.int .i64 0, .int .i64 0, .int .u32 0, .int .u32 0, .int .u32 0, .int .u32 0, .int .u32 0], .agg #[.int .i64 0, .int .i64 0, .int .u32 0], .bool false]) (by simp [results, Tryz.results163, go_sem]) rfl ?_
  exact ⟨rfl, ((Keeps.refl _ w).alloc _).alloc _⟩
end
end Go.Proofs.YthnmlklgbggmbaaGreat
namespace Go.Proofs.YthnmlklgbggmbaaGreat
open Go.ChangeShapes Go.WideShapes Go.ChangeAt Go.RowKit
set_option linter.unusedVariables false
set_option linter.unusedSimpArgs false
attribute [local irreducible] wpList
def setMp (w : World) (b : Nat) (o : Obj) : World := { w with heap := w.heap.setIfInBounds b o }
theorem setMp_same {w : World} {b : Nat} {u : Obj} (h : w.heap[b]? = some u) (o : Obj) : (setMp w b o).heap[b]? = some o :=
  Array.getElem?_setIfInBounds_self_of_lt (lt_of h)
section
variable {P : Program} {w : World}
theorem run_putF_new (mty kt et : TypeId) (r clock : Nat) (es : Array MapEntry) (s : Int) (val : Value) (hm : P.underlying mty = some (.map kt et)) (hk : P.underlying kt = some (.int .i64)) (hb : w.heap[r]? = some (.map es clock))
    (hf : Instr.findNow (.int .i64) (.int .i64 s) es.toList 0 = some none) :
    (Instr.mapUpdate mty (.map (some r)) (.int .i64 s) val).run P w = .ok () (setMp w r (.map (es.push { key := .int .i64 s, val := val, born := clock }) (clock + 1))) := by
  have hc : (Instr.checkKey false 10000 kt (.int .i64 s)).run P w = .ok () w := MapKept.run_checkKey (k := .int .i64 s) hk (by simp [MapKept.IsKey]) false 9999
  simp [Instr.mapUpdate, run_underlying hm, MapKept.run_getObj_map hb, hc, MapKept.run_findKey hk hf, MapKept.run_setObj_map _ hb, Result.andThen, setMp]
end
theorem Keeps.setMp {S : Nat → Prop} {a w : World} (h : Keeps S a w) {b : Nat} (hb : S b ∨ a.heap.size ≤ b) (o : Obj) : Keeps S a (setMp w b o) :=
  ⟨h.os, h.tape, h.output, Nat.le_trans h.size (by simp [_root_.Go.Proofs.YthnmlklgbggmbaaGreat.setMp]), fun k hk hs => by
    rw [← h.block k hk hs]
    have hne : b ≠ k := by rintro rfl; rcases hb with hb | hb; exact hs hb; omega
    simp [_root_.Go.Proofs.YthnmlklgbggmbaaGreat.setMp, Array.getElem?_setIfInBounds_ne hne]⟩
theorem map_noTy {w : World} {fb : Nat} {es : Array MapEntry} {clk : Nat} (h : w.heap[fb]? = some (.map es clk)) {j : Nat} (e : j = fb) (T : TypeId) : ¬ Ty w j T := by
  rintro ⟨cs, fr, h'⟩
  rw [e, h] at h'
  cases h'
theorem MapOk.put {w : World} {fb : Nat} {B : Int → Prop} (h : MapOk w fb B) {k : Int} {f : Nat} (hk : ¬ B k) (hf : FrOk w f) :
    ∃ w', (Instr.mapUpdate 120 (.map (some fb)) (.int .i64 k) (.pointer (some ⟨f, 0, none⟩))).run Tryz.prog w = .ok () w' ∧ MapOk w' fb (fun j => B j ∨ j = k) ∧ Keeps (fun j => j = fb) w w' ∧ ∃ es clk, w.heap[fb]? = some (.map es clk) := by
  obtain ⟨es, clk, hb, he⟩ := h
  have hn : Instr.findNow (.int .i64) (.int .i64 k) es.toList 0 = some none := mfind_not es.toList 0 fun e hm => by
    obtain ⟨q, _, h1, _, h2, _⟩ := he e hm
    exact ⟨q, h1, fun e' => hk (e' ▸ h2)⟩
  have hk' : Keeps (fun j => j = fb) w (setMp w fb (.map (es.push { key := .int .i64 k, val := .pointer (some ⟨f, 0, none⟩), born := clk }) (clk + 1))) := (Keeps.refl (fun j => j = fb) w).setMp (.inl rfl) _
  refine ⟨_, run_putF_new _ _ _ _ _ _ _ _ Tryz.underlying120 Tryz.underlying3 hb hn, ⟨_, _, setMp_same hb _, fun e hm => ?_⟩, hk', es, clk, hb⟩
  have hm' : e ∈ es.toList ∨ e = { key := .int .i64 k, val := .pointer (some ⟨f, 0, none⟩), born := clk } := by simpa using hm
  rcases hm' with hm' | rfl
  · obtain ⟨q, f', h1, h2, h3, h4⟩ := he e hm'
    exact ⟨q, f', h1, h2, .inl h3, h4.keep hk' fun j e => map_noTy hb e _⟩
  · exact ⟨k, f, rfl, rfl, .inr rfl, hf.keep hk' fun j e => map_noTy hb e _⟩
theorem ScW.keepNo {w w' : World} {P : Nat → Prop} {a : ScA} {M : ScM} {S : Nat → Prop} (h : ScW w P a M) (hk : Keeps S w w') (hS : ∀ j T, S j → ¬ Ty w j T) : ScW w' P a M := by
  refine { h with blk := ?_, task := ?_, rank := ?_, delta := ?_, queue := ?_, new := h.newK hk }
  · obtain ⟨cs, hb, hc⟩ := h.blk
    exact ⟨cs, hk.at hb fun s => hS _ _ s ⟨_, _, hb⟩, hc⟩
  · exact fun t ht => task_kept (h.task t ht) hk (fun s => hS _ _ s (task_ty (h.task t ht))) fun j s => hS j _ s
  · exact h.rank.keeps hk fun s => hS _ _ s (rank_ty h.rank)
  · obtain ⟨L, hd, ha, hl⟩ := h.delta
    exact ⟨L, hd.keeps hk (fun s => hS _ _ s ⟨_, _, hd.head⟩) (fun i nd hi s => hS _ _ s ⟨_, _, hd.node i nd hi⟩), ha, hl⟩
  · obtain ⟨N, b, hd, ha, hl⟩ := h.queue
    exact ⟨N, b, hd.keeps hk (fun s => hS _ _ s ⟨_, _, hd.head⟩) (fun i x hi s => hS _ _ s ⟨_, _, hd.node i x hi⟩), ha, hl⟩
theorem CoreS.put {w w' : World} {x mb q gb zb fb : Nat} {c : CfD} {p : DrP} {a : ScA} {M : ScM} {P : Nat → Prop} (h : CoreS w x mb q gb zb fb c p a M P) {es : Array MapEntry} {clk : Nat} (hm : w.heap[fb]? = some (.map es clk)) (k : Keeps (fun j => j = fb) w w') {B : Int → Prop} (hB : MapOk w' fb B) : CoreS w' x mb q gb zb fb c p a M P := by
  have hS : ∀ j T, j = fb → ¬ Ty w j T := fun j T e => map_noTy hm e T
  obtain ⟨v0, v1, v2, v3, hb⟩ := h.blk
  obtain ⟨⟨l, s, h1⟩, h2, h3⟩ := h.mem
  exact ⟨⟨v0, v1, v2, v3, k.at hb fun e => hS _ _ e ⟨_, _, hb⟩⟩, h.mem.keeps k (fun e => hS _ _ e ⟨_, _, h1⟩) (fun e => hS _ _ e ⟨_, _, h2⟩), k.at h.gate fun e => hS _ _ e ⟨_, _, h.gate⟩, h.dr.at k fun e => hS _ _ e ⟨_, _, h.dr⟩, h.sc.keepNo k hS, h.ps, h.ww, B, hB⟩
theorem run_makeFrames (w : World) : (Instr.makeMap 120 none).run Tryz.prog w = .ok (.map (some w.heap.size)) (w.alloc (.map #[] 0)) := run_makeMap _ _
end Go.Proofs.YthnmlklgbggmbaaGreat
namespace Go.Proofs.YthnmlklgbggmbaaGreat
open Go.ChangeShapes Go.WideShapes Go.ChangeAt Go.RowKit
set_option linter.unusedVariables false
set_option linter.unusedSimpArgs false
attribute [local irreducible] wpList
section
variable {w : World} {x mb q gb zb fb : Nat} {c : CfD} {p : DrP} {a : ScA} {M : ScM} {P : Nat → Prop}
theorem due_any (h : CoreS w x mb q gb zb fb c p a M P) (a' : ScA) (hv : ScV w a' M) : Calls Tryz.prog 62 #[.pointer (some ⟨x, 0, none⟩), .pointer (some ⟨a'.s, 0, none⟩)] w fun e w' => e = .returned (.tuple #[.int .i64 M.cur, .bool (M.cur != -1)]) ∧ w = w' := by
  have HL := Lib.hid (core_level h)
  have HP := Lib.hid (core_pending h)
  have HC := Lib.hid (vcurrent_any w a' M hv)
  clear h hv
  go_enter Tryz.func62, Tryz.ntmps62
  go_wp2_with fail
  refine HL.out.mono ?_
  rintro e1 w1 ⟨rfl, rfl⟩
  go_wp2_with fail
  refine HP.out.mono ?_
  rintro e1 w1 ⟨rfl, rfl⟩
  go_wp2_with fail
  refine HC.out.mono ?_
  rintro e1 w1 ⟨rfl, rfl⟩
  go_wp2_with fail
  refine bodyPost_ret (v := .tuple #[.int .i64 M.cur, .bool (M.cur != -1)]) (by simp [results, Tryz.results62, go_sem]) rfl ?_
  exact ⟨rfl, rfl⟩
theorem Due_any (h : CoreS w x mb q gb zb fb c p a M P) : Calls Tryz.prog 24 #[.pointer (some ⟨x, 0, none⟩)] w fun e w' => e = .returned (.tuple #[.int .i64 M.cur, .bool (M.cur != -1)]) ∧ Keeps (fun _ => False) w w' := by
  have HS := Lib.hid (core_sched h)
  have HH := Lib.hid h
  clear h
  go_enter Tryz.func24, Tryz.ntmps24
  go_wp2_with fail
  refine HS.out.mono ?_
  rintro e1 w1 ⟨a', rfl, hv, _, k1⟩
  have HV := Lib.hid (And.intro hv k1)
  clear hv k1
  go_wp2_with fail
  refine (due_any (HH.out.quiet HV.out.2) a' HV.out.1).mono ?_
  rintro e2 w2 ⟨rfl, rfl⟩
  go_wp2_with fail
  refine bodyPost_ret (v := .tuple #[.int .i64 M.cur, .bool (M.cur != -1)]) (by simp [results, Tryz.results24, go_sem]) rfl ?_
  exact ⟨rfl, HV.out.2⟩
theorem raiser_any (h : CoreS w x mb q gb zb fb c p a M P) (a' : ScA) (hv : ScV w a' M) : Calls Tryz.prog 118 #[.pointer (some ⟨x, 0, none⟩), .pointer (some ⟨a'.s, 0, none⟩)] w fun e w' => e = .returned (.int .i64 (-1)) ∧ Keeps (fun _ => False) w w' := by
  have HD := Lib.hid (due_any h a' hv)
  have HN := Lib.hid (core_now h M.cur)
  clear h hv
  by_cases hc : M.cur = -1
  · rw [hc] at HD HN
    rw [show ((-1 : Int) != -1) = false from rfl] at HD
    go_enter Tryz.func118, Tryz.ntmps118
    go_wp2_with fail
    refine HD.out.mono ?_
    rintro e1 w1 ⟨rfl, rfl⟩
    go_wp2_with fail
    go_ret
    exact ⟨rfl, Keeps.refl _ w⟩
  · rw [show (M.cur != -1) = true from by simpa using hc] at HD
    clear hc
    go_enter Tryz.func118, Tryz.ntmps118
    go_wp2_with fail
    refine HD.out.mono ?_
    rintro e1 w1 ⟨rfl, rfl⟩
    go_wp2_with fail
    refine HN.out.mono ?_
    rintro e2 w2 ⟨rfl, k2⟩
    have HK := Lib.hid k2
    clear k2
    go_wp2_with fail
    go_ret
    exact ⟨rfl, (HK.out.alloc _).alloc _⟩
end
end Go.Proofs.YthnmlklgbggmbaaGreat
namespace Go.Proofs.YthnmlklgbggmbaaGreat
open Go.ChangeShapes Go.WideShapes Go.ChangeAt Go.RowKit
set_option linter.unusedVariables false
set_option linter.unusedSimpArgs false
attribute [local irreducible] wpList
set_option maxHeartbeats 4000000 in
theorem cell_line (a r : Int) (part : Int) (w : World) (h : rightS (oOf (lnPl a r)) = true) (hp : 0 ≤ a ∧ a ≤ 1000000) (hpart : part = 1 ∨ part = 2) :
    Calls Tryz.prog 140 #[.agg (plC (lnPl a r)), .int .i64 part, .int .i64 0, .int .i64 0] w fun e w' => e = .returned (.int .i64 (a + (part - 1))) ∧ Keeps (fun _ => False) w w' := by
  have HB := Lib.hid ((Has.start w).alloc (.cells (plC (lnPl a r)) 145))
  have HO := Lib.hid (fun W => object_any (lnPl a r) W)
  have hb : -9223372036854775808 ≤ oOf (lnPl a r) 1 ∧ oOf (lnPl a r) 1 ≤ 9223372036854775807 := by
    have := (right_nums h).2.2.1 rfl; omega
  have hr := fun W => right_any (oOf (lnPl a r)) (fun _ => 0) W hb
  rw [h] at hr
  have HR := Lib.hid hr
  have HS := Lib.hid (fun W => single_any 1 part W (by omega) (by omega))
  have hz : singP 1 part = part - 1 := by rcases hpart with rfl | rfl <;> rfl
  rw [hz] at HS
  have d1 : decide (part < 1) = false := decide_eq_false (by omega)
  have d8 : decide (8 < part) = false := decide_eq_false (by omega)
  have e3 : (part == 3) = false := by rw [beq_eq_false_iff_ne]; omega
  have e6 : (part == 6) = false := by rw [beq_eq_false_iff_ne]; omega
  have d2 : decide (part - 1 < 0) = false := decide_eq_false (by omega)
  have w0 : wrap64 (lnPl a r 1 + (part - 1)) = a + (part - 1) := IntWalk.wrap64_in _ ⟨by show _ ≤ a + (part - 1); omega, by show a + (part - 1) ≤ _; omega⟩
  generalize hzz : part - 1 = z at *
  clear hr hb h hz hpart
  go_enter Tryz.func140, Tryz.ntmps140
  go_wp2_with fail
  refine (HO.out _).mono ?_
  rintro e w1 ⟨rfl, k1⟩
  replace HB := Lib.hid ((HB.out.none k1).alloc (.cells (objC (oOf (lnPl a r)) fun _ => 0) 74))
  clear k1
  go_wp2_with fail
  refine (HR.out _).mono ?_
  rintro e w2 ⟨rfl, k2⟩
  replace HB := Lib.hid (HB.out.none k2)
  clear k2
  obtain ⟨c0, c1, c2, c3, c4⟩ := five_cells (HB.out.at 1 rfl)
  have lx := lt_of (HB.out.at 1 rfl)
  go_wp2_with fail
  refine (HS.out _).mono ?_
  rintro e9 w9 ⟨rfl, rfl⟩
  go_wp2_with fail
  go_ret
  exact ⟨by first | rfl | (show Ending.returned (.int .i64 (wrap64 (lnPl a r 1 + z))) = _; rw [w0]), HB.out.keeps⟩
theorem word_zero (w : World) (wb g n : Nat) (N : Nat → Nat) (hb : w.heap[wb]? = some (.cells #[.slice (some ⟨g, 0, none⟩) n n] 41 (0, 0))) (hg : w.heap[g]? = some (.cells (words N n).toArray 38 (0, 0))) (hn : n ≤ 65536) (x : Int) (hx : 0 ≤ x) (hz : ∀ i, i < n → x = (i : Int) → N i = 0) :
    Calls Tryz.prog 117 #[.int .i64 x, .pointer (some ⟨wb, 0, none⟩)] w fun e w' => e = .returned (.int .u32 0) ∧ w = w' := by
  have c0 : w.cell? ⟨wb, 0, none⟩ = some (.slice (some ⟨g, 0, none⟩) n n) := cell_of hb 0
  have d1 : decide (x < 0) = false := decide_eq_false (by omega)
  by_cases h : x < (n : Int)
  · obtain ⟨i, rfl⟩ : ∃ i : Nat, x = (i : Int) := ⟨x.toNat, by omega⟩
    have hi : i < n := by omega
    have d2 : decide ((n : Int) ≤ (i : Int)) = false := decide_eq_false (by omega)
    have d3 : decide (n ≤ i) = false := decide_eq_false (by omega)
    have ci : w.cell? ⟨g, i, none⟩ = some (.int .u32 0) := by
      rw [cell_of hg i, words_get N n i hi, hz i hi rfl]; rfl
    have b2 : (i : Int) < (n : Int) := h
    clear hb hg hz h
    go_enter Tryz.func117, Tryz.ntmps117
    go_wp2_with fail
    go_ret
    exact ⟨rfl, rfl⟩
  · have d2 : decide ((n : Int) ≤ x) = true := decide_eq_true (by omega)
    clear hb hg hz h
    go_enter Tryz.func117, Tryz.ntmps117
    go_wp2_with fail
    go_ret
    exact ⟨rfl, rfl⟩
end Go.Proofs.YthnmlklgbggmbaaGreat
namespace Go.Proofs.YthnmlklgbggmbaaGreat
open Go.ChangeShapes Go.WideShapes Go.ChangeAt Go.RowKit
set_option linter.unusedVariables false
set_option linter.unusedSimpArgs false
attribute [local irreducible] wpList

theorem own_zero2 {w : World} {B size : Nat} {e : TypeId} {v : Value} {xs : List Value} (h : w.ownsRow B e size v 0 xs) : ∃ a c, v = .slice a 0 c := by
  rcases h.2 with ⟨rfl, _⟩ | ⟨g, cap, cur, rfl, _⟩
  · exact ⟨_, _, rfl⟩
  · exact ⟨_, _, rfl⟩
theorem vwaits_zero (w : World) (a : ScA) (M : ScM) (h : ScV w a M) (hd : Bool) (hq : IsQ w a.Q [] hd) :
    Calls Tryz.prog 19 #[.pointer (some ⟨a.s, 0, none⟩)] w fun e w' => ∃ x y, e = .returned (.slice x 0 y) ∧ Keeps (fun _ => False) w w' := by
  have c36 : w.cell? ⟨a.s, 36, none⟩ = some (.pointer (some ⟨a.Q, 0, none⟩)) := h.cell 36 fun cs hc => hc.Q
  have HL := Lib.hid (List_any (some ⟨a.Q, 0, none⟩) [] w (.inr ⟨a.Q, hd, rfl, hq⟩) (by decide))
  clear h hq
  go_enter Tryz.func19, Tryz.ntmps19
  go_wp2_with fail
  refine HL.out.mono ?_
  rintro e w2 ⟨v, rfl, hv, hk⟩
  obtain ⟨x, y, rfl⟩ := own_zero2 hv
  have HK := Lib.hid (show Keeps (fun _ => False) w w2 from keeps_below hk)
  clear hv hk
  go_wp2_with fail
  go_ret
  exact ⟨x, y, rfl, HK.out⟩
structure StillS (w : World) (s wb g pg : Nat) (la aa : Option Addr) (lc ac : Nat) (c : CfD) (a' : ScA) (M : ScM) : Prop where
  blk : w.heap[s]? = some (.cells #[.slice (some ⟨pg, 0, none⟩) c.nO c.nO, .slice la c.nL lc, .int .i64 (tickP c), .slice aa c.nT ac, .int .i64 (tickP c + 1 + (c.nT : Int)), .int .u32 0, .func (.func 117) #[] #[.pointer (some ⟨wb, 0, none⟩)], .pointer (some ⟨a'.s, 0, none⟩), .int .i64 (-1)] 137 (0, 0))
  wbk : w.heap[wb]? = some (.cells #[.slice (some ⟨g, 0, none⟩) (cellsN c) (cellsN c)] 41 (0, 0))
  row : w.heap[g]? = some (.cells (words (memW (startW c.ob c.oi c.nO) (baseP c).toNat) (cellsN c)).toArray 38 (0, 0))
  sv : ScV w a' M
  q : ∃ hd, IsQ w a'.Q [] hd
  ln : ∃ B, w.ownsRow B 148 6 (.slice la c.nL lc) c.nL (linesF (baseP c) c.lr c.nL)
  ak : ∃ B, w.ownsRow B 3 1 (.slice aa c.nT ac) c.nT (asksF (tickP c + 1) c.nT)
theorem StillS.quiet {w w' : World} {s wb g pg : Nat} {la aa : Option Addr} {lc ac : Nat} {c : CfD} {a' : ScA} {M : ScM} (h : StillS w s wb g pg la aa lc ac c a' M) (k : Keeps (fun _ => False) w w') : StillS w' s wb g pg la aa lc ac c a' M := by
  obtain ⟨hd, hq⟩ := h.q
  obtain ⟨B, hl⟩ := h.ln
  obtain ⟨B', ha⟩ := h.ak
  exact ⟨k.at h.blk fun h => h, k.at h.wbk fun h => h, k.at h.row fun h => h, h.sv.kept k (fun h => h) (fun h => h) fun _ _ h => h, ⟨hd, hq.none k⟩, ⟨B, own_keepK hl k fun _ _ h => h⟩, B', own_keepK ha k fun _ _ h => h⟩
theorem mem_hi (N : Nat → Nat) {m i : Nat} (h : m ≤ i) : memW N m i = 0 := if_neg (by omega)
section
variable {w : World} {s wb g pg : Nat} {la aa : Option Addr} {lc ac : Nat} {c : CfD} {a' : ScA} {M : ScM}
theorem StillS.word (h : StillS w s wb g pg la aa lc ac c a' M) (hg : GoodC c) (x : Int) (hx : baseP c ≤ x) : Calls Tryz.prog 117 #[.int .i64 x, .pointer (some ⟨wb, 0, none⟩)] w fun e w' => e = .returned (.int .u32 0) ∧ w = w' := by
  have hn := plan_nums hg
  refine word_zero w wb g (cellsN c) _ h.wbk h.row ?_ x (by omega) fun i hi e => mem_hi _ (by omega)
  have ht := hg.t
  unfold cellsN
  omega
theorem time_true (h : StillS w s wb g pg la aa lc ac c a' M) (hg : GoodC c) : Calls Tryz.prog 159 #[.pointer (some ⟨s, 0, none⟩)] w fun e w' => e = .returned (.bool true) ∧ Keeps (fun _ => False) w w' := by
  have HW := Lib.hid (fun W (k : Keeps (fun _ => False) w W) => (h.quiet k).word hg (tickP c) (by have := plan_nums hg; omega))
  have HF := Lib.hid (fun W (k : Keeps (fun _ => False) w W) => show W.cell? ⟨s, 6, none⟩ = some (.func (.func 117) #[] #[.pointer (some ⟨wb, 0, none⟩)]) ∧ W.cell? ⟨s, 2, none⟩ = some (.int .i64 (tickP c)) ∧ W.cell? ⟨s, 5, none⟩ = some (.int .u32 0) from ⟨cell_of (h.quiet k).blk 6, cell_of (h.quiet k).blk 2, cell_of (h.quiet k).blk 5⟩)
  clear h hg
  go_enter Tryz.func159, Tryz.ntmps159
  go_wp2_with fail
  go_region_held3 (fun w' => w'.cell? ⟨s, 6, none⟩ = some (.func (.func 117) #[] #[.pointer (some ⟨wb, 0, none⟩)]) ∧ w'.cell? ⟨s, 2, none⟩ = some (.int .i64 (tickP c)) ∧ w'.cell? ⟨s, 5, none⟩ = some (.int .u32 0))
    (first
      | exact HF.out _ (Keeps.refl _ w).drew
      | go_keep)
    (first
      | (go_at_call 117; refine (HW.out _ (Keeps.refl _ w).drew).mono ?_; rintro e9 w9 ⟨rfl, rfl⟩)
      | fail)
  all_goals
    go_wp2_with fail
    go_ret
    exact ⟨rfl, (Keeps.refl _ w).drew⟩
end
end Go.Proofs.YthnmlklgbggmbaaGreat
namespace Go.Proofs.YthnmlklgbggmbaaGreat
open Go.ChangeShapes Go.WideShapes Go.ChangeAt Go.RowKit
set_option linter.unusedVariables false
set_option linter.unusedSimpArgs false
attribute [local irreducible] wpList
theorem own_head {w : World} {B t : Nat} {L : List Nat} {v : Value} (h : w.ownsRow B 3 1 v (t :: L).length (ints (t :: L))) : ∃ g y, v = .slice (some ⟨g, 0, none⟩) (L.length + 1) y ∧ g < w.heap.size ∧ w.cell? ⟨g, 0, none⟩ = some (.int .i64 (t : Int)) := by
  rcases h.2 with ⟨_, h0⟩ | ⟨g, cap, cur, rfl, _, hg, hc, hm, hs, ht⟩
  · cases h0
  · refine ⟨g, cap, rfl, lt_of hg, (cell_of hg 0).trans ?_⟩
    have h1 : (ints (t :: L))[0]? = some (.int .i64 (t : Int)) := rfl
    rw [← ht, List.getElem?_take_of_lt (by simp)] at h1
    rw [← Array.getElem?_toList]; exact h1
section
variable {w : World} {s wb g pg : Nat} {la aa : Option Addr} {lc ac : Nat} {c : CfD} {a' : ScA} {M : ScM}
theorem counter_zero (h : StillS w s wb g pg la aa lc ac c a' M) (hg : GoodC c) (k : Nat) (hk : k < c.nL) (part : Int) (hpart : part = 1 ∨ part = 2) :
    Calls Tryz.prog 121 #[.pointer (some ⟨s, 0, none⟩), .agg (plC (lnPl (lnP (baseP c) c.lr k) (c.lr k))), .int .i64 part] w fun e w' => e = .returned (.int .u32 0) ∧ Keeps (fun _ => False) w w' := by
  have hn := plan_nums hg
  have hb := ln_bound (base := baseP c) (fun i hi => (hg.room i hi).2) k (Nat.le_of_lt hk)
  have hl := hg.l
  have HB := Lib.hid ((Has.start w).alloc (.cells (plC (lnPl (lnP (baseP c) c.lr k) (c.lr k))) 145))
  have HC := Lib.hid (fun W => cell_line (lnP (baseP c) c.lr k) (c.lr k) part W (lnPl_right _ _ (hg.room k hk).1 (hg.room k hk).2.2) (by omega) hpart)
  have HW := Lib.hid (fun W (kk : Keeps (fun _ => False) w W) => (h.quiet kk).word hg (lnP (baseP c) c.lr k + (part - 1)) (by omega))
  have HF := Lib.hid (fun W (kk : Keeps (fun _ => False) w W) => show W.cell? ⟨s, 6, none⟩ = some (.func (.func 117) #[] #[.pointer (some ⟨wb, 0, none⟩)]) from cell_of (h.quiet kk).blk 6)
  clear h hg hpart hn hb hl
  go_enter Tryz.func121, Tryz.ntmps121
  go_wp2_with fail
  generalize w.alloc (.cells (plC (lnPl (lnP (baseP c) c.lr k) (c.lr k))) 145) = W1 at HB ⊢
  have HP := Lib.hid (fun W (kk : Keeps (fun _ => False) W1 W) => five_cells (kk.at (HB.out.at 0 rfl) fun h => h))
  generalize hv : lnPl (lnP (baseP c) c.lr k) (c.lr k) = pl at *
  go_region_held3 (fun w' => w'.cell? ⟨s, 6, none⟩ = some (.func (.func 117) #[] #[.pointer (some ⟨wb, 0, none⟩)]) ∧ w'.cell? ⟨w.heap.size, 0, none⟩ = some (.int .i64 (pl 0)) ∧ w'.cell? ⟨w.heap.size, 1, none⟩ = some (.int .i64 (pl 1)) ∧ w'.cell? ⟨w.heap.size, 2, none⟩ = some (.int .i64 (pl 2)) ∧ w'.cell? ⟨w.heap.size, 3, none⟩ = some (.int .i64 (pl 3)) ∧ w'.cell? ⟨w.heap.size, 4, none⟩ = some (.int .i64 (pl 4)))
    (first
      | exact ⟨HF.out _ HB.out.keeps.drew, HP.out _ (Keeps.refl _ W1).drew⟩
      | exact ⟨HF.out _ (HB.out.keeps.trans HK9.out), HP.out _ HK9.out⟩
      | go_keep)
    (first
      | (go_at_call 140; refine (HC.out _).mono ?_; rintro e9 w9 ⟨rfl, k9⟩; have HK9 := Lib.hid ((Keeps.refl (fun _ => False) W1).drew.trans k9); clear k9)
      | (go_at_call 117; refine (HW.out _ (HB.out.keeps.trans HK9.out)).mono ?_; rintro e10 w10 ⟨rfl, rfl⟩)
      | fail)
  all_goals
    go_wp2_with fail
    go_ret
    exact ⟨rfl, HB.out.keeps.trans HK9.out⟩
set_option maxHeartbeats 1000000 in
theorem waits_true (h : StillS w s wb g pg la aa lc ac c a' M) : Calls Tryz.prog 160 #[.pointer (some ⟨s, 0, none⟩)] w fun e w' => e = .returned (.bool true) ∧ Keeps (fun _ => False) w w' := by
  obtain ⟨hd, hq⟩ := h.q
  have HV := Lib.hid (vwaits_zero w a' M h.sv hd hq)
  have c7 : w.cell? ⟨s, 7, none⟩ = some (.pointer (some ⟨a'.s, 0, none⟩)) := cell_of h.blk 7
  clear h hq
  go_enter Tryz.func160, Tryz.ntmps160
  go_wp2_with fail
  refine HV.out.mono ?_
  rintro e1 w1 ⟨x, y, rfl, k1⟩
  have HK := Lib.hid k1
  clear k1 c7 HV
  go_wp2_with fail
  go_loopw [11] (fun i wr => i = .int .i64 0 ∧ Keeps (fun _ => False) w wr) (fun _ _ => 0)
  case atStart => exact ⟨rfl, HK.out⟩
  case round =>
    obtain ⟨rfl, hk⟩ := hrel
    go_wp2_with fail
    go_ret
    exact ⟨rfl, hk⟩
set_option maxHeartbeats 1000000 in
theorem first_true (h : StillS w s wb g pg la aa lc ac c a' M) (hc : firstM M = M.cur) : Calls Tryz.prog 161 #[.pointer (some ⟨s, 0, none⟩)] w fun e w' => e = .returned (.bool true) ∧ Keeps (fun _ => False) w w' := by
  have HR := Lib.hid (vready_any w a' M h.sv)
  have HC := Lib.hid (fun W (k : Keeps (fun _ => False) w W) => vcurrent_any W a' M (h.quiet k).sv)
  have c7 : ∀ W, Keeps (fun _ => False) w W → W.cell? ⟨s, 7, none⟩ = some (.pointer (some ⟨a'.s, 0, none⟩)) := fun W k => cell_of (h.quiet k).blk 7
  have H7 := Lib.hid c7
  have d7 := c7 w (Keeps.refl _ w)
  clear h c7
  unfold firstM at hc
  cases hl : listT M.R with
  | nil =>
    rw [hl] at HR hc
    have hc' : M.cur = -1 := hc.symm
    rw [hc'] at HC
    clear hc hc' hl
    go_enter Tryz.func161, Tryz.ntmps161
    go_wp2_with fail
    refine HR.out.mono ?_
    rintro e1 w1 ⟨v, rfl, ho, k1⟩
    obtain ⟨x, y, rfl⟩ := own_zero2 ho
    have HK := Lib.hid k1
    have e7 := H7.out w1 k1
    clear ho k1 d7 HR
    go_wp2_with fail
    refine (HC.out _ HK.out).mono ?_
    rintro e2 w2 ⟨rfl, rfl⟩
    go_wp2_with fail
    go_ret
    exact ⟨rfl, HK.out⟩
  | cons t L =>
    rw [hl] at HR hc
    have hc' : M.cur = (t : Int) := hc.symm
    rw [hc'] at HC
    clear hc hc' hl
    go_enter Tryz.func161, Tryz.ntmps161
    go_wp2_with fail
    refine HR.out.mono ?_
    rintro e1 w1 ⟨v, rfl, ho, k1⟩
    obtain ⟨gg, y, rfl, hg0⟩ := own_head ho
    have HK := Lib.hid k1
    have e7 := H7.out w1 k1
    have HG := Lib.hid (fun W (k : Keeps (fun _ => False) w1 W) => show W.cell? ⟨s, 7, none⟩ = some (.pointer (some ⟨a'.s, 0, none⟩)) ∧ W.cell? ⟨gg, 0, none⟩ = some (.int .i64 (t : Int)) from ⟨H7.out W (k1.trans k), (World.cell?_of_block (k.block gg hg0.1 fun h => h)).trans hg0.2⟩)
    clear ho k1 d7 HR hg0
    go_wp2_with fail
    go_region_held3 (fun w' => w'.cell? ⟨s, 7, none⟩ = some (.pointer (some ⟨a'.s, 0, none⟩)) ∧ w'.cell? ⟨gg, 0, none⟩ = some (.int .i64 (t : Int)))
      (first
        | exact HG.out _ (Keeps.refl _ w1).drew
        | go_keep)
      (first
        | (go_at_call 15; refine (HC.out _ HK.out.drew).mono ?_; rintro e9 w9 ⟨rfl, rfl⟩)
        | fail)
    all_goals
      go_wp2_with fail
      go_ret
      exact ⟨rfl, HK.out.drew⟩
end
end Go.Proofs.YthnmlklgbggmbaaGreat
