import Derived.Test.YthnmlklgbggmbaaGreatSchGz
import Derived.Deep.RegionHeld3
namespace Go.Proofs.YthnmlklgbggmbaaGreat
open Go.ChangeShapes Go.WideShapes Go.ChangeAt Go.RowKit
set_option linter.unusedVariables false
set_option linter.unusedSimpArgs false
/-- The tasks' answers are the same ones. -/
def SameAns (w w' : World) (a : ScA) (M : ScM) : Prop := ∀ j, j < M.many → w'.cell? ⟨a.tb j, 2, none⟩ = w.cell? ⟨a.tb j, 2, none⟩
theorem SameAns.trans {w1 w2 w3 : World} {a : ScA} {M M' : ScM} (h : SameAns w1 w2 a M) (k : SameAns w2 w3 a M') (e : M'.many = M.many) : SameAns w1 w3 a M := fun j hj => (k j (e ▸ hj)).trans (h j hj)
theorem sameAns {w w' : World} {P : Nat → Prop} {a : ScA} {M : ScM} {S : Nat → Prop} (h : ScW w P a M) (hk : Keeps S w w') (hS : ∀ k, S k → ¬ Ty w k 167) : SameAns w w' a M := fun j hj =>
  World.cell?_of_block (a := ⟨a.tb j, 2, none⟩) (hk.block _ (h.task j hj).lt fun e => hS _ e (task_ty (h.task j hj)))
theorem ty_apart {w : World} {k : Nat} {Ts : List TypeId} {T : TypeId} (h : ∃ U, U ∈ Ts ∧ Ty w k U) (hT : T ∉ Ts) : ¬ Ty w k T := fun h' => KeepsTy.apart h' hT h
/-- A box of an answer, to which no task's answer points, may be written. -/
theorem ScW.setBox {w w0 : World} {P : Nat → Prop} {a : ScA} {M : ScM} {M0 : ScM} (h : ScW w P a M) {b : Nat} {cs : Array Value} (hb : w.heap[b]? = some (.cells cs 169 (0, 0))) (h0 : ScW w0 P a M0) (hm : M0.many = M.many) (hans : M0.ans = M.ans) (hs : SameAns w0 w a M0) (hl : w0.heap.size ≤ b) (i : Nat) (v : Value) : ScW (w.setCell ⟨b, i, none⟩ v) P a M := by
  have hkt : KeepsTy [169] w (w.setCell ⟨b, i, none⟩ v) := (Keeps.refl _ w).setCell (p := ⟨b, i, none⟩) (.inl ⟨_, .head _, _, _, hb⟩) _
  refine { h with
    blk := h.blkK hkt (by decide)
    task := fun j hj => ?_
    rank := rank_kept h.rank hkt (by decide)
    delta := h.deltaK hkt (by decide) (by decide)
    queue := h.queueK hkt (by decide) (by decide)
    new := h.newK hkt }
  obtain ⟨v1, e1, e2⟩ := h.task j hj
  obtain ⟨v0, e3, e4⟩ := h0.task j (hm ▸ hj)
  have hne : a.tb j ≠ b := (task_ty (h.task j hj)).ne ⟨_, _, hb⟩ (by decide)
  refine ⟨v1, heap_other e1 hne _, ?_⟩
  have hv : v1 = v0 := by
    have := hs j (hm ▸ hj)
    rw [cell_of e1, cell_of e3] at this
    exact Option.some.inj this
  subst hv
  rw [hans] at e4
  generalize M.ans j = an at e2 e4
  match an, e2, e4 with
  | none, e2, _ => exact e2
  | some (x, y, z), ⟨p, hv, hp⟩, ⟨p0, hv0, hp0⟩ =>
    refine ⟨p, hv, heap_other hp (fun e => ?_) _⟩
    rw [hv] at hv0
    have e1 : p = p0 := by simpa using hv0
    have e2 : p = b := e
    have := lt_of hp0
    omega
theorem change_v (b : Nat) (st bits next : Int) (ans : Option (Bool × Int × Int)) (v : Value) (fn : FuncId) (cap : Array Value) (w : World) (h0 : (st == 0) = false) (h : IsTask w b st bits ans) (hb : w.heap[b]? = some (.cells #[.int .i64 st, .int .u32 bits, v] 167 (0, 0)))
    (hcall : ∀ (args : Array Value) (w : World), Sem.run Tryz.prog (callFunc fn args) w = .ok (.enter fn args) w)
    (hf : Calls Tryz.prog fn (#[.int .u32 bits] ++ cap) w fun e w' => e = .returned (.int .u32 next) ∧ w = w') :
    Calls Tryz.prog 172 #[.pointer (some ⟨b, 0, none⟩), .func (.func fn) #[] cap] w fun e w' => e = .returned (.int .u32 bits) ∧ w'.heap[b]? = some (.cells #[.int .i64 st, .int .u32 next, v] 167 (0, 0)) ∧ Keeps (fun k => k = b) w w' := by
  have c1 : w.cell? ⟨b, 1, none⟩ = some (.int .u32 bits) := cell_of hb 1
  have f1 : w.frozen? ⟨b, 1, none⟩ = false := free_of hb 1
  have HB := Lib.hid hb
  have H2 := Lib.hid h
  have HF := Lib.hid hf
  clear hb h hf
  go_enter Tryz.func172, Tryz.ntmps172
  go_wp2_with (go_at_call 77; refine (state_any _ _ _ _ _ H2.out).mono ?_; rintro e w' ⟨rfl, rfl⟩)
  refine HF.out.mono ?_
  rintro e w' ⟨rfl, rfl⟩
  go_wp2
  go_ret
  have hk : Keeps (fun k => k = b) w (w.setCell ⟨b, 1, none⟩ (.int .u32 next)) := Keeps.setCell (S := fun k => k = b) (Keeps.refl _ w) (p := ⟨b, 1, none⟩) (.inl rfl) _
  exact ⟨rfl, heap_set HB.out 1 _, hk⟩
theorem clear_v (b : Nat) (st bits : Int) (ans : Option (Bool × Int × Int)) (v : Value) (w : World) (h0 : (st == 0) = false) (h : IsTask w b st bits ans) (hb : w.heap[b]? = some (.cells #[.int .i64 st, .int .u32 bits, v] 167 (0, 0))) :
    Calls Tryz.prog 135 #[.pointer (some ⟨b, 0, none⟩)] w fun e w' => e = .returned (.int .u32 bits) ∧ w'.heap[b]? = some (.cells #[.int .i64 st, .int .u32 0, v] 167 (0, 0)) ∧ Keeps (fun k => k = b) w w' := by
  have hc : ∀ (args : Array Value) (w : World), Sem.run Tryz.prog (callFunc 173 args) w = .ok (.enter 173 args) w := fun _ _ => by go_simp
  have H := Lib.hid (change_v b st bits 0 ans v 173 #[] w h0 h hb hc (clearf_any bits w))
  clear hc h hb
  go_enter Tryz.func135, Tryz.ntmps135
  go_wp2_with (go_at_call 172; refine H.out.mono ?_; rintro e w' ⟨rfl, ht, hk⟩)
  go_ret
  exact ⟨rfl, ht, hk⟩
theorem sc_clear3 (w : World) (P : Nat → Prop) (a : ScA) (M : ScM) (h : ScW w P a M) (t : Nat) (ht : t < M.many) :
    Calls Tryz.prog 135 #[.pointer (some ⟨a.tb t, 0, none⟩)] w fun e w' => e = .returned (.int .u32 (M.bits t : Int)) ∧ ScW w' P a (clearM M t) ∧ KeepsS P w w' ∧ SameAns w w' a M := by
  obtain ⟨v, hv, hav⟩ := h.task t ht
  refine (clear_v (a.tb t) _ _ _ v w (by have := h.live t ht; simp; omega) (h.task t ht) hv).mono ?_
  rintro e w' ⟨rfl, hT', hk⟩
  have hty := task_ty (h.task t ht)
  have hI : IsTask w' (a.tb t) (M.st t) ((0 : Nat) : Int) (M.ans t) := ⟨v, hT', hav.keeps hk hv⟩
  refine ⟨rfl, (h.setTask t ht hk (bits := 0) hI (h.live t ht) (by omega)).same (by unfold clearM; rw [upd_same, upd_same]), hk.mono fun k _ e => by rw [e]; exact ⟨h.low.2.2.2.2 t ht, _, .tail _ (.head _), hty⟩, fun j hj => ?_⟩
  by_cases e : j = t
  · subst e
    rw [cell_of hT', cell_of hv]
    rfl
  · exact World.cell?_of_block (a := ⟨a.tb j, 2, none⟩) (hk.block _ (h.task j hj).lt fun e' => e (h.inj j t hj ht e'))
theorem sc_drem3 (w : World) (P : Nat → Prop) (a : ScA) (M : ScM) (h : ScW w P a M) (t : Int) :
    Calls Tryz.prog 144 #[.pointer (some ⟨a.D, 0, none⟩), .int .i64 t] w fun e w' => e = .returned (.tuple #[.int .u32 (M.T t : Int), .bool (decide (M.T t ≠ 0))]) ∧ ScW w' P a { M with T := fun z => if z = t then 0 else M.T z } ∧ KeepsS P w w' ∧ SameAns w w' a M := by
  obtain ⟨L, hd, ha, hl⟩ := h.delta
  by_cases h0 : M.T t = 0
  · have e : (fun z => if z = t then 0 else M.T z) = M.T := funext fun z => by by_cases e : z = t; subst e; rw [if_pos rfl, h0]; rw [if_neg e]
    rw [e, h0, decide_eq_false (by omega)]
    refine (drem_no a.D L t w hd ha.lt (ha.no h0)).mono ?_
    rintro e w' ⟨rfl, hk⟩
    exact ⟨rfl, h.quiet hk, hk.mono fun k _ e => e.elim, sameAns h hk fun k e => e.elim⟩
  · obtain ⟨k, x, hx, he, hfirst, hs⟩ := ha.yes h0
    rw [decide_eq_true h0, ← hs]
    refine (drem_yes a.D L t k x w hd ha.lt ha.x_lt ⟨hx, he, hfirst⟩).mono ?_
    rintro e w' ⟨rfl, L', hI, hd', hk⟩
    have habs := ha.del hI
    rw [he] at habs
    have hset := h.setDelta hd hl hk hd' habs (fun i y hy => ?_) fun z hz => ?_
    · exact ⟨rfl, hset.1, hset.2, sameAns h hk fun k e => ty_apart (delta_ty hd e) (by decide)⟩
    · rcases hI.cases hy with ⟨c1, c2⟩ | ⟨rfl, b, c2, rfl⟩ | ⟨c1, c2⟩
      · exact hl i y c2
      · exact hl (i + 1) b c2
      · exact hl (i + 1) y c2
    · by_cases e : z = t
      · rw [if_pos e] at hz; exact absurd rfl hz
      · rw [if_neg e] at hz
        exact h.tin z hz
theorem sc_qrem3 (w : World) (P : Nat → Prop) (a : ScA) (M : ScM) (h : ScW w P a M) (t : Int) :
    Calls Tryz.prog 138 #[.pointer (some ⟨a.Q, 0, none⟩), .int .i64 t] w fun e w' => e = .returned (.tuple #[waitV (fndW M.W t), .bool (fndW M.W t).isSome]) ∧ ScW w' P a { M with W := remW M.W t } ∧ KeepsS P w w' ∧ SameAns w w' a M := by
  obtain ⟨N, b, hq, hg, hW, hl⟩ := h.queue
  have hf := fnd_wait N t
  have hr := wo_wait N t
  rw [hW] at hf hr
  rw [← hf, ← hr, ← wv_wait]
  cases hN : fnd N t with
  | none =>
    refine (Remove_no (some ⟨a.Q, 0, none⟩) N t w (.inr ⟨a.Q, b, rfl, hq⟩) hN).mono ?_
    rintro e w' ⟨rfl, hk⟩
    refine ⟨rfl, (h.quiet (keeps_below hk)).same ?_, keeps_below hk, sameAns h (keeps_below (S := fun _ => False) hk) fun k e => e.elim⟩
    rw [wo_none hN, hW]
  | some y =>
    obtain ⟨hy, N1, N2, rfl, hP⟩ := List.find?_eq_some_iff_append.1 hN
    have hyt : y.t = t := by simpa using hy
    have hPt : ∀ z, z ∈ N1 → z.t ≠ t := fun z hz => by simpa using hP z hz
    refine (Remove_yes a.Q N1 N2 y b t w hq hyt hPt).mono ?_
    rintro e w' ⟨rfl, hq', hk⟩
    have hs := h.setQueue hq hl hk hq' (good_drop hg) fun x hx => hl x (by rcases List.mem_append.1 hx with h1 | h1; exact List.mem_append.2 (.inl h1); exact List.mem_append.2 (.inr (.tail _ h1)))
    refine ⟨rfl, hs.1.same ?_, hs.2, sameAns h hk fun k e => ty_apart (queue_ty hq e) (by decide)⟩
    rw [← hyt, wo_drop hg]
theorem wakeS_eq {M : ScM} {t : Nat} {q0 q1 q2 : Int} {q3 : Nat} (hq : fndW M.W (t : Int) = some (q0, q1, q2, q3)) : wakeS M t = resumeM { (if q1 = 18 then clearM M t else M) with T := fun z => if z = (t : Int) then 0 else M.T z, W := remW M.W (t : Int) } t (true, (if q1 = 18 then (M.bits t : Int) else 0), if M.T (t : Int) ≠ 0 then (M.T (t : Int) : Int) else 4294967295) := by
  unfold wakeS wokenX endM
  rw [hq]
  rfl
end Go.Proofs.YthnmlklgbggmbaaGreat
namespace Go.Proofs.YthnmlklgbggmbaaGreat
open Go.ChangeShapes Go.WideShapes Go.ChangeAt Go.RowKit
set_option linter.unusedVariables false
set_option linter.unusedSimpArgs false
set_option maxRecDepth 20000 in
set_option maxHeartbeats 2000000 in
theorem swake_ll (w : World) (P : Nat → Prop) (a : ScA) (M : ScM) (h : ScW w P a M) (hn : a.n = M.many) (t : Nat) (ht : t < M.many) (hs : M.st t = 2) (hT : M.T (t : Int) ≠ 0) (q0 q1 q2 : Int) (q3 : Nat) (hq : fndW M.W (t : Int) = some (q0, q1, q2, q3)) (hk : q1 = 18) :
    Calls Tryz.prog 89 #[.pointer (some ⟨a.s, 0, none⟩), .int .i64 (t : Int)] w fun e w' => e = .returned (.bool true) ∧ ScW w' P a (wakeS M t) ∧ KeepsS P w w' := by
  have le := h.le
  obtain ⟨w0, hw0⟩ : ∃ w0, w0 = w.alloc (.cells #[.bool true, .int .u32 0, .int .u32 4294967295] 169) := ⟨_, rfl⟩
  have hq0 : Keeps (fun _ => False) w w0 := by rw [hw0]; exact (Keeps.refl _ w).alloc _
  have h0 := h.quiet hq0
  have hb0 : w0.heap[w.heap.size]? = some (.cells #[.bool true, .int .u32 0, .int .u32 4294967295] 169 (0, 0)) := by rw [hw0]; exact heap_new w _
  have HS0 := Lib.hid (sameAns h hq0 fun k e => e.elim)
  have HH := Lib.hid (has_yes w P a M h hn (t : Int) ⟨by omega, by omega⟩)
  have ct := h.cTask t ht
  have hst := sc_state w P a M h t ht
  rw [hs] at hst
  have HS := Lib.hid hst
  have c35 := h0.cD
  have hdr := sc_drem3 w0 P a M h0 (t : Int)
  rw [decide_eq_true hT] at hdr
  have HD := Lib.hid hdr
  have HQ := Lib.hid (kS_none (P := P) hq0)
  have HW0 := Lib.hid hw0
  have HBX := Lib.hid (fun W (k : KeepsS P w0 W) => k.at hb0 (by decide))
  have HB := Lib.hid h
  have HF := Lib.hid (And.intro hq (And.intro hk hs))
  have HTV := Lib.hid hT
  rw [hw0] at HD c35
  clear h h0 hq0 hb0 hw0 hdr hs hst hq hk hT
  have d1 : decide ((t : Int) < 16) = true := decide_eq_true (by omega)
  have d2 : t < 16 := by omega
  have d3 : (0 : Int) ≤ (t : Int) := by omega
  have d4 : (t : Int) < 16 := by omega
  go_enter Tryz.func89, Tryz.ntmps89
  go_wp2_with fail
  refine HH.out.mono ?_
  rintro e w' ⟨rfl, rfl⟩
  go_wp2_with fail
  refine HS.out.mono ?_
  rintro e w' ⟨rfl, rfl⟩
  go_wp2_with fail
  refine HD.out.mono ?_
  rintro e w1 ⟨rfl, h1, k1, s1⟩
  rw [← HW0.out] at k1 s1
  have bx1 := HBX.out w1 k1
  have HK1 := Lib.hid (kS HQ.out k1)
  have HS1 := Lib.hid (HS0.out.trans s1 rfl)
  have f2 := free_of bx1 2
  obtain ⟨v2, a2⟩ : ∃ v, w1.cell? ⟨w.heap.size, 2, none⟩ = some v := ⟨_, (cell_of bx1 2).trans rfl⟩
  obtain ⟨w2, hw2⟩ : ∃ w2, w2 = w1.setCell ⟨w.heap.size, 2, none⟩ (.int .u32 (M.T (t : Int) : Int)) := ⟨_, rfl⟩
  have hk2 : Keeps (fun k => k = w.heap.size) w1 w2 := by rw [hw2]; exact (Keeps.refl (fun k => k = w.heap.size) w1).setCell (p := ⟨w.heap.size, 2, none⟩) (.inl rfl) _
  have bx2 : w2.heap[w.heap.size]? = some (.cells #[.bool true, .int .u32 0, .int .u32 (M.T (t : Int) : Int)] 169 (0, 0)) := by rw [hw2]; exact heap_set bx1 2 _
  have h2 := h1.setBox bx1 HB.out rfl rfl HS1.out (Nat.le_refl _) 2 (.int .u32 (M.T (t : Int) : Int))
  rw [← hw2] at h2
  have HK2 := Lib.hid (show KeepsS P w w2 from by rw [hw2]; exact HK1.out.setCell (.inr (Nat.le_refl _)) _)
  have HS2 := Lib.hid (HS1.out.trans (sameAns h1 hk2 fun k e h' => h'.ne ⟨_, _, bx1⟩ (by decide) e) rfl)
  have HW2 := Lib.hid hw2
  clear HK1 HS1 HS0 hk2 h1 k1 s1 bx1
  have c36 := h2.cQ
  have hqr := sc_qrem3 w2 P a _ h2 (t : Int)
  rw [show fndW M.W (t : Int) = some (q0, q1, q2, q3) from HF.out.1, show waitV (some (q0, q1, q2, q3)) = .agg #[.int .i64 q0, .int .i64 q1, .int .i64 q2, .int .u32 (q3 : Int)] from rfl, show (some (q0, q1, q2, q3)).isSome = true from rfl] at hqr
  have HQR := Lib.hid hqr
  have HBX2 := Lib.hid (fun W (k : KeepsS P w2 W) => k.at bx2 (by decide))
  clear h2 bx2 hqr
  rw [hw2] at HQR c36
  clear hw2
  go_wp2_with fail
  refine HQR.out.mono ?_
  rintro e w3 ⟨rfl, h3, k3, s3⟩
  rw [← HW2.out] at k3 s3
  obtain ⟨w4, hw4⟩ : ∃ w4, w4 = w3.alloc (.cells #[.int .i64 q0, .int .i64 q1, .int .i64 q2, .int .u32 (q3 : Int)] 88) := ⟨_, rfl⟩
  have hk4 : Keeps (fun _ => False) w3 w4 := by rw [hw4]; exact (Keeps.refl _ w3).alloc _
  have h4 := h3.quiet hk4
  have HK4 := Lib.hid (kS HK2.out (kS k3 (kS_none hk4)))
  have HS4 := Lib.hid ((HS2.out.trans s3 rfl).trans (sameAns h3 hk4 fun k e => e.elim) rfl)
  have bx4 := HBX2.out w4 (kS k3 (kS_none hk4))
  have HW4 := Lib.hid hw4
  obtain rfl := HF.out.2.1
  have ct4 := h4.cTask t ht
  have HCL := Lib.hid (sc_clear3 w4 P a _ h4 t ht)
  have HBX4 := Lib.hid (fun W (k : KeepsS P w4 W) => k.at bx4 (by decide))
  rw [hw4] at ct4 HCL
  clear h3 k3 s3 hk4 h4 bx4 hw4 HK2 HS2 HBX2
  go_wp2_with fail
  refine HCL.out.mono ?_
  rintro e w5 ⟨rfl, h5, k5, s5⟩
  rw [← HW4.out] at k5 s5
  have bx5 := HBX4.out w5 k5
  have HK5 := Lib.hid (kS HK4.out k5)
  have HS5 := Lib.hid (HS4.out.trans s5 rfl)
  have f1 := free_of bx5 1
  obtain ⟨v1, a1⟩ : ∃ v, w5.cell? ⟨w.heap.size, 1, none⟩ = some v := ⟨_, (cell_of bx5 1).trans rfl⟩
  obtain ⟨w6, hw6⟩ : ∃ w6, w6 = w5.setCell ⟨w.heap.size, 1, none⟩ (.int .u32 (M.bits t : Int)) := ⟨_, rfl⟩
  have bx6 : w6.heap[w.heap.size]? = some (.cells #[.bool true, .int .u32 (M.bits t : Int), .int .u32 (M.T (t : Int) : Int)] 169 (0, 0)) := by rw [hw6]; exact heap_set bx5 1 _
  have h6 := h5.setBox bx5 HB.out rfl rfl HS5.out (Nat.le_refl _) 1 (.int .u32 (M.bits t : Int))
  rw [← hw6] at h6
  have HK6 := Lib.hid (show KeepsS P w w6 from by rw [hw6]; exact HK5.out.setCell (.inr (Nat.le_refl _)) _)
  have HW6 := Lib.hid hw6
  clear HK4 HS4 HK5 HS5 h5 k5 s5 bx5 HCL HBX4
  have y0 := cell_of bx6 0
  have y1 := cell_of bx6 1
  have y2 := cell_of bx6 2
  simp only [List.getElem?_toArray, List.getElem?_cons_zero, List.getElem?_cons_succ] at y0 y1 y2
  have HR := Lib.hid (fun W (hk : Keeps (fun _ => False) w6 W) => resume_any W P a _ (h6.quiet hk) t ht true ((M.bits t : Int)) ((M.T (t : Int) : Int)))
  have HBX6 := Lib.hid (fun W (k : KeepsS P w6 W) => k.at bx6 (by decide))
  rw [hw6] at y0 y1 y2
  clear h6 bx6 hw6
  go_wp2_with fail
  rw [← HW6.out] at y0 y1 y2 ⊢
  go_region_held3 (fun w' => w'.cell? ⟨w.heap.size, 0, none⟩ = some (.bool true) ∧ w'.cell? ⟨w.heap.size, 1, none⟩ = some (.int .u32 (M.bits t : Int)) ∧ w'.cell? ⟨w.heap.size, 2, none⟩ = some (.int .u32 (M.T (t : Int) : Int)))
    (first
      | go_keep
      | exact ⟨y0, y1, y2⟩
      | exact ⟨z0, z1, z2⟩)
    ((go_at_call 139; refine (HR.out _ (by first | exact (Keeps.refl _ _).drew | exact (Keeps.refl _ _).drewN _ | exact Keeps.refl _ _)).mono ?_; rintro e w7 ⟨rfl, h7, k7⟩; have H7 := Lib.hid h7; have HK7 := Lib.hid (kS HK6.out (kS (by first | exact (Keeps.refl _ _).drew | exact (Keeps.refl _ _).drewN _ | exact Keeps.refl _ _) k7)); have bz := HBX6.out w7 (kS (by first | exact (Keeps.refl _ _).drew | exact (Keeps.refl _ _).drewN _ | exact Keeps.refl _ _) k7); have z0 := cell_of bz 0; have z1 := cell_of bz 1; have z2 := cell_of bz 2; simp only [List.getElem?_toArray, List.getElem?_cons_zero, List.getElem?_cons_succ] at z0 z1 z2; clear h7 k7 HR bz))
  go_wp2_with fail
  go_ret
  refine ⟨rfl, H7.out.same ?_, HK7.out⟩
  rw [wakeS_eq HF.out.1]
  rw [if_pos rfl, if_pos rfl, if_pos HTV.out]
  try rfl
set_option maxRecDepth 20000 in
set_option maxHeartbeats 2000000 in
theorem swake_ln (w : World) (P : Nat → Prop) (a : ScA) (M : ScM) (h : ScW w P a M) (hn : a.n = M.many) (t : Nat) (ht : t < M.many) (hs : M.st t = 2) (hT : M.T (t : Int) ≠ 0) (q0 q1 q2 : Int) (q3 : Nat) (hq : fndW M.W (t : Int) = some (q0, q1, q2, q3)) (hk : q1 ≠ 18) :
    Calls Tryz.prog 89 #[.pointer (some ⟨a.s, 0, none⟩), .int .i64 (t : Int)] w fun e w' => e = .returned (.bool true) ∧ ScW w' P a (wakeS M t) ∧ KeepsS P w w' := by
  have le := h.le
  obtain ⟨w0, hw0⟩ : ∃ w0, w0 = w.alloc (.cells #[.bool true, .int .u32 0, .int .u32 4294967295] 169) := ⟨_, rfl⟩
  have hq0 : Keeps (fun _ => False) w w0 := by rw [hw0]; exact (Keeps.refl _ w).alloc _
  have h0 := h.quiet hq0
  have hb0 : w0.heap[w.heap.size]? = some (.cells #[.bool true, .int .u32 0, .int .u32 4294967295] 169 (0, 0)) := by rw [hw0]; exact heap_new w _
  have HS0 := Lib.hid (sameAns h hq0 fun k e => e.elim)
  have HH := Lib.hid (has_yes w P a M h hn (t : Int) ⟨by omega, by omega⟩)
  have ct := h.cTask t ht
  have hst := sc_state w P a M h t ht
  rw [hs] at hst
  have HS := Lib.hid hst
  have c35 := h0.cD
  have hdr := sc_drem3 w0 P a M h0 (t : Int)
  rw [decide_eq_true hT] at hdr
  have HD := Lib.hid hdr
  have HQ := Lib.hid (kS_none (P := P) hq0)
  have HW0 := Lib.hid hw0
  have HBX := Lib.hid (fun W (k : KeepsS P w0 W) => k.at hb0 (by decide))
  have HB := Lib.hid h
  have HF := Lib.hid (And.intro hq (And.intro hk hs))
  have HTV := Lib.hid hT
  rw [hw0] at HD c35
  clear h h0 hq0 hb0 hw0 hdr hs hst hq hk hT
  have d1 : decide ((t : Int) < 16) = true := decide_eq_true (by omega)
  have d2 : t < 16 := by omega
  have d3 : (0 : Int) ≤ (t : Int) := by omega
  have d4 : (t : Int) < 16 := by omega
  go_enter Tryz.func89, Tryz.ntmps89
  go_wp2_with fail
  refine HH.out.mono ?_
  rintro e w' ⟨rfl, rfl⟩
  go_wp2_with fail
  refine HS.out.mono ?_
  rintro e w' ⟨rfl, rfl⟩
  go_wp2_with fail
  refine HD.out.mono ?_
  rintro e w1 ⟨rfl, h1, k1, s1⟩
  rw [← HW0.out] at k1 s1
  have bx1 := HBX.out w1 k1
  have HK1 := Lib.hid (kS HQ.out k1)
  have HS1 := Lib.hid (HS0.out.trans s1 rfl)
  have f2 := free_of bx1 2
  obtain ⟨v2, a2⟩ : ∃ v, w1.cell? ⟨w.heap.size, 2, none⟩ = some v := ⟨_, (cell_of bx1 2).trans rfl⟩
  obtain ⟨w2, hw2⟩ : ∃ w2, w2 = w1.setCell ⟨w.heap.size, 2, none⟩ (.int .u32 (M.T (t : Int) : Int)) := ⟨_, rfl⟩
  have hk2 : Keeps (fun k => k = w.heap.size) w1 w2 := by rw [hw2]; exact (Keeps.refl (fun k => k = w.heap.size) w1).setCell (p := ⟨w.heap.size, 2, none⟩) (.inl rfl) _
  have bx2 : w2.heap[w.heap.size]? = some (.cells #[.bool true, .int .u32 0, .int .u32 (M.T (t : Int) : Int)] 169 (0, 0)) := by rw [hw2]; exact heap_set bx1 2 _
  have h2 := h1.setBox bx1 HB.out rfl rfl HS1.out (Nat.le_refl _) 2 (.int .u32 (M.T (t : Int) : Int))
  rw [← hw2] at h2
  have HK2 := Lib.hid (show KeepsS P w w2 from by rw [hw2]; exact HK1.out.setCell (.inr (Nat.le_refl _)) _)
  have HS2 := Lib.hid (HS1.out.trans (sameAns h1 hk2 fun k e h' => h'.ne ⟨_, _, bx1⟩ (by decide) e) rfl)
  have HW2 := Lib.hid hw2
  clear HK1 HS1 HS0 hk2 h1 k1 s1 bx1
  have c36 := h2.cQ
  have hqr := sc_qrem3 w2 P a _ h2 (t : Int)
  rw [show fndW M.W (t : Int) = some (q0, q1, q2, q3) from HF.out.1, show waitV (some (q0, q1, q2, q3)) = .agg #[.int .i64 q0, .int .i64 q1, .int .i64 q2, .int .u32 (q3 : Int)] from rfl, show (some (q0, q1, q2, q3)).isSome = true from rfl] at hqr
  have HQR := Lib.hid hqr
  have HBX2 := Lib.hid (fun W (k : KeepsS P w2 W) => k.at bx2 (by decide))
  clear h2 bx2 hqr
  rw [hw2] at HQR c36
  clear hw2
  go_wp2_with fail
  refine HQR.out.mono ?_
  rintro e w3 ⟨rfl, h3, k3, s3⟩
  rw [← HW2.out] at k3 s3
  obtain ⟨w4, hw4⟩ : ∃ w4, w4 = w3.alloc (.cells #[.int .i64 q0, .int .i64 q1, .int .i64 q2, .int .u32 (q3 : Int)] 88) := ⟨_, rfl⟩
  have hk4 : Keeps (fun _ => False) w3 w4 := by rw [hw4]; exact (Keeps.refl _ w3).alloc _
  have h4 := h3.quiet hk4
  have HK4 := Lib.hid (kS HK2.out (kS k3 (kS_none hk4)))
  have HS4 := Lib.hid ((HS2.out.trans s3 rfl).trans (sameAns h3 hk4 fun k e => e.elim) rfl)
  have bx4 := HBX2.out w4 (kS k3 (kS_none hk4))
  have HW4 := Lib.hid hw4
  have n1 : (q1 == 18) = false := beq_eq_false_iff_ne.2 HF.out.2.1
  have n1' : (q1 = 18) = False := eq_false HF.out.2.1
  obtain ⟨w6, hw6⟩ : ∃ w6, w6 = w4 := ⟨_, rfl⟩
  have bx6 : w6.heap[w.heap.size]? = some (.cells #[.bool true, .int .u32 0, .int .u32 (M.T (t : Int) : Int)] 169 (0, 0)) := by rw [hw6]; exact bx4
  have h6 := h4
  rw [← hw6] at h6
  have HK6 := Lib.hid (show KeepsS P w w6 from by rw [hw6]; exact HK4.out)
  rw [hw4] at hw6
  have HW6 := Lib.hid hw6
  clear HK4 HS4 h3 k3 s3 hk4 h4 bx4 hw4 HK2 HS2 HBX2
  have y0 := cell_of bx6 0
  have y1 := cell_of bx6 1
  have y2 := cell_of bx6 2
  simp only [List.getElem?_toArray, List.getElem?_cons_zero, List.getElem?_cons_succ] at y0 y1 y2
  have HR := Lib.hid (fun W (hk : Keeps (fun _ => False) w6 W) => resume_any W P a _ (h6.quiet hk) t ht true (0) ((M.T (t : Int) : Int)))
  have HBX6 := Lib.hid (fun W (k : KeepsS P w6 W) => k.at bx6 (by decide))
  rw [hw6] at y0 y1 y2
  clear h6 bx6 hw6
  go_wp2_with fail
  rw [← HW6.out] at y0 y1 y2 ⊢
  go_region_held3 (fun w' => w'.cell? ⟨w.heap.size, 0, none⟩ = some (.bool true) ∧ w'.cell? ⟨w.heap.size, 1, none⟩ = some (.int .u32 0) ∧ w'.cell? ⟨w.heap.size, 2, none⟩ = some (.int .u32 (M.T (t : Int) : Int)))
    (first
      | go_keep
      | exact ⟨y0, y1, y2⟩
      | exact ⟨z0, z1, z2⟩)
    ((go_at_call 139; refine (HR.out _ (by first | exact (Keeps.refl _ _).drew | exact (Keeps.refl _ _).drewN _ | exact Keeps.refl _ _)).mono ?_; rintro e w7 ⟨rfl, h7, k7⟩; have H7 := Lib.hid h7; have HK7 := Lib.hid (kS HK6.out (kS (by first | exact (Keeps.refl _ _).drew | exact (Keeps.refl _ _).drewN _ | exact Keeps.refl _ _) k7)); have bz := HBX6.out w7 (kS (by first | exact (Keeps.refl _ _).drew | exact (Keeps.refl _ _).drewN _ | exact Keeps.refl _ _) k7); have z0 := cell_of bz 0; have z1 := cell_of bz 1; have z2 := cell_of bz 2; simp only [List.getElem?_toArray, List.getElem?_cons_zero, List.getElem?_cons_succ] at z0 z1 z2; clear h7 k7 HR bz))
  go_wp2_with fail
  go_ret
  refine ⟨rfl, H7.out.same ?_, HK7.out⟩
  rw [wakeS_eq HF.out.1]
  rw [if_neg HF.out.2.1, if_neg HF.out.2.1, if_pos HTV.out]
  try rfl
set_option maxRecDepth 20000 in
set_option maxHeartbeats 2000000 in
theorem swake_nl (w : World) (P : Nat → Prop) (a : ScA) (M : ScM) (h : ScW w P a M) (hn : a.n = M.many) (t : Nat) (ht : t < M.many) (hs : M.st t = 2) (hT : M.T (t : Int) = 0) (q0 q1 q2 : Int) (q3 : Nat) (hq : fndW M.W (t : Int) = some (q0, q1, q2, q3)) (hk : q1 = 18) :
    Calls Tryz.prog 89 #[.pointer (some ⟨a.s, 0, none⟩), .int .i64 (t : Int)] w fun e w' => e = .returned (.bool true) ∧ ScW w' P a (wakeS M t) ∧ KeepsS P w w' := by
  have le := h.le
  obtain ⟨w0, hw0⟩ : ∃ w0, w0 = w.alloc (.cells #[.bool true, .int .u32 0, .int .u32 4294967295] 169) := ⟨_, rfl⟩
  have hq0 : Keeps (fun _ => False) w w0 := by rw [hw0]; exact (Keeps.refl _ w).alloc _
  have h0 := h.quiet hq0
  have hb0 : w0.heap[w.heap.size]? = some (.cells #[.bool true, .int .u32 0, .int .u32 4294967295] 169 (0, 0)) := by rw [hw0]; exact heap_new w _
  have HS0 := Lib.hid (sameAns h hq0 fun k e => e.elim)
  have HH := Lib.hid (has_yes w P a M h hn (t : Int) ⟨by omega, by omega⟩)
  have ct := h.cTask t ht
  have hst := sc_state w P a M h t ht
  rw [hs] at hst
  have HS := Lib.hid hst
  have c35 := h0.cD
  have hdr := sc_drem3 w0 P a M h0 (t : Int)
  rw [decide_eq_false (by simpa using hT)] at hdr
  have HD := Lib.hid hdr
  have HQ := Lib.hid (kS_none (P := P) hq0)
  have HW0 := Lib.hid hw0
  have HBX := Lib.hid (fun W (k : KeepsS P w0 W) => k.at hb0 (by decide))
  have HB := Lib.hid h
  have HF := Lib.hid (And.intro hq (And.intro hk hs))
  have HTV := Lib.hid hT
  rw [hw0] at HD c35
  clear h h0 hq0 hb0 hw0 hdr hs hst hq hk hT
  have d1 : decide ((t : Int) < 16) = true := decide_eq_true (by omega)
  have d2 : t < 16 := by omega
  have d3 : (0 : Int) ≤ (t : Int) := by omega
  have d4 : (t : Int) < 16 := by omega
  go_enter Tryz.func89, Tryz.ntmps89
  go_wp2_with fail
  refine HH.out.mono ?_
  rintro e w' ⟨rfl, rfl⟩
  go_wp2_with fail
  refine HS.out.mono ?_
  rintro e w' ⟨rfl, rfl⟩
  go_wp2_with fail
  refine HD.out.mono ?_
  rintro e w1 ⟨rfl, h1, k1, s1⟩
  rw [← HW0.out] at k1 s1
  have bx1 := HBX.out w1 k1
  have HK1 := Lib.hid (kS HQ.out k1)
  have HS1 := Lib.hid (HS0.out.trans s1 rfl)
  obtain ⟨w2, hw2⟩ : ∃ w2, w2 = w1 := ⟨_, rfl⟩
  subst hw2
  have bx2 := bx1
  have h2 := h1
  have HK2 := HK1
  have HS2 := HS1
  clear HK1 HS1 HS0 h1 k1 s1 bx1
  have c36 := h2.cQ
  have hqr := sc_qrem3 w2 P a _ h2 (t : Int)
  rw [show fndW M.W (t : Int) = some (q0, q1, q2, q3) from HF.out.1, show waitV (some (q0, q1, q2, q3)) = .agg #[.int .i64 q0, .int .i64 q1, .int .i64 q2, .int .u32 (q3 : Int)] from rfl, show (some (q0, q1, q2, q3)).isSome = true from rfl] at hqr
  have HQR := Lib.hid hqr
  have HBX2 := Lib.hid (fun W (k : KeepsS P w2 W) => k.at bx2 (by decide))
  clear h2 bx2 hqr
  go_wp2_with fail
  refine HQR.out.mono ?_
  rintro e w3 ⟨rfl, h3, k3, s3⟩
  obtain ⟨w4, hw4⟩ : ∃ w4, w4 = w3.alloc (.cells #[.int .i64 q0, .int .i64 q1, .int .i64 q2, .int .u32 (q3 : Int)] 88) := ⟨_, rfl⟩
  have hk4 : Keeps (fun _ => False) w3 w4 := by rw [hw4]; exact (Keeps.refl _ w3).alloc _
  have h4 := h3.quiet hk4
  have HK4 := Lib.hid (kS HK2.out (kS k3 (kS_none hk4)))
  have HS4 := Lib.hid ((HS2.out.trans s3 rfl).trans (sameAns h3 hk4 fun k e => e.elim) rfl)
  have bx4 := HBX2.out w4 (kS k3 (kS_none hk4))
  have HW4 := Lib.hid hw4
  obtain rfl := HF.out.2.1
  have ct4 := h4.cTask t ht
  have HCL := Lib.hid (sc_clear3 w4 P a _ h4 t ht)
  have HBX4 := Lib.hid (fun W (k : KeepsS P w4 W) => k.at bx4 (by decide))
  rw [hw4] at ct4 HCL
  clear h3 k3 s3 hk4 h4 bx4 hw4 HK2 HS2 HBX2
  go_wp2_with fail
  refine HCL.out.mono ?_
  rintro e w5 ⟨rfl, h5, k5, s5⟩
  rw [← HW4.out] at k5 s5
  have bx5 := HBX4.out w5 k5
  have HK5 := Lib.hid (kS HK4.out k5)
  have HS5 := Lib.hid (HS4.out.trans s5 rfl)
  have f1 := free_of bx5 1
  obtain ⟨v1, a1⟩ : ∃ v, w5.cell? ⟨w.heap.size, 1, none⟩ = some v := ⟨_, (cell_of bx5 1).trans rfl⟩
  obtain ⟨w6, hw6⟩ : ∃ w6, w6 = w5.setCell ⟨w.heap.size, 1, none⟩ (.int .u32 (M.bits t : Int)) := ⟨_, rfl⟩
  have bx6 : w6.heap[w.heap.size]? = some (.cells #[.bool true, .int .u32 (M.bits t : Int), .int .u32 4294967295] 169 (0, 0)) := by rw [hw6]; exact heap_set bx5 1 _
  have h6 := h5.setBox bx5 HB.out rfl rfl HS5.out (Nat.le_refl _) 1 (.int .u32 (M.bits t : Int))
  rw [← hw6] at h6
  have HK6 := Lib.hid (show KeepsS P w w6 from by rw [hw6]; exact HK5.out.setCell (.inr (Nat.le_refl _)) _)
  have HW6 := Lib.hid hw6
  clear HK4 HS4 HK5 HS5 h5 k5 s5 bx5 HCL HBX4
  have y0 := cell_of bx6 0
  have y1 := cell_of bx6 1
  have y2 := cell_of bx6 2
  simp only [List.getElem?_toArray, List.getElem?_cons_zero, List.getElem?_cons_succ] at y0 y1 y2
  have HR := Lib.hid (fun W (hk : Keeps (fun _ => False) w6 W) => resume_any W P a _ (h6.quiet hk) t ht true ((M.bits t : Int)) (4294967295))
  have HBX6 := Lib.hid (fun W (k : KeepsS P w6 W) => k.at bx6 (by decide))
  rw [hw6] at y0 y1 y2
  clear h6 bx6 hw6
  go_wp2_with fail
  rw [← HW6.out] at y0 y1 y2 ⊢
  go_region_held3 (fun w' => w'.cell? ⟨w.heap.size, 0, none⟩ = some (.bool true) ∧ w'.cell? ⟨w.heap.size, 1, none⟩ = some (.int .u32 (M.bits t : Int)) ∧ w'.cell? ⟨w.heap.size, 2, none⟩ = some (.int .u32 4294967295))
    (first
      | go_keep
      | exact ⟨y0, y1, y2⟩
      | exact ⟨z0, z1, z2⟩)
    ((go_at_call 139; refine (HR.out _ (by first | exact (Keeps.refl _ _).drew | exact (Keeps.refl _ _).drewN _ | exact Keeps.refl _ _)).mono ?_; rintro e w7 ⟨rfl, h7, k7⟩; have H7 := Lib.hid h7; have HK7 := Lib.hid (kS HK6.out (kS (by first | exact (Keeps.refl _ _).drew | exact (Keeps.refl _ _).drewN _ | exact Keeps.refl _ _) k7)); have bz := HBX6.out w7 (kS (by first | exact (Keeps.refl _ _).drew | exact (Keeps.refl _ _).drewN _ | exact Keeps.refl _ _) k7); have z0 := cell_of bz 0; have z1 := cell_of bz 1; have z2 := cell_of bz 2; simp only [List.getElem?_toArray, List.getElem?_cons_zero, List.getElem?_cons_succ] at z0 z1 z2; clear h7 k7 HR bz))
  go_wp2_with fail
  go_ret
  refine ⟨rfl, H7.out.same ?_, HK7.out⟩
  rw [wakeS_eq HF.out.1]
  rw [if_pos rfl, if_pos rfl, if_neg (by simpa using HTV.out)]
  try rfl
set_option maxRecDepth 20000 in
set_option maxHeartbeats 2000000 in
theorem swake_nn (w : World) (P : Nat → Prop) (a : ScA) (M : ScM) (h : ScW w P a M) (hn : a.n = M.many) (t : Nat) (ht : t < M.many) (hs : M.st t = 2) (hT : M.T (t : Int) = 0) (q0 q1 q2 : Int) (q3 : Nat) (hq : fndW M.W (t : Int) = some (q0, q1, q2, q3)) (hk : q1 ≠ 18) :
    Calls Tryz.prog 89 #[.pointer (some ⟨a.s, 0, none⟩), .int .i64 (t : Int)] w fun e w' => e = .returned (.bool true) ∧ ScW w' P a (wakeS M t) ∧ KeepsS P w w' := by
  have le := h.le
  obtain ⟨w0, hw0⟩ : ∃ w0, w0 = w.alloc (.cells #[.bool true, .int .u32 0, .int .u32 4294967295] 169) := ⟨_, rfl⟩
  have hq0 : Keeps (fun _ => False) w w0 := by rw [hw0]; exact (Keeps.refl _ w).alloc _
  have h0 := h.quiet hq0
  have hb0 : w0.heap[w.heap.size]? = some (.cells #[.bool true, .int .u32 0, .int .u32 4294967295] 169 (0, 0)) := by rw [hw0]; exact heap_new w _
  have HS0 := Lib.hid (sameAns h hq0 fun k e => e.elim)
  have HH := Lib.hid (has_yes w P a M h hn (t : Int) ⟨by omega, by omega⟩)
  have ct := h.cTask t ht
  have hst := sc_state w P a M h t ht
  rw [hs] at hst
  have HS := Lib.hid hst
  have c35 := h0.cD
  have hdr := sc_drem3 w0 P a M h0 (t : Int)
  rw [decide_eq_false (by simpa using hT)] at hdr
  have HD := Lib.hid hdr
  have HQ := Lib.hid (kS_none (P := P) hq0)
  have HW0 := Lib.hid hw0
  have HBX := Lib.hid (fun W (k : KeepsS P w0 W) => k.at hb0 (by decide))
  have HB := Lib.hid h
  have HF := Lib.hid (And.intro hq (And.intro hk hs))
  have HTV := Lib.hid hT
  rw [hw0] at HD c35
  clear h h0 hq0 hb0 hw0 hdr hs hst hq hk hT
  have d1 : decide ((t : Int) < 16) = true := decide_eq_true (by omega)
  have d2 : t < 16 := by omega
  have d3 : (0 : Int) ≤ (t : Int) := by omega
  have d4 : (t : Int) < 16 := by omega
  go_enter Tryz.func89, Tryz.ntmps89
  go_wp2_with fail
  refine HH.out.mono ?_
  rintro e w' ⟨rfl, rfl⟩
  go_wp2_with fail
  refine HS.out.mono ?_
  rintro e w' ⟨rfl, rfl⟩
  go_wp2_with fail
  refine HD.out.mono ?_
  rintro e w1 ⟨rfl, h1, k1, s1⟩
  rw [← HW0.out] at k1 s1
  have bx1 := HBX.out w1 k1
  have HK1 := Lib.hid (kS HQ.out k1)
  have HS1 := Lib.hid (HS0.out.trans s1 rfl)
  obtain ⟨w2, hw2⟩ : ∃ w2, w2 = w1 := ⟨_, rfl⟩
  subst hw2
  have bx2 := bx1
  have h2 := h1
  have HK2 := HK1
  have HS2 := HS1
  clear HK1 HS1 HS0 h1 k1 s1 bx1
  have c36 := h2.cQ
  have hqr := sc_qrem3 w2 P a _ h2 (t : Int)
  rw [show fndW M.W (t : Int) = some (q0, q1, q2, q3) from HF.out.1, show waitV (some (q0, q1, q2, q3)) = .agg #[.int .i64 q0, .int .i64 q1, .int .i64 q2, .int .u32 (q3 : Int)] from rfl, show (some (q0, q1, q2, q3)).isSome = true from rfl] at hqr
  have HQR := Lib.hid hqr
  have HBX2 := Lib.hid (fun W (k : KeepsS P w2 W) => k.at bx2 (by decide))
  clear h2 bx2 hqr
  go_wp2_with fail
  refine HQR.out.mono ?_
  rintro e w3 ⟨rfl, h3, k3, s3⟩
  obtain ⟨w4, hw4⟩ : ∃ w4, w4 = w3.alloc (.cells #[.int .i64 q0, .int .i64 q1, .int .i64 q2, .int .u32 (q3 : Int)] 88) := ⟨_, rfl⟩
  have hk4 : Keeps (fun _ => False) w3 w4 := by rw [hw4]; exact (Keeps.refl _ w3).alloc _
  have h4 := h3.quiet hk4
  have HK4 := Lib.hid (kS HK2.out (kS k3 (kS_none hk4)))
  have HS4 := Lib.hid ((HS2.out.trans s3 rfl).trans (sameAns h3 hk4 fun k e => e.elim) rfl)
  have bx4 := HBX2.out w4 (kS k3 (kS_none hk4))
  have HW4 := Lib.hid hw4
  have n1 : (q1 == 18) = false := beq_eq_false_iff_ne.2 HF.out.2.1
  have n1' : (q1 = 18) = False := eq_false HF.out.2.1
  obtain ⟨w6, hw6⟩ : ∃ w6, w6 = w4 := ⟨_, rfl⟩
  have bx6 : w6.heap[w.heap.size]? = some (.cells #[.bool true, .int .u32 0, .int .u32 4294967295] 169 (0, 0)) := by rw [hw6]; exact bx4
  have h6 := h4
  rw [← hw6] at h6
  have HK6 := Lib.hid (show KeepsS P w w6 from by rw [hw6]; exact HK4.out)
  rw [hw4] at hw6
  have HW6 := Lib.hid hw6
  clear HK4 HS4 h3 k3 s3 hk4 h4 bx4 hw4 HK2 HS2 HBX2
  have y0 := cell_of bx6 0
  have y1 := cell_of bx6 1
  have y2 := cell_of bx6 2
  simp only [List.getElem?_toArray, List.getElem?_cons_zero, List.getElem?_cons_succ] at y0 y1 y2
  have HR := Lib.hid (fun W (hk : Keeps (fun _ => False) w6 W) => resume_any W P a _ (h6.quiet hk) t ht true (0) (4294967295))
  have HBX6 := Lib.hid (fun W (k : KeepsS P w6 W) => k.at bx6 (by decide))
  rw [hw6] at y0 y1 y2
  clear h6 bx6 hw6
  go_wp2_with fail
  rw [← HW6.out] at y0 y1 y2 ⊢
  go_region_held3 (fun w' => w'.cell? ⟨w.heap.size, 0, none⟩ = some (.bool true) ∧ w'.cell? ⟨w.heap.size, 1, none⟩ = some (.int .u32 0) ∧ w'.cell? ⟨w.heap.size, 2, none⟩ = some (.int .u32 4294967295))
    (first
      | go_keep
      | exact ⟨y0, y1, y2⟩
      | exact ⟨z0, z1, z2⟩)
    ((go_at_call 139; refine (HR.out _ (by first | exact (Keeps.refl _ _).drew | exact (Keeps.refl _ _).drewN _ | exact Keeps.refl _ _)).mono ?_; rintro e w7 ⟨rfl, h7, k7⟩; have H7 := Lib.hid h7; have HK7 := Lib.hid (kS HK6.out (kS (by first | exact (Keeps.refl _ _).drew | exact (Keeps.refl _ _).drewN _ | exact Keeps.refl _ _) k7)); have bz := HBX6.out w7 (kS (by first | exact (Keeps.refl _ _).drew | exact (Keeps.refl _ _).drewN _ | exact Keeps.refl _ _) k7); have z0 := cell_of bz 0; have z1 := cell_of bz 1; have z2 := cell_of bz 2; simp only [List.getElem?_toArray, List.getElem?_cons_zero, List.getElem?_cons_succ] at z0 z1 z2; clear h7 k7 HR bz))
  go_wp2_with fail
  go_ret
  refine ⟨rfl, H7.out.same ?_, HK7.out⟩
  rw [wakeS_eq HF.out.1]
  rw [if_neg HF.out.2.1, if_neg HF.out.2.1, if_neg (by simpa using HTV.out)]
  try rfl
set_option maxRecDepth 20000 in
set_option maxHeartbeats 2000000 in
theorem swake_yes (w : World) (P : Nat → Prop) (a : ScA) (M : ScM) (h : ScW w P a M) (hn : a.n = M.many) (t : Nat) (ht : t < M.many) (hs : M.st t = 2) (hw : ∃ v, v ∈ M.W ∧ v.1 = (t : Int)) :
    Calls Tryz.prog 89 #[.pointer (some ⟨a.s, 0, none⟩), .int .i64 (t : Int)] w fun e w' => e = .returned (.bool true) ∧ ScW w' P a (wakeS M t) ∧ KeepsS P w w' := by
  obtain ⟨q, hq⟩ := Option.isSome_iff_exists.1 (fndW_iff.2 hw)
  obtain ⟨q0, q1, q2, q3⟩ := q
  by_cases hT : M.T (t : Int) = 0
  · by_cases hk : q1 = 18
    · exact swake_nl w P a M h hn t ht hs hT q0 q1 q2 q3 hq hk
    · exact swake_nn w P a M h hn t ht hs hT q0 q1 q2 q3 hq hk
  · by_cases hk : q1 = 18
    · exact swake_ll w P a M h hn t ht hs hT q0 q1 q2 q3 hq hk
    · exact swake_ln w P a M h hn t ht hs hT q0 q1 q2 q3 hq hk
end Go.Proofs.YthnmlklgbggmbaaGreat
