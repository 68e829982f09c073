import Derived.Test.YtdbplamhpkahaaaSchAz
import Derived.Deep.RegionHeld3
namespace Go.Proofs.Ytdbplamhpkahaaa
open Go.ChangeShapes Go.WideShapes Go.ChangeAt Go.RowKit
set_option linter.unusedVariables false
set_option linter.unusedSimpArgs false
set_option maxRecDepth 20000 in
set_option maxHeartbeats 2000000 in
theorem has_yes (w : World) (P : Nat → Prop) (a : ScA) (M : ScM) (h : ScW w P a M) (hn : a.n = M.many) (t : Int) (ht : 0 ≤ t ∧ t < (M.many : Int)) :
    Calls Try.prog 82 #[.pointer (some ⟨a.s, 0, none⟩), .int .i64 t] w fun e w' => e = .returned (.bool true) ∧ w = w' := by
  have c32 := h.cMany
  rw [hn] at c32
  have d1 : decide (0 ≤ t) = true := decide_eq_true ht.1
  have d2 : decide (t < (M.many : Int)) = true := decide_eq_true ht.2
  clear h
  go_enter Try.func82, Try.ntmps82
  go_wp2
  go_ret
  exact ⟨rfl, rfl⟩
set_option maxRecDepth 20000 in
set_option maxHeartbeats 2000000 in
theorem has_low (w : World) (P : Nat → Prop) (a : ScA) (M : ScM) (h : ScW w P a M) (t : Int) (ht : t < 0) :
    Calls Try.prog 82 #[.pointer (some ⟨a.s, 0, none⟩), .int .i64 t] w fun e w' => e = .returned (.bool false) ∧ w = w' := by
  have d1 : decide (0 ≤ t) = false := decide_eq_false (by omega)
  clear h
  go_enter Try.func82, Try.ntmps82
  go_wp2
  go_ret
  exact ⟨rfl, rfl⟩
set_option maxRecDepth 20000 in
set_option maxHeartbeats 2000000 in
theorem has_high (w : World) (P : Nat → Prop) (a : ScA) (M : ScM) (h : ScW w P a M) (hn : a.n = M.many) (t : Int) (h0 : 0 ≤ t) (ht : (M.many : Int) ≤ t) :
    Calls Try.prog 82 #[.pointer (some ⟨a.s, 0, none⟩), .int .i64 t] w fun e w' => e = .returned (.bool false) ∧ w = w' := by
  have c32 := h.cMany
  rw [hn] at c32
  have d1 : decide (0 ≤ t) = true := decide_eq_true h0
  have d2 : decide (t < (M.many : Int)) = false := decide_eq_false (by omega)
  clear h
  go_enter Try.func82, Try.ntmps82
  go_wp2
  go_ret
  exact ⟨rfl, rfl⟩
set_option maxRecDepth 20000 in
set_option maxHeartbeats 2000000 in
theorem has_any (w : World) (P : Nat → Prop) (a : ScA) (M : ScM) (h : ScW w P a M) (hn : a.n = M.many) (t : Int) :
    Calls Try.prog 82 #[.pointer (some ⟨a.s, 0, none⟩), .int .i64 t] w fun e w' => e = .returned (.bool (hasM M t)) ∧ w = w' := by
  unfold hasM
  by_cases h0 : 0 ≤ t
  · by_cases h1 : t < (M.many : Int)
    · rw [decide_eq_true ⟨h0, h1⟩]
      exact has_yes w P a M h hn t ⟨h0, h1⟩
    · rw [decide_eq_false fun e => h1 e.2]
      exact has_high w P a M h hn t h0 (by omega)
  · rw [decide_eq_false fun e => h0 e.1]
    exact has_low w P a M h t (by omega)
set_option maxRecDepth 20000 in
set_option maxHeartbeats 2000000 in
theorem leave_any (w : World) (P : Nat → Prop) (a : ScA) (M : ScM) (h : ScW w P a M) (t : Nat) (ht : t < M.many) (s : Int) (hs : s = 2 ∨ s = 3 ∨ s = 4) :
    Calls Try.prog 78 #[.pointer (some ⟨a.s, 0, none⟩), .int .i64 (t : Int), .int .i64 s] w fun e w' => e = .returned (.bool (leftM M t)) ∧ ScW w' P a (leaveM M t s) ∧ KeepsS P w w' := by
  have le := h.le
  have ct := h.cTask t ht
  have HG := Lib.hid (sc_go w P a M h t ht s hs)
  have d1 : decide ((t : Int) < 16) = true := decide_eq_true (by omega)
  have d2 : t < 16 := by omega
  have d3 : (0 : Int) ≤ (t : Int) := by omega
  have d4 : (t : Int) < 16 := by omega
  clear h
  go_enter Try.func78, Try.ntmps78
  unfold goM at HG
  unfold leaveM leftM goM
  by_cases e1 : M.st t = 1
  · rw [if_pos e1, decide_eq_true e1] at HG
    rw [if_pos e1, if_pos e1, decide_eq_true e1]
    go_wp2_with fail
    refine HG.out.mono ?_
    rintro e w1 ⟨rfl, h1, k1⟩
    have c34 := h1.cRk
    have HR := Lib.hid (sc_rrem w1 P a _ h1 (t : Int))
    have HK := Lib.hid k1
    clear h1 k1 HG
    go_wp2_with fail
    refine HR.out.mono ?_
    rintro e w2 ⟨rfl, h2, k2⟩
    have HK2 := Lib.hid (kS HK.out k2)
    have H2 := Lib.hid h2
    clear h2 k2 HR
    go_wp2_with fail
    go_ret
    exact ⟨by simp, H2.out, HK2.out⟩
  · rw [if_neg e1, decide_eq_false e1] at HG
    rw [if_neg e1, decide_eq_false e1]
    go_wp2_with fail
    refine HG.out.mono ?_
    rintro e w1 ⟨rfl, h1, k1⟩
    have HK := Lib.hid k1
    have H1 := Lib.hid h1
    clear h1 k1 HG
    go_wp2_with fail
    go_ret
    exact ⟨by simp, H1.out, HK.out⟩
set_option maxRecDepth 20000 in
set_option maxHeartbeats 2000000 in
theorem limit_any (w : World) (P : Nat → Prop) (a : ScA) (M : ScM) (h : ScW w P a M) (t : Nat) (ht : t < M.many) (n : Nat) (hn : n < 4294967296) :
    Calls Try.prog 86 #[.pointer (some ⟨a.s, 0, none⟩), .int .i64 (t : Int), .int .u32 (n : Int)] w fun e w' => e = .returned (.tuple #[]) ∧ ScW w' P a (limitM M t n) ∧ KeepsS P w w' := by
  have c35 := h.cD
  have HD := Lib.hid (sc_dadd w P a M h t ht n hn)
  have H0 := Lib.hid h
  clear h
  unfold limitM
  go_enter Try.func86, Try.ntmps86
  by_cases e1 : n = 4294967295
  · subst e1
    rw [if_pos rfl]
    go_wp2_with fail
    go_end0
    exact ⟨rfl, H0.out, Keeps.refl _ _⟩
  · have e2 : ((n : Int) != 4294967295) = true := bne_iff_ne.2 (by omega)
    have e3 : (n : Int) ≠ 4294967295 := by omega
    rw [if_neg e1]
    go_wp2_with fail
    refine HD.out.mono ?_
    rintro e w1 ⟨rfl, h1, k1⟩
    have HK := Lib.hid k1
    have H1 := Lib.hid h1
    clear h1 k1 HD
    go_wp2_with fail
    go_end0
    exact ⟨rfl, H1.out, HK.out⟩
set_option maxRecDepth 20000 in
set_option maxHeartbeats 2000000 in
theorem resume_any (w : World) (P : Nat → Prop) (a : ScA) (M : ScM) (h : ScW w P a M) (t : Nat) (ht : t < M.many) (x : Bool) (y z : Int) :
    Calls Try.prog 81 #[.pointer (some ⟨a.s, 0, none⟩), .int .i64 (t : Int), .agg #[.bool x, .int .u32 y, .int .u32 z]] w fun e w' => e = .returned (.tuple #[]) ∧ ScW w' P a (resumeM M t (x, y, z)) ∧ KeepsS P w w' := by
  have hmf : ∀ (fn : Fn) (first cap : Array Value) (w : World), (Instr.makeFunc fn first cap).run Try.prog w = .ok (.func fn first cap) w := fun _ _ _ _ => rfl
  have le := h.le
  have hA : Keeps (fun _ => False) w (w.alloc (.cells #[.bool x, .int .u32 y, .int .u32 z] 75)) := (Keeps.refl _ w).alloc _
  have ct := (h.quiet hA).cTask t ht
  have HG := Lib.hid (sc_wake _ P a M (h.quiet hA) t ht x y z)
  have HA := Lib.hid (kS_none (P := P) hA)
  have d1 : decide ((t : Int) < 16) = true := decide_eq_true (by omega)
  have d2 : t < 16 := by omega
  have d3 : (0 : Int) ≤ (t : Int) := by omega
  have d4 : (t : Int) < 16 := by omega
  clear h hA
  go_enter Try.func81, Try.ntmps81
  unfold wakeM at HG
  unfold resumeM wakeM
  by_cases e1 : M.st t = 2 ∨ M.st t = 3
  · rw [if_pos e1, decide_eq_true e1] at HG
    rw [if_pos e1, if_pos e1]
    go_wp2_with fail
    refine HG.out.mono ?_
    rintro e w1 ⟨rfl, h1, k1⟩
    have c34 := h1.cRk
    have cp := h1.cPrio t (by omega)
    have HR := Lib.hid (fun W (hk : Keeps (fun _ => False) w1 W) => sc_radd W P a _ (h1.quiet hk) t ht (M.prio t))
    have HK := Lib.hid (kS HA.out k1)
    clear h1 k1 HG HA ct
    go_wp2_with fail
    go_region_held3 (fun w' => w'.cell? ⟨a.s, 34, none⟩ = some (.pointer (some ⟨a.rk, 0, none⟩)) ∧ w'.cell? ⟨a.s, 16 + t, none⟩ = some (.int .i64 (M.prio t)))
      (first
        | go_keep
        | exact ⟨c34, cp⟩
        | exact ⟨H2.out.cRk, H2.out.cPrio t d2⟩)
      ((go_at_call 12; refine (HR.out _ (by first | exact (Keeps.refl _ _).drew | exact (Keeps.refl _ _).drewN _)).mono ?_; rintro e w2 ⟨rfl, h2, k2⟩; have HK2 := Lib.hid (kS HK.out (kS (by first | exact (Keeps.refl _ _).drew | exact (Keeps.refl _ _).drewN _) k2)); have H2 := Lib.hid h2; clear h2 k2 HR HK))
    go_wp2_with fail
    go_end0
    exact ⟨rfl, H2.out, HK2.out⟩
  · rw [if_neg e1, decide_eq_false e1] at HG
    rw [if_neg e1]
    go_wp2_with fail
    refine HG.out.mono ?_
    rintro e w1 ⟨rfl, h1, k1⟩
    have HK := Lib.hid (kS HA.out k1)
    have H1 := Lib.hid h1
    clear h1 k1 HG HA ct
    go_wp2_with fail
    go_end0
    exact ⟨rfl, H1.out, HK.out⟩
end Go.Proofs.Ytdbplamhpkahaaa
namespace Go.Proofs.Ytdbplamhpkahaaa
open Go.ChangeShapes Go.WideShapes Go.ChangeAt Go.RowKit
set_option linter.unusedVariables false
set_option linter.unusedSimpArgs false
theorem leave_W (M : ScM) (t : Nat) (s : Int) : (leaveM M t s).W = M.W := by
  unfold leaveM
  split
  · unfold goM; split <;> rfl
  · rfl
set_option maxRecDepth 20000 in
set_option maxHeartbeats 2000000 in
theorem state_has (w : World) (P : Nat → Prop) (a : ScA) (M : ScM) (h : ScW w P a M) (hn : a.n = M.many) (t : Nat) (ht : t < M.many) :
    Calls Try.prog 60 #[.pointer (some ⟨a.s, 0, none⟩), .int .i64 (t : Int)] w fun e w' => e = .returned (.int .i64 (M.st t)) ∧ w = w' := by
  have le := h.le
  have HH := Lib.hid (has_yes w P a M h hn (t : Int) ⟨by omega, by omega⟩)
  have ct := h.cTask t ht
  have HS := Lib.hid (sc_state w P a M h t ht)
  have d1 : decide ((t : Int) < 16) = true := decide_eq_true (by omega)
  have d2 : t < 16 := by omega
  clear h
  go_enter Try.func60, Try.ntmps60
  go_wp2_with fail
  refine HH.out.mono ?_
  rintro e w' ⟨rfl, rfl⟩
  go_wp2_with fail
  refine HS.out.mono ?_
  rintro e w' ⟨rfl, rfl⟩
  go_wp2_with fail
  go_ret
  exact ⟨rfl, rfl⟩
set_option maxRecDepth 20000 in
set_option maxHeartbeats 2000000 in
theorem state_not (w : World) (P : Nat → Prop) (a : ScA) (M : ScM) (h : ScW w P a M) (hn : a.n = M.many) (t : Int) (ht : hasM M t = false) :
    Calls Try.prog 60 #[.pointer (some ⟨a.s, 0, none⟩), .int .i64 t] w fun e w' => e = .returned (.int .i64 0) ∧ w = w' := by
  have HH := Lib.hid (has_any w P a M h hn t)
  rw [ht] at HH
  clear h
  go_enter Try.func60, Try.ntmps60
  go_wp2_with fail
  refine HH.out.mono ?_
  rintro e w' ⟨rfl, rfl⟩
  go_wp2_with fail
  go_ret
  exact ⟨rfl, rfl⟩
set_option maxRecDepth 20000 in
set_option maxHeartbeats 2000000 in
theorem snote_any (w : World) (P : Nat → Prop) (a : ScA) (M : ScM) (h : ScW w P a M) (hn : a.n = M.many) (t : Nat) (ht : t < M.many) (b : Nat) (hb : b < 4294967296) :
    Calls Try.prog 55 #[.pointer (some ⟨a.s, 0, none⟩), .int .i64 (t : Int), .int .u32 (b : Int)] w fun e w' => e = .returned (.bool true) ∧ ScW w' P a (noteM M t b) ∧ KeepsS P w w' := by
  have le := h.le
  have HH := Lib.hid (has_yes w P a M h hn (t : Int) ⟨by omega, by omega⟩)
  have ct := h.cTask t ht
  have HS := Lib.hid (sc_note w P a M h t ht b hb)
  have d1 : decide ((t : Int) < 16) = true := decide_eq_true (by omega)
  have d2 : t < 16 := by omega
  clear h
  go_enter Try.func55, Try.ntmps55
  go_wp2_with fail
  refine HH.out.mono ?_
  rintro e w' ⟨rfl, rfl⟩
  go_wp2_with fail
  refine HS.out.mono ?_
  rintro e w2 ⟨rfl, h2, k2⟩
  have H2 := Lib.hid h2
  have K2 := Lib.hid k2
  clear h2 k2 HS
  go_wp2_with fail
  go_ret
  exact ⟨rfl, H2.out, K2.out⟩
set_option maxRecDepth 20000 in
set_option maxHeartbeats 2000000 in
theorem snote_not (w : World) (P : Nat → Prop) (a : ScA) (M : ScM) (h : ScW w P a M) (hn : a.n = M.many) (t : Int) (b : Nat) (ht : hasM M t = false) :
    Calls Try.prog 55 #[.pointer (some ⟨a.s, 0, none⟩), .int .i64 t, .int .u32 (b : Int)] w fun e w' => e = .returned (.bool false) ∧ w = w' := by
  have HH := Lib.hid (has_any w P a M h hn t)
  rw [ht] at HH
  clear h
  go_enter Try.func55, Try.ntmps55
  go_wp2_with fail
  refine HH.out.mono ?_
  rintro e w' ⟨rfl, rfl⟩
  go_wp2_with fail
  go_ret
  exact ⟨rfl, rfl⟩
set_option maxRecDepth 20000 in
set_option maxHeartbeats 2000000 in
theorem disp_any (w : World) (P : Nat → Prop) (a : ScA) (M : ScM) (h : ScW w P a M)  :
    Calls Try.prog 57 #[.pointer (some ⟨a.s, 0, none⟩)] w fun e w' => e = .returned (.tuple #[.int .i64 (firstM M), .bool (firstM M != M.cur)]) ∧ ScW w' P a (dispM M) ∧ KeepsS P w w' := by
  have c33 := h.cCur
  have f33 := h.free 33
  have c34 := h.cRk
  have HF := Lib.hid (sc_rfirst w P a M h)
  have hc : firstM M = -1 ∨ (0 ≤ firstM M ∧ firstM M < (M.many : Int)) := by
    unfold firstM
    cases hl : listT M.R with
    | nil => exact .inl rfl
    | cons x r =>
      have := h.inRow (t := x) (by rw [hl]; exact .head _)
      refine .inr ?_
      simp only [List.isEmpty_cons, List.headD_cons, Bool.false_eq_true, if_false]
      omega
  have HC := Lib.hid (h.setCur (firstM M) hc)
  have HK := Lib.hid (show KeepsS P w (w.setCell ⟨a.s, 33, none⟩ (.int .i64 (firstM M))) from by
    obtain ⟨cs, hb, _⟩ := h.blk
    exact (Keeps.refl _ w).setCell (.inl ⟨h.low.1, _, .head _, _, _, hb⟩) _)
  clear h hc
  unfold dispM
  unfold firstM at HC HK ⊢
  cases hl : listT M.R with
  | nil =>
    rw [hl] at HC HK HF
    simp only [List.isEmpty_nil, if_true, Bool.not_true, List.headD_nil] at HC HK HF ⊢
    go_enter Try.func57, Try.ntmps57
    go_wp2_with fail
    refine HF.out.mono ?_
    rintro e w' ⟨rfl, rfl⟩
    go_wp2_with fail
    refine bodyPost_ret (v := .tuple #[.int .i64 (-1), .bool (-1 != M.cur)]) (by simp [results, Try.results57, go_sem]) rfl ⟨rfl, HC.out, HK.out⟩
  | cons x r =>
    rw [hl] at HC HK HF
    simp only [List.isEmpty_cons, List.headD_cons, Bool.false_eq_true, if_false, Bool.not_false] at HC HK HF ⊢
    go_enter Try.func57, Try.ntmps57
    go_wp2_with fail
    refine HF.out.mono ?_
    rintro e w' ⟨rfl, rfl⟩
    go_wp2_with fail
    refine bodyPost_ret (v := .tuple #[.int .i64 (x : Int), .bool ((x : Int) != M.cur)]) (by simp [results, Try.results57, go_sem]) rfl ⟨rfl, HC.out, HK.out⟩
set_option maxRecDepth 20000 in
set_option maxHeartbeats 2000000 in
theorem sleep_any (w : World) (P : Nat → Prop) (a : ScA) (M : ScM) (h : ScW w P a M) (t : Nat) (ht : t < M.many) (n : Nat) (hn : n < 4294967296) :
    Calls Try.prog 79 #[.pointer (some ⟨a.s, 0, none⟩), .int .i64 (t : Int), .int .u32 (n : Int)] w fun e w' => e = .returned (.tuple #[]) ∧ ScW w' P a (sleepM M t n) ∧ KeepsS P w w' := by
  have HL := Lib.hid (leave_any w P a M h t ht 3 (.inr (.inl rfl)))
  have HM := Lib.hid (show t < (leaveM M t 3).many by rw [leave_many]; exact ht)
  clear h
  unfold sleepM
  cases hl : leftM M t with
  | true =>
    rw [hl] at HL
    rw [if_pos rfl]
    go_enter Try.func79, Try.ntmps79
    go_wp2_with fail
    refine HL.out.mono ?_
    rintro e w1 ⟨rfl, h1, k1⟩
    have HT := Lib.hid (limit_any w1 P a _ h1 t HM.out n hn)
    have K1 := Lib.hid k1
    clear h1 k1 HL hl
    go_wp2_with fail
    refine HT.out.mono ?_
    rintro e w2 ⟨rfl, h2, k2⟩
    have H2 := Lib.hid h2
    have K2 := Lib.hid (kS K1.out k2)
    clear h2 k2
    go_wp2_with fail
    go_end0
    exact ⟨rfl, H2.out, K2.out⟩
  | false =>
    rw [hl] at HL
    rw [if_neg (by simp)]
    go_enter Try.func79, Try.ntmps79
    go_wp2_with fail
    refine HL.out.mono ?_
    rintro e w1 ⟨rfl, h1, k1⟩
    have H1 := Lib.hid h1
    have K1 := Lib.hid k1
    clear h1 k1 HL hl
    go_wp2_with fail
    go_end0
    exact ⟨rfl, H1.out, K1.out⟩
set_option maxRecDepth 20000 in
set_option maxHeartbeats 2000000 in
theorem wait_any (w : World) (P : Nat → Prop) (a : ScA) (M : ScM) (h : ScW w P a M) (t : Nat) (ht : t < M.many) (k o : Int) (m n b : Nat) (hn : n < 4294967296) :
    Calls Try.prog 80 #[.pointer (some ⟨a.s, 0, none⟩), .int .i64 (t : Int), .agg #[.int .i64 k, .int .i64 o, .int .u32 (m : Int), .int .u32 (n : Int), .int .u32 (b : Int)]] w fun e w' => e = .returned (.tuple #[]) ∧ ScW w' P a (waitM M t k o m n) ∧ KeepsS P w w' := by
  have hA : Keeps (fun _ => False) w (w.alloc (.cells #[.int .i64 k, .int .i64 o, .int .u32 (m : Int), .int .u32 (n : Int), .int .u32 (b : Int)] 98)) := (Keeps.refl _ w).alloc _
  have HL := Lib.hid (leave_any _ P a M (h.quiet hA) t ht 2 (.inl rfl))
  have HM := Lib.hid (show t < (leaveM M t 2).many by rw [leave_many]; exact ht)
  have hb := heap_new w (.cells #[.int .i64 k, .int .i64 o, .int .u32 (m : Int), .int .u32 (n : Int), .int .u32 (b : Int)] 98)
  have HNO := Lib.hid (fun W (k : KeepsS P (w.alloc (.cells #[.int .i64 k, .int .i64 o, .int .u32 (m : Int), .int .u32 (n : Int), .int .u32 (b : Int)] 98)) W) => k.at hb (by decide))
  have HA := Lib.hid (kS_none (P := P) hA)
  clear h hA hb
  unfold waitM
  cases hl : leftM M t with
  | true =>
    rw [hl] at HL
    rw [if_pos rfl]
    go_enter Try.func80, Try.ntmps80
    go_wp2_with fail
    refine HL.out.mono ?_
    rintro e w1 ⟨rfl, h1, k1⟩
    have hb1 := HNO.out w1 k1
    have c0 := cell_of hb1 0
    have c1 := cell_of hb1 1
    have c2 := cell_of hb1 2
    simp only [List.getElem?_toArray, List.getElem?_cons_zero, List.getElem?_cons_succ] at c0 c1 c2
    have c36 := h1.cQ
    have HQ := Lib.hid (fun W (hk : Keeps (fun _ => False) w1 W) => sc_qadd W P a _ (h1.quiet hk) t HM.out k o m)
    have K1 := Lib.hid k1
    clear h1 k1 HL hl hb1
    go_wp2_with fail
    go_region_held3 (fun w' => w'.cell? ⟨a.s, 36, none⟩ = some (.pointer (some ⟨a.Q, 0, none⟩)) ∧ w'.cell? ⟨w.heap.size, 0, none⟩ = some (.int .i64 k) ∧ w'.cell? ⟨w.heap.size, 1, none⟩ = some (.int .i64 o) ∧ w'.cell? ⟨w.heap.size, 2, none⟩ = some (.int .u32 (m : Int)))
      (first
        | go_keep
        | exact ⟨c36, c0, c1, c2⟩
        | exact ⟨y36, y0, y1, y2⟩)
      ((go_at_call 31; refine (HQ.out _ (by first | exact (Keeps.refl _ _).drew | exact (Keeps.refl _ _).drewN _ | exact Keeps.refl _ _)).mono ?_; rintro e w2 ⟨rfl, h2, k2⟩; have K2 := Lib.hid (kS K1.out (kS (by first | exact (Keeps.refl _ _).drew | exact (Keeps.refl _ _).drewN _ | exact Keeps.refl _ _) k2)); have hb2 := HNO.out w2 K2.out; have c3 := cell_of hb2 3; have y0 := cell_of hb2 0; have y1 := cell_of hb2 1; have y2 := cell_of hb2 2; have y36 := h2.cQ; simp only [List.getElem?_toArray, List.getElem?_cons_zero, List.getElem?_cons_succ] at c3 y0 y1 y2; have HT := Lib.hid (limit_any w2 P a _ h2 t HM.out n hn); clear h2 k2 HQ K1 hb2))
    go_wp2_with fail
    refine HT.out.mono ?_
    rintro e w3 ⟨rfl, h3, k3⟩
    have H3 := Lib.hid h3
    have K3 := Lib.hid (kS HA.out (kS K2.out k3))
    clear h3 k3
    go_wp2_with fail
    go_end0
    exact ⟨rfl, H3.out.same (by rw [leave_W]), K3.out⟩
  | false =>
    rw [hl] at HL
    rw [if_neg (by simp)]
    go_enter Try.func80, Try.ntmps80
    go_wp2_with fail
    refine HL.out.mono ?_
    rintro e w1 ⟨rfl, h1, k1⟩
    have H1 := Lib.hid h1
    have K1 := Lib.hid (kS HA.out k1)
    clear h1 k1 HL hl
    go_wp2_with fail
    go_end0
    exact ⟨rfl, H1.out, K1.out⟩
end Go.Proofs.Ytdbplamhpkahaaa
namespace Go.Proofs.Ytdbplamhpkahaaa
open Go.ChangeShapes Go.WideShapes Go.ChangeAt Go.RowKit
set_option linter.unusedVariables false
set_option linter.unusedSimpArgs false
theorem taken_all (b : Nat) (st bits : Int) (ans : Option (Bool × Int × Int)) (w : World) (h : IsTask w b st bits ans) :
    Calls Try.prog 43 #[.pointer (some ⟨b, 0, none⟩)] w fun e w' => e = .returned (.tuple #[ansV ans, .bool ans.isSome]) ∧ IsTask w' b st bits none ∧ Keeps (fun k => k = b) w w' := by
  cases ans with
  | none =>
    refine (taken_none b st bits w h).mono ?_
    rintro e w' ⟨rfl, hk⟩
    exact ⟨rfl, h.keeps hk fun k _ e => e, hk.mono fun k _ e => e.elim⟩
  | some v =>
    obtain ⟨x, y, z⟩ := v
    exact taken_some b st bits x y z w h
set_option maxRecDepth 20000 in
set_option maxHeartbeats 2000000 in
theorem staken_v (w : World) (P : Nat → Prop) (a : ScA) (M : ScM) (h : ScW w P a M) (hn : a.n = M.many) (t : Nat) (ht : t < M.many) (x : Bool) (y z : Int) (r : Bool) (hA : ansV (M.ans t) = .agg #[.bool x, .int .u32 y, .int .u32 z]) (hr : (M.ans t).isSome = r) :
    Calls Try.prog 62 #[.pointer (some ⟨a.s, 0, none⟩), .int .i64 (t : Int)] w fun e w' => e = .returned (.tuple #[.agg #[.bool x, .int .u32 y, .int .u32 z], .bool r]) ∧ ScW w' P a { M with ans := upd M.ans t none } ∧ KeepsS P w w' := by
  have le := h.le
  have hq : Keeps (fun _ => False) w (w.alloc (.cells #[.bool false, .int .u32 0, .int .u32 0] 75)) := (Keeps.refl _ w).alloc _
  have h' := h.quiet hq
  have HH := Lib.hid (has_yes _ P a M h' hn (t : Int) ⟨by omega, by omega⟩)
  have ct := h'.cTask t ht
  have hs := taken_all (a.tb t) _ _ _ _ (h'.task t ht)
  rw [hA, hr] at hs
  have HS := Lib.hid hs
  have hb := heap_new w (.cells #[.bool false, .int .u32 0, .int .u32 0] 75)
  have hne : w.heap.size ≠ a.tb t := by have := (h.task t ht).lt; omega
  have HNO := Lib.hid (fun W (k : Keeps (fun k => k = a.tb t) (w.alloc (.cells #[.bool false, .int .u32 0, .int .u32 0] 75)) W) => k.at hb hne)
  have HW := Lib.hid h
  have HQ := Lib.hid hq
  have HNE := Lib.hid hne
  have d1 : decide ((t : Int) < 16) = true := decide_eq_true (by omega)
  have d2 : t < 16 := by omega
  have d3 : (0 : Int) ≤ (t : Int) := by omega
  have d4 : (t : Int) < 16 := by omega
  clear h h' hs hq hb hA hr hne
  go_enter Try.func62, Try.ntmps62
  go_wp2_with fail
  refine HH.out.mono ?_
  rintro e w' ⟨rfl, rfl⟩
  go_wp2_with fail
  refine HS.out.mono ?_
  rintro e w2 ⟨rfl, h2, k2⟩
  have hb2 := HNO.out w2 k2
  have c0 : w2.cell? ⟨w.heap.size, 0, none⟩ = some (.bool false) := cell_of hb2 0
  have c1 : w2.cell? ⟨w.heap.size, 1, none⟩ = some (.int .u32 0) := cell_of hb2 1
  have c2 : w2.cell? ⟨w.heap.size, 2, none⟩ = some (.int .u32 0) := cell_of hb2 2
  have f0 := free_of hb2 0
  have f1 := free_of hb2 1
  have f2 := free_of hb2 2
  have lb := lt_of hb2
  have E0 := Lib.hid (show (w2.setCell ⟨w.heap.size, 0, none⟩ (.bool x)).cell? ⟨w.heap.size, 0, none⟩ = some (.bool x) from (cell_of (heap_set hb2 0 _) 0).trans rfl)
  have E1 := Lib.hid (show ((w2.setCell ⟨w.heap.size, 0, none⟩ (.bool x)).setCell ⟨w.heap.size, 1, none⟩ (.int .u32 y)).cell? ⟨w.heap.size, 1, none⟩ = some (.int .u32 y) from (cell_of (heap_set (heap_set hb2 0 _) 1 _) 1).trans rfl)
  have E2 := Lib.hid (show (((w2.setCell ⟨w.heap.size, 0, none⟩ (.bool x)).setCell ⟨w.heap.size, 1, none⟩ (.int .u32 y)).setCell ⟨w.heap.size, 2, none⟩ (.int .u32 z)).cell? ⟨w.heap.size, 2, none⟩ = some (.int .u32 z) from (cell_of (heap_set (heap_set (heap_set hb2 0 _) 1 _) 2 _) 2).trans rfl)
  have HZ := Lib.hid (And.intro h2 k2)
  clear h2 k2 hb2 HS HNO HH
  go_wp2_with fail
  refine bodyPost_ret (v := .tuple #[.agg #[.bool x, .int .u32 y, .int .u32 z], .bool r]) (by simp [results, Try.results62, go_sem, E0.out, E1.out, E2.out]) rfl ?_
  have hk2 : Keeps (fun k => k = a.tb t) w w2 := (HQ.out.mono fun k _ e => e.elim).trans HZ.out.2
  have hk3 : Keeps (fun k => k = a.tb t) w (((w2.setCell ⟨w.heap.size, 0, none⟩ (.bool x)).setCell ⟨w.heap.size, 1, none⟩ (.int .u32 y)).setCell ⟨w.heap.size, 2, none⟩ (.int .u32 z)) :=
    ((hk2.setCell (p := ⟨w.heap.size, 0, none⟩) (.inr (Nat.le_refl _)) _).setCell (p := ⟨w.heap.size, 1, none⟩) (.inr (Nat.le_refl _)) _).setCell (p := ⟨w.heap.size, 2, none⟩) (.inr (Nat.le_refl _)) _
  obtain ⟨v, hv, hv2⟩ := HZ.out.1
  have hT : IsTask (((w2.setCell ⟨w.heap.size, 0, none⟩ (.bool x)).setCell ⟨w.heap.size, 1, none⟩ (.int .u32 y)).setCell ⟨w.heap.size, 2, none⟩ (.int .u32 z)) (a.tb t) (M.st t) (M.bits t : Int) none :=
    ⟨v, heap_other (heap_other (heap_other hv (fun e => HNE.out e.symm) _) (fun e => HNE.out e.symm) _) (fun e => HNE.out e.symm) _, hv2⟩
  refine ⟨rfl, (HW.out.setTask t ht hk3 hT (HW.out.live t ht) (HW.out.small t ht)).same (by rw [upd_same, upd_same]), ?_⟩
  exact hk3.mono fun k _ e => by rw [e]; exact ⟨HW.out.low.2.2.2.2 t ht, _, .tail _ (.head _), task_ty (HW.out.task t ht)⟩
theorem staken_some (w : World) (P : Nat → Prop) (a : ScA) (M : ScM) (h : ScW w P a M) (hn : a.n = M.many) (t : Nat) (ht : t < M.many) (x : Bool) (y z : Int) (hA : M.ans t = some (x, y, z)) :
    Calls Try.prog 62 #[.pointer (some ⟨a.s, 0, none⟩), .int .i64 (t : Int)] w fun e w' => e = .returned (.tuple #[.agg #[.bool x, .int .u32 y, .int .u32 z], .bool true]) ∧ ScW w' P a { M with ans := upd M.ans t none } ∧ KeepsS P w w' :=
  staken_v w P a M h hn t ht x y z true (by rw [hA]; rfl) (by rw [hA]; rfl)
theorem staken_none (w : World) (P : Nat → Prop) (a : ScA) (M : ScM) (h : ScW w P a M) (hn : a.n = M.many) (t : Nat) (ht : t < M.many) (hA : M.ans t = none) :
    Calls Try.prog 62 #[.pointer (some ⟨a.s, 0, none⟩), .int .i64 (t : Int)] w fun e w' => e = .returned (.tuple #[.agg #[.bool false, .int .u32 0, .int .u32 0], .bool false]) ∧ ScW w' P a { M with ans := upd M.ans t none } ∧ KeepsS P w w' :=
  staken_v w P a M h hn t ht false 0 0 false (by rw [hA]; rfl) (by rw [hA]; rfl)
set_option maxRecDepth 20000 in
set_option maxHeartbeats 2000000 in
theorem current_any (w : World) (P : Nat → Prop) (a : ScA) (M : ScM) (h : ScW w P a M)  :
    Calls Try.prog 64 #[.pointer (some ⟨a.s, 0, none⟩)] w fun e w' => e = .returned (.int .i64 M.cur) ∧ w = w' := by
  have c33 := h.cCur
  clear h
  go_enter Try.func64, Try.ntmps64
  go_wp2
  go_ret
  exact ⟨rfl, rfl⟩
end Go.Proofs.Ytdbplamhpkahaaa
