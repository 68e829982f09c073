import Derived.Test.YthnmlklgbggmbaaGreatSchAz
import Derived.Deep.RegionHeld3
namespace Go.Proofs.YthnmlklgbggmbaaGreat
open Go.ChangeShapes Go.WideShapes Go.ChangeAt Go.RowKit
set_option linter.unusedVariables false
set_option linter.unusedSimpArgs false
set_option maxRecDepth 20000 in
set_option maxHeartbeats 2000000 in
theorem has_yes (w : World) (P : Nat → Prop) (a : ScA) (M : ScM) (h : ScW w P a M) (hn : a.n = M.many) (t : Int) (ht : 0 ≤ t ∧ t < (M.many : Int)) :
    Calls Tryz.prog 141 #[.pointer (some ⟨a.s, 0, none⟩), .int .i64 t] w fun e w' => e = .returned (.bool true) ∧ w = w' := by
  have c32 := h.cMany
  rw [hn] at c32
  have d1 : decide (0 ≤ t) = true := decide_eq_true ht.1
  have d2 : decide (t < (M.many : Int)) = true := decide_eq_true ht.2
  clear h
  go_enter Tryz.func141, Tryz.ntmps141
  go_wp2
  go_ret
  exact ⟨rfl, rfl⟩
set_option maxRecDepth 20000 in
set_option maxHeartbeats 2000000 in
theorem has_low (w : World) (P : Nat → Prop) (a : ScA) (M : ScM) (h : ScW w P a M) (t : Int) (ht : t < 0) :
    Calls Tryz.prog 141 #[.pointer (some ⟨a.s, 0, none⟩), .int .i64 t] w fun e w' => e = .returned (.bool false) ∧ w = w' := by
  have d1 : decide (0 ≤ t) = false := decide_eq_false (by omega)
  clear h
  go_enter Tryz.func141, Tryz.ntmps141
  go_wp2
  go_ret
  exact ⟨rfl, rfl⟩
set_option maxRecDepth 20000 in
set_option maxHeartbeats 2000000 in
theorem has_high (w : World) (P : Nat → Prop) (a : ScA) (M : ScM) (h : ScW w P a M) (hn : a.n = M.many) (t : Int) (h0 : 0 ≤ t) (ht : (M.many : Int) ≤ t) :
    Calls Tryz.prog 141 #[.pointer (some ⟨a.s, 0, none⟩), .int .i64 t] w fun e w' => e = .returned (.bool false) ∧ w = w' := by
  have c32 := h.cMany
  rw [hn] at c32
  have d1 : decide (0 ≤ t) = true := decide_eq_true h0
  have d2 : decide (t < (M.many : Int)) = false := decide_eq_false (by omega)
  clear h
  go_enter Tryz.func141, Tryz.ntmps141
  go_wp2
  go_ret
  exact ⟨rfl, rfl⟩
set_option maxRecDepth 20000 in
set_option maxHeartbeats 2000000 in
theorem shas_any (w : World) (P : Nat → Prop) (a : ScA) (M : ScM) (h : ScW w P a M) (hn : a.n = M.many) (t : Int) :
    Calls Tryz.prog 141 #[.pointer (some ⟨a.s, 0, none⟩), .int .i64 t] w fun e w' => e = .returned (.bool (hasM M t)) ∧ w = w' := by
  unfold hasM
  by_cases h0 : 0 ≤ t
  · by_cases h1 : t < (M.many : Int)
    · rw [decide_eq_true ⟨h0, h1⟩]
      exact has_yes w P a M h hn t ⟨h0, h1⟩
    · rw [decide_eq_false fun e => h1 e.2]
      exact has_high w P a M h hn t h0 (by omega)
  · rw [decide_eq_false fun e => h0 e.1]
    exact has_low w P a M h t (by omega)
set_option maxRecDepth 20000 in
set_option maxHeartbeats 2000000 in
theorem leave_any (w : World) (P : Nat → Prop) (a : ScA) (M : ScM) (h : ScW w P a M) (t : Nat) (ht : t < M.many) (s : Int) (hs : s = 2 ∨ s = 3 ∨ s = 4) :
    Calls Tryz.prog 132 #[.pointer (some ⟨a.s, 0, none⟩), .int .i64 (t : Int), .int .i64 s] w fun e w' => e = .returned (.bool (leftM M t)) ∧ ScW w' P a (leaveM M t s) ∧ KeepsS P w w' := by
  have le := h.le
  have ct := h.cTask t ht
  have HG := Lib.hid (sc_go w P a M h t ht s hs)
  have d1 : decide ((t : Int) < 16) = true := decide_eq_true (by omega)
  have d2 : t < 16 := by omega
  have d3 : (0 : Int) ≤ (t : Int) := by omega
  have d4 : (t : Int) < 16 := by omega
  clear h
  go_enter Tryz.func132, Tryz.ntmps132
  unfold goM at HG
  unfold leaveM leftM goM
  by_cases e1 : M.st t = 1
  · rw [if_pos e1, decide_eq_true e1] at HG
    rw [if_pos e1, if_pos e1, decide_eq_true e1]
    go_wp2_with fail
    refine HG.out.mono ?_
    rintro e w1 ⟨rfl, h1, k1⟩
    have c34 := h1.cRk
    have HR := Lib.hid (sc_rrem w1 P a _ h1 (t : Int))
    have HK := Lib.hid k1
    clear h1 k1 HG
    go_wp2_with fail
    refine HR.out.mono ?_
    rintro e w2 ⟨rfl, h2, k2⟩
    have HK2 := Lib.hid (kS HK.out k2)
    have H2 := Lib.hid h2
    clear h2 k2 HR
    go_wp2_with fail
    go_ret
    exact ⟨by simp, H2.out, HK2.out⟩
  · rw [if_neg e1, decide_eq_false e1] at HG
    rw [if_neg e1, decide_eq_false e1]
    go_wp2_with fail
    refine HG.out.mono ?_
    rintro e w1 ⟨rfl, h1, k1⟩
    have HK := Lib.hid k1
    have H1 := Lib.hid h1
    clear h1 k1 HG
    go_wp2_with fail
    go_ret
    exact ⟨by simp, H1.out, HK.out⟩
set_option maxRecDepth 20000 in
set_option maxHeartbeats 2000000 in
theorem limit_any (w : World) (P : Nat → Prop) (a : ScA) (M : ScM) (h : ScW w P a M) (t : Nat) (ht : t < M.many) (n : Nat) (hn : n < 4294967296) :
    Calls Tryz.prog 170 #[.pointer (some ⟨a.s, 0, none⟩), .int .i64 (t : Int), .int .u32 (n : Int)] w fun e w' => e = .returned (.tuple #[]) ∧ ScW w' P a (limitM M t n) ∧ KeepsS P w w' := by
  have c35 := h.cD
  have HD := Lib.hid (sc_dadd w P a M h t ht n hn)
  have H0 := Lib.hid h
  clear h
  unfold limitM
  go_enter Tryz.func170, Tryz.ntmps170
  by_cases e1 : n = 4294967295
  · subst e1
    rw [if_pos rfl]
    go_wp2_with fail
    go_end0
    exact ⟨rfl, H0.out, Keeps.refl _ _⟩
  · have e2 : ((n : Int) != 4294967295) = true := bne_iff_ne.2 (by omega)
    have e3 : (n : Int) ≠ 4294967295 := by omega
    rw [if_neg e1]
    go_wp2_with fail
    refine HD.out.mono ?_
    rintro e w1 ⟨rfl, h1, k1⟩
    have HK := Lib.hid k1
    have H1 := Lib.hid h1
    clear h1 k1 HD
    go_wp2_with fail
    go_end0
    exact ⟨rfl, H1.out, HK.out⟩
set_option maxRecDepth 20000 in
set_option maxHeartbeats 2000000 in
theorem resume_any (w : World) (P : Nat → Prop) (a : ScA) (M : ScM) (h : ScW w P a M) (t : Nat) (ht : t < M.many) (x : Bool) (y z : Int) :
    Calls Tryz.prog 139 #[.pointer (some ⟨a.s, 0, none⟩), .int .i64 (t : Int), .agg #[.bool x, .int .u32 y, .int .u32 z]] w fun e w' => e = .returned (.tuple #[]) ∧ ScW w' P a (resumeM M t (x, y, z)) ∧ KeepsS P w w' := by
  have hmf : ∀ (fn : Fn) (first cap : Array Value) (w : World), (Instr.makeFunc fn first cap).run Tryz.prog w = .ok (.func fn first cap) w := fun _ _ _ _ => rfl
  have le := h.le
  have hA : Keeps (fun _ => False) w (w.alloc (.cells #[.bool x, .int .u32 y, .int .u32 z] 169)) := (Keeps.refl _ w).alloc _
  have ct := (h.quiet hA).cTask t ht
  have HG := Lib.hid (sc_wake _ P a M (h.quiet hA) t ht x y z)
  have HA := Lib.hid (kS_none (P := P) hA)
  have d1 : decide ((t : Int) < 16) = true := decide_eq_true (by omega)
  have d2 : t < 16 := by omega
  have d3 : (0 : Int) ≤ (t : Int) := by omega
  have d4 : (t : Int) < 16 := by omega
  clear h hA
  go_enter Tryz.func139, Tryz.ntmps139
  unfold wakeM at HG
  unfold resumeM wakeM
  by_cases e1 : M.st t = 2 ∨ M.st t = 3
  · rw [if_pos e1, decide_eq_true e1] at HG
    rw [if_pos e1, if_pos e1]
    go_wp2_with fail
    refine HG.out.mono ?_
    rintro e w1 ⟨rfl, h1, k1⟩
    have c34 := h1.cRk
    have cp := h1.cPrio t (by omega)
    have HR := Lib.hid (fun W (hk : Keeps (fun _ => False) w1 W) => sc_radd W P a _ (h1.quiet hk) t ht (M.prio t))
    have HK := Lib.hid (kS HA.out k1)
    clear h1 k1 HG HA ct
    go_wp2_with fail
    go_region_held3 (fun w' => w'.cell? ⟨a.s, 34, none⟩ = some (.pointer (some ⟨a.rk, 0, none⟩)) ∧ w'.cell? ⟨a.s, 16 + t, none⟩ = some (.int .i64 (M.prio t)))
      (first
        | go_keep
        | exact ⟨c34, cp⟩
        | exact ⟨H2.out.cRk, H2.out.cPrio t d2⟩)
      ((go_at_call 74; refine (HR.out _ (by first | exact (Keeps.refl _ _).drew | exact (Keeps.refl _ _).drewN _)).mono ?_; rintro e w2 ⟨rfl, h2, k2⟩; have HK2 := Lib.hid (kS HK.out (kS (by first | exact (Keeps.refl _ _).drew | exact (Keeps.refl _ _).drewN _) k2)); have H2 := Lib.hid h2; clear h2 k2 HR HK))
    go_wp2_with fail
    go_end0
    exact ⟨rfl, H2.out, HK2.out⟩
  · rw [if_neg e1, decide_eq_false e1] at HG
    rw [if_neg e1]
    go_wp2_with fail
    refine HG.out.mono ?_
    rintro e w1 ⟨rfl, h1, k1⟩
    have HK := Lib.hid (kS HA.out k1)
    have H1 := Lib.hid h1
    clear h1 k1 HG HA ct
    go_wp2_with fail
    go_end0
    exact ⟨rfl, H1.out, HK.out⟩
end Go.Proofs.YthnmlklgbggmbaaGreat
namespace Go.Proofs.YthnmlklgbggmbaaGreat
open Go.ChangeShapes Go.WideShapes Go.ChangeAt Go.RowKit
set_option linter.unusedVariables false
set_option linter.unusedSimpArgs false
theorem leave_W (M : ScM) (t : Nat) (s : Int) : (leaveM M t s).W = M.W := by
  unfold leaveM
  split
  · unfold goM; split <;> rfl
  · rfl
set_option maxRecDepth 20000 in
set_option maxHeartbeats 2000000 in
theorem snote_any (w : World) (P : Nat → Prop) (a : ScA) (M : ScM) (h : ScW w P a M) (hn : a.n = M.many) (t : Nat) (ht : t < M.many) (b : Nat) (hb : b < 4294967296) :
    Calls Tryz.prog 86 #[.pointer (some ⟨a.s, 0, none⟩), .int .i64 (t : Int), .int .u32 (b : Int)] w fun e w' => e = .returned (.bool true) ∧ ScW w' P a (noteM M t b) ∧ KeepsS P w w' := by
  have le := h.le
  have HH := Lib.hid (has_yes w P a M h hn (t : Int) ⟨by omega, by omega⟩)
  have ct := h.cTask t ht
  have HS := Lib.hid (sc_note w P a M h t ht b hb)
  have d1 : decide ((t : Int) < 16) = true := decide_eq_true (by omega)
  have d2 : t < 16 := by omega
  clear h
  go_enter Tryz.func86, Tryz.ntmps86
  go_wp2_with fail
  refine HH.out.mono ?_
  rintro e w' ⟨rfl, rfl⟩
  go_wp2_with fail
  refine HS.out.mono ?_
  rintro e w2 ⟨rfl, h2, k2⟩
  have H2 := Lib.hid h2
  have K2 := Lib.hid k2
  clear h2 k2 HS
  go_wp2_with fail
  go_ret
  exact ⟨rfl, H2.out, K2.out⟩
set_option maxRecDepth 20000 in
set_option maxHeartbeats 2000000 in
theorem snote_not (w : World) (P : Nat → Prop) (a : ScA) (M : ScM) (h : ScW w P a M) (hn : a.n = M.many) (t : Int) (b : Nat) (ht : hasM M t = false) :
    Calls Tryz.prog 86 #[.pointer (some ⟨a.s, 0, none⟩), .int .i64 t, .int .u32 (b : Int)] w fun e w' => e = .returned (.bool false) ∧ w = w' := by
  have HH := Lib.hid (shas_any w P a M h hn t)
  rw [ht] at HH
  clear h
  go_enter Tryz.func86, Tryz.ntmps86
  go_wp2_with fail
  refine HH.out.mono ?_
  rintro e w' ⟨rfl, rfl⟩
  go_wp2_with fail
  go_ret
  exact ⟨rfl, rfl⟩
set_option maxRecDepth 20000 in
set_option maxHeartbeats 2000000 in
theorem disp_any (w : World) (P : Nat → Prop) (a : ScA) (M : ScM) (h : ScW w P a M)  :
    Calls Tryz.prog 76 #[.pointer (some ⟨a.s, 0, none⟩)] w fun e w' => e = .returned (.tuple #[.int .i64 (firstM M), .bool (firstM M != M.cur)]) ∧ ScW w' P a (dispM M) ∧ KeepsS P w w' := by
  have c33 := h.cCur
  have f33 := h.free 33
  have c34 := h.cRk
  have HF := Lib.hid (sc_rfirst w P a M h)
  have hc : firstM M = -1 ∨ (0 ≤ firstM M ∧ firstM M < (M.many : Int)) := by
    unfold firstM
    cases hl : listT M.R with
    | nil => exact .inl rfl
    | cons x r =>
      have := h.inRow (t := x) (by rw [hl]; exact .head _)
      refine .inr ?_
      simp only [List.isEmpty_cons, List.headD_cons, Bool.false_eq_true, if_false]
      omega
  have HC := Lib.hid (h.setCur (firstM M) hc)
  have HK := Lib.hid (show KeepsS P w (w.setCell ⟨a.s, 33, none⟩ (.int .i64 (firstM M))) from by
    obtain ⟨cs, hb, _⟩ := h.blk
    exact (Keeps.refl _ w).setCell (.inl ⟨h.low.1, _, .head _, _, _, hb⟩) _)
  clear h hc
  unfold dispM
  unfold firstM at HC HK ⊢
  cases hl : listT M.R with
  | nil =>
    rw [hl] at HC HK HF
    simp only [List.isEmpty_nil, if_true, Bool.not_true, List.headD_nil] at HC HK HF ⊢
    go_enter Tryz.func76, Tryz.ntmps76
    go_wp2_with fail
    refine HF.out.mono ?_
    rintro e w' ⟨rfl, rfl⟩
    go_wp2_with fail
    refine bodyPost_ret (v := .tuple #[.int .i64 (-1), .bool (-1 != M.cur)]) (by simp [results, Tryz.results76, go_sem]) rfl ⟨rfl, HC.out, HK.out⟩
  | cons x r =>
    rw [hl] at HC HK HF
    simp only [List.isEmpty_cons, List.headD_cons, Bool.false_eq_true, if_false, Bool.not_false] at HC HK HF ⊢
    go_enter Tryz.func76, Tryz.ntmps76
    go_wp2_with fail
    refine HF.out.mono ?_
    rintro e w' ⟨rfl, rfl⟩
    go_wp2_with fail
    refine bodyPost_ret (v := .tuple #[.int .i64 (x : Int), .bool ((x : Int) != M.cur)]) (by simp [results, Tryz.results76, go_sem]) rfl ⟨rfl, HC.out, HK.out⟩
set_option maxRecDepth 20000 in
set_option maxHeartbeats 2000000 in
theorem sleep_any (w : World) (P : Nat → Prop) (a : ScA) (M : ScM) (h : ScW w P a M) (t : Nat) (ht : t < M.many) (n : Nat) (hn : n < 4294967296) :
    Calls Tryz.prog 133 #[.pointer (some ⟨a.s, 0, none⟩), .int .i64 (t : Int), .int .u32 (n : Int)] w fun e w' => e = .returned (.tuple #[]) ∧ ScW w' P a (sleepM M t n) ∧ KeepsS P w w' := by
  have HL := Lib.hid (leave_any w P a M h t ht 3 (.inr (.inl rfl)))
  have HM := Lib.hid (show t < (leaveM M t 3).many by rw [leave_many]; exact ht)
  clear h
  unfold sleepM
  cases hl : leftM M t with
  | true =>
    rw [hl] at HL
    rw [if_pos rfl]
    go_enter Tryz.func133, Tryz.ntmps133
    go_wp2_with fail
    refine HL.out.mono ?_
    rintro e w1 ⟨rfl, h1, k1⟩
    have HT := Lib.hid (limit_any w1 P a _ h1 t HM.out n hn)
    have K1 := Lib.hid k1
    clear h1 k1 HL hl
    go_wp2_with fail
    refine HT.out.mono ?_
    rintro e w2 ⟨rfl, h2, k2⟩
    have H2 := Lib.hid h2
    have K2 := Lib.hid (kS K1.out k2)
    clear h2 k2
    go_wp2_with fail
    go_end0
    exact ⟨rfl, H2.out, K2.out⟩
  | false =>
    rw [hl] at HL
    rw [if_neg (by simp)]
    go_enter Tryz.func133, Tryz.ntmps133
    go_wp2_with fail
    refine HL.out.mono ?_
    rintro e w1 ⟨rfl, h1, k1⟩
    have H1 := Lib.hid h1
    have K1 := Lib.hid k1
    clear h1 k1 HL hl
    go_wp2_with fail
    go_end0
    exact ⟨rfl, H1.out, K1.out⟩
set_option maxRecDepth 20000 in
set_option maxHeartbeats 2000000 in
theorem wait_any (w : World) (P : Nat → Prop) (a : ScA) (M : ScM) (h : ScW w P a M) (t : Nat) (ht : t < M.many) (k o : Int) (m n b : Nat) (hn : n < 4294967296) :
    Calls Tryz.prog 136 #[.pointer (some ⟨a.s, 0, none⟩), .int .i64 (t : Int), .agg #[.int .i64 k, .int .i64 o, .int .u32 (m : Int), .int .u32 (n : Int), .int .u32 (b : Int)]] w fun e w' => e = .returned (.tuple #[]) ∧ ScW w' P a (waitM M t k o m n) ∧ KeepsS P w w' := by
  have hA : Keeps (fun _ => False) w (w.alloc (.cells #[.int .i64 k, .int .i64 o, .int .u32 (m : Int), .int .u32 (n : Int), .int .u32 (b : Int)] 78)) := (Keeps.refl _ w).alloc _
  have HL := Lib.hid (leave_any _ P a M (h.quiet hA) t ht 2 (.inl rfl))
  have HM := Lib.hid (show t < (leaveM M t 2).many by rw [leave_many]; exact ht)
  have hb := heap_new w (.cells #[.int .i64 k, .int .i64 o, .int .u32 (m : Int), .int .u32 (n : Int), .int .u32 (b : Int)] 78)
  have HNO := Lib.hid (fun W (k : KeepsS P (w.alloc (.cells #[.int .i64 k, .int .i64 o, .int .u32 (m : Int), .int .u32 (n : Int), .int .u32 (b : Int)] 78)) W) => k.at hb (by decide))
  have HA := Lib.hid (kS_none (P := P) hA)
  clear h hA hb
  unfold waitM
  cases hl : leftM M t with
  | true =>
    rw [hl] at HL
    rw [if_pos rfl]
    go_enter Tryz.func136, Tryz.ntmps136
    go_wp2_with fail
    refine HL.out.mono ?_
    rintro e w1 ⟨rfl, h1, k1⟩
    have hb1 := HNO.out w1 k1
    have c0 := cell_of hb1 0
    have c1 := cell_of hb1 1
    have c2 := cell_of hb1 2
    simp only [List.getElem?_toArray, List.getElem?_cons_zero, List.getElem?_cons_succ] at c0 c1 c2
    have c36 := h1.cQ
    have HQ := Lib.hid (fun W (hk : Keeps (fun _ => False) w1 W) => sc_qadd W P a _ (h1.quiet hk) t HM.out k o m)
    have K1 := Lib.hid k1
    clear h1 k1 HL hl hb1
    go_wp2_with fail
    go_region_held3 (fun w' => w'.cell? ⟨a.s, 36, none⟩ = some (.pointer (some ⟨a.Q, 0, none⟩)) ∧ w'.cell? ⟨w.heap.size, 0, none⟩ = some (.int .i64 k) ∧ w'.cell? ⟨w.heap.size, 1, none⟩ = some (.int .i64 o) ∧ w'.cell? ⟨w.heap.size, 2, none⟩ = some (.int .u32 (m : Int)))
      (first
        | go_keep
        | exact ⟨c36, c0, c1, c2⟩
        | exact ⟨y36, y0, y1, y2⟩)
      ((go_at_call 79; refine (HQ.out _ (by first | exact (Keeps.refl _ _).drew | exact (Keeps.refl _ _).drewN _ | exact Keeps.refl _ _)).mono ?_; rintro e w2 ⟨rfl, h2, k2⟩; have K2 := Lib.hid (kS K1.out (kS (by first | exact (Keeps.refl _ _).drew | exact (Keeps.refl _ _).drewN _ | exact Keeps.refl _ _) k2)); have hb2 := HNO.out w2 K2.out; have c3 := cell_of hb2 3; have y0 := cell_of hb2 0; have y1 := cell_of hb2 1; have y2 := cell_of hb2 2; have y36 := h2.cQ; simp only [List.getElem?_toArray, List.getElem?_cons_zero, List.getElem?_cons_succ] at c3 y0 y1 y2; have HT := Lib.hid (limit_any w2 P a _ h2 t HM.out n hn); clear h2 k2 HQ K1 hb2))
    go_wp2_with fail
    refine HT.out.mono ?_
    rintro e w3 ⟨rfl, h3, k3⟩
    have H3 := Lib.hid h3
    have K3 := Lib.hid (kS HA.out (kS K2.out k3))
    clear h3 k3
    go_wp2_with fail
    go_end0
    exact ⟨rfl, H3.out.same (by rw [leave_W]), K3.out⟩
  | false =>
    rw [hl] at HL
    rw [if_neg (by simp)]
    go_enter Tryz.func136, Tryz.ntmps136
    go_wp2_with fail
    refine HL.out.mono ?_
    rintro e w1 ⟨rfl, h1, k1⟩
    have H1 := Lib.hid h1
    have K1 := Lib.hid (kS HA.out k1)
    clear h1 k1 HL hl
    go_wp2_with fail
    go_end0
    exact ⟨rfl, H1.out, K1.out⟩
end Go.Proofs.YthnmlklgbggmbaaGreat
namespace Go.Proofs.YthnmlklgbggmbaaGreat
open Go.ChangeShapes Go.WideShapes Go.ChangeAt Go.RowKit
set_option linter.unusedVariables false
set_option linter.unusedSimpArgs false
set_option maxRecDepth 20000 in
set_option maxHeartbeats 2000000 in
theorem current_any (w : World) (P : Nat → Prop) (a : ScA) (M : ScM) (h : ScW w P a M)  :
    Calls Tryz.prog 15 #[.pointer (some ⟨a.s, 0, none⟩)] w fun e w' => e = .returned (.int .i64 M.cur) ∧ w = w' := by
  have c33 := h.cCur
  clear h
  go_enter Tryz.func15, Tryz.ntmps15
  go_wp2
  go_ret
  exact ⟨rfl, rfl⟩
end Go.Proofs.YthnmlklgbggmbaaGreat
