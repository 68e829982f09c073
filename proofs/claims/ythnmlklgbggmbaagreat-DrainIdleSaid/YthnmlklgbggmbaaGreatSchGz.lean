import Derived.Test.YthnmlklgbggmbaaGreatSchDz
import Derived.Deep.RegionHeld3
namespace Go.Proofs.YthnmlklgbggmbaaGreat
open Go.ChangeShapes Go.WideShapes Go.ChangeAt Go.RowKit
set_option linter.unusedVariables false
set_option linter.unusedSimpArgs false
set_option maxRecDepth 20000 in
set_option maxHeartbeats 2000000 in
theorem serve_exit (w : World) (P : Nat → Prop) (a : ScA) (M : ScM) (h : ScW w P a M) (hn : a.n = M.many) (t : Nat) (ht : t < M.many) (hcur : M.cur = (t : Int)) (o : Int) (m n b : Nat) (hn32 : n < 4294967296) (hb32 : b < 4294967296)  :
    Calls Tryz.prog 81 #[.pointer (some ⟨a.s, 0, none⟩), .agg #[.int .i64 19, .int .i64 o, .int .u32 (m : Int), .int .u32 (n : Int), .int .u32 (b : Int)]] w fun e w' => e = .returned (.int .i64 0) ∧ ScW w' P a (leaveM M t 4) ∧ KeepsS P w w' := by
  have hmf : ∀ (fn : Fn) (first cap : Array Value) (w : World), (Instr.makeFunc fn first cap).run Tryz.prog w = .ok (.func fn first cap) w := fun _ _ _ _ => rfl
  have le := h.le
  have hq : Keeps (fun _ => False) w (w.alloc (.cells #[.int .i64 19, .int .i64 o, .int .u32 (m : Int), .int .u32 (n : Int), .int .u32 (b : Int)] 78)) := (Keeps.refl _ w).alloc _
  obtain ⟨w0, hw0⟩ : ∃ w0, w0 = w.alloc (.cells #[.int .i64 19, .int .i64 o, .int .u32 (m : Int), .int .u32 (n : Int), .int .u32 (b : Int)] 78) := ⟨_, rfl⟩
  have h0 := h.quiet hq
  have hb0 : w0.heap[w.heap.size]? = some (.cells #[.int .i64 19, .int .i64 o, .int .u32 (m : Int), .int .u32 (n : Int), .int .u32 (b : Int)] 78 (0, 0)) := by rw [hw0]; exact heap_new w _
  have hl0 : w.heap.size < w0.heap.size := lt_of hb0
  rw [← hw0] at h0 hq
  have HNO := Lib.hid (fun W (k : KeepsS P w0 W) => k.at hb0 (by decide))
  have HQ := Lib.hid (kS_none (P := P) hq)
  have HL := Lib.hid (leave_any w0 P a M h0 t ht 4 (.inr (.inr rfl)))
  rw [hw0] at HL HQ
  have HX := Lib.hid (And.intro hw0 (And.intro h0 hb0))
  have c33 := h0.cCur
  rw [hcur] at c33
  have ct := h0.cTask t ht
  have n0 : ((t : Int) == -1) = false := beq_eq_false_iff_ne.2 (by omega)
  have n0' : ((t : Int) = -1) = False := eq_false (by omega)
  have d1 : decide ((t : Int) < 16) = true := decide_eq_true (by omega)
  have d2 : t < 16 := by omega
  have d3 : (0 : Int) ≤ (t : Int) := by omega
  have d4 : (t : Int) < 16 := by omega
  rw [hw0] at c33 ct
  clear h hq hw0 h0 hb0 hl0
  go_enter Tryz.func81, Tryz.ntmps81
  go_wp2_with fail
  refine HL.out.mono ?_
  rintro e w1 ⟨rfl, h1, k1⟩
  have H1 := Lib.hid h1
  have K1 := Lib.hid (kS HQ.out k1)
  clear h1 k1 HL
  go_wp2_with fail
  go_ret
  exact ⟨rfl, H1.out, K1.out⟩
set_option maxRecDepth 20000 in
set_option maxHeartbeats 2000000 in
theorem serve_post (w : World) (P : Nat → Prop) (a : ScA) (M : ScM) (h : ScW w P a M) (hn : a.n = M.many) (t : Nat) (ht : t < M.many) (hcur : M.cur = (t : Int)) (o : Int) (m n b : Nat) (hn32 : n < 4294967296) (hb32 : b < 4294967296) (x : Nat) (hx : x < M.many) (ho : o = (x : Int)) :
    Calls Tryz.prog 81 #[.pointer (some ⟨a.s, 0, none⟩), .agg #[.int .i64 10, .int .i64 o, .int .u32 (m : Int), .int .u32 (n : Int), .int .u32 (b : Int)]] w fun e w' => e = .returned (.int .i64 0) ∧ ScW w' P a (giveM (noteM M x b) t (true, 0, 0)) ∧ KeepsS P w w' := by
  have hmf : ∀ (fn : Fn) (first cap : Array Value) (w : World), (Instr.makeFunc fn first cap).run Tryz.prog w = .ok (.func fn first cap) w := fun _ _ _ _ => rfl
  have le := h.le
  have hq : Keeps (fun _ => False) w (w.alloc (.cells #[.int .i64 10, .int .i64 o, .int .u32 (m : Int), .int .u32 (n : Int), .int .u32 (b : Int)] 78)) := (Keeps.refl _ w).alloc _
  obtain ⟨w0, hw0⟩ : ∃ w0, w0 = w.alloc (.cells #[.int .i64 10, .int .i64 o, .int .u32 (m : Int), .int .u32 (n : Int), .int .u32 (b : Int)] 78) := ⟨_, rfl⟩
  have h0 := h.quiet hq
  have hb0 : w0.heap[w.heap.size]? = some (.cells #[.int .i64 10, .int .i64 o, .int .u32 (m : Int), .int .u32 (n : Int), .int .u32 (b : Int)] 78 (0, 0)) := by rw [hw0]; exact heap_new w _
  have hl0 : w.heap.size < w0.heap.size := lt_of hb0
  rw [← hw0] at h0 hq
  have HNO := Lib.hid (fun W (k : KeepsS P w0 W) => k.at hb0 (by decide))
  have HQ := Lib.hid (kS_none (P := P) hq)
  subst ho
  have HL := Lib.hid (snote_any w0 P a M h0 hn x hx b hb32)
  rw [hw0] at HL HQ
  have HX := Lib.hid (And.intro hw0 (And.intro h0 hb0))
  have c33 := h0.cCur
  rw [hcur] at c33
  have ct := h0.cTask t ht
  have n0 : ((t : Int) == -1) = false := beq_eq_false_iff_ne.2 (by omega)
  have n0' : ((t : Int) = -1) = False := eq_false (by omega)
  have d1 : decide ((t : Int) < 16) = true := decide_eq_true (by omega)
  have d2 : t < 16 := by omega
  have d3 : (0 : Int) ≤ (t : Int) := by omega
  have d4 : (t : Int) < 16 := by omega
  rw [hw0] at c33 ct
  clear h hq hw0 h0 hb0 hl0
  go_enter Tryz.func81, Tryz.ntmps81
  go_wp2_with fail
  refine HL.out.mono ?_
  rintro e w1 ⟨rfl, h1, k1⟩
  have K1 := Lib.hid (kS HQ.out k1)
  have HG := Lib.hid (sc_give w1 P a _ h1 t ht true 0 0)
  clear h1 k1 HL
  go_wp2_with fail
  refine HG.out.mono ?_
  rintro e w2 ⟨rfl, h2, k2⟩
  have H2 := Lib.hid h2
  have K2 := Lib.hid (kS K1.out k2)
  clear h2 k2 HG
  go_wp2_with fail
  go_ret
  exact ⟨rfl, H2.out, K2.out⟩
set_option maxRecDepth 20000 in
set_option maxHeartbeats 2000000 in
theorem serve_post_no (w : World) (P : Nat → Prop) (a : ScA) (M : ScM) (h : ScW w P a M) (hn : a.n = M.many) (t : Nat) (ht : t < M.many) (hcur : M.cur = (t : Int)) (o : Int) (m n b : Nat) (hn32 : n < 4294967296) (hb32 : b < 4294967296) (ho : hasM M o = false) :
    Calls Tryz.prog 81 #[.pointer (some ⟨a.s, 0, none⟩), .agg #[.int .i64 10, .int .i64 o, .int .u32 (m : Int), .int .u32 (n : Int), .int .u32 (b : Int)]] w fun e w' => e = .returned (.int .i64 4) ∧ ScW w' P a M ∧ KeepsS P w w' := by
  have hmf : ∀ (fn : Fn) (first cap : Array Value) (w : World), (Instr.makeFunc fn first cap).run Tryz.prog w = .ok (.func fn first cap) w := fun _ _ _ _ => rfl
  have le := h.le
  have hq : Keeps (fun _ => False) w (w.alloc (.cells #[.int .i64 10, .int .i64 o, .int .u32 (m : Int), .int .u32 (n : Int), .int .u32 (b : Int)] 78)) := (Keeps.refl _ w).alloc _
  obtain ⟨w0, hw0⟩ : ∃ w0, w0 = w.alloc (.cells #[.int .i64 10, .int .i64 o, .int .u32 (m : Int), .int .u32 (n : Int), .int .u32 (b : Int)] 78) := ⟨_, rfl⟩
  have h0 := h.quiet hq
  have hb0 : w0.heap[w.heap.size]? = some (.cells #[.int .i64 10, .int .i64 o, .int .u32 (m : Int), .int .u32 (n : Int), .int .u32 (b : Int)] 78 (0, 0)) := by rw [hw0]; exact heap_new w _
  have hl0 : w.heap.size < w0.heap.size := lt_of hb0
  rw [← hw0] at h0 hq
  have HNO := Lib.hid (fun W (k : KeepsS P w0 W) => k.at hb0 (by decide))
  have HQ := Lib.hid (kS_none (P := P) hq)
  have HL := Lib.hid (snote_not w0 P a M h0 hn o b ho)
  have H0 := Lib.hid h0
  rw [hw0] at HL HQ H0
  have HX := Lib.hid (And.intro hw0 (And.intro h0 hb0))
  have c33 := h0.cCur
  rw [hcur] at c33
  have ct := h0.cTask t ht
  have n0 : ((t : Int) == -1) = false := beq_eq_false_iff_ne.2 (by omega)
  have n0' : ((t : Int) = -1) = False := eq_false (by omega)
  have d1 : decide ((t : Int) < 16) = true := decide_eq_true (by omega)
  have d2 : t < 16 := by omega
  have d3 : (0 : Int) ≤ (t : Int) := by omega
  have d4 : (t : Int) < 16 := by omega
  rw [hw0] at c33 ct
  clear h hq hw0 h0 hb0 hl0
  go_enter Tryz.func81, Tryz.ntmps81
  go_wp2_with fail
  refine HL.out.mono ?_
  rintro e w1 ⟨rfl, rfl⟩
  clear HL
  go_wp2_with fail
  go_ret
  exact ⟨rfl, H0.out, HQ.out⟩
set_option maxRecDepth 20000 in
set_option maxHeartbeats 2000000 in
theorem serve_sleep (w : World) (P : Nat → Prop) (a : ScA) (M : ScM) (h : ScW w P a M) (hn : a.n = M.many) (t : Nat) (ht : t < M.many) (hcur : M.cur = (t : Int)) (o : Int) (m n b : Nat) (hn32 : n < 4294967296) (hb32 : b < 4294967296) (hpos : 0 < n) :
    Calls Tryz.prog 81 #[.pointer (some ⟨a.s, 0, none⟩), .agg #[.int .i64 13, .int .i64 o, .int .u32 (m : Int), .int .u32 (n : Int), .int .u32 (b : Int)]] w fun e w' => e = .returned (.int .i64 0) ∧ ScW w' P a (sleepM M t n) ∧ KeepsS P w w' := by
  have hmf : ∀ (fn : Fn) (first cap : Array Value) (w : World), (Instr.makeFunc fn first cap).run Tryz.prog w = .ok (.func fn first cap) w := fun _ _ _ _ => rfl
  have le := h.le
  have hq : Keeps (fun _ => False) w (w.alloc (.cells #[.int .i64 13, .int .i64 o, .int .u32 (m : Int), .int .u32 (n : Int), .int .u32 (b : Int)] 78)) := (Keeps.refl _ w).alloc _
  obtain ⟨w0, hw0⟩ : ∃ w0, w0 = w.alloc (.cells #[.int .i64 13, .int .i64 o, .int .u32 (m : Int), .int .u32 (n : Int), .int .u32 (b : Int)] 78) := ⟨_, rfl⟩
  have h0 := h.quiet hq
  have hb0 : w0.heap[w.heap.size]? = some (.cells #[.int .i64 13, .int .i64 o, .int .u32 (m : Int), .int .u32 (n : Int), .int .u32 (b : Int)] 78 (0, 0)) := by rw [hw0]; exact heap_new w _
  have hl0 : w.heap.size < w0.heap.size := lt_of hb0
  rw [← hw0] at h0 hq
  have HNO := Lib.hid (fun W (k : KeepsS P w0 W) => k.at hb0 (by decide))
  have HQ := Lib.hid (kS_none (P := P) hq)
  have HL := Lib.hid (fun W (hk : Keeps (fun _ => False) w0 W) => sleep_any W P a M (h0.quiet hk) t ht n hn32)
  have b3 := cell_of hb0 3
  simp only [List.getElem?_toArray, List.getElem?_cons_zero, List.getElem?_cons_succ] at b3
  have dp : decide (0 < n) = true := decide_eq_true hpos
  have dp' : decide ((0 : Int) < (n : Int)) = true := decide_eq_true (by omega)
  rw [hw0] at HL HQ b3
  have HX := Lib.hid (And.intro hw0 (And.intro h0 hb0))
  have c33 := h0.cCur
  rw [hcur] at c33
  have ct := h0.cTask t ht
  have n0 : ((t : Int) == -1) = false := beq_eq_false_iff_ne.2 (by omega)
  have n0' : ((t : Int) = -1) = False := eq_false (by omega)
  have d1 : decide ((t : Int) < 16) = true := decide_eq_true (by omega)
  have d2 : t < 16 := by omega
  have d3 : (0 : Int) ≤ (t : Int) := by omega
  have d4 : (t : Int) < 16 := by omega
  rw [hw0] at c33 ct
  clear h hq hw0 h0 hb0 hl0
  go_enter Tryz.func81, Tryz.ntmps81
  go_wp2_with fail
  go_region_held3 (fun w' => w'.cell? ⟨w.heap.size, 3, none⟩ = some (.int .u32 (n : Int)))
    (first
      | go_keep
      | exact b3
      | exact z3)
    ((go_at_call 133; refine (HL.out _ (by first | exact (Keeps.refl _ _).drew | exact (Keeps.refl _ _).drewN _ | exact Keeps.refl _ _)).mono ?_; rintro e w1 ⟨rfl, h1, k1⟩; have H1 := Lib.hid h1; have K1 := Lib.hid (kS HQ.out (kS (by first | exact (Keeps.refl _ _).drew | exact (Keeps.refl _ _).drewN _ | exact Keeps.refl _ _) k1)); have bz := HNO.out w1 (by rw [HX.out.1]; exact kS (by first | exact (Keeps.refl _ _).drew | exact (Keeps.refl _ _).drewN _ | exact Keeps.refl _ _) k1); have z3 := cell_of bz 3; simp only [List.getElem?_toArray, List.getElem?_cons_zero, List.getElem?_cons_succ] at z3; clear h1 k1 HL bz))
  go_wp2_with fail
  go_ret
  exact ⟨rfl, H1.out, K1.out⟩
set_option maxRecDepth 20000 in
set_option maxHeartbeats 2000000 in
theorem serve_yield0 (w : World) (P : Nat → Prop) (a : ScA) (M : ScM) (h : ScW w P a M) (hn : a.n = M.many) (t : Nat) (ht : t < M.many) (hcur : M.cur = (t : Int)) (o : Int) (m n b : Nat) (hn32 : n < 4294967296) (hb32 : b < 4294967296) (h00 : n = 0) :
    Calls Tryz.prog 81 #[.pointer (some ⟨a.s, 0, none⟩), .agg #[.int .i64 13, .int .i64 o, .int .u32 (m : Int), .int .u32 (n : Int), .int .u32 (b : Int)]] w fun e w' => e = .returned (.int .i64 0) ∧ ScW w' P a (yieldM M t) ∧ KeepsS P w w' := by
  have hmf : ∀ (fn : Fn) (first cap : Array Value) (w : World), (Instr.makeFunc fn first cap).run Tryz.prog w = .ok (.func fn first cap) w := fun _ _ _ _ => rfl
  have le := h.le
  have hq : Keeps (fun _ => False) w (w.alloc (.cells #[.int .i64 13, .int .i64 o, .int .u32 (m : Int), .int .u32 (n : Int), .int .u32 (b : Int)] 78)) := (Keeps.refl _ w).alloc _
  obtain ⟨w0, hw0⟩ : ∃ w0, w0 = w.alloc (.cells #[.int .i64 13, .int .i64 o, .int .u32 (m : Int), .int .u32 (n : Int), .int .u32 (b : Int)] 78) := ⟨_, rfl⟩
  have h0 := h.quiet hq
  have hb0 : w0.heap[w.heap.size]? = some (.cells #[.int .i64 13, .int .i64 o, .int .u32 (m : Int), .int .u32 (n : Int), .int .u32 (b : Int)] 78 (0, 0)) := by rw [hw0]; exact heap_new w _
  have hl0 : w.heap.size < w0.heap.size := lt_of hb0
  rw [← hw0] at h0 hq
  have HNO := Lib.hid (fun W (k : KeepsS P w0 W) => k.at hb0 (by decide))
  have HQ := Lib.hid (kS_none (P := P) hq)
  have dz : ((n : Int) == 0) = true := beq_iff_eq.2 (by omega)
  have dz2 : decide (0 < n) = false := decide_eq_false (by omega)
  have dz3 : decide ((0 : Int) < (n : Int)) = false := decide_eq_false (by omega)
  clear h00
  have HL := Lib.hid (sc_rturn w0 P a M h0 (t : Int))
  have c34 := h0.cRk
  rw [hw0] at HL HQ c34
  have HX := Lib.hid (And.intro hw0 (And.intro h0 hb0))
  have c33 := h0.cCur
  rw [hcur] at c33
  have ct := h0.cTask t ht
  have n0 : ((t : Int) == -1) = false := beq_eq_false_iff_ne.2 (by omega)
  have n0' : ((t : Int) = -1) = False := eq_false (by omega)
  have d1 : decide ((t : Int) < 16) = true := decide_eq_true (by omega)
  have d2 : t < 16 := by omega
  have d3 : (0 : Int) ≤ (t : Int) := by omega
  have d4 : (t : Int) < 16 := by omega
  rw [hw0] at c33 ct
  clear h hq hw0 h0 hb0 hl0
  go_enter Tryz.func81, Tryz.ntmps81
  go_wp2_with fail
  refine HL.out.mono ?_
  rintro e w1 ⟨rfl, h1, k1⟩
  have K1 := Lib.hid (kS HQ.out k1)
  have HG := Lib.hid (sc_give w1 P a _ h1 t ht true 0 0)
  clear h1 k1 HL
  go_wp2_with fail
  refine HG.out.mono ?_
  rintro e w2 ⟨rfl, h2, k2⟩
  have H2 := Lib.hid h2
  have K2 := Lib.hid (kS K1.out k2)
  clear h2 k2 HG
  go_wp2_with fail
  go_ret
  exact ⟨rfl, H2.out, K2.out⟩
set_option maxRecDepth 20000 in
set_option maxHeartbeats 2000000 in
theorem serve_yield (w : World) (P : Nat → Prop) (a : ScA) (M : ScM) (h : ScW w P a M) (hn : a.n = M.many) (t : Nat) (ht : t < M.many) (hcur : M.cur = (t : Int)) (o : Int) (m n b : Nat) (hn32 : n < 4294967296) (hb32 : b < 4294967296)  :
    Calls Tryz.prog 81 #[.pointer (some ⟨a.s, 0, none⟩), .agg #[.int .i64 12, .int .i64 o, .int .u32 (m : Int), .int .u32 (n : Int), .int .u32 (b : Int)]] w fun e w' => e = .returned (.int .i64 0) ∧ ScW w' P a (yieldM M t) ∧ KeepsS P w w' := by
  have hmf : ∀ (fn : Fn) (first cap : Array Value) (w : World), (Instr.makeFunc fn first cap).run Tryz.prog w = .ok (.func fn first cap) w := fun _ _ _ _ => rfl
  have le := h.le
  have hq : Keeps (fun _ => False) w (w.alloc (.cells #[.int .i64 12, .int .i64 o, .int .u32 (m : Int), .int .u32 (n : Int), .int .u32 (b : Int)] 78)) := (Keeps.refl _ w).alloc _
  obtain ⟨w0, hw0⟩ : ∃ w0, w0 = w.alloc (.cells #[.int .i64 12, .int .i64 o, .int .u32 (m : Int), .int .u32 (n : Int), .int .u32 (b : Int)] 78) := ⟨_, rfl⟩
  have h0 := h.quiet hq
  have hb0 : w0.heap[w.heap.size]? = some (.cells #[.int .i64 12, .int .i64 o, .int .u32 (m : Int), .int .u32 (n : Int), .int .u32 (b : Int)] 78 (0, 0)) := by rw [hw0]; exact heap_new w _
  have hl0 : w.heap.size < w0.heap.size := lt_of hb0
  rw [← hw0] at h0 hq
  have HNO := Lib.hid (fun W (k : KeepsS P w0 W) => k.at hb0 (by decide))
  have HQ := Lib.hid (kS_none (P := P) hq)
  have HL := Lib.hid (sc_rturn w0 P a M h0 (t : Int))
  have c34 := h0.cRk
  rw [hw0] at HL HQ c34
  have HX := Lib.hid (And.intro hw0 (And.intro h0 hb0))
  have c33 := h0.cCur
  rw [hcur] at c33
  have ct := h0.cTask t ht
  have n0 : ((t : Int) == -1) = false := beq_eq_false_iff_ne.2 (by omega)
  have n0' : ((t : Int) = -1) = False := eq_false (by omega)
  have d1 : decide ((t : Int) < 16) = true := decide_eq_true (by omega)
  have d2 : t < 16 := by omega
  have d3 : (0 : Int) ≤ (t : Int) := by omega
  have d4 : (t : Int) < 16 := by omega
  rw [hw0] at c33 ct
  clear h hq hw0 h0 hb0 hl0
  go_enter Tryz.func81, Tryz.ntmps81
  go_wp2_with fail
  refine HL.out.mono ?_
  rintro e w1 ⟨rfl, h1, k1⟩
  have K1 := Lib.hid (kS HQ.out k1)
  have HG := Lib.hid (sc_give w1 P a _ h1 t ht true 0 0)
  clear h1 k1 HL
  go_wp2_with fail
  refine HG.out.mono ?_
  rintro e w2 ⟨rfl, h2, k2⟩
  have H2 := Lib.hid h2
  have K2 := Lib.hid (kS K1.out k2)
  clear h2 k2 HG
  go_wp2_with fail
  go_ret
  exact ⟨rfl, H2.out, K2.out⟩
set_option maxRecDepth 20000 in
set_option maxHeartbeats 2000000 in
theorem serve_await_some (w : World) (P : Nat → Prop) (a : ScA) (M : ScM) (h : ScW w P a M) (hn : a.n = M.many) (t : Nat) (ht : t < M.many) (hcur : M.cur = (t : Int)) (o : Int) (m n b : Nat) (hn32 : n < 4294967296) (hb32 : b < 4294967296) (hbits : M.bits t ≠ 0) :
    Calls Tryz.prog 81 #[.pointer (some ⟨a.s, 0, none⟩), .agg #[.int .i64 18, .int .i64 o, .int .u32 (m : Int), .int .u32 (n : Int), .int .u32 (b : Int)]] w fun e w' => e = .returned (.int .i64 0) ∧ ScW w' P a (giveM (clearM M t) t (true, (M.bits t : Int), (n : Int))) ∧ KeepsS P w w' := by
  have hmf : ∀ (fn : Fn) (first cap : Array Value) (w : World), (Instr.makeFunc fn first cap).run Tryz.prog w = .ok (.func fn first cap) w := fun _ _ _ _ => rfl
  have le := h.le
  have hq : Keeps (fun _ => False) w (w.alloc (.cells #[.int .i64 18, .int .i64 o, .int .u32 (m : Int), .int .u32 (n : Int), .int .u32 (b : Int)] 78)) := (Keeps.refl _ w).alloc _
  obtain ⟨w0, hw0⟩ : ∃ w0, w0 = w.alloc (.cells #[.int .i64 18, .int .i64 o, .int .u32 (m : Int), .int .u32 (n : Int), .int .u32 (b : Int)] 78) := ⟨_, rfl⟩
  have h0 := h.quiet hq
  have hb0 : w0.heap[w.heap.size]? = some (.cells #[.int .i64 18, .int .i64 o, .int .u32 (m : Int), .int .u32 (n : Int), .int .u32 (b : Int)] 78 (0, 0)) := by rw [hw0]; exact heap_new w _
  have hl0 : w.heap.size < w0.heap.size := lt_of hb0
  rw [← hw0] at h0 hq
  have HNO := Lib.hid (fun W (k : KeepsS P w0 W) => k.at hb0 (by decide))
  have HQ := Lib.hid (kS_none (P := P) hq)
  have db : ((M.bits t : Int) != 0) = true := bne_iff_ne.2 (by omega)
  have db' : ((M.bits t : Int) = 0) = False := eq_false (by omega)
  have HL := Lib.hid (sc_clear w0 P a M h0 t ht)
  rw [hw0] at HL HQ
  have HX := Lib.hid (And.intro hw0 (And.intro h0 hb0))
  have c33 := h0.cCur
  rw [hcur] at c33
  have ct := h0.cTask t ht
  have n0 : ((t : Int) == -1) = false := beq_eq_false_iff_ne.2 (by omega)
  have n0' : ((t : Int) = -1) = False := eq_false (by omega)
  have d1 : decide ((t : Int) < 16) = true := decide_eq_true (by omega)
  have d2 : t < 16 := by omega
  have d3 : (0 : Int) ≤ (t : Int) := by omega
  have d4 : (t : Int) < 16 := by omega
  rw [hw0] at c33 ct
  clear h hq hw0 h0 hb0 hl0
  go_enter Tryz.func81, Tryz.ntmps81
  go_wp2_with fail
  refine HL.out.mono ?_
  rintro e w1 ⟨rfl, h1, k1⟩
  have bx := HNO.out w1 (by rw [HX.out.1]; exact k1)
  have b3 := cell_of bx 3
  simp only [List.getElem?_toArray, List.getElem?_cons_zero, List.getElem?_cons_succ] at b3
  have K1 := Lib.hid (kS HQ.out k1)
  have HG := Lib.hid (sc_give w1 P a _ h1 t ht true (M.bits t : Int) (n : Int))
  clear h1 k1 HL bx
  go_wp2_with fail
  refine HG.out.mono ?_
  rintro e w2 ⟨rfl, h2, k2⟩
  have H2 := Lib.hid h2
  have K2 := Lib.hid (kS K1.out k2)
  clear h2 k2 HG
  go_wp2_with fail
  go_ret
  exact ⟨rfl, H2.out, K2.out⟩
set_option maxRecDepth 20000 in
set_option maxHeartbeats 2000000 in
theorem serve_await_zero (w : World) (P : Nat → Prop) (a : ScA) (M : ScM) (h : ScW w P a M) (hn : a.n = M.many) (t : Nat) (ht : t < M.many) (hcur : M.cur = (t : Int)) (o : Int) (m n b : Nat) (hn32 : n < 4294967296) (hb32 : b < 4294967296) (hbits : M.bits t = 0) (h00 : n = 0) :
    Calls Tryz.prog 81 #[.pointer (some ⟨a.s, 0, none⟩), .agg #[.int .i64 18, .int .i64 o, .int .u32 (m : Int), .int .u32 (n : Int), .int .u32 (b : Int)]] w fun e w' => e = .returned (.int .i64 0) ∧ ScW w' P a (giveM (clearM M t) t (false, 0, 0)) ∧ KeepsS P w w' := by
  have hmf : ∀ (fn : Fn) (first cap : Array Value) (w : World), (Instr.makeFunc fn first cap).run Tryz.prog w = .ok (.func fn first cap) w := fun _ _ _ _ => rfl
  have le := h.le
  have hq : Keeps (fun _ => False) w (w.alloc (.cells #[.int .i64 18, .int .i64 o, .int .u32 (m : Int), .int .u32 (n : Int), .int .u32 (b : Int)] 78)) := (Keeps.refl _ w).alloc _
  obtain ⟨w0, hw0⟩ : ∃ w0, w0 = w.alloc (.cells #[.int .i64 18, .int .i64 o, .int .u32 (m : Int), .int .u32 (n : Int), .int .u32 (b : Int)] 78) := ⟨_, rfl⟩
  have h0 := h.quiet hq
  have hb0 : w0.heap[w.heap.size]? = some (.cells #[.int .i64 18, .int .i64 o, .int .u32 (m : Int), .int .u32 (n : Int), .int .u32 (b : Int)] 78 (0, 0)) := by rw [hw0]; exact heap_new w _
  have hl0 : w.heap.size < w0.heap.size := lt_of hb0
  rw [← hw0] at h0 hq
  have HNO := Lib.hid (fun W (k : KeepsS P w0 W) => k.at hb0 (by decide))
  have HQ := Lib.hid (kS_none (P := P) hq)
  have dz : ((n : Int) == 0) = true := beq_iff_eq.2 (by omega)
  have dz2 : decide (0 < n) = false := decide_eq_false (by omega)
  have dz3 : decide ((0 : Int) < (n : Int)) = false := decide_eq_false (by omega)
  clear h00
  have HL := Lib.hid (sc_clear w0 P a M h0 t ht)
  rw [hbits] at HL
  rw [hw0] at HL HQ
  have HX := Lib.hid (And.intro hw0 (And.intro h0 hb0))
  have c33 := h0.cCur
  rw [hcur] at c33
  have ct := h0.cTask t ht
  have n0 : ((t : Int) == -1) = false := beq_eq_false_iff_ne.2 (by omega)
  have n0' : ((t : Int) = -1) = False := eq_false (by omega)
  have d1 : decide ((t : Int) < 16) = true := decide_eq_true (by omega)
  have d2 : t < 16 := by omega
  have d3 : (0 : Int) ≤ (t : Int) := by omega
  have d4 : (t : Int) < 16 := by omega
  rw [hw0] at c33 ct
  clear h hq hw0 h0 hb0 hl0
  go_enter Tryz.func81, Tryz.ntmps81
  go_wp2_with fail
  refine HL.out.mono ?_
  rintro e w1 ⟨rfl, h1, k1⟩
  have bx := HNO.out w1 (by rw [HX.out.1]; exact k1)
  have b3 := cell_of bx 3
  simp only [List.getElem?_toArray, List.getElem?_cons_zero, List.getElem?_cons_succ] at b3
  have f1 := free_of bx 1
  have f2 := free_of bx 2
  obtain ⟨v1, v1e⟩ : ∃ v, w1.cell? ⟨w.heap.size, 1, none⟩ = some v := ⟨_, (cell_of bx 1).trans rfl⟩
  obtain ⟨v2, v2e⟩ : ∃ v, w1.cell? ⟨w.heap.size, 2, none⟩ = some v := ⟨_, (cell_of bx 2).trans rfl⟩
  obtain ⟨w2, hw2⟩ : ∃ w2, w2 = ((w1.setCell ⟨w.heap.size, 1, none⟩ (.int .i64 0)).setCell ⟨w.heap.size, 2, none⟩ (.int .u32 0)) := ⟨_, rfl⟩
  have hkt : KeepsTy [78] w1 w2 := by
    rw [hw2]
    exact ((Keeps.refl _ w1).setCell (p := ⟨w.heap.size, 1, none⟩) (.inl ⟨_, .head _, _, _, bx⟩) _).setCell (p := ⟨w.heap.size, 2, none⟩) (.inl ⟨_, .head _, _, _, bx⟩) _
  have h2 := h1.keepTy hkt (by decide)
  have by2 : w2.heap[w.heap.size]? = some (.cells #[.int .i64 18, .int .i64 0, .int .u32 0, .int .u32 (n : Int), .int .u32 (b : Int)] 78 (0, 0)) := by rw [hw2]; exact heap_set (heap_set bx 1 _) 2 _
  have hbox : ¬ w.heap.size < w.heap.size := Nat.lt_irrefl _
  have K2 := Lib.hid (show KeepsS P w w2 from by
    have hk := kS HQ.out k1
    rw [hw2]
    exact (hk.setCell (p := ⟨w.heap.size, 1, none⟩) (.inr (Nat.le_refl _)) _).setCell (p := ⟨w.heap.size, 2, none⟩) (.inr (Nat.le_refl _)) _)
  have HW2 := Lib.hid hw2
  have HG := Lib.hid (sc_give w2 P a _ h2 t ht false 0 0)
  clear h1 k1 HL bx hkt h2 by2 hw2
  go_wp2_with fail
  rw [← HW2.out]
  refine HG.out.mono ?_
  rintro e w3 ⟨rfl, h3, k3⟩
  have H3 := Lib.hid h3
  have K3 := Lib.hid (kS K2.out k3)
  clear h3 k3 HG
  go_wp2_with fail
  go_ret
  exact ⟨rfl, H3.out, K3.out⟩
set_option maxRecDepth 20000 in
set_option maxHeartbeats 2000000 in
theorem serve_await_wait (w : World) (P : Nat → Prop) (a : ScA) (M : ScM) (h : ScW w P a M) (hn : a.n = M.many) (t : Nat) (ht : t < M.many) (hcur : M.cur = (t : Int)) (o : Int) (m n b : Nat) (hn32 : n < 4294967296) (hb32 : b < 4294967296) (hbits : M.bits t = 0) (hpos : 0 < n) :
    Calls Tryz.prog 81 #[.pointer (some ⟨a.s, 0, none⟩), .agg #[.int .i64 18, .int .i64 o, .int .u32 (m : Int), .int .u32 (n : Int), .int .u32 (b : Int)]] w fun e w' => e = .returned (.int .i64 0) ∧ ScW w' P a (waitM (clearM M t) t 18 0 0 n) ∧ KeepsS P w w' := by
  have hmf : ∀ (fn : Fn) (first cap : Array Value) (w : World), (Instr.makeFunc fn first cap).run Tryz.prog w = .ok (.func fn first cap) w := fun _ _ _ _ => rfl
  have le := h.le
  have hq : Keeps (fun _ => False) w (w.alloc (.cells #[.int .i64 18, .int .i64 o, .int .u32 (m : Int), .int .u32 (n : Int), .int .u32 (b : Int)] 78)) := (Keeps.refl _ w).alloc _
  obtain ⟨w0, hw0⟩ : ∃ w0, w0 = w.alloc (.cells #[.int .i64 18, .int .i64 o, .int .u32 (m : Int), .int .u32 (n : Int), .int .u32 (b : Int)] 78) := ⟨_, rfl⟩
  have h0 := h.quiet hq
  have hb0 : w0.heap[w.heap.size]? = some (.cells #[.int .i64 18, .int .i64 o, .int .u32 (m : Int), .int .u32 (n : Int), .int .u32 (b : Int)] 78 (0, 0)) := by rw [hw0]; exact heap_new w _
  have hl0 : w.heap.size < w0.heap.size := lt_of hb0
  rw [← hw0] at h0 hq
  have HNO := Lib.hid (fun W (k : KeepsS P w0 W) => k.at hb0 (by decide))
  have HQ := Lib.hid (kS_none (P := P) hq)
  have dn : ((n : Int) == 0) = false := beq_eq_false_iff_ne.2 (by omega)
  have dn' : ((n : Int) = 0) = False := eq_false (by omega)
  have HL := Lib.hid (sc_clear w0 P a M h0 t ht)
  rw [hbits] at HL
  rw [hw0] at HL HQ
  have HX := Lib.hid (And.intro hw0 (And.intro h0 hb0))
  have c33 := h0.cCur
  rw [hcur] at c33
  have ct := h0.cTask t ht
  have n0 : ((t : Int) == -1) = false := beq_eq_false_iff_ne.2 (by omega)
  have n0' : ((t : Int) = -1) = False := eq_false (by omega)
  have d1 : decide ((t : Int) < 16) = true := decide_eq_true (by omega)
  have d2 : t < 16 := by omega
  have d3 : (0 : Int) ≤ (t : Int) := by omega
  have d4 : (t : Int) < 16 := by omega
  rw [hw0] at c33 ct
  clear h hq hw0 h0 hb0 hl0
  go_enter Tryz.func81, Tryz.ntmps81
  go_wp2_with fail
  refine HL.out.mono ?_
  rintro e w1 ⟨rfl, h1, k1⟩
  have bx := HNO.out w1 (by rw [HX.out.1]; exact k1)
  have b3 := cell_of bx 3
  simp only [List.getElem?_toArray, List.getElem?_cons_zero, List.getElem?_cons_succ] at b3
  have f1 := free_of bx 1
  have f2 := free_of bx 2
  obtain ⟨v1, v1e⟩ : ∃ v, w1.cell? ⟨w.heap.size, 1, none⟩ = some v := ⟨_, (cell_of bx 1).trans rfl⟩
  obtain ⟨v2, v2e⟩ : ∃ v, w1.cell? ⟨w.heap.size, 2, none⟩ = some v := ⟨_, (cell_of bx 2).trans rfl⟩
  obtain ⟨w2, hw2⟩ : ∃ w2, w2 = ((w1.setCell ⟨w.heap.size, 1, none⟩ (.int .i64 0)).setCell ⟨w.heap.size, 2, none⟩ (.int .u32 0)) := ⟨_, rfl⟩
  have hkt : KeepsTy [78] w1 w2 := by
    rw [hw2]
    exact ((Keeps.refl _ w1).setCell (p := ⟨w.heap.size, 1, none⟩) (.inl ⟨_, .head _, _, _, bx⟩) _).setCell (p := ⟨w.heap.size, 2, none⟩) (.inl ⟨_, .head _, _, _, bx⟩) _
  have h2 := h1.keepTy hkt (by decide)
  have by2 : w2.heap[w.heap.size]? = some (.cells #[.int .i64 18, .int .i64 0, .int .u32 0, .int .u32 (n : Int), .int .u32 (b : Int)] 78 (0, 0)) := by rw [hw2]; exact heap_set (heap_set bx 1 _) 2 _
  have hbox : ¬ w.heap.size < w.heap.size := Nat.lt_irrefl _
  have K2 := Lib.hid (show KeepsS P w w2 from by
    have hk := kS HQ.out k1
    rw [hw2]
    exact (hk.setCell (p := ⟨w.heap.size, 1, none⟩) (.inr (Nat.le_refl _)) _).setCell (p := ⟨w.heap.size, 2, none⟩) (.inr (Nat.le_refl _)) _)
  have y0 := cell_of by2 0
  have y1 := cell_of by2 1
  have y2 := cell_of by2 2
  have y3 := cell_of by2 3
  have y4 := cell_of by2 4
  simp only [List.getElem?_toArray, List.getElem?_cons_zero, List.getElem?_cons_succ] at y0 y1 y2 y3 y4
  have HWT := Lib.hid (fun W (hk : Keeps (fun _ => False) w2 W) => wait_any W P a _ (h2.quiet hk) t ht 18 0 0 n b hn32)
  have HW2 := Lib.hid hw2
  have HB2 := Lib.hid (fun W (k : KeepsS P w2 W) => k.at by2 (by decide))
  clear h1 k1 HL bx hkt h2 by2
  rw [hw2] at HWT K2 y0 y1 y2 y3 y4
  clear hw2
  go_wp2_with fail
  go_region_held3 (fun w' => w'.cell? ⟨w.heap.size, 0, none⟩ = some (.int .i64 18) ∧ w'.cell? ⟨w.heap.size, 1, none⟩ = some (.int .i64 0) ∧ w'.cell? ⟨w.heap.size, 2, none⟩ = some (.int .u32 0) ∧ w'.cell? ⟨w.heap.size, 3, none⟩ = some (.int .u32 (n : Int)) ∧ w'.cell? ⟨w.heap.size, 4, none⟩ = some (.int .u32 (b : Int)))
    (first
      | go_keep
      | exact ⟨y0, y1, y2, y3, y4⟩
      | exact ⟨z0, z1, z2, z3, z4⟩)
    ((go_at_call 136; refine (HWT.out _ (by first | exact (Keeps.refl _ _).drew | exact (Keeps.refl _ _).drewN _ | exact Keeps.refl _ _)).mono ?_; rintro e w3 ⟨rfl, h3, k3⟩; have H3 := Lib.hid h3; have K3 := Lib.hid (kS K2.out (kS (by first | exact (Keeps.refl _ _).drew | exact (Keeps.refl _ _).drewN _ | exact Keeps.refl _ _) k3)); have bz := HB2.out w3 (by rw [HW2.out]; exact kS (by first | exact (Keeps.refl _ _).drew | exact (Keeps.refl _ _).drewN _ | exact Keeps.refl _ _) k3); have z0 := cell_of bz 0; have z1 := cell_of bz 1; have z2 := cell_of bz 2; have z3 := cell_of bz 3; have z4 := cell_of bz 4; simp only [List.getElem?_toArray, List.getElem?_cons_zero, List.getElem?_cons_succ] at z0 z1 z2 z3 z4; clear bz; clear h3 k3 HWT))
  go_wp2_with fail
  go_ret
  exact ⟨rfl, H3.out, K3.out⟩
set_option maxRecDepth 20000 in
set_option maxHeartbeats 2000000 in
theorem serve_w14_zero (w : World) (P : Nat → Prop) (a : ScA) (M : ScM) (h : ScW w P a M) (hn : a.n = M.many) (t : Nat) (ht : t < M.many) (hcur : M.cur = (t : Int)) (o : Int) (m n b : Nat) (hn32 : n < 4294967296) (hb32 : b < 4294967296) (h00 : n = 0) :
    Calls Tryz.prog 81 #[.pointer (some ⟨a.s, 0, none⟩), .agg #[.int .i64 14, .int .i64 o, .int .u32 (m : Int), .int .u32 (n : Int), .int .u32 (b : Int)]] w fun e w' => e = .returned (.int .i64 0) ∧ ScW w' P a (giveM M t (false, 0, 0)) ∧ KeepsS P w w' := by
  have hmf : ∀ (fn : Fn) (first cap : Array Value) (w : World), (Instr.makeFunc fn first cap).run Tryz.prog w = .ok (.func fn first cap) w := fun _ _ _ _ => rfl
  have le := h.le
  have hq : Keeps (fun _ => False) w (w.alloc (.cells #[.int .i64 14, .int .i64 o, .int .u32 (m : Int), .int .u32 (n : Int), .int .u32 (b : Int)] 78)) := (Keeps.refl _ w).alloc _
  obtain ⟨w0, hw0⟩ : ∃ w0, w0 = w.alloc (.cells #[.int .i64 14, .int .i64 o, .int .u32 (m : Int), .int .u32 (n : Int), .int .u32 (b : Int)] 78) := ⟨_, rfl⟩
  have h0 := h.quiet hq
  have hb0 : w0.heap[w.heap.size]? = some (.cells #[.int .i64 14, .int .i64 o, .int .u32 (m : Int), .int .u32 (n : Int), .int .u32 (b : Int)] 78 (0, 0)) := by rw [hw0]; exact heap_new w _
  have hl0 : w.heap.size < w0.heap.size := lt_of hb0
  rw [← hw0] at h0 hq
  have HNO := Lib.hid (fun W (k : KeepsS P w0 W) => k.at hb0 (by decide))
  have HQ := Lib.hid (kS_none (P := P) hq)
  have dz : ((n : Int) == 0) = true := beq_iff_eq.2 (by omega)
  have dz2 : decide (0 < n) = false := decide_eq_false (by omega)
  have dz3 : decide ((0 : Int) < (n : Int)) = false := decide_eq_false (by omega)
  clear h00
  have HG := Lib.hid (sc_give w0 P a M h0 t ht false 0 0)
  rw [hw0] at HG HQ
  have HX := Lib.hid (And.intro hw0 (And.intro h0 hb0))
  have c33 := h0.cCur
  rw [hcur] at c33
  have ct := h0.cTask t ht
  have n0 : ((t : Int) == -1) = false := beq_eq_false_iff_ne.2 (by omega)
  have n0' : ((t : Int) = -1) = False := eq_false (by omega)
  have d1 : decide ((t : Int) < 16) = true := decide_eq_true (by omega)
  have d2 : t < 16 := by omega
  have d3 : (0 : Int) ≤ (t : Int) := by omega
  have d4 : (t : Int) < 16 := by omega
  rw [hw0] at c33 ct
  clear h hq hw0 h0 hb0 hl0
  go_enter Tryz.func81, Tryz.ntmps81
  go_wp2_with fail
  refine HG.out.mono ?_
  rintro e w1 ⟨rfl, h1, k1⟩
  have H1 := Lib.hid h1
  have K1 := Lib.hid (kS HQ.out k1)
  clear h1 k1 HG
  go_wp2_with fail
  go_ret
  exact ⟨rfl, H1.out, K1.out⟩
set_option maxRecDepth 20000 in
set_option maxHeartbeats 2000000 in
theorem serve_w14 (w : World) (P : Nat → Prop) (a : ScA) (M : ScM) (h : ScW w P a M) (hn : a.n = M.many) (t : Nat) (ht : t < M.many) (hcur : M.cur = (t : Int)) (o : Int) (m n b : Nat) (hn32 : n < 4294967296) (hb32 : b < 4294967296) (hpos : 0 < n) :
    Calls Tryz.prog 81 #[.pointer (some ⟨a.s, 0, none⟩), .agg #[.int .i64 14, .int .i64 o, .int .u32 (m : Int), .int .u32 (n : Int), .int .u32 (b : Int)]] w fun e w' => e = .returned (.int .i64 0) ∧ ScW w' P a (waitM M t 14 o m n) ∧ KeepsS P w w' := by
  have hmf : ∀ (fn : Fn) (first cap : Array Value) (w : World), (Instr.makeFunc fn first cap).run Tryz.prog w = .ok (.func fn first cap) w := fun _ _ _ _ => rfl
  have le := h.le
  have hq : Keeps (fun _ => False) w (w.alloc (.cells #[.int .i64 14, .int .i64 o, .int .u32 (m : Int), .int .u32 (n : Int), .int .u32 (b : Int)] 78)) := (Keeps.refl _ w).alloc _
  obtain ⟨w0, hw0⟩ : ∃ w0, w0 = w.alloc (.cells #[.int .i64 14, .int .i64 o, .int .u32 (m : Int), .int .u32 (n : Int), .int .u32 (b : Int)] 78) := ⟨_, rfl⟩
  have h0 := h.quiet hq
  have hb0 : w0.heap[w.heap.size]? = some (.cells #[.int .i64 14, .int .i64 o, .int .u32 (m : Int), .int .u32 (n : Int), .int .u32 (b : Int)] 78 (0, 0)) := by rw [hw0]; exact heap_new w _
  have hl0 : w.heap.size < w0.heap.size := lt_of hb0
  rw [← hw0] at h0 hq
  have HNO := Lib.hid (fun W (k : KeepsS P w0 W) => k.at hb0 (by decide))
  have HQ := Lib.hid (kS_none (P := P) hq)
  have dn : ((n : Int) == 0) = false := beq_eq_false_iff_ne.2 (by omega)
  have dn' : ((n : Int) = 0) = False := eq_false (by omega)
  have HWT := Lib.hid (fun W (hk : Keeps (fun _ => False) w0 W) => wait_any W P a M (h0.quiet hk) t ht 14 o m n b hn32)
  have y0 := cell_of hb0 0
  have y1 := cell_of hb0 1
  have y2 := cell_of hb0 2
  have y3 := cell_of hb0 3
  have y4 := cell_of hb0 4
  simp only [List.getElem?_toArray, List.getElem?_cons_zero, List.getElem?_cons_succ] at y0 y1 y2 y3 y4
  rw [hw0] at HWT HQ y0 y1 y2 y3 y4
  have HX := Lib.hid (And.intro hw0 (And.intro h0 hb0))
  have c33 := h0.cCur
  rw [hcur] at c33
  have ct := h0.cTask t ht
  have n0 : ((t : Int) == -1) = false := beq_eq_false_iff_ne.2 (by omega)
  have n0' : ((t : Int) = -1) = False := eq_false (by omega)
  have d1 : decide ((t : Int) < 16) = true := decide_eq_true (by omega)
  have d2 : t < 16 := by omega
  have d3 : (0 : Int) ≤ (t : Int) := by omega
  have d4 : (t : Int) < 16 := by omega
  rw [hw0] at c33 ct
  clear h hq hw0 h0 hb0 hl0
  go_enter Tryz.func81, Tryz.ntmps81
  go_wp2_with fail
  go_region_held3 (fun w' => w'.cell? ⟨w.heap.size, 0, none⟩ = some (.int .i64 14) ∧ w'.cell? ⟨w.heap.size, 1, none⟩ = some (.int .i64 o) ∧ w'.cell? ⟨w.heap.size, 2, none⟩ = some (.int .u32 (m : Int)) ∧ w'.cell? ⟨w.heap.size, 3, none⟩ = some (.int .u32 (n : Int)) ∧ w'.cell? ⟨w.heap.size, 4, none⟩ = some (.int .u32 (b : Int)))
    (first
      | go_keep
      | exact ⟨y0, y1, y2, y3, y4⟩
      | exact ⟨z0, z1, z2, z3, z4⟩)
    ((go_at_call 136; refine (HWT.out _ (by first | exact (Keeps.refl _ _).drew | exact (Keeps.refl _ _).drewN _ | exact Keeps.refl _ _)).mono ?_; rintro e w3 ⟨rfl, h3, k3⟩; have H3 := Lib.hid h3; have K3 := Lib.hid (kS HQ.out (kS (by first | exact (Keeps.refl _ _).drew | exact (Keeps.refl _ _).drewN _ | exact Keeps.refl _ _) k3)); have bz := HNO.out w3 (by rw [HX.out.1]; exact kS (by first | exact (Keeps.refl _ _).drew | exact (Keeps.refl _ _).drewN _ | exact Keeps.refl _ _) k3); have z0 := cell_of bz 0; have z1 := cell_of bz 1; have z2 := cell_of bz 2; have z3 := cell_of bz 3; have z4 := cell_of bz 4; simp only [List.getElem?_toArray, List.getElem?_cons_zero, List.getElem?_cons_succ] at z0 z1 z2 z3 z4; clear bz; clear h3 k3 HWT))
  go_wp2_with fail
  go_ret
  exact ⟨rfl, H3.out, K3.out⟩
set_option maxRecDepth 20000 in
set_option maxHeartbeats 2000000 in
theorem serve_w15_zero (w : World) (P : Nat → Prop) (a : ScA) (M : ScM) (h : ScW w P a M) (hn : a.n = M.many) (t : Nat) (ht : t < M.many) (hcur : M.cur = (t : Int)) (o : Int) (m n b : Nat) (hn32 : n < 4294967296) (hb32 : b < 4294967296) (h00 : n = 0) :
    Calls Tryz.prog 81 #[.pointer (some ⟨a.s, 0, none⟩), .agg #[.int .i64 15, .int .i64 o, .int .u32 (m : Int), .int .u32 (n : Int), .int .u32 (b : Int)]] w fun e w' => e = .returned (.int .i64 0) ∧ ScW w' P a (giveM M t (false, 0, 0)) ∧ KeepsS P w w' := by
  have hmf : ∀ (fn : Fn) (first cap : Array Value) (w : World), (Instr.makeFunc fn first cap).run Tryz.prog w = .ok (.func fn first cap) w := fun _ _ _ _ => rfl
  have le := h.le
  have hq : Keeps (fun _ => False) w (w.alloc (.cells #[.int .i64 15, .int .i64 o, .int .u32 (m : Int), .int .u32 (n : Int), .int .u32 (b : Int)] 78)) := (Keeps.refl _ w).alloc _
  obtain ⟨w0, hw0⟩ : ∃ w0, w0 = w.alloc (.cells #[.int .i64 15, .int .i64 o, .int .u32 (m : Int), .int .u32 (n : Int), .int .u32 (b : Int)] 78) := ⟨_, rfl⟩
  have h0 := h.quiet hq
  have hb0 : w0.heap[w.heap.size]? = some (.cells #[.int .i64 15, .int .i64 o, .int .u32 (m : Int), .int .u32 (n : Int), .int .u32 (b : Int)] 78 (0, 0)) := by rw [hw0]; exact heap_new w _
  have hl0 : w.heap.size < w0.heap.size := lt_of hb0
  rw [← hw0] at h0 hq
  have HNO := Lib.hid (fun W (k : KeepsS P w0 W) => k.at hb0 (by decide))
  have HQ := Lib.hid (kS_none (P := P) hq)
  have dz : ((n : Int) == 0) = true := beq_iff_eq.2 (by omega)
  have dz2 : decide (0 < n) = false := decide_eq_false (by omega)
  have dz3 : decide ((0 : Int) < (n : Int)) = false := decide_eq_false (by omega)
  clear h00
  have HG := Lib.hid (sc_give w0 P a M h0 t ht false 0 0)
  rw [hw0] at HG HQ
  have HX := Lib.hid (And.intro hw0 (And.intro h0 hb0))
  have c33 := h0.cCur
  rw [hcur] at c33
  have ct := h0.cTask t ht
  have n0 : ((t : Int) == -1) = false := beq_eq_false_iff_ne.2 (by omega)
  have n0' : ((t : Int) = -1) = False := eq_false (by omega)
  have d1 : decide ((t : Int) < 16) = true := decide_eq_true (by omega)
  have d2 : t < 16 := by omega
  have d3 : (0 : Int) ≤ (t : Int) := by omega
  have d4 : (t : Int) < 16 := by omega
  rw [hw0] at c33 ct
  clear h hq hw0 h0 hb0 hl0
  go_enter Tryz.func81, Tryz.ntmps81
  go_wp2_with fail
  refine HG.out.mono ?_
  rintro e w1 ⟨rfl, h1, k1⟩
  have H1 := Lib.hid h1
  have K1 := Lib.hid (kS HQ.out k1)
  clear h1 k1 HG
  go_wp2_with fail
  go_ret
  exact ⟨rfl, H1.out, K1.out⟩
set_option maxRecDepth 20000 in
set_option maxHeartbeats 2000000 in
theorem serve_w15 (w : World) (P : Nat → Prop) (a : ScA) (M : ScM) (h : ScW w P a M) (hn : a.n = M.many) (t : Nat) (ht : t < M.many) (hcur : M.cur = (t : Int)) (o : Int) (m n b : Nat) (hn32 : n < 4294967296) (hb32 : b < 4294967296) (hpos : 0 < n) :
    Calls Tryz.prog 81 #[.pointer (some ⟨a.s, 0, none⟩), .agg #[.int .i64 15, .int .i64 o, .int .u32 (m : Int), .int .u32 (n : Int), .int .u32 (b : Int)]] w fun e w' => e = .returned (.int .i64 0) ∧ ScW w' P a (waitM M t 15 o m n) ∧ KeepsS P w w' := by
  have hmf : ∀ (fn : Fn) (first cap : Array Value) (w : World), (Instr.makeFunc fn first cap).run Tryz.prog w = .ok (.func fn first cap) w := fun _ _ _ _ => rfl
  have le := h.le
  have hq : Keeps (fun _ => False) w (w.alloc (.cells #[.int .i64 15, .int .i64 o, .int .u32 (m : Int), .int .u32 (n : Int), .int .u32 (b : Int)] 78)) := (Keeps.refl _ w).alloc _
  obtain ⟨w0, hw0⟩ : ∃ w0, w0 = w.alloc (.cells #[.int .i64 15, .int .i64 o, .int .u32 (m : Int), .int .u32 (n : Int), .int .u32 (b : Int)] 78) := ⟨_, rfl⟩
  have h0 := h.quiet hq
  have hb0 : w0.heap[w.heap.size]? = some (.cells #[.int .i64 15, .int .i64 o, .int .u32 (m : Int), .int .u32 (n : Int), .int .u32 (b : Int)] 78 (0, 0)) := by rw [hw0]; exact heap_new w _
  have hl0 : w.heap.size < w0.heap.size := lt_of hb0
  rw [← hw0] at h0 hq
  have HNO := Lib.hid (fun W (k : KeepsS P w0 W) => k.at hb0 (by decide))
  have HQ := Lib.hid (kS_none (P := P) hq)
  have dn : ((n : Int) == 0) = false := beq_eq_false_iff_ne.2 (by omega)
  have dn' : ((n : Int) = 0) = False := eq_false (by omega)
  have HWT := Lib.hid (fun W (hk : Keeps (fun _ => False) w0 W) => wait_any W P a M (h0.quiet hk) t ht 15 o m n b hn32)
  have y0 := cell_of hb0 0
  have y1 := cell_of hb0 1
  have y2 := cell_of hb0 2
  have y3 := cell_of hb0 3
  have y4 := cell_of hb0 4
  simp only [List.getElem?_toArray, List.getElem?_cons_zero, List.getElem?_cons_succ] at y0 y1 y2 y3 y4
  rw [hw0] at HWT HQ y0 y1 y2 y3 y4
  have HX := Lib.hid (And.intro hw0 (And.intro h0 hb0))
  have c33 := h0.cCur
  rw [hcur] at c33
  have ct := h0.cTask t ht
  have n0 : ((t : Int) == -1) = false := beq_eq_false_iff_ne.2 (by omega)
  have n0' : ((t : Int) = -1) = False := eq_false (by omega)
  have d1 : decide ((t : Int) < 16) = true := decide_eq_true (by omega)
  have d2 : t < 16 := by omega
  have d3 : (0 : Int) ≤ (t : Int) := by omega
  have d4 : (t : Int) < 16 := by omega
  rw [hw0] at c33 ct
  clear h hq hw0 h0 hb0 hl0
  go_enter Tryz.func81, Tryz.ntmps81
  go_wp2_with fail
  go_region_held3 (fun w' => w'.cell? ⟨w.heap.size, 0, none⟩ = some (.int .i64 15) ∧ w'.cell? ⟨w.heap.size, 1, none⟩ = some (.int .i64 o) ∧ w'.cell? ⟨w.heap.size, 2, none⟩ = some (.int .u32 (m : Int)) ∧ w'.cell? ⟨w.heap.size, 3, none⟩ = some (.int .u32 (n : Int)) ∧ w'.cell? ⟨w.heap.size, 4, none⟩ = some (.int .u32 (b : Int)))
    (first
      | go_keep
      | exact ⟨y0, y1, y2, y3, y4⟩
      | exact ⟨z0, z1, z2, z3, z4⟩)
    ((go_at_call 136; refine (HWT.out _ (by first | exact (Keeps.refl _ _).drew | exact (Keeps.refl _ _).drewN _ | exact Keeps.refl _ _)).mono ?_; rintro e w3 ⟨rfl, h3, k3⟩; have H3 := Lib.hid h3; have K3 := Lib.hid (kS HQ.out (kS (by first | exact (Keeps.refl _ _).drew | exact (Keeps.refl _ _).drewN _ | exact Keeps.refl _ _) k3)); have bz := HNO.out w3 (by rw [HX.out.1]; exact kS (by first | exact (Keeps.refl _ _).drew | exact (Keeps.refl _ _).drewN _ | exact Keeps.refl _ _) k3); have z0 := cell_of bz 0; have z1 := cell_of bz 1; have z2 := cell_of bz 2; have z3 := cell_of bz 3; have z4 := cell_of bz 4; simp only [List.getElem?_toArray, List.getElem?_cons_zero, List.getElem?_cons_succ] at z0 z1 z2 z3 z4; clear bz; clear h3 k3 HWT))
  go_wp2_with fail
  go_ret
  exact ⟨rfl, H3.out, K3.out⟩
set_option maxRecDepth 20000 in
set_option maxHeartbeats 2000000 in
theorem serve_w16_zero (w : World) (P : Nat → Prop) (a : ScA) (M : ScM) (h : ScW w P a M) (hn : a.n = M.many) (t : Nat) (ht : t < M.many) (hcur : M.cur = (t : Int)) (o : Int) (m n b : Nat) (hn32 : n < 4294967296) (hb32 : b < 4294967296) (h00 : n = 0) :
    Calls Tryz.prog 81 #[.pointer (some ⟨a.s, 0, none⟩), .agg #[.int .i64 16, .int .i64 o, .int .u32 (m : Int), .int .u32 (n : Int), .int .u32 (b : Int)]] w fun e w' => e = .returned (.int .i64 0) ∧ ScW w' P a (giveM M t (false, 0, 0)) ∧ KeepsS P w w' := by
  have hmf : ∀ (fn : Fn) (first cap : Array Value) (w : World), (Instr.makeFunc fn first cap).run Tryz.prog w = .ok (.func fn first cap) w := fun _ _ _ _ => rfl
  have le := h.le
  have hq : Keeps (fun _ => False) w (w.alloc (.cells #[.int .i64 16, .int .i64 o, .int .u32 (m : Int), .int .u32 (n : Int), .int .u32 (b : Int)] 78)) := (Keeps.refl _ w).alloc _
  obtain ⟨w0, hw0⟩ : ∃ w0, w0 = w.alloc (.cells #[.int .i64 16, .int .i64 o, .int .u32 (m : Int), .int .u32 (n : Int), .int .u32 (b : Int)] 78) := ⟨_, rfl⟩
  have h0 := h.quiet hq
  have hb0 : w0.heap[w.heap.size]? = some (.cells #[.int .i64 16, .int .i64 o, .int .u32 (m : Int), .int .u32 (n : Int), .int .u32 (b : Int)] 78 (0, 0)) := by rw [hw0]; exact heap_new w _
  have hl0 : w.heap.size < w0.heap.size := lt_of hb0
  rw [← hw0] at h0 hq
  have HNO := Lib.hid (fun W (k : KeepsS P w0 W) => k.at hb0 (by decide))
  have HQ := Lib.hid (kS_none (P := P) hq)
  have dz : ((n : Int) == 0) = true := beq_iff_eq.2 (by omega)
  have dz2 : decide (0 < n) = false := decide_eq_false (by omega)
  have dz3 : decide ((0 : Int) < (n : Int)) = false := decide_eq_false (by omega)
  clear h00
  have HG := Lib.hid (sc_give w0 P a M h0 t ht false 0 0)
  rw [hw0] at HG HQ
  have HX := Lib.hid (And.intro hw0 (And.intro h0 hb0))
  have c33 := h0.cCur
  rw [hcur] at c33
  have ct := h0.cTask t ht
  have n0 : ((t : Int) == -1) = false := beq_eq_false_iff_ne.2 (by omega)
  have n0' : ((t : Int) = -1) = False := eq_false (by omega)
  have d1 : decide ((t : Int) < 16) = true := decide_eq_true (by omega)
  have d2 : t < 16 := by omega
  have d3 : (0 : Int) ≤ (t : Int) := by omega
  have d4 : (t : Int) < 16 := by omega
  rw [hw0] at c33 ct
  clear h hq hw0 h0 hb0 hl0
  go_enter Tryz.func81, Tryz.ntmps81
  go_wp2_with fail
  refine HG.out.mono ?_
  rintro e w1 ⟨rfl, h1, k1⟩
  have H1 := Lib.hid h1
  have K1 := Lib.hid (kS HQ.out k1)
  clear h1 k1 HG
  go_wp2_with fail
  go_ret
  exact ⟨rfl, H1.out, K1.out⟩
set_option maxRecDepth 20000 in
set_option maxHeartbeats 2000000 in
theorem serve_w16 (w : World) (P : Nat → Prop) (a : ScA) (M : ScM) (h : ScW w P a M) (hn : a.n = M.many) (t : Nat) (ht : t < M.many) (hcur : M.cur = (t : Int)) (o : Int) (m n b : Nat) (hn32 : n < 4294967296) (hb32 : b < 4294967296) (hpos : 0 < n) :
    Calls Tryz.prog 81 #[.pointer (some ⟨a.s, 0, none⟩), .agg #[.int .i64 16, .int .i64 o, .int .u32 (m : Int), .int .u32 (n : Int), .int .u32 (b : Int)]] w fun e w' => e = .returned (.int .i64 0) ∧ ScW w' P a (waitM M t 16 o m n) ∧ KeepsS P w w' := by
  have hmf : ∀ (fn : Fn) (first cap : Array Value) (w : World), (Instr.makeFunc fn first cap).run Tryz.prog w = .ok (.func fn first cap) w := fun _ _ _ _ => rfl
  have le := h.le
  have hq : Keeps (fun _ => False) w (w.alloc (.cells #[.int .i64 16, .int .i64 o, .int .u32 (m : Int), .int .u32 (n : Int), .int .u32 (b : Int)] 78)) := (Keeps.refl _ w).alloc _
  obtain ⟨w0, hw0⟩ : ∃ w0, w0 = w.alloc (.cells #[.int .i64 16, .int .i64 o, .int .u32 (m : Int), .int .u32 (n : Int), .int .u32 (b : Int)] 78) := ⟨_, rfl⟩
  have h0 := h.quiet hq
  have hb0 : w0.heap[w.heap.size]? = some (.cells #[.int .i64 16, .int .i64 o, .int .u32 (m : Int), .int .u32 (n : Int), .int .u32 (b : Int)] 78 (0, 0)) := by rw [hw0]; exact heap_new w _
  have hl0 : w.heap.size < w0.heap.size := lt_of hb0
  rw [← hw0] at h0 hq
  have HNO := Lib.hid (fun W (k : KeepsS P w0 W) => k.at hb0 (by decide))
  have HQ := Lib.hid (kS_none (P := P) hq)
  have dn : ((n : Int) == 0) = false := beq_eq_false_iff_ne.2 (by omega)
  have dn' : ((n : Int) = 0) = False := eq_false (by omega)
  have HWT := Lib.hid (fun W (hk : Keeps (fun _ => False) w0 W) => wait_any W P a M (h0.quiet hk) t ht 16 o m n b hn32)
  have y0 := cell_of hb0 0
  have y1 := cell_of hb0 1
  have y2 := cell_of hb0 2
  have y3 := cell_of hb0 3
  have y4 := cell_of hb0 4
  simp only [List.getElem?_toArray, List.getElem?_cons_zero, List.getElem?_cons_succ] at y0 y1 y2 y3 y4
  rw [hw0] at HWT HQ y0 y1 y2 y3 y4
  have HX := Lib.hid (And.intro hw0 (And.intro h0 hb0))
  have c33 := h0.cCur
  rw [hcur] at c33
  have ct := h0.cTask t ht
  have n0 : ((t : Int) == -1) = false := beq_eq_false_iff_ne.2 (by omega)
  have n0' : ((t : Int) = -1) = False := eq_false (by omega)
  have d1 : decide ((t : Int) < 16) = true := decide_eq_true (by omega)
  have d2 : t < 16 := by omega
  have d3 : (0 : Int) ≤ (t : Int) := by omega
  have d4 : (t : Int) < 16 := by omega
  rw [hw0] at c33 ct
  clear h hq hw0 h0 hb0 hl0
  go_enter Tryz.func81, Tryz.ntmps81
  go_wp2_with fail
  go_region_held3 (fun w' => w'.cell? ⟨w.heap.size, 0, none⟩ = some (.int .i64 16) ∧ w'.cell? ⟨w.heap.size, 1, none⟩ = some (.int .i64 o) ∧ w'.cell? ⟨w.heap.size, 2, none⟩ = some (.int .u32 (m : Int)) ∧ w'.cell? ⟨w.heap.size, 3, none⟩ = some (.int .u32 (n : Int)) ∧ w'.cell? ⟨w.heap.size, 4, none⟩ = some (.int .u32 (b : Int)))
    (first
      | go_keep
      | exact ⟨y0, y1, y2, y3, y4⟩
      | exact ⟨z0, z1, z2, z3, z4⟩)
    ((go_at_call 136; refine (HWT.out _ (by first | exact (Keeps.refl _ _).drew | exact (Keeps.refl _ _).drewN _ | exact Keeps.refl _ _)).mono ?_; rintro e w3 ⟨rfl, h3, k3⟩; have H3 := Lib.hid h3; have K3 := Lib.hid (kS HQ.out (kS (by first | exact (Keeps.refl _ _).drew | exact (Keeps.refl _ _).drewN _ | exact Keeps.refl _ _) k3)); have bz := HNO.out w3 (by rw [HX.out.1]; exact kS (by first | exact (Keeps.refl _ _).drew | exact (Keeps.refl _ _).drewN _ | exact Keeps.refl _ _) k3); have z0 := cell_of bz 0; have z1 := cell_of bz 1; have z2 := cell_of bz 2; have z3 := cell_of bz 3; have z4 := cell_of bz 4; simp only [List.getElem?_toArray, List.getElem?_cons_zero, List.getElem?_cons_succ] at z0 z1 z2 z3 z4; clear bz; clear h3 k3 HWT))
  go_wp2_with fail
  go_ret
  exact ⟨rfl, H3.out, K3.out⟩
set_option maxRecDepth 20000 in
set_option maxHeartbeats 2000000 in
theorem serve_w17_zero (w : World) (P : Nat → Prop) (a : ScA) (M : ScM) (h : ScW w P a M) (hn : a.n = M.many) (t : Nat) (ht : t < M.many) (hcur : M.cur = (t : Int)) (o : Int) (m n b : Nat) (hn32 : n < 4294967296) (hb32 : b < 4294967296) (h00 : n = 0) :
    Calls Tryz.prog 81 #[.pointer (some ⟨a.s, 0, none⟩), .agg #[.int .i64 17, .int .i64 o, .int .u32 (m : Int), .int .u32 (n : Int), .int .u32 (b : Int)]] w fun e w' => e = .returned (.int .i64 0) ∧ ScW w' P a (giveM M t (false, 0, 0)) ∧ KeepsS P w w' := by
  have hmf : ∀ (fn : Fn) (first cap : Array Value) (w : World), (Instr.makeFunc fn first cap).run Tryz.prog w = .ok (.func fn first cap) w := fun _ _ _ _ => rfl
  have le := h.le
  have hq : Keeps (fun _ => False) w (w.alloc (.cells #[.int .i64 17, .int .i64 o, .int .u32 (m : Int), .int .u32 (n : Int), .int .u32 (b : Int)] 78)) := (Keeps.refl _ w).alloc _
  obtain ⟨w0, hw0⟩ : ∃ w0, w0 = w.alloc (.cells #[.int .i64 17, .int .i64 o, .int .u32 (m : Int), .int .u32 (n : Int), .int .u32 (b : Int)] 78) := ⟨_, rfl⟩
  have h0 := h.quiet hq
  have hb0 : w0.heap[w.heap.size]? = some (.cells #[.int .i64 17, .int .i64 o, .int .u32 (m : Int), .int .u32 (n : Int), .int .u32 (b : Int)] 78 (0, 0)) := by rw [hw0]; exact heap_new w _
  have hl0 : w.heap.size < w0.heap.size := lt_of hb0
  rw [← hw0] at h0 hq
  have HNO := Lib.hid (fun W (k : KeepsS P w0 W) => k.at hb0 (by decide))
  have HQ := Lib.hid (kS_none (P := P) hq)
  have dz : ((n : Int) == 0) = true := beq_iff_eq.2 (by omega)
  have dz2 : decide (0 < n) = false := decide_eq_false (by omega)
  have dz3 : decide ((0 : Int) < (n : Int)) = false := decide_eq_false (by omega)
  clear h00
  have HG := Lib.hid (sc_give w0 P a M h0 t ht false 0 0)
  rw [hw0] at HG HQ
  have HX := Lib.hid (And.intro hw0 (And.intro h0 hb0))
  have c33 := h0.cCur
  rw [hcur] at c33
  have ct := h0.cTask t ht
  have n0 : ((t : Int) == -1) = false := beq_eq_false_iff_ne.2 (by omega)
  have n0' : ((t : Int) = -1) = False := eq_false (by omega)
  have d1 : decide ((t : Int) < 16) = true := decide_eq_true (by omega)
  have d2 : t < 16 := by omega
  have d3 : (0 : Int) ≤ (t : Int) := by omega
  have d4 : (t : Int) < 16 := by omega
  rw [hw0] at c33 ct
  clear h hq hw0 h0 hb0 hl0
  go_enter Tryz.func81, Tryz.ntmps81
  go_wp2_with fail
  refine HG.out.mono ?_
  rintro e w1 ⟨rfl, h1, k1⟩
  have H1 := Lib.hid h1
  have K1 := Lib.hid (kS HQ.out k1)
  clear h1 k1 HG
  go_wp2_with fail
  go_ret
  exact ⟨rfl, H1.out, K1.out⟩
set_option maxRecDepth 20000 in
set_option maxHeartbeats 2000000 in
theorem serve_w17 (w : World) (P : Nat → Prop) (a : ScA) (M : ScM) (h : ScW w P a M) (hn : a.n = M.many) (t : Nat) (ht : t < M.many) (hcur : M.cur = (t : Int)) (o : Int) (m n b : Nat) (hn32 : n < 4294967296) (hb32 : b < 4294967296) (hpos : 0 < n) :
    Calls Tryz.prog 81 #[.pointer (some ⟨a.s, 0, none⟩), .agg #[.int .i64 17, .int .i64 o, .int .u32 (m : Int), .int .u32 (n : Int), .int .u32 (b : Int)]] w fun e w' => e = .returned (.int .i64 0) ∧ ScW w' P a (waitM M t 17 o m n) ∧ KeepsS P w w' := by
  have hmf : ∀ (fn : Fn) (first cap : Array Value) (w : World), (Instr.makeFunc fn first cap).run Tryz.prog w = .ok (.func fn first cap) w := fun _ _ _ _ => rfl
  have le := h.le
  have hq : Keeps (fun _ => False) w (w.alloc (.cells #[.int .i64 17, .int .i64 o, .int .u32 (m : Int), .int .u32 (n : Int), .int .u32 (b : Int)] 78)) := (Keeps.refl _ w).alloc _
  obtain ⟨w0, hw0⟩ : ∃ w0, w0 = w.alloc (.cells #[.int .i64 17, .int .i64 o, .int .u32 (m : Int), .int .u32 (n : Int), .int .u32 (b : Int)] 78) := ⟨_, rfl⟩
  have h0 := h.quiet hq
  have hb0 : w0.heap[w.heap.size]? = some (.cells #[.int .i64 17, .int .i64 o, .int .u32 (m : Int), .int .u32 (n : Int), .int .u32 (b : Int)] 78 (0, 0)) := by rw [hw0]; exact heap_new w _
  have hl0 : w.heap.size < w0.heap.size := lt_of hb0
  rw [← hw0] at h0 hq
  have HNO := Lib.hid (fun W (k : KeepsS P w0 W) => k.at hb0 (by decide))
  have HQ := Lib.hid (kS_none (P := P) hq)
  have dn : ((n : Int) == 0) = false := beq_eq_false_iff_ne.2 (by omega)
  have dn' : ((n : Int) = 0) = False := eq_false (by omega)
  have HWT := Lib.hid (fun W (hk : Keeps (fun _ => False) w0 W) => wait_any W P a M (h0.quiet hk) t ht 17 o m n b hn32)
  have y0 := cell_of hb0 0
  have y1 := cell_of hb0 1
  have y2 := cell_of hb0 2
  have y3 := cell_of hb0 3
  have y4 := cell_of hb0 4
  simp only [List.getElem?_toArray, List.getElem?_cons_zero, List.getElem?_cons_succ] at y0 y1 y2 y3 y4
  rw [hw0] at HWT HQ y0 y1 y2 y3 y4
  have HX := Lib.hid (And.intro hw0 (And.intro h0 hb0))
  have c33 := h0.cCur
  rw [hcur] at c33
  have ct := h0.cTask t ht
  have n0 : ((t : Int) == -1) = false := beq_eq_false_iff_ne.2 (by omega)
  have n0' : ((t : Int) = -1) = False := eq_false (by omega)
  have d1 : decide ((t : Int) < 16) = true := decide_eq_true (by omega)
  have d2 : t < 16 := by omega
  have d3 : (0 : Int) ≤ (t : Int) := by omega
  have d4 : (t : Int) < 16 := by omega
  rw [hw0] at c33 ct
  clear h hq hw0 h0 hb0 hl0
  go_enter Tryz.func81, Tryz.ntmps81
  go_wp2_with fail
  go_region_held3 (fun w' => w'.cell? ⟨w.heap.size, 0, none⟩ = some (.int .i64 17) ∧ w'.cell? ⟨w.heap.size, 1, none⟩ = some (.int .i64 o) ∧ w'.cell? ⟨w.heap.size, 2, none⟩ = some (.int .u32 (m : Int)) ∧ w'.cell? ⟨w.heap.size, 3, none⟩ = some (.int .u32 (n : Int)) ∧ w'.cell? ⟨w.heap.size, 4, none⟩ = some (.int .u32 (b : Int)))
    (first
      | go_keep
      | exact ⟨y0, y1, y2, y3, y4⟩
      | exact ⟨z0, z1, z2, z3, z4⟩)
    ((go_at_call 136; refine (HWT.out _ (by first | exact (Keeps.refl _ _).drew | exact (Keeps.refl _ _).drewN _ | exact Keeps.refl _ _)).mono ?_; rintro e w3 ⟨rfl, h3, k3⟩; have H3 := Lib.hid h3; have K3 := Lib.hid (kS HQ.out (kS (by first | exact (Keeps.refl _ _).drew | exact (Keeps.refl _ _).drewN _ | exact Keeps.refl _ _) k3)); have bz := HNO.out w3 (by rw [HX.out.1]; exact kS (by first | exact (Keeps.refl _ _).drew | exact (Keeps.refl _ _).drewN _ | exact Keeps.refl _ _) k3); have z0 := cell_of bz 0; have z1 := cell_of bz 1; have z2 := cell_of bz 2; have z3 := cell_of bz 3; have z4 := cell_of bz 4; simp only [List.getElem?_toArray, List.getElem?_cons_zero, List.getElem?_cons_succ] at z0 z1 z2 z3 z4; clear bz; clear h3 k3 HWT))
  go_wp2_with fail
  go_ret
  exact ⟨rfl, H3.out, K3.out⟩
set_option maxRecDepth 20000 in
set_option maxHeartbeats 2000000 in
theorem serve_other (w : World) (P : Nat → Prop) (a : ScA) (M : ScM) (h : ScW w P a M) (hn : a.n = M.many) (t : Nat) (ht : t < M.many) (hcur : M.cur = (t : Int)) (o : Int) (m n b : Nat) (hn32 : n < 4294967296) (hb32 : b < 4294967296) (k : Int) (hk : k ≠ 10 ∧ (k < 12 ∨ 19 < k)) :
    Calls Tryz.prog 81 #[.pointer (some ⟨a.s, 0, none⟩), .agg #[.int .i64 k, .int .i64 o, .int .u32 (m : Int), .int .u32 (n : Int), .int .u32 (b : Int)]] w fun e w' => e = .returned (.int .i64 12) ∧ ScW w' P a M ∧ KeepsS P w w' := by
  have hmf : ∀ (fn : Fn) (first cap : Array Value) (w : World), (Instr.makeFunc fn first cap).run Tryz.prog w = .ok (.func fn first cap) w := fun _ _ _ _ => rfl
  have le := h.le
  have hq : Keeps (fun _ => False) w (w.alloc (.cells #[.int .i64 k, .int .i64 o, .int .u32 (m : Int), .int .u32 (n : Int), .int .u32 (b : Int)] 78)) := (Keeps.refl _ w).alloc _
  obtain ⟨w0, hw0⟩ : ∃ w0, w0 = w.alloc (.cells #[.int .i64 k, .int .i64 o, .int .u32 (m : Int), .int .u32 (n : Int), .int .u32 (b : Int)] 78) := ⟨_, rfl⟩
  have h0 := h.quiet hq
  have hb0 : w0.heap[w.heap.size]? = some (.cells #[.int .i64 k, .int .i64 o, .int .u32 (m : Int), .int .u32 (n : Int), .int .u32 (b : Int)] 78 (0, 0)) := by rw [hw0]; exact heap_new w _
  have hl0 : w.heap.size < w0.heap.size := lt_of hb0
  rw [← hw0] at h0 hq
  have HNO := Lib.hid (fun W (k : KeepsS P w0 W) => k.at hb0 (by decide))
  have HQ := Lib.hid (kS_none (P := P) hq)
  have H0 := Lib.hid h0
  rw [hw0] at HQ H0
  have o19 : (k == 19) = false := beq_eq_false_iff_ne.2 (by omega)
  have p19 : (k = 19) = False := eq_false (by omega)
  have o10 : (k == 10) = false := beq_eq_false_iff_ne.2 (by omega)
  have p10 : (k = 10) = False := eq_false (by omega)
  have o13 : (k == 13) = false := beq_eq_false_iff_ne.2 (by omega)
  have p13 : (k = 13) = False := eq_false (by omega)
  have o12 : (k == 12) = false := beq_eq_false_iff_ne.2 (by omega)
  have p12 : (k = 12) = False := eq_false (by omega)
  have o18 : (k == 18) = false := beq_eq_false_iff_ne.2 (by omega)
  have p18 : (k = 18) = False := eq_false (by omega)
  have o14 : (k == 14) = false := beq_eq_false_iff_ne.2 (by omega)
  have p14 : (k = 14) = False := eq_false (by omega)
  have o15 : (k == 15) = false := beq_eq_false_iff_ne.2 (by omega)
  have p15 : (k = 15) = False := eq_false (by omega)
  have o16 : (k == 16) = false := beq_eq_false_iff_ne.2 (by omega)
  have p16 : (k = 16) = False := eq_false (by omega)
  have o17 : (k == 17) = false := beq_eq_false_iff_ne.2 (by omega)
  have p17 : (k = 17) = False := eq_false (by omega)
  have HX := Lib.hid (And.intro hw0 (And.intro h0 hb0))
  have c33 := h0.cCur
  rw [hcur] at c33
  have ct := h0.cTask t ht
  have n0 : ((t : Int) == -1) = false := beq_eq_false_iff_ne.2 (by omega)
  have n0' : ((t : Int) = -1) = False := eq_false (by omega)
  have d1 : decide ((t : Int) < 16) = true := decide_eq_true (by omega)
  have d2 : t < 16 := by omega
  have d3 : (0 : Int) ≤ (t : Int) := by omega
  have d4 : (t : Int) < 16 := by omega
  rw [hw0] at c33 ct
  clear h hq hw0 h0 hb0 hl0
  go_enter Tryz.func81, Tryz.ntmps81
  go_wp2_with fail
  go_ret
  exact ⟨rfl, H0.out, HQ.out⟩
set_option maxRecDepth 20000 in
set_option maxHeartbeats 2000000 in
theorem serve_nobody (w : World) (P : Nat → Prop) (a : ScA) (M : ScM) (h : ScW w P a M) (hn : a.n = M.many)  (o : Int) (m n b : Nat) (hn32 : n < 4294967296) (hb32 : b < 4294967296) (k : Int) (hcur : M.cur = -1) :
    Calls Tryz.prog 81 #[.pointer (some ⟨a.s, 0, none⟩), .agg #[.int .i64 k, .int .i64 o, .int .u32 (m : Int), .int .u32 (n : Int), .int .u32 (b : Int)]] w fun e w' => e = .returned (.int .i64 15) ∧ ScW w' P a M ∧ KeepsS P w w' := by
  have hmf : ∀ (fn : Fn) (first cap : Array Value) (w : World), (Instr.makeFunc fn first cap).run Tryz.prog w = .ok (.func fn first cap) w := fun _ _ _ _ => rfl
  have le := h.le
  have hq : Keeps (fun _ => False) w (w.alloc (.cells #[.int .i64 k, .int .i64 o, .int .u32 (m : Int), .int .u32 (n : Int), .int .u32 (b : Int)] 78)) := (Keeps.refl _ w).alloc _
  obtain ⟨w0, hw0⟩ : ∃ w0, w0 = w.alloc (.cells #[.int .i64 k, .int .i64 o, .int .u32 (m : Int), .int .u32 (n : Int), .int .u32 (b : Int)] 78) := ⟨_, rfl⟩
  have h0 := h.quiet hq
  have hb0 : w0.heap[w.heap.size]? = some (.cells #[.int .i64 k, .int .i64 o, .int .u32 (m : Int), .int .u32 (n : Int), .int .u32 (b : Int)] 78 (0, 0)) := by rw [hw0]; exact heap_new w _
  have hl0 : w.heap.size < w0.heap.size := lt_of hb0
  rw [← hw0] at h0 hq
  have HNO := Lib.hid (fun W (k : KeepsS P w0 W) => k.at hb0 (by decide))
  have HQ := Lib.hid (kS_none (P := P) hq)
  have H0 := Lib.hid h0
  have c33 := h0.cCur
  rw [hcur] at c33
  rw [hw0] at HQ H0
  have HX := Lib.hid (And.intro hw0 (And.intro h0 hb0))
  rw [hw0] at c33
  clear h hq hw0 h0 hb0 hl0
  go_enter Tryz.func81, Tryz.ntmps81
  go_wp2_with fail
  go_ret
  exact ⟨rfl, H0.out, HQ.out⟩
end Go.Proofs.YthnmlklgbggmbaaGreat
namespace Go.Proofs.YthnmlklgbggmbaaGreat
open Go.ChangeShapes Go.WideShapes Go.ChangeAt Go.RowKit
set_option linter.unusedVariables false
set_option linter.unusedSimpArgs false
theorem serve_any (w : World) (P : Nat → Prop) (a : ScA) (M : ScM) (h : ScW w P a M) (hn : a.n = M.many) (k o : Int) (m n b : Nat) (hn32 : n < 4294967296) (hb32 : b < 4294967296) :
    Calls Tryz.prog 81 #[.pointer (some ⟨a.s, 0, none⟩), .agg #[.int .i64 k, .int .i64 o, .int .u32 (m : Int), .int .u32 (n : Int), .int .u32 (b : Int)]] w fun e w' => e = .returned (.int .i64 (serveM M k o m n b).2) ∧ ScW w' P a (serveM M k o m n b).1 ∧ KeepsS P w w' := by
  unfold serveM
  by_cases hc : M.cur = -1
  · rw [if_pos hc]
    exact serve_nobody w P a M h hn o m n b hn32 hb32 k hc
  rw [if_neg hc]
  obtain ⟨t, ht⟩ : ∃ t : Nat, M.cur = (t : Int) := ⟨M.cur.toNat, by have := h.cin; omega⟩
  have htm : t < M.many := by have := h.cin; omega
  have hct : M.cur.toNat = t := by omega
  rw [hct]
  by_cases h19 : k = 19
  · rw [if_pos h19]; subst h19
    exact serve_exit w P a M h hn t htm ht o m n b hn32 hb32
  rw [if_neg h19]
  by_cases h10 : k = 10
  · rw [if_pos h10]; subst h10
    cases ho : hasM M o with
    | true =>
      rw [if_pos rfl]
      have ho' := of_decide_eq_true (show decide (0 ≤ o ∧ o < (M.many : Int)) = true from ho)
      exact serve_post w P a M h hn t htm ht o m n b hn32 hb32 o.toNat (by omega) (by omega)
    | false =>
      rw [if_neg (by simp)]
      exact serve_post_no w P a M h hn t htm ht o m n b hn32 hb32 ho
  rw [if_neg h10]
  by_cases h13 : k = 13
  · rw [if_pos h13]; subst h13
    by_cases h0 : 0 < n
    · rw [if_pos h0]
      exact serve_sleep w P a M h hn t htm ht o m n b hn32 hb32 h0
    · rw [if_neg h0]
      exact serve_yield0 w P a M h hn t htm ht o m n b hn32 hb32 (by omega)
  rw [if_neg h13]
  by_cases h12 : k = 12
  · rw [if_pos h12]; subst h12
    exact serve_yield w P a M h hn t htm ht o m n b hn32 hb32
  rw [if_neg h12]
  by_cases h18 : k = 18
  · rw [if_pos h18]; subst h18
    unfold awaitM
    by_cases hb : M.bits t = 0
    · rw [if_neg (by simp [hb])]
      by_cases h0 : n = 0
      · rw [if_pos h0]
        exact serve_await_zero w P a M h hn t htm ht o m n b hn32 hb32 hb h0
      · rw [if_neg h0]
        exact serve_await_wait w P a M h hn t htm ht o m n b hn32 hb32 hb (by omega)
    · rw [if_pos hb]
      exact serve_await_some w P a M h hn t htm ht o m n b hn32 hb32 hb
  rw [if_neg h18]
  by_cases h14 : k = 14 ∨ k = 15 ∨ k = 16 ∨ k = 17
  · rw [if_pos h14]
    by_cases h0 : n = 0
    · rw [if_pos h0]
      rcases h14 with rfl | rfl | rfl | rfl
      · exact serve_w14_zero w P a M h hn t htm ht o m n b hn32 hb32 h0
      · exact serve_w15_zero w P a M h hn t htm ht o m n b hn32 hb32 h0
      · exact serve_w16_zero w P a M h hn t htm ht o m n b hn32 hb32 h0
      · exact serve_w17_zero w P a M h hn t htm ht o m n b hn32 hb32 h0
    · rw [if_neg h0]
      rcases h14 with rfl | rfl | rfl | rfl
      · exact serve_w14 w P a M h hn t htm ht o m n b hn32 hb32 (by omega)
      · exact serve_w15 w P a M h hn t htm ht o m n b hn32 hb32 (by omega)
      · exact serve_w16 w P a M h hn t htm ht o m n b hn32 hb32 (by omega)
      · exact serve_w17 w P a M h hn t htm ht o m n b hn32 hb32 (by omega)
  rw [if_neg h14]
  exact serve_other w P a M h hn t htm ht o m n b hn32 hb32 k (by omega)
set_option maxRecDepth 20000 in
set_option maxHeartbeats 2000000 in
theorem swake_out (w : World) (P : Nat → Prop) (a : ScA) (M : ScM) (h : ScW w P a M) (hn : a.n = M.many) (t : Int) (ht : hasM M t = false) :
    Calls Tryz.prog 89 #[.pointer (some ⟨a.s, 0, none⟩), .int .i64 t] w fun e w' => e = .returned (.bool false) ∧ w = w' := by
  have HH := Lib.hid (shas_any w P a M h hn t)
  rw [ht] at HH
  clear h
  go_enter Tryz.func89, Tryz.ntmps89
  go_wp2_with fail
  refine HH.out.mono ?_
  rintro e w' ⟨rfl, rfl⟩
  go_wp2_with fail
  go_ret
  exact ⟨rfl, rfl⟩
set_option maxRecDepth 20000 in
set_option maxHeartbeats 2000000 in
theorem swake_no (w : World) (P : Nat → Prop) (a : ScA) (M : ScM) (h : ScW w P a M) (hn : a.n = M.many) (t : Nat) (ht : t < M.many) (hs : M.st t ≠ 2) :
    Calls Tryz.prog 89 #[.pointer (some ⟨a.s, 0, none⟩), .int .i64 (t : Int)] w fun e w' => e = .returned (.bool false) ∧ w = w' := by
  have le := h.le
  have HH := Lib.hid (has_yes w P a M h hn (t : Int) ⟨by omega, by omega⟩)
  have ct := h.cTask t ht
  have HS := Lib.hid (sc_state w P a M h t ht)
  have e1 : (M.st t != 2) = true := bne_iff_ne.2 hs
  have e2 : (M.st t == 2) = false := beq_eq_false_iff_ne.2 hs
  have d1 : decide ((t : Int) < 16) = true := decide_eq_true (by omega)
  have d2 : t < 16 := by omega
  have d3 : (0 : Int) ≤ (t : Int) := by omega
  have d4 : (t : Int) < 16 := by omega
  clear h hs
  go_enter Tryz.func89, Tryz.ntmps89
  go_wp2_with fail
  refine HH.out.mono ?_
  rintro e w' ⟨rfl, rfl⟩
  go_wp2_with fail
  refine HS.out.mono ?_
  rintro e w' ⟨rfl, rfl⟩
  go_wp2_with fail
  go_ret
  exact ⟨rfl, rfl⟩
end Go.Proofs.YthnmlklgbggmbaaGreat
