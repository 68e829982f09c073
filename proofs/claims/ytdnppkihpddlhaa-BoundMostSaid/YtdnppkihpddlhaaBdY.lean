import Derived.Test.YtdnppkihpddlhaaBdX
namespace Go.Proofs.Ytdnppkihpddlhaa
open Go.ChangeShapes Go.WideShapes Go.ChangeAt Go.RowKit
set_option linter.unusedVariables false
set_option linter.unusedSimpArgs false
set_option maxRecDepth 100000
/-- A call, cell by cell. -/
@[reducible] def clC (k o : Int) (V : Nat → Int) (n : Int) : Array Value := #[.int .i64 k, .int .i64 o, .int .u32 (V 0), .int .u32 (V 1), .int .u32 (V 2), .int .u32 (V 3), .int .u32 n]
/-- An interface value that holds a new routine. -/
def MachOf (E : Prop) (k W most : Int) (w : World) (e : Ending) (w' : World) : Prop := ∃ (T : TypeId) (b : Nat) (fA fT fR : FuncId) (I D : Nat → World → Prop), e = .returned (.iface T (.pointer (some ⟨b, 0, none⟩))) ∧ Mach E k W T b fA fT fR most I D ∧ (I 0 w' ∨ D 0 w') ∧ w.heap.size ≤ b ∧ Keeps (fun _ => False) w w'
def RoutQ (E : Prop) (k : Int) (p : Nat → Int) (w : World) (e : Ending) (w' : World) : Prop := (e = .returned .nilIface ∧ actsP k p = 0 ∧ Keeps (fun _ => False) w w') ∨ (0 < actsP k p ∧ MachOf E k (p 3) (actsP k p) w e w')
theorem machOf_mk {E : Prop} {k W most : Int} {w w' : World} {T : TypeId} {b : Nat} {fA fT fR : FuncId} {I D : Nat → World → Prop} (hm : Mach E k W T b fA fT fR most I D) (h0 : I 0 w' ∨ D 0 w') (hb : w.heap.size ≤ b) (kk : Keeps (fun _ => False) w w') : MachOf E k W most w (.returned (.iface T (.pointer (some ⟨b, 0, none⟩)))) w' := ⟨T, b, fA, fT, fR, I, D, rfl, hm, h0, hb, kk⟩
theorem seven_cells {w : World} {g : Nat} {k o n : Int} {V : Nat → Int} {E : TypeId} (h : w.heap[g]? = some (.cells (clC k o V n) E (0, 0))) :
    w.cell? ⟨g, 0, none⟩ = some (.int .i64 k) ∧ w.cell? ⟨g, 1, none⟩ = some (.int .i64 o) ∧ w.cell? ⟨g, 2, none⟩ = some (.int .u32 (V 0)) ∧ w.cell? ⟨g, 3, none⟩ = some (.int .u32 (V 1)) ∧ w.cell? ⟨g, 4, none⟩ = some (.int .u32 (V 2)) ∧ w.cell? ⟨g, 5, none⟩ = some (.int .u32 (V 3)) ∧ w.cell? ⟨g, 6, none⟩ = some (.int .u32 n) :=
  ⟨cell_of h 0, cell_of h 1, cell_of h 2, cell_of h 3, cell_of h 4, cell_of h 5, cell_of h 6⟩
theorem dflag_range (k : Int) : 0 ≤ dflagP k ∧ dflagP k ≤ 5 := by 
  unfold dflagP
  repeat' split
  all_goals omega
theorem dflag_acts (k : Int) : flagA k = if dflagP k = 0 then 0 else 1 := by 
  unfold dflagP flagA
  repeat' split
  all_goals omega
theorem rg_ok {p : Nat → Int} (hp : PlOk p) (h0 : p 0 = 1) : RgOk p := by
  have e : oOf p 0 = 1 := h0
  have e' : oOf p 0 ≠ 4 := by rw [e]; decide
  exact ⟨hp, h0, (right_nums hp.r).2.2.1 e, (right_nums hp.r).2.2.2.2.2 e'⟩
theorem fo_ok {p : Nat → Int} (hp : PlOk p) (h0 : p 0 = 2) : FoOk p := by
  have e : oOf p 0 = 2 := h0
  have e' : oOf p 0 ≠ 4 := by rw [e]; decide
  exact ⟨hp, h0, (right_nums hp.r).2.2.2.2.2 e'⟩
theorem lk_ok {p : Nat → Int} (hp : PlOk p) (h0 : p 0 = 3) : LkOk p := by
  have e : oOf p 0 = 3 := h0
  have e' : oOf p 0 ≠ 4 := by rw [e]; decide
  exact ⟨hp, h0, (right_nums hp.r).2.2.2.2.2 e'⟩
set_option maxHeartbeats 4000000 in
theorem rout_push (E : Prop) (k o n : Int) (V p : Nat → Int) (w : World) (hp : PlOk p) (h0 : p 0 = 1) (hk : k = 1) : Calls Try.prog 16 #[.agg (plC p), .agg (clC k o V n)] w (RoutQ E k p w) := by
  subst hk
  have HO := Lib.hid (rg_ok hp h0)
  have H0 := Lib.hid h0
  obtain ⟨W1, hW1⟩ : ∃ W, W = (w.alloc (.cells (plC p) 41)).alloc (.cells (clC 1 o V n) 28) := ⟨_, rfl⟩
  have h1 := ((Has.start w).alloc (.cells (plC p) 41)).alloc (.cells (clC 1 o V n) 28)
  rw [← hW1, World.size_alloc] at h1
  have HB := Lib.hid h1
  have HW := Lib.hid hW1
  obtain ⟨c0, c1, c2, c3, c4⟩ := five_cells (h1.at 1 rfl)
  obtain ⟨k0, k1, k2, k3, k4, k5, k6⟩ := seven_cells (h1.at 0 rfl)
  have l0 := lt_of (h1.at 1 rfl)
  have l1 := lt_of (h1.at 0 rfl)
  clear h1 hW1
  have e1 : (p 0 == 1) = true := by rw [h0]; rfl
  clear h0
  go_enter Try.func16, Try.ntmps16
  go_wp2_with (first
    | (refine Great.wpList_boxTo rfl 28 (.tmp 1) rfl (some 3) rfl (w.heap.size + 1) (by simp) (clC 1 o V n) rfl ?_; rw [← HW.out]))
  refine (push_new W1 p V HO.out.ok HO.out.k).mono ?_
  rintro e w' ⟨b, rfl, hb, hI, kk⟩
  have HI := Lib.hid hI
  have HK := Lib.hid kk
  have HZ := Lib.hid hb
  have HS := Lib.hid HB.out.keeps.size
  clear kk hI hb
  go_wp2_with fail
  go_ret
  have ha : actsP 1 p = p 3 + 3 := by simp [actsP, ringA, fourA, lockA, H0.out]
  have hm := push_mach E 1 p HO.out (by omega) b
  rw [← ha] at hm
  exact .inr ⟨by rw [ha]; have := HO.out.w; omega, machOf_mk hm (.inl ⟨1, 0, 0, 0, HI.out, by omega, .inl ⟨rfl, rfl, rfl⟩⟩) (Nat.le_trans HS.out HZ.out) (HB.out.keeps.trans HK.out)⟩
set_option maxHeartbeats 4000000 in
theorem rout_pop (E : Prop) (k o n : Int) (V p : Nat → Int) (w : World) (hp : PlOk p) (h0 : p 0 = 1) (hk : k = 2) : Calls Try.prog 16 #[.agg (plC p), .agg (clC k o V n)] w (RoutQ E k p w) := by
  subst hk
  have HO := Lib.hid (rg_ok hp h0)
  have H0 := Lib.hid h0
  obtain ⟨W1, hW1⟩ : ∃ W, W = (w.alloc (.cells (plC p) 41)).alloc (.cells (clC 2 o V n) 28) := ⟨_, rfl⟩
  have h1 := ((Has.start w).alloc (.cells (plC p) 41)).alloc (.cells (clC 2 o V n) 28)
  rw [← hW1, World.size_alloc] at h1
  have HB := Lib.hid h1
  have HW := Lib.hid hW1
  obtain ⟨c0, c1, c2, c3, c4⟩ := five_cells (h1.at 1 rfl)
  obtain ⟨k0, k1, k2, k3, k4, k5, k6⟩ := seven_cells (h1.at 0 rfl)
  have l0 := lt_of (h1.at 1 rfl)
  have l1 := lt_of (h1.at 0 rfl)
  clear h1 hW1
  have e1 : (p 0 == 1) = true := by rw [h0]; rfl
  clear h0
  go_enter Try.func16, Try.ntmps16
  go_wp2_with (first
    | (refine Great.wpList_boxTo rfl 28 (.tmp 1) rfl (some 3) rfl (w.heap.size + 1) (by simp) (clC 2 o V n) rfl ?_; rw [← HW.out]))
  refine (pop_new W1 p HO.out.ok HO.out.k).mono ?_
  rintro e w' ⟨b, rfl, hb, hI, kk⟩
  have HI := Lib.hid hI
  have HK := Lib.hid kk
  have HZ := Lib.hid hb
  have HS := Lib.hid HB.out.keeps.size
  clear kk hI hb
  go_wp2_with fail
  go_ret
  have ha : actsP 2 p = p 3 + 3 := by simp [actsP, ringA, fourA, lockA, H0.out]
  have hm := pop_mach E 2 p HO.out rfl b
  rw [← ha] at hm
  exact .inr ⟨by rw [ha]; have := HO.out.w; omega, machOf_mk hm (.inl ⟨1, 0, 0, 0, HI.out, by omega, .inl ⟨rfl, rfl, rfl⟩⟩) (Nat.le_trans HS.out HZ.out) (HB.out.keeps.trans HK.out)⟩
set_option maxHeartbeats 4000000 in
theorem rout_fw (E : Prop) (k o n : Int) (V p : Nat → Int) (w : World) (hp : PlOk p) (h0 : p 0 = 2) (hk : k = 3) : Calls Try.prog 16 #[.agg (plC p), .agg (clC k o V n)] w (RoutQ E k p w) := by
  subst hk
  have HO := Lib.hid (fo_ok hp h0)
  have H0 := Lib.hid h0
  obtain ⟨W1, hW1⟩ : ∃ W, W = (w.alloc (.cells (plC p) 41)).alloc (.cells (clC 3 o V n) 28) := ⟨_, rfl⟩
  have h1 := ((Has.start w).alloc (.cells (plC p) 41)).alloc (.cells (clC 3 o V n) 28)
  rw [← hW1, World.size_alloc] at h1
  have HB := Lib.hid h1
  have HW := Lib.hid hW1
  obtain ⟨c0, c1, c2, c3, c4⟩ := five_cells (h1.at 1 rfl)
  obtain ⟨k0, k1, k2, k3, k4, k5, k6⟩ := seven_cells (h1.at 0 rfl)
  have l0 := lt_of (h1.at 1 rfl)
  have l1 := lt_of (h1.at 0 rfl)
  clear h1 hW1
  have e1 : (p 0 == 1) = false := by rw [h0]; rfl
  have e2 : (p 0 == 2) = true := by rw [h0]; rfl
  clear h0
  go_enter Try.func16, Try.ntmps16
  go_wp2_with (first
    | (refine Great.wpList_boxTo rfl 28 (.tmp 1) rfl (some 3) rfl (w.heap.size + 1) (by simp) (clC 3 o V n) rfl ?_; rw [← HW.out]))
  refine (fw_new W1 p V HO.out.ok HO.out.k).mono ?_
  rintro e w' ⟨b, rfl, hb, hI, kk⟩
  have HI := Lib.hid hI
  have HK := Lib.hid kk
  have HZ := Lib.hid hb
  have HS := Lib.hid HB.out.keeps.size
  clear kk hI hb
  go_wp2_with fail
  go_ret
  have ha : actsP 3 p = p 3 + 4 := by simp [actsP, ringA, fourA, lockA, H0.out]
  have hm := fw_mach E 3 p HO.out b
  rw [← ha] at hm
  exact .inr ⟨by rw [ha]; have := HO.out.w; omega, machOf_mk hm (.inl ⟨1, 0, 0, HI.out, by omega, .inl ⟨rfl, rfl, rfl⟩⟩) (Nat.le_trans HS.out HZ.out) (HB.out.keeps.trans HK.out)⟩
set_option maxHeartbeats 4000000 in
theorem rout_fr (E : Prop) (k o n : Int) (V p : Nat → Int) (w : World) (hp : PlOk p) (h0 : p 0 = 2) (hk : k = 4) : Calls Try.prog 16 #[.agg (plC p), .agg (clC k o V n)] w (RoutQ E k p w) := by
  subst hk
  have HO := Lib.hid (fo_ok hp h0)
  have H0 := Lib.hid h0
  obtain ⟨W1, hW1⟩ : ∃ W, W = (w.alloc (.cells (plC p) 41)).alloc (.cells (clC 4 o V n) 28) := ⟨_, rfl⟩
  have h1 := ((Has.start w).alloc (.cells (plC p) 41)).alloc (.cells (clC 4 o V n) 28)
  rw [← hW1, World.size_alloc] at h1
  have HB := Lib.hid h1
  have HW := Lib.hid hW1
  obtain ⟨c0, c1, c2, c3, c4⟩ := five_cells (h1.at 1 rfl)
  obtain ⟨k0, k1, k2, k3, k4, k5, k6⟩ := seven_cells (h1.at 0 rfl)
  have l0 := lt_of (h1.at 1 rfl)
  have l1 := lt_of (h1.at 0 rfl)
  clear h1 hW1
  have e1 : (p 0 == 1) = false := by rw [h0]; rfl
  have e2 : (p 0 == 2) = true := by rw [h0]; rfl
  clear h0
  go_enter Try.func16, Try.ntmps16
  go_wp2_with (first
    | (refine Great.wpList_boxTo rfl 28 (.tmp 1) rfl (some 3) rfl (w.heap.size + 1) (by simp) (clC 4 o V n) rfl ?_; rw [← HW.out]))
  refine (fr_new W1 p HO.out.ok HO.out.k).mono ?_
  rintro e w' ⟨b, rfl, hb, hI, kk⟩
  have HI := Lib.hid hI
  have HK := Lib.hid kk
  have HZ := Lib.hid hb
  have HS := Lib.hid HB.out.keeps.size
  clear kk hI hb
  go_wp2_with fail
  go_ret
  have ha : actsP 4 p = p 3 + 3 := by simp [actsP, ringA, fourA, lockA, H0.out]
  have hm := fr_mach E 4 p HO.out b
  rw [← ha] at hm
  exact .inr ⟨by rw [ha]; have := HO.out.w; omega, machOf_mk hm (.inl ⟨1, 0, 0, HI.out, by omega, .inl ⟨rfl, rfl, rfl⟩⟩) (Nat.le_trans HS.out HZ.out) (HB.out.keeps.trans HK.out)⟩
set_option maxHeartbeats 4000000 in
theorem rout_lw (E : Prop) (k o n : Int) (V p : Nat → Int) (w : World) (hp : PlOk p) (h0 : p 0 = 3) (hk : k = 3) : Calls Try.prog 16 #[.agg (plC p), .agg (clC k o V n)] w (RoutQ E k p w) := by
  subst hk
  have HO := Lib.hid (lk_ok hp h0)
  have H0 := Lib.hid h0
  obtain ⟨W1, hW1⟩ : ∃ W, W = (w.alloc (.cells (plC p) 41)).alloc (.cells (clC 3 o V n) 28) := ⟨_, rfl⟩
  have h1 := ((Has.start w).alloc (.cells (plC p) 41)).alloc (.cells (clC 3 o V n) 28)
  rw [← hW1, World.size_alloc] at h1
  have HB := Lib.hid h1
  have HW := Lib.hid hW1
  obtain ⟨c0, c1, c2, c3, c4⟩ := five_cells (h1.at 1 rfl)
  obtain ⟨k0, k1, k2, k3, k4, k5, k6⟩ := seven_cells (h1.at 0 rfl)
  have l0 := lt_of (h1.at 1 rfl)
  have l1 := lt_of (h1.at 0 rfl)
  clear h1 hW1
  have e1 : (p 0 == 1) = false := by rw [h0]; rfl
  have e2 : (p 0 == 2) = false := by rw [h0]; rfl
  have e3 : (p 0 == 3) = true := by rw [h0]; rfl
  clear h0
  go_enter Try.func16, Try.ntmps16
  go_wp2_with (first
    | (refine Great.wpList_boxTo rfl 28 (.tmp 1) rfl (some 3) rfl (w.heap.size + 1) (by simp) (clC 3 o V n) rfl ?_; rw [← HW.out]))
  refine (lw_new W1 p V HO.out.ok HO.out.k).mono ?_
  rintro e w' ⟨b, rfl, hb, hI, kk⟩
  have HI := Lib.hid hI
  have HK := Lib.hid kk
  have HZ := Lib.hid hb
  have HS := Lib.hid HB.out.keeps.size
  clear kk hI hb
  go_wp2_with fail
  go_ret
  have ha : actsP 3 p = p 3 + 3 := by simp [actsP, ringA, fourA, lockA, H0.out]
  have hm := lw_mach E 3 p HO.out (by omega) b
  rw [← ha] at hm
  exact .inr ⟨by rw [ha]; have := HO.out.w; omega, machOf_mk hm (.inl ⟨1, 0, 0, 0, HI.out, by omega, .inl ⟨rfl, rfl, rfl⟩⟩) (Nat.le_trans HS.out HZ.out) (HB.out.keeps.trans HK.out)⟩
set_option maxHeartbeats 4000000 in
theorem rout_lt (E : Prop) (k o n : Int) (V p : Nat → Int) (w : World) (hp : PlOk p) (h0 : p 0 = 3) (hk : k = 5) : Calls Try.prog 16 #[.agg (plC p), .agg (clC k o V n)] w (RoutQ E k p w) := by
  subst hk
  have HO := Lib.hid (lk_ok hp h0)
  have H0 := Lib.hid h0
  obtain ⟨W1, hW1⟩ : ∃ W, W = (w.alloc (.cells (plC p) 41)).alloc (.cells (clC 5 o V n) 28) := ⟨_, rfl⟩
  have h1 := ((Has.start w).alloc (.cells (plC p) 41)).alloc (.cells (clC 5 o V n) 28)
  rw [← hW1, World.size_alloc] at h1
  have HB := Lib.hid h1
  have HW := Lib.hid hW1
  obtain ⟨c0, c1, c2, c3, c4⟩ := five_cells (h1.at 1 rfl)
  obtain ⟨k0, k1, k2, k3, k4, k5, k6⟩ := seven_cells (h1.at 0 rfl)
  have l0 := lt_of (h1.at 1 rfl)
  have l1 := lt_of (h1.at 0 rfl)
  clear h1 hW1
  have e1 : (p 0 == 1) = false := by rw [h0]; rfl
  have e2 : (p 0 == 2) = false := by rw [h0]; rfl
  have e3 : (p 0 == 3) = true := by rw [h0]; rfl
  clear h0
  go_enter Try.func16, Try.ntmps16
  go_wp2_with (first
    | (refine Great.wpList_boxTo rfl 28 (.tmp 1) rfl (some 3) rfl (w.heap.size + 1) (by simp) (clC 5 o V n) rfl ?_; rw [← HW.out]))
  refine (lr_new W1 p HO.out.ok HO.out.k 0 (by omega)).mono ?_
  rintro e w' ⟨b, rfl, hb, hI, kk⟩
  have HI := Lib.hid hI
  have HK := Lib.hid kk
  have HZ := Lib.hid hb
  have HS := Lib.hid HB.out.keeps.size
  clear kk hI hb
  go_wp2_with fail
  go_ret
  have ha : actsP 5 p = p 3 + 2 := by simp [actsP, ringA, fourA, lockA, H0.out]
  have hm := lr_mach E 5 0 p HO.out (by omega) (by omega) b
  rw [show (p 3 + 2) * (0 + 1) = p 3 + 2 from by rw [show (0 : Int) + 1 = 1 from rfl, Int.mul_one], ← ha] at hm
  exact .inr ⟨by rw [ha]; have := HO.out.w; omega, machOf_mk hm (.inl ⟨1, 0, 0, 0, 0, HI.out, by omega, by omega, .inl ⟨rfl, by omega, by rw [Int.mul_zero]; omega, fun _ => by rw [Int.mul_zero]; rfl⟩⟩) (Nat.le_trans HS.out HZ.out) (HB.out.keeps.trans HK.out)⟩
set_option maxHeartbeats 4000000 in
theorem rout_la (E : Prop) (k o n : Int) (V p : Nat → Int) (w : World) (hp : PlOk p) (h0 : p 0 = 3) (hk : k = 6) : Calls Try.prog 16 #[.agg (plC p), .agg (clC k o V n)] w (RoutQ E k p w) := by
  subst hk
  have HO := Lib.hid (And.intro (lk_ok hp h0) (acts_nums hp.r).2.2.2.2)
  have H0 := Lib.hid h0
  obtain ⟨W1, hW1⟩ : ∃ W, W = (w.alloc (.cells (plC p) 41)).alloc (.cells (clC 6 o V n) 28) := ⟨_, rfl⟩
  have h1 := ((Has.start w).alloc (.cells (plC p) 41)).alloc (.cells (clC 6 o V n) 28)
  rw [← hW1, World.size_alloc] at h1
  have HB := Lib.hid h1
  have HW := Lib.hid hW1
  obtain ⟨c0, c1, c2, c3, c4⟩ := five_cells (h1.at 1 rfl)
  obtain ⟨k0, k1, k2, k3, k4, k5, k6⟩ := seven_cells (h1.at 0 rfl)
  have l0 := lt_of (h1.at 1 rfl)
  have l1 := lt_of (h1.at 0 rfl)
  clear h1 hW1
  have e1 : (p 0 == 1) = false := by rw [h0]; rfl
  have e2 : (p 0 == 2) = false := by rw [h0]; rfl
  have e3 : (p 0 == 3) = true := by rw [h0]; rfl
  clear h0
  go_enter Try.func16, Try.ntmps16
  go_wp2_with (first
    | (refine Great.wpList_boxTo rfl 28 (.tmp 1) rfl (some 3) rfl (w.heap.size + 1) (by simp) (clC 6 o V n) rfl ?_; rw [← HW.out]))
  refine (lr_new W1 p HO.out.1.ok HO.out.1.k (p 4) HO.out.2).mono ?_
  rintro e w' ⟨b, rfl, hb, hI, kk⟩
  have HI := Lib.hid hI
  have HK := Lib.hid kk
  have HZ := Lib.hid hb
  have HS := Lib.hid HB.out.keeps.size
  clear kk hI hb
  go_wp2_with fail
  go_ret
  have ha : actsP 6 p = (p 3 + 2) * p 4 + (p 3 + 2) := by simp [actsP, ringA, fourA, lockA, H0.out]
  have hm := lr_mach E 6 (p 4) p HO.out.1 (by omega) HO.out.2 b
  rw [mul_step, ← ha] at hm
  exact .inr ⟨by rw [ha]; have := HO.out.1.w; have := HO.out.2; have hm := Int.mul_nonneg (show 0 ≤ p 3 + 2 by have := HO.out.1.w; omega) HO.out.2.1; omega, machOf_mk hm (.inl ⟨1, 0, 0, 0, 0, HI.out, by omega, by omega, .inl ⟨rfl, HO.out.2.1, by rw [Int.mul_zero]; omega, fun _ => by rw [Int.mul_zero]; rfl⟩⟩) (Nat.le_trans HS.out HZ.out) (HB.out.keeps.trans HK.out)⟩
set_option maxHeartbeats 4000000 in
theorem rout_no1 (E : Prop) (k o n : Int) (V p : Nat → Int) (w : World) (hp : PlOk p) (h0 : p 0 = 1) (h101 : k ≠ 1) (h102 : k ≠ 2) : Calls Try.prog 16 #[.agg (plC p), .agg (clC k o V n)] w (RoutQ E k p w) := by
  have HN := Lib.hid (show actsP k p = 0 from by simp [actsP, ringA, fourA, lockA, h0, h101, h102])
  obtain ⟨W1, hW1⟩ : ∃ W, W = (w.alloc (.cells (plC p) 41)).alloc (.cells (clC k o V n) 28) := ⟨_, rfl⟩
  have h1 := ((Has.start w).alloc (.cells (plC p) 41)).alloc (.cells (clC k o V n) 28)
  rw [← hW1, World.size_alloc] at h1
  have HB := Lib.hid h1
  have HW := Lib.hid hW1
  obtain ⟨c0, c1, c2, c3, c4⟩ := five_cells (h1.at 1 rfl)
  obtain ⟨k0, k1, k2, k3, k4, k5, k6⟩ := seven_cells (h1.at 0 rfl)
  have l0 := lt_of (h1.at 1 rfl)
  have l1 := lt_of (h1.at 0 rfl)
  clear h1 hW1
  have e1 : (p 0 == 1) = true := by rw [h0]; rfl
  have g1 : (k == 1) = false := by rw [beq_eq_false_iff_ne]; exact h101
  have g2 : (k == 2) = false := by rw [beq_eq_false_iff_ne]; exact h102
  clear h0 hp h101 h102
  go_enter Try.func16, Try.ntmps16
  go_wp2_with (first
    | (refine Great.wpList_boxTo rfl 28 (.tmp 1) rfl (some 3) rfl (w.heap.size + 1) (by simp) (clC k o V n) rfl ?_; rw [← HW.out]))
  go_ret
  exact .inl ⟨rfl, HN.out, HB.out.keeps⟩
set_option maxHeartbeats 4000000 in
theorem rout_no2 (E : Prop) (k o n : Int) (V p : Nat → Int) (w : World) (hp : PlOk p) (h0 : p 0 = 2) (h103 : k ≠ 3) (h104 : k ≠ 4) : Calls Try.prog 16 #[.agg (plC p), .agg (clC k o V n)] w (RoutQ E k p w) := by
  have HN := Lib.hid (show actsP k p = 0 from by simp [actsP, ringA, fourA, lockA, h0, h103, h104])
  obtain ⟨W1, hW1⟩ : ∃ W, W = (w.alloc (.cells (plC p) 41)).alloc (.cells (clC k o V n) 28) := ⟨_, rfl⟩
  have h1 := ((Has.start w).alloc (.cells (plC p) 41)).alloc (.cells (clC k o V n) 28)
  rw [← hW1, World.size_alloc] at h1
  have HB := Lib.hid h1
  have HW := Lib.hid hW1
  obtain ⟨c0, c1, c2, c3, c4⟩ := five_cells (h1.at 1 rfl)
  obtain ⟨k0, k1, k2, k3, k4, k5, k6⟩ := seven_cells (h1.at 0 rfl)
  have l0 := lt_of (h1.at 1 rfl)
  have l1 := lt_of (h1.at 0 rfl)
  clear h1 hW1
  have e1 : (p 0 == 1) = false := by rw [h0]; rfl
  have e2 : (p 0 == 2) = true := by rw [h0]; rfl
  have g3 : (k == 3) = false := by rw [beq_eq_false_iff_ne]; exact h103
  have g4 : (k == 4) = false := by rw [beq_eq_false_iff_ne]; exact h104
  clear h0 hp h103 h104
  go_enter Try.func16, Try.ntmps16
  go_wp2_with (first
    | (refine Great.wpList_boxTo rfl 28 (.tmp 1) rfl (some 3) rfl (w.heap.size + 1) (by simp) (clC k o V n) rfl ?_; rw [← HW.out]))
  go_ret
  exact .inl ⟨rfl, HN.out, HB.out.keeps⟩
set_option maxHeartbeats 4000000 in
theorem rout_no3 (E : Prop) (k o n : Int) (V p : Nat → Int) (w : World) (hp : PlOk p) (h0 : p 0 = 3) (h103 : k ≠ 3) (h105 : k ≠ 5) (h106 : k ≠ 6) : Calls Try.prog 16 #[.agg (plC p), .agg (clC k o V n)] w (RoutQ E k p w) := by
  have HN := Lib.hid (show actsP k p = 0 from by simp [actsP, ringA, fourA, lockA, h0, h103, h105, h106])
  obtain ⟨W1, hW1⟩ : ∃ W, W = (w.alloc (.cells (plC p) 41)).alloc (.cells (clC k o V n) 28) := ⟨_, rfl⟩
  have h1 := ((Has.start w).alloc (.cells (plC p) 41)).alloc (.cells (clC k o V n) 28)
  rw [← hW1, World.size_alloc] at h1
  have HB := Lib.hid h1
  have HW := Lib.hid hW1
  obtain ⟨c0, c1, c2, c3, c4⟩ := five_cells (h1.at 1 rfl)
  obtain ⟨k0, k1, k2, k3, k4, k5, k6⟩ := seven_cells (h1.at 0 rfl)
  have l0 := lt_of (h1.at 1 rfl)
  have l1 := lt_of (h1.at 0 rfl)
  clear h1 hW1
  have e1 : (p 0 == 1) = false := by rw [h0]; rfl
  have e2 : (p 0 == 2) = false := by rw [h0]; rfl
  have e3 : (p 0 == 3) = true := by rw [h0]; rfl
  have g3 : (k == 3) = false := by rw [beq_eq_false_iff_ne]; exact h103
  have g5 : (k == 5) = false := by rw [beq_eq_false_iff_ne]; exact h105
  have g6 : (k == 6) = false := by rw [beq_eq_false_iff_ne]; exact h106
  clear h0 hp h103 h105 h106
  go_enter Try.func16, Try.ntmps16
  go_wp2_with (first
    | (refine Great.wpList_boxTo rfl 28 (.tmp 1) rfl (some 3) rfl (w.heap.size + 1) (by simp) (clC k o V n) rfl ?_; rw [← HW.out]))
  go_ret
  exact .inl ⟨rfl, HN.out, HB.out.keeps⟩
set_option maxHeartbeats 4000000 in
theorem rout_fl0 (E : Prop) (k o n : Int) (V p : Nat → Int) (w : World) (hp : PlOk p) (h0 : p 0 = 4) (hk : dflagP k = 0) : Calls Try.prog 16 #[.agg (plC p), .agg (clC k o V n)] w (RoutQ E k p w) := by
  have HN := Lib.hid (show actsP k p = 0 from by simp [actsP, h0, dflag_acts, hk])
  have HD := Lib.hid (fun W => dflag_any k W)
  have HZ := Lib.hid hk
  obtain ⟨W1, hW1⟩ : ∃ W, W = (w.alloc (.cells (plC p) 41)).alloc (.cells (clC k o V n) 28) := ⟨_, rfl⟩
  have h1 := ((Has.start w).alloc (.cells (plC p) 41)).alloc (.cells (clC k o V n) 28)
  rw [← hW1, World.size_alloc] at h1
  have HB := Lib.hid h1
  have HW := Lib.hid hW1
  obtain ⟨c0, c1, c2, c3, c4⟩ := five_cells (h1.at 1 rfl)
  obtain ⟨k0, k1, k2, k3, k4, k5, k6⟩ := seven_cells (h1.at 0 rfl)
  have l0 := lt_of (h1.at 1 rfl)
  have l1 := lt_of (h1.at 0 rfl)
  clear h1 hW1
  have e1 : (p 0 == 1) = false := by rw [h0]; rfl
  have e2 : (p 0 == 2) = false := by rw [h0]; rfl
  have e3 : (p 0 == 3) = false := by rw [h0]; rfl
  have e4 : (p 0 == 4) = true := by rw [h0]; rfl
  clear h0 hp hk
  go_enter Try.func16, Try.ntmps16
  go_wp2_with (first
    | (refine Great.wpList_boxTo rfl 28 (.tmp 1) rfl (some 3) rfl (w.heap.size + 1) (by simp) (clC k o V n) rfl ?_; rw [← HW.out]))
  refine (HD.out _).mono ?_
  rintro e w' ⟨rfl, rfl⟩
  rw [HZ.out]
  go_wp2_with fail
  go_ret
  exact .inl ⟨rfl, HN.out, HB.out.keeps⟩
set_option maxHeartbeats 4000000 in
theorem rout_fl (E : Prop) (k o n : Int) (V p : Nat → Int) (w : World) (hp : PlOk p) (h0 : p 0 = 4) (q : Int) (hq : dflagP k = q) (hk : 1 ≤ q ∧ q ≤ 5) : Calls Try.prog 16 #[.agg (plC p), .agg (clC k o V n)] w (RoutQ E k p w) := by
  have HN := Lib.hid (show actsP k p = 1 from by rw [actsP, if_neg (by omega), if_neg (by omega), if_neg (by omega), dflag_acts, if_neg (by omega)])
  have HD := Lib.hid (fun W => dflag_any k W)
  have HZ := Lib.hid hq
  have HQ := Lib.hid hk
  have HP := Lib.hid (And.intro hp h0)
  have g0 : (q != 0) = true := by rw [bne_iff_ne]; omega
  obtain ⟨W1, hW1⟩ : ∃ W, W = (w.alloc (.cells (plC p) 41)).alloc (.cells (clC k o V n) 28) := ⟨_, rfl⟩
  have h1 := ((Has.start w).alloc (.cells (plC p) 41)).alloc (.cells (clC k o V n) 28)
  rw [← hW1, World.size_alloc] at h1
  have HB := Lib.hid h1
  have HW := Lib.hid hW1
  obtain ⟨c0, c1, c2, c3, c4⟩ := five_cells (h1.at 1 rfl)
  obtain ⟨k0, k1, k2, k3, k4, k5, k6⟩ := seven_cells (h1.at 0 rfl)
  have l0 := lt_of (h1.at 1 rfl)
  have l1 := lt_of (h1.at 0 rfl)
  clear h1 hW1
  have e1 : (p 0 == 1) = false := by rw [h0]; rfl
  have e2 : (p 0 == 2) = false := by rw [h0]; rfl
  have e3 : (p 0 == 3) = false := by rw [h0]; rfl
  have e4 : (p 0 == 4) = true := by rw [h0]; rfl
  clear h0 hp hk hq
  go_enter Try.func16, Try.ntmps16
  go_wp2_with (first
    | (refine Great.wpList_boxTo rfl 28 (.tmp 1) rfl (some 3) rfl (w.heap.size + 1) (by simp) (clC k o V n) rfl ?_; rw [← HW.out]))
  refine (HD.out _).mono ?_
  rintro e w' ⟨rfl, rfl⟩
  rw [HZ.out]
  go_wp2_with fail
  refine (flag_new w' p q (V 0) HP.out.1 HP.out.2 HQ.out).mono ?_
  rintro e w2 ⟨b, rfl, hb, hI, kk⟩
  have HI := Lib.hid hI
  have HK := Lib.hid kk
  have HZB := Lib.hid hb
  have HS := Lib.hid HB.out.keeps.size
  clear kk hI hb
  go_wp2_with fail
  go_ret
  have hm := fl_mach E k p q (V 0) HQ.out b
  rw [← HN.out] at hm
  exact .inr ⟨by rw [HN.out]; decide, machOf_mk hm (.inl ⟨rfl, HI.out⟩) (Nat.le_trans HS.out HZB.out) (HB.out.keeps.trans HK.out)⟩
theorem rout_any (E : Prop) (k o n : Int) (V p : Nat → Int) (w : World) (hp : PlOk p) : Calls Try.prog 16 #[.agg (plC p), .agg (clC k o V n)] w (RoutQ E k p w) := by
  have hn := acts_nums hp.r
  rcases (by omega : p 0 = 1 ∨ p 0 = 2 ∨ p 0 = 3 ∨ p 0 = 4) with h0 | h0 | h0 | h0
  · by_cases h1 : k = 1
    · exact rout_push E k o n V p w hp h0 h1
    · by_cases h2 : k = 2
      · exact rout_pop E k o n V p w hp h0 h2
      · exact rout_no1 E k o n V p w hp h0 h1 h2
  · by_cases h1 : k = 3
    · exact rout_fw E k o n V p w hp h0 h1
    · by_cases h2 : k = 4
      · exact rout_fr E k o n V p w hp h0 h2
      · exact rout_no2 E k o n V p w hp h0 h1 h2
  · by_cases h1 : k = 3
    · exact rout_lw E k o n V p w hp h0 h1
    · by_cases h2 : k = 5
      · exact rout_lt E k o n V p w hp h0 h2
      · by_cases h3 : k = 6
        · exact rout_la E k o n V p w hp h0 h3
        · exact rout_no3 E k o n V p w hp h0 h1 h2 h3
  · have hr := dflag_range k
    by_cases hk : dflagP k = 0
    · exact rout_fl0 E k o n V p w hp h0 hk
    · exact rout_fl E k o n V p w hp h0 _ rfl (by omega)
end Go.Proofs.Ytdnppkihpddlhaa
