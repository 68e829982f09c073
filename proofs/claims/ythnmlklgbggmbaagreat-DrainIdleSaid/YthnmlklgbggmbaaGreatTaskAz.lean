import Derived.Test.YthnmlklgbggmbaaGreatRows
import Derived.Test.YthnmlklgbggmbaaGreatBaseZ
import Derived.WalkKit
import Derived.ProofKit
import Derived.OpenShut
import Derived.WalkLawsBesides
import Derived.WalkSpells
import Derived.Lib.Hide
import Derived.Laws.BitsAllLaws
import Derived.Deep.QuietTactic
import Derived.BigQuiet
import Derived.Laws.StructEq
namespace Go.Proofs.YthnmlklgbggmbaaGreat
open Go.ChangeShapes Go.WideShapes Go.ChangeAt Go.RowKit
set_option linter.unusedVariables false


/-- An answer, as a task keeps it. -/
def AnsAt (w : World) (v : Value) : Option (Bool × Int × Int) → Prop
  | none => v = .pointer none
  | some (a, b, c) => ∃ p, v = .pointer (some ⟨p, 0, none⟩) ∧ w.heap[p]? = some (.cells #[.bool a, .int .u32 b, .int .u32 c] 169 (0, 0))
/-- Block b is a task in this state, with these bits and this answer. -/
def IsTask (w : World) (b : Nat) (st bits : Int) (ans : Option (Bool × Int × Int)) : Prop :=
  ∃ v, w.heap[b]? = some (.cells #[.int .i64 st, .int .u32 bits, v] 167 (0, 0)) ∧ AnsAt w v ans

theorem AnsAt.keeps {w w' : World} {v : Value} {ans : Option (Bool × Int × Int)} {b : Nat} {cs : Array Value} {fr : Nat × Nat} (h : AnsAt w v ans) (hk : Keeps (fun k => k = b) w w')
    (hb : w.heap[b]? = some (.cells cs 167 fr)) : AnsAt w' v ans := by
  match ans, h with
  | none, h => exact h
  | some (x, y, z), ⟨p, hv, hp⟩ =>
    refine ⟨p, hv, hk.at hp ?_⟩
    rintro rfl
    rw [hb] at hp
    simp at hp
theorem IsTask.keeps {S : Nat → Prop} {w w' : World} {b : Nat} {st bits : Int} {ans : Option (Bool × Int × Int)} (h : IsTask w b st bits ans) (hk : Keeps S w w') (hs : ∀ k, k < w.heap.size → ¬ S k) : IsTask w' b st bits ans := by
  obtain ⟨v, hb, hv⟩ := h
  refine ⟨v, hk.at hb (hs _ (lt_of hb)), ?_⟩
  match ans, hv with
  | none, h => exact h
  | some (x, y, z), ⟨p, hv, hp⟩ => exact ⟨p, hv, hk.at hp (hs _ (lt_of hp))⟩
theorem IsTask.lt {w : World} {b : Nat} {st bits : Int} {ans : Option (Bool × Int × Int)} (h : IsTask w b st bits ans) : b < w.heap.size := lt_of h.choose_spec.1

theorem eq_ans (a a' : Bool) (b b' c c' : Int) (w : World) :
    (Op.equalIn 10000 169 (.agg #[.bool a, .int .u32 b, .int .u32 c]) (.agg #[.bool a', .int .u32 b', .int .u32 c'])).run Tryz.prog w = .ok (a == a' && (b == b' && c == c')) w := by
  have u1 := Tryz.underlying4
  have u2 := Tryz.underlying38
  have hS : Tryz.prog.underlying 169 = some (.struct (Tryz.prog.fieldsOf 169)) := by kernel_rfl
  rw [show (10000 : Nat) = 9999 + 1 from rfl, run_equalIn_agg w 9999 169 _ _ hS Tryz.stoodInHeld169]
  simp only [Program.fieldsOf, Tryz.underlying169]
  go_simp
  by_cases h0 : a = a' <;> by_cases h1 : b = b' <;> by_cases h2 : c = c' <;> simp [h0, h1, h2]
/-- Two answers compared, as one value. -/
@[go_sem ↓] theorem neq_ans (a a' : Bool) (b b' c c' : Int) (w : World) :
    (binOp .neq 169 (.agg #[.bool a, .int .u32 b, .int .u32 c]) (.agg #[.bool a', .int .u32 b', .int .u32 c'])).run Tryz.prog w = .ok (.bool (!(a == a' && (b == b' && c == c')))) w := by
  rw [run_neq_struct, eq_ans]; rfl

theorem new_any (w : World) :
    Calls Tryz.prog 73 #[] w fun e w' => e = .returned (.pointer (some ⟨w.heap.size, 0, none⟩)) ∧ IsTask w' w.heap.size 1 0 none ∧ Keeps (fun _ => False) w w' := by
  go_enter Tryz.func73, Tryz.ntmps73
  go_wp2
  go_ret
  exact ⟨rfl, ⟨_, heap_new _ _, rfl⟩, (Keeps.refl _ _).alloc _⟩
theorem state_any (b : Nat) (st bits : Int) (ans : Option (Bool × Int × Int)) (w : World) (h : IsTask w b st bits ans) :
    Calls Tryz.prog 77 #[.pointer (some ⟨b, 0, none⟩)] w fun e w' => e = .returned (.int .i64 st) ∧ w = w' := by
  obtain ⟨v, hb, _⟩ := h
  have c0 : w.cell? ⟨b, 0, none⟩ = some (.int .i64 st) := cell_of hb 0
  clear hb
  go_enter Tryz.func77, Tryz.ntmps77
  go_wp2
  go_ret
  exact ⟨rfl, rfl⟩
theorem give_none (b : Nat) (bits : Int) (x : Bool) (y z : Int) (w : World) (h : IsTask w b 1 bits none) :
    Calls Tryz.prog 131 #[.pointer (some ⟨b, 0, none⟩), .agg #[.bool x, .int .u32 y, .int .u32 z]] w fun e w' => e = .returned (.bool true) ∧ IsTask w' b 1 bits (some (x, y, z)) ∧ Keeps (fun k => k = b) w w' := by
  have h2 := h
  obtain ⟨v, hb, hv⟩ := h
  subst hv
  have hlt := lt_of hb
  have ha := heap_old hb (.cells #[.bool x, .int .u32 y, .int .u32 z] 169)
  have ht : IsTask (w.alloc (.cells #[.bool x, .int .u32 y, .int .u32 z] 169)) b 1 bits none := ⟨_, ha, rfl⟩
  have c2 : (w.alloc (.cells #[.bool x, .int .u32 y, .int .u32 z] 169)).cell? ⟨b, 2, none⟩ = some (.pointer none) := cell_of ha 2
  have f2 : (w.alloc (.cells #[.bool x, .int .u32 y, .int .u32 z] 169)).frozen? ⟨b, 2, none⟩ = false := free_of ha 2
  have HA := Lib.hid ha
  have HT := Lib.hid ht
  have HB := Lib.hid hb
  clear ha hb h2 ht
  go_enter Tryz.func131, Tryz.ntmps131
  go_wp2_with (go_at_call 77; refine (state_any _ _ _ _ _ HT.out).mono ?_; rintro e w' ⟨rfl, rfl⟩)
  go_quiet (fail)
  go_wp2
  go_ret
  refine ⟨rfl, ⟨_, heap_set (heap_drewN HA.out nq) 2 _, _, rfl, heap_other (heap_drewN (heap_new _ _) nq) (by simp; omega) _⟩, ?_⟩
  exact Keeps.setCell (S := fun k => k = b) (((Keeps.refl _ w).alloc _).drewN nq) (p := ⟨b, 2, none⟩) (.inl rfl) _
/-- An answer that is there is replaced, unless it is the same. -/
theorem give_some (b : Nat) (bits : Int) (x : Bool) (y z : Int) (x' : Bool) (y' z' : Int) (w : World) (h : IsTask w b 1 bits (some (x', y', z'))) :
    Calls Tryz.prog 131 #[.pointer (some ⟨b, 0, none⟩), .agg #[.bool x, .int .u32 y, .int .u32 z]] w fun e w' => e = .returned (.bool true) ∧ IsTask w' b 1 bits (some (x, y, z)) ∧ Keeps (fun k => k = b) w w' := by
  obtain ⟨v, hb, q, rfl, hq⟩ := h
  have hlt := lt_of hb
  have hqlt := lt_of hq
  have ha := heap_old hb (.cells #[.bool x, .int .u32 y, .int .u32 z] 169)
  have hqa := heap_old hq (.cells #[.bool x, .int .u32 y, .int .u32 z] 169)
  have hnew := heap_new w (.cells #[.bool x, .int .u32 y, .int .u32 z] 169)
  have ht : IsTask (w.alloc (.cells #[.bool x, .int .u32 y, .int .u32 z] 169)) b 1 bits (some (x', y', z')) := ⟨_, ha, _, rfl, hqa⟩
  have HA := Lib.hid ha
  have HT := Lib.hid ht
  have HQ := Lib.hid hqa
  have HN := Lib.hid hnew
  have c2 : (w.alloc (.cells #[.bool x, .int .u32 y, .int .u32 z] 169)).cell? ⟨b, 2, none⟩ = some (.pointer (some ⟨q, 0, none⟩)) := cell_of ha 2
  have f2 : (w.alloc (.cells #[.bool x, .int .u32 y, .int .u32 z] 169)).frozen? ⟨b, 2, none⟩ = false := free_of ha 2
  have q0 : (w.alloc (.cells #[.bool x, .int .u32 y, .int .u32 z] 169)).cell? ⟨q, 0, none⟩ = some (.bool x') := cell_of hqa 0
  have q1 : (w.alloc (.cells #[.bool x, .int .u32 y, .int .u32 z] 169)).cell? ⟨q, 1, none⟩ = some (.int .u32 y') := cell_of hqa 1
  have q2 : (w.alloc (.cells #[.bool x, .int .u32 y, .int .u32 z] 169)).cell? ⟨q, 2, none⟩ = some (.int .u32 z') := cell_of hqa 2
  clear hb hq ha hqa hnew ht
  go_enter Tryz.func131, Tryz.ntmps131
  go_wp2_with (go_at_call 77; refine (state_any _ _ _ _ _ HT.out).mono ?_; rintro e w' ⟨rfl, rfl⟩)
  go_quiet (fail)
  go_wp2
  · go_ret
    refine ⟨rfl, ⟨_, heap_set (heap_drewN HA.out nq) 2 _, _, rfl, heap_other (heap_drewN HN.out nq) (by simp; omega) _⟩, ?_⟩
    exact Keeps.setCell (S := fun k => k = b) (((Keeps.refl _ w).alloc _).drewN nq) (p := ⟨b, 2, none⟩) (.inl rfl) _
  · rename_i hsame
    go_ret
    have hs : x' = x ∧ y' = y ∧ z' = z := by
      simpa using hsame
    obtain ⟨rfl, rfl, rfl⟩ := hs
    exact ⟨rfl, ⟨_, heap_drewN HA.out nq, _, rfl, heap_drewN HQ.out nq⟩, ((Keeps.refl _ w).alloc _).drewN nq⟩
theorem give_any (b : Nat) (bits : Int) (ans : Option (Bool × Int × Int)) (x : Bool) (y z : Int) (w : World) (h : IsTask w b 1 bits ans) :
    Calls Tryz.prog 131 #[.pointer (some ⟨b, 0, none⟩), .agg #[.bool x, .int .u32 y, .int .u32 z]] w fun e w' => e = .returned (.bool true) ∧ IsTask w' b 1 bits (some (x, y, z)) ∧ Keeps (fun k => k = b) w w' := by
  match ans, h with
  | none, h => exact give_none b bits x y z w h
  | some (x', y', z'), h => exact give_some b bits x y z x' y' z' w h

theorem bitsf_any (x : Int) (w : World) : Calls Tryz.prog 185 #[.int .u32 x] w fun e w' => e = .returned (.int .u32 x) ∧ w = w' := by
  go_enter Tryz.func185, Tryz.ntmps185
  go_wp2
  go_ret
  exact ⟨rfl, rfl⟩
theorem clearf_any (x : Int) (w : World) : Calls Tryz.prog 173 #[.int .u32 x] w fun e w' => e = .returned (.int .u32 0) ∧ w = w' := by
  go_enter Tryz.func173, Tryz.ntmps173
  go_wp2
  go_ret
  exact ⟨rfl, rfl⟩
theorem notef_any (x y : Nat) (p : Nat) (E : TypeId) (w : World) (hx : x < 4294967296) (hy : y < 4294967296) (h : w.heap[p]? = some (.cells #[.int .u32 y] E (0, 0))) :
    Calls Tryz.prog 179 #[.int .u32 x, .pointer (some ⟨p, 0, none⟩)] w fun e w' => e = .returned (.int .u32 ((x ||| y : Nat) : Int)) ∧ w = w' := by
  have c := cell_of h 0
  simp at c
  have e : bits .or .u32 (x : Int) (y : Int) = ((x ||| y : Nat) : Int) := u32_or_nat _ _ hx hy
  clear h
  go_enter Tryz.func179, Tryz.ntmps179
  go_wp2
  go_ret
  exact ⟨rfl, rfl⟩

/-- The bits set by what a function makes of the old ones, and the old ones returned. -/
theorem change_any (b : Nat) (st bits next : Int) (ans : Option (Bool × Int × Int)) (fn : FuncId) (cap : Array Value) (w : World) (h0 : (st == 0) = false) (h : IsTask w b st bits ans)
    (hcall : ∀ (args : Array Value) (w : World), Sem.run Tryz.prog (callFunc fn args) w = .ok (.enter fn args) w)
    (hf : Calls Tryz.prog fn (#[.int .u32 bits] ++ cap) w fun e w' => e = .returned (.int .u32 next) ∧ w = w') :
    Calls Tryz.prog 172 #[.pointer (some ⟨b, 0, none⟩), .func (.func fn) #[] cap] w fun e w' => e = .returned (.int .u32 bits) ∧ IsTask w' b st next ans ∧ Keeps (fun k => k = b) w w' := by
  have h2 := h
  obtain ⟨v, hb, hv⟩ := h
  have c1 : w.cell? ⟨b, 1, none⟩ = some (.int .u32 bits) := cell_of hb 1
  have f1 : w.frozen? ⟨b, 1, none⟩ = false := free_of hb 1
  have HB := Lib.hid hb
  have H2 := Lib.hid h2
  have HF := Lib.hid hf
  clear hb h2 hf
  go_enter Tryz.func172, Tryz.ntmps172
  go_wp2_with (go_at_call 77; refine (state_any _ _ _ _ _ H2.out).mono ?_; rintro e w' ⟨rfl, rfl⟩)
  refine HF.out.mono ?_
  rintro e w' ⟨rfl, rfl⟩
  go_wp2
  go_ret
  have hk : Keeps (fun k => k = b) w (w.setCell ⟨b, 1, none⟩ (.int .u32 next)) := Keeps.setCell (S := fun k => k = b) (Keeps.refl _ w) (p := ⟨b, 1, none⟩) (.inl rfl) _
  exact ⟨rfl, ⟨v, heap_set HB.out 1 _, hv.keeps hk HB.out⟩, hk⟩

theorem bits_any (b : Nat) (st bits : Int) (ans : Option (Bool × Int × Int)) (w : World) (h0 : (st == 0) = false) (h : IsTask w b st bits ans) :
    Calls Tryz.prog 164 #[.pointer (some ⟨b, 0, none⟩)] w fun e w' => e = .returned (.int .u32 bits) ∧ IsTask w' b st bits ans ∧ Keeps (fun k => k = b) w w' := by
  have hc : ∀ (args : Array Value) (w : World), Sem.run Tryz.prog (callFunc 185 args) w = .ok (.enter 185 args) w := fun _ _ => by go_simp
  have H := Lib.hid (change_any b st bits bits ans 185 #[] w h0 h hc (bitsf_any bits w))
  clear hc h
  go_enter Tryz.func164, Tryz.ntmps164
  go_wp2_with (go_at_call 172; refine H.out.mono ?_; rintro e w' ⟨rfl, ht, hk⟩)
  go_ret
  exact ⟨rfl, ht, hk⟩
theorem clear_any (b : Nat) (st bits : Int) (ans : Option (Bool × Int × Int)) (w : World) (h0 : (st == 0) = false) (h : IsTask w b st bits ans) :
    Calls Tryz.prog 135 #[.pointer (some ⟨b, 0, none⟩)] w fun e w' => e = .returned (.int .u32 bits) ∧ IsTask w' b st 0 ans ∧ Keeps (fun k => k = b) w w' := by
  have hc : ∀ (args : Array Value) (w : World), Sem.run Tryz.prog (callFunc 173 args) w = .ok (.enter 173 args) w := fun _ _ => by go_simp
  have H := Lib.hid (change_any b st bits 0 ans 173 #[] w h0 h hc (clearf_any bits w))
  clear hc h
  go_enter Tryz.func135, Tryz.ntmps135
  go_wp2_with (go_at_call 172; refine H.out.mono ?_; rintro e w' ⟨rfl, ht, hk⟩)
  go_ret
  exact ⟨rfl, ht, hk⟩
theorem note_any (b : Nat) (st : Int) (bits more : Nat) (ans : Option (Bool × Int × Int)) (w : World) (h0 : (st == 0) = false) (hb : bits < 4294967296) (hm : more < 4294967296) (h : IsTask w b st bits ans) :
    Calls Tryz.prog 142 #[.pointer (some ⟨b, 0, none⟩), .int .u32 more] w fun e w' => e = .returned (.int .u32 ((bits ||| more : Nat) : Int)) ∧ IsTask w' b st ((bits ||| more : Nat) : Int) ans ∧ Keeps (fun k => k = b) w w' := by
  have hmf : ∀ (fn : Fn) (first cap : Array Value) (w : World), (Instr.makeFunc fn first cap).run Tryz.prog w = .ok (.func fn first cap) w := fun _ _ _ _ => rfl
  go_enter Tryz.func142, Tryz.ntmps142
  go_wp2_with fail
  have hc : ∀ (args : Array Value) (w : World), Sem.run Tryz.prog (callFunc 179 args) w = .ok (.enter 179 args) w := fun _ _ => by go_simp
  have h2 : IsTask (w.alloc (.cells #[.int .u32 more] 38)) b st bits ans := h.keeps ((Keeps.refl (fun _ => False) _).alloc _) (fun _ _ h => h)
  refine (change_any b st bits ((bits ||| more : Nat) : Int) ans 179 #[.pointer (some ⟨w.heap.size, 0, none⟩)] _ h0 h2 hc (notef_any bits more _ _ _ hb hm (heap_new _ _))).mono ?_
  rintro e w1 ⟨rfl, h3, hk⟩
  clear hc h2 h
  have H3 := Lib.hid h3
  clear h3
  go_wp2_with (go_at_call 164; refine (bits_any _ _ _ _ _ h0 H3.out).mono ?_; rintro e w' ⟨rfl, ht, hk2⟩)
  go_ret
  have hk1 : Keeps (fun k => k = b) w w1 := ((Keeps.refl _ w).alloc _).trans hk
  exact ⟨rfl, ht, hk1.trans hk2⟩

/-- Go: a ready task leaves for another state. -/
theorem go_yes (b : Nat) (bits : Int) (ans : Option (Bool × Int × Int)) (st : Int) (w : World) (hst : st = 2 ∨ st = 3 ∨ st = 4) (h : IsTask w b 1 bits ans) :
    Calls Tryz.prog 75 #[.pointer (some ⟨b, 0, none⟩), .int .i64 st] w fun e w' => e = .returned (.bool true) ∧ IsTask w' b st bits ans ∧ Keeps (fun k => k = b) w w' := by
  have H2 := Lib.hid h
  obtain ⟨v, hb, hv⟩ := h
  have hlt := lt_of hb
  have f0 : w.frozen? ⟨b, 0, none⟩ = false := free_of hb 0
  have c0 : w.cell? ⟨b, 0, none⟩ = some (.int .i64 1) := cell_of hb 0
  have HB := Lib.hid hb
  clear hb
  have hk : ∀ x : Int, Keeps (fun k => k = b) w (w.setCell ⟨b, 0, none⟩ (.int .i64 x)) := fun x => Keeps.setCell (S := fun k => k = b) (Keeps.refl _ w) (p := ⟨b, 0, none⟩) (.inl rfl) _
  rcases hst with rfl | rfl | rfl
  all_goals
    go_enter Tryz.func75, Tryz.ntmps75
    go_wp2_with (go_at_call 77; refine (state_any _ _ _ _ _ H2.out).mono ?_; rintro e w' ⟨rfl, rfl⟩)
    go_ret
    exact ⟨rfl, ⟨v, heap_set HB.out 0 _, hv.keeps (hk _) HB.out⟩, hk _⟩
/-- Go: who is not ready stays. -/
theorem go_no (b : Nat) (st0 bits : Int) (ans : Option (Bool × Int × Int)) (st : Int) (w : World) (hst : (st0 != 1) = true) (h : IsTask w b st0 bits ans) :
    Calls Tryz.prog 75 #[.pointer (some ⟨b, 0, none⟩), .int .i64 st] w fun e w' => e = .returned (.bool false) ∧ w = w' := by
  have H2 := Lib.hid h
  clear h
  go_enter Tryz.func75, Tryz.ntmps75
  go_wp2_with (go_at_call 77; refine (state_any _ _ _ _ _ H2.out).mono ?_; rintro e w' ⟨rfl, rfl⟩)
  go_ret
  exact ⟨rfl, rfl⟩
/-- Wake: a task that waits or sleeps is ready, and has the answer. -/
theorem wake_yes (b : Nat) (st bits : Int) (ans : Option (Bool × Int × Int)) (x : Bool) (y z : Int) (w : World) (hst : st = 2 ∨ st = 3) (h : IsTask w b st bits ans) :
    Calls Tryz.prog 174 #[.pointer (some ⟨b, 0, none⟩), .agg #[.bool x, .int .u32 y, .int .u32 z]] w fun e w' => e = .returned (.bool true) ∧ IsTask w' b 1 bits (some (x, y, z)) ∧ Keeps (fun k => k = b) w w' := by
  have ha : IsTask (w.alloc (.cells #[.bool x, .int .u32 y, .int .u32 z] 169)) b st bits ans := h.keeps ((Keeps.refl (fun _ => False) _).alloc _) (fun _ _ h => h)
  have H2 := Lib.hid ha
  obtain ⟨v, hb, hv⟩ := h
  have hlt := lt_of hb
  have f0 : w.frozen? ⟨b, 0, none⟩ = false := free_of hb 0
  have c0 : w.cell? ⟨b, 0, none⟩ = some (.int .i64 st) := cell_of hb 0
  have hk : Keeps (fun k => k = b) w (w.setCell ⟨b, 0, none⟩ (.int .i64 1)) := Keeps.setCell (S := fun k => k = b) (Keeps.refl _ w) (p := ⟨b, 0, none⟩) (.inl rfl) _
  have h3 : IsTask ((w.setCell ⟨b, 0, none⟩ (.int .i64 1)).alloc (.cells #[.bool x, .int .u32 y, .int .u32 z] 169)) b 1 bits ans :=
    IsTask.keeps ⟨v, heap_set hb 0 _, hv.keeps hk hb⟩ ((Keeps.refl (fun _ => False) _).alloc _) (fun _ _ h => h)
  have H3 := Lib.hid h3
  have HK := Lib.hid (hk.alloc (.cells #[.bool x, .int .u32 y, .int .u32 z] 169))
  clear hb hv ha hk h3
  rcases hst with rfl | rfl
  all_goals
    go_enter Tryz.func174, Tryz.ntmps174
    go_wp2_with (first | (go_at_call 77; refine (state_any _ _ _ _ _ H2.out).mono ?_; rintro e w' ⟨rfl, rfl⟩) | (go_at_call 131; refine (give_any _ _ _ _ _ _ _ H3.out).mono ?_; rintro e w' ⟨rfl, ht, hk⟩))
    go_ret
    exact ⟨rfl, ht, HK.out.trans hk⟩
end Go.Proofs.YthnmlklgbggmbaaGreat
namespace Go.Proofs.YthnmlklgbggmbaaGreat
open Go.ChangeShapes Go.WideShapes Go.ChangeAt Go.RowKit
set_option linter.unusedVariables false

/-- Who is not ready is given nothing. -/
theorem give_no (b : Nat) (st bits : Int) (ans : Option (Bool × Int × Int)) (x : Bool) (y z : Int) (w : World) (hst : (st != 1) = true) (h : IsTask w b st bits ans) :
    Calls Tryz.prog 131 #[.pointer (some ⟨b, 0, none⟩), .agg #[.bool x, .int .u32 y, .int .u32 z]] w fun e w' => e = .returned (.bool false) ∧ Keeps (fun _ => False) w w' := by
  have HT := Lib.hid (h.keeps ((Keeps.refl (fun _ => False) _).alloc (.cells #[.bool x, .int .u32 y, .int .u32 z] 169)) fun _ _ h => h)
  clear h
  go_enter Tryz.func131, Tryz.ntmps131
  go_wp2_with (go_at_call 77; refine (state_any _ _ _ _ _ HT.out).mono ?_; rintro e w' ⟨rfl, rfl⟩)
  go_ret
  exact ⟨rfl, (Keeps.refl _ _).alloc _⟩
theorem wake_no (b : Nat) (st bits : Int) (ans : Option (Bool × Int × Int)) (x : Bool) (y z : Int) (w : World) (h2 : (st == 2) = false) (h3 : (st == 3) = false) (h : IsTask w b st bits ans) :
    Calls Tryz.prog 174 #[.pointer (some ⟨b, 0, none⟩), .agg #[.bool x, .int .u32 y, .int .u32 z]] w fun e w' => e = .returned (.bool false) ∧ Keeps (fun _ => False) w w' := by
  have HT := Lib.hid (h.keeps ((Keeps.refl (fun _ => False) _).alloc (.cells #[.bool x, .int .u32 y, .int .u32 z] 169)) fun _ _ h => h)
  clear h
  go_enter Tryz.func174, Tryz.ntmps174
  go_wp2_with (go_at_call 77; refine (state_any _ _ _ _ _ HT.out).mono ?_; rintro e w' ⟨rfl, rfl⟩)
  go_ret
  exact ⟨rfl, (Keeps.refl _ _).alloc _⟩
theorem change_zero (b : Nat) (bits : Int) (ans : Option (Bool × Int × Int)) (f : Value) (w : World) (h : IsTask w b 0 bits ans) :
    Calls Tryz.prog 172 #[.pointer (some ⟨b, 0, none⟩), f] w fun e w' => e = .returned (.int .u32 0) ∧ w = w' := by
  have HT := Lib.hid h
  clear h
  go_enter Tryz.func172, Tryz.ntmps172
  go_wp2_with (go_at_call 77; refine (state_any _ _ _ _ _ HT.out).mono ?_; rintro e w' ⟨rfl, rfl⟩)
  go_ret
  exact ⟨rfl, rfl⟩
theorem bits_zero (b : Nat) (bits : Int) (ans : Option (Bool × Int × Int)) (w : World) (h : IsTask w b 0 bits ans) :
    Calls Tryz.prog 164 #[.pointer (some ⟨b, 0, none⟩)] w fun e w' => e = .returned (.int .u32 0) ∧ w = w' := by
  have HT := Lib.hid h
  clear h
  go_enter Tryz.func164, Tryz.ntmps164
  go_wp2_with (go_at_call 172; refine (change_zero _ _ _ _ _ HT.out).mono ?_; rintro e w' ⟨rfl, rfl⟩)
  go_ret
  exact ⟨rfl, rfl⟩
theorem note_zero (b : Nat) (bits : Int) (ans : Option (Bool × Int × Int)) (more : Int) (w : World) (h : IsTask w b 0 bits ans) :
    Calls Tryz.prog 142 #[.pointer (some ⟨b, 0, none⟩), .int .u32 more] w fun e w' => e = .returned (.int .u32 0) ∧ Keeps (fun _ => False) w w' := by
  have hmf : ∀ (fn : Fn) (first cap : Array Value) (w : World), (Instr.makeFunc fn first cap).run Tryz.prog w = .ok (.func fn first cap) w := fun _ _ _ _ => rfl
  have HT := Lib.hid (h.keeps ((Keeps.refl (fun _ => False) _).alloc (.cells #[.int .u32 more] 38)) fun _ _ h => h)
  clear h
  go_enter Tryz.func142, Tryz.ntmps142
  go_wp2_with (first | (go_at_call 172; refine (change_zero _ _ _ _ _ HT.out).mono ?_; rintro e w' ⟨rfl, rfl⟩) | (go_at_call 164; refine (bits_zero _ _ _ _ HT.out).mono ?_; rintro e w' ⟨rfl, rfl⟩))
  go_ret
  exact ⟨rfl, (Keeps.refl _ _).alloc _⟩

/-! ### No task -/
theorem state_nil (w : World) : Calls Tryz.prog 77 #[.pointer none] w fun e w' => e = .returned (.int .i64 0) ∧ w = w' := by
  go_enter Tryz.func77, Tryz.ntmps77
  go_wp2
  go_ret
  exact ⟨rfl, rfl⟩
theorem go_nil (st : Int) (w : World) : Calls Tryz.prog 75 #[.pointer none, .int .i64 st] w fun e w' => e = .returned (.bool false) ∧ w = w' := by
  go_enter Tryz.func75, Tryz.ntmps75
  go_wp2_with (go_at_call 77; refine (state_nil _).mono ?_; rintro e w' ⟨rfl, rfl⟩)
  go_ret
  exact ⟨rfl, rfl⟩
theorem give_nil (x : Bool) (y z : Int) (w : World) :
    Calls Tryz.prog 131 #[.pointer none, .agg #[.bool x, .int .u32 y, .int .u32 z]] w fun e w' => e = .returned (.bool false) ∧ Keeps (fun _ => False) w w' := by
  go_enter Tryz.func131, Tryz.ntmps131
  go_wp2_with (go_at_call 77; refine (state_nil _).mono ?_; rintro e w' ⟨rfl, rfl⟩)
  go_ret
  exact ⟨rfl, (Keeps.refl _ _).alloc _⟩
theorem change_nil (f : Value) (w : World) : Calls Tryz.prog 172 #[.pointer none, f] w fun e w' => e = .returned (.int .u32 0) ∧ w = w' := by
  go_enter Tryz.func172, Tryz.ntmps172
  go_wp2_with (go_at_call 77; refine (state_nil _).mono ?_; rintro e w' ⟨rfl, rfl⟩)
  go_ret
  exact ⟨rfl, rfl⟩
theorem bits_nil (w : World) : Calls Tryz.prog 164 #[.pointer none] w fun e w' => e = .returned (.int .u32 0) ∧ w = w' := by
  go_enter Tryz.func164, Tryz.ntmps164
  go_wp2_with (go_at_call 172; refine (change_nil _ _).mono ?_; rintro e w' ⟨rfl, rfl⟩)
  go_ret
  exact ⟨rfl, rfl⟩
theorem clear_nil (w : World) : Calls Tryz.prog 135 #[.pointer none] w fun e w' => e = .returned (.int .u32 0) ∧ w = w' := by
  go_enter Tryz.func135, Tryz.ntmps135
  go_wp2_with (go_at_call 172; refine (change_nil _ _).mono ?_; rintro e w' ⟨rfl, rfl⟩)
  go_ret
  exact ⟨rfl, rfl⟩
theorem note_nil (more : Int) (w : World) : Calls Tryz.prog 142 #[.pointer none, .int .u32 more] w fun e w' => e = .returned (.int .u32 0) ∧ Keeps (fun _ => False) w w' := by
  have hmf : ∀ (fn : Fn) (first cap : Array Value) (w : World), (Instr.makeFunc fn first cap).run Tryz.prog w = .ok (.func fn first cap) w := fun _ _ _ _ => rfl
  go_enter Tryz.func142, Tryz.ntmps142
  go_wp2_with (first | (go_at_call 172; refine (change_nil _ _).mono ?_; rintro e w' ⟨rfl, rfl⟩) | (go_at_call 164; refine (bits_nil _).mono ?_; rintro e w' ⟨rfl, rfl⟩))
  go_ret
  exact ⟨rfl, (Keeps.refl _ _).alloc _⟩
theorem copy_nil (w : World) : Calls Tryz.prog 34 #[.pointer none] w fun e w' => e = .returned (.pointer none) ∧ w = w' := by
  go_enter Tryz.func34, Tryz.ntmps34
  go_wp2_with (go_at_call 77; refine (state_nil _).mono ?_; rintro e w' ⟨rfl, rfl⟩)
  go_ret
  exact ⟨rfl, rfl⟩
/-- A copy of a task that has an answer: another one, whose answer is its own. -/
theorem copy_some (b : Nat) (st bits : Int) (x : Bool) (y z : Int) (w : World) (hst : (st == 0) = false) (h : IsTask w b st bits (some (x, y, z))) :
    Calls Tryz.prog 34 #[.pointer (some ⟨b, 0, none⟩)] w fun e w' => e = .returned (.pointer (some ⟨w.heap.size, 0, none⟩)) ∧ IsTask w' w.heap.size st bits (some (x, y, z)) ∧ Keeps (fun _ => False) w w' := by
  have HT := Lib.hid h
  obtain ⟨v, hb, q, rfl, hq⟩ := h
  have hlt := lt_of hb
  have hqlt := lt_of hq
  have c0 : w.cell? ⟨b, 0, none⟩ = some (.int .i64 st) := cell_of hb 0
  have c1 : w.cell? ⟨b, 1, none⟩ = some (.int .u32 bits) := cell_of hb 1
  have c2 : w.cell? ⟨b, 2, none⟩ = some (.pointer (some ⟨q, 0, none⟩)) := cell_of hb 2
  have q0 : w.cell? ⟨q, 0, none⟩ = some (.bool x) := cell_of hq 0
  have q1 : w.cell? ⟨q, 1, none⟩ = some (.int .u32 y) := cell_of hq 1
  have q2 : w.cell? ⟨q, 2, none⟩ = some (.int .u32 z) := cell_of hq 2
  clear hb hq
  go_enter Tryz.func34, Tryz.ntmps34
  go_wp2_with (go_at_call 77; refine (state_any _ _ _ _ _ HT.out).mono ?_; rintro e w' ⟨rfl, rfl⟩)
  go_ret
  refine ⟨rfl, ⟨_, heap_old (heap_new _ _) _, _, rfl, ?_⟩, ((Keeps.refl _ _).alloc _).alloc _⟩
  have e : ∀ o o2, ((w.alloc o).alloc o2).heap[w.heap.size + 1]? = some o2 := fun o o2 => by
    have := heap_new (w.alloc o) o2
    rwa [show (w.alloc o).heap.size = w.heap.size + 1 by simp] at this
  exact e _ _
end Go.Proofs.YthnmlklgbggmbaaGreat
