import Derived.Test.YtflnibioimnliacTaskMore
import Derived.Test.YtflnibioimnliacTaskLast
namespace Go.Proofs.Ytflnibioimnliac
open Go.ChangeShapes Go.WideShapes Go.ChangeAt Go.RowKit
set_option linter.unusedVariables false

theorem eq_ans26 (a a' : Bool) (b b' c c' : Int) (w : World) :
    (Op.equalIn 10000 72 (.agg #[.bool a, .int .u32 b, .int .u32 c]) (.agg #[.bool a', .int .u32 b', .int .u32 c'])).run Try.prog w = .ok (a == a' && (b == b' && c == c')) w := by
  have u1 := Try.underlying4
  have u2 := Try.underlying28
  have hS : Try.prog.underlying 72 = some (.struct (Try.prog.fieldsOf 72)) := by kernel_rfl
  rw [show (10000 : Nat) = 9999 + 1 from rfl, run_equalIn_agg w 9999 72 _ _ hS Try.stoodInHeld72]
  simp only [Program.fieldsOf, Try.underlying72]
  go_simp
  by_cases h0 : a = a' <;> by_cases h1 : b = b' <;> by_cases h2 : c = c' <;> simp [h0, h1, h2]
@[go_sem ↓] theorem neq_ans26 (a a' : Bool) (b b' c c' : Int) (w : World) :
    (binOp .neq 72 (.agg #[.bool a, .int .u32 b, .int .u32 c]) (.agg #[.bool a', .int .u32 b', .int .u32 c'])).run Try.prog w = .ok (.bool (!(a == a' && (b == b' && c == c')))) w := by
  rw [run_neq_struct, eq_ans26]; rfl

/-- What changes another task leaves this one. -/
theorem IsTask.other {w w' : World} {b c : Nat} {st bits st' bits' : Int} {ans ans' : Option (Bool × Int × Int)} (h : IsTask w c st bits ans) (hb : IsTask w b st' bits' ans') (hk : Keeps (fun k => k = b) w w') (hne : c ≠ b) : IsTask w' c st bits ans := by
  obtain ⟨v, hc, hv⟩ := h
  obtain ⟨u, hb, _⟩ := hb
  exact ⟨v, hk.at hc hne, hv.keeps hk hb⟩
theorem IsTask.none {w w' : World} {c : Nat} {st bits : Int} {ans : Option (Bool × Int × Int)} (h : IsTask w c st bits ans) (hk : Keeps (fun _ => False) w w') : IsTask w' c st bits ans := h.keeps hk fun _ _ h => h

/-- The law's own things: the task that ended, its copy, one that is nobody's. -/
structure Ends (w wr : World) (b c z : Nat) (bits : Int) : Prop where
  below : Below w.heap.size w wr
  tt : IsTask wr b 4 bits none
  tc : IsTask wr c 1 0 none
  tz : IsTask wr z 0 0 none
  gb : w.heap.size ≤ b
  bc : c ≠ b
  bz : z ≠ b
theorem Ends.none {w w1 w2 : World} {b c z : Nat} {bits : Int} (h : Ends w w1 b c z bits) (hk : Keeps (fun _ => False) w1 w2) : Ends w w2 b c z bits :=
  ⟨h.below.trans (hk.below h.below.size fun _ _ h => h.elim), h.tt.none hk, h.tc.none hk, h.tz.none hk, h.gb, h.bc, h.bz⟩

/-- A round's facts: the things, the round's step, and the local answer. -/
structure Rnd (w wr : World) (b c z : Nat) (bits : Int) (a0 o0 L : Nat) (st : Int) (p : Bool) (q r : Int) (more : Nat) : Prop where
  ends : Ends w wr b c z bits
  ha : a0 < w.heap.size
  st : wr.cell? ⟨a0, o0 + 1, none⟩ = some (.int .i64 st)
  more : wr.cell? ⟨a0, o0 + 5, none⟩ = some (.int .u32 more)
  loc : wr.heap[L]? = some (.cells #[.bool p, .int .u32 q, .int .u32 r] 76 (0, 0))
theorem Rnd.none {w w1 w2 : World} {b c z : Nat} {bits : Int} {a0 o0 L : Nat} {st : Int} {p : Bool} {q r : Int} {more : Nat} (h : Rnd w w1 b c z bits a0 o0 L st p q r more) (hk : Keeps (fun _ => False) w1 w2) :
    Rnd w w2 b c z bits a0 o0 L st p q r more := by
  have hs : ∀ a : Nat, w2.cell? ⟨a0, a, Option.none⟩ = w1.cell? ⟨a0, a, Option.none⟩ := fun a => World.cell?_of_block (w := w1) (hk.block a0 (Nat.lt_of_lt_of_le h.ha h.ends.below.size) fun h => h)
  exact ⟨h.ends.none hk, h.ha, (hs _).trans h.st, (hs _).trans h.more, hk.at h.loc fun h => h⟩
theorem Rnd.l0 {w wr : World} {b c z : Nat} {bits : Int} {a0 o0 L : Nat} {st : Int} {p : Bool} {q r : Int} {more : Nat} (h : Rnd w wr b c z bits a0 o0 L st p q r more) : wr.cell? ⟨L, 0, Option.none⟩ = some (.bool p) := cell_of h.loc 0
theorem Rnd.l1 {w wr : World} {b c z : Nat} {bits : Int} {a0 o0 L : Nat} {st : Int} {p : Bool} {q r : Int} {more : Nat} (h : Rnd w wr b c z bits a0 o0 L st p q r more) : wr.cell? ⟨L, 1, Option.none⟩ = some (.int .u32 q) := cell_of h.loc 1
theorem Rnd.l2 {w wr : World} {b c z : Nat} {bits : Int} {a0 o0 L : Nat} {st : Int} {p : Bool} {q r : Int} {more : Nat} (h : Rnd w wr b c z bits a0 o0 L st p q r more) : wr.cell? ⟨L, 2, Option.none⟩ = some (.int .u32 r) := cell_of h.loc 2

set_option maxRecDepth 20000 in
set_option maxHeartbeats 2000000 in
theorem taskEnds_plain (a0 : Option Addr) (n cap0 : Nat) (F : Nat → Int × (Bool × Int × Int) × Nat) (x : Bool) (y u : Int) (w : World)
    (hn : n ≤ 100) (hN : ∀ i, i < n → (F i).2.2 < 4294967296)
    (h0 : 0 < n → ∃ b off, a0 = some ⟨b, off, none⟩ ∧ b < w.heap.size ∧ ∀ i, i < n → w.cell? ⟨b, off + i * 6 + 1, none⟩ = some (.int .i64 (F i).1) ∧ w.cell? ⟨b, off + i * 6 + 2, none⟩ = some (.bool (F i).2.1.1) ∧ w.cell? ⟨b, off + i * 6 + 3, none⟩ = some (.int .u32 (F i).2.1.2.1)
      ∧ w.cell? ⟨b, off + i * 6 + 4, none⟩ = some (.int .u32 (F i).2.1.2.2) ∧ w.cell? ⟨b, off + i * 6 + 5, none⟩ = some (.int .u32 (F i).2.2)) :
    Calls Try.prog 7 #[.slice a0 n cap0, .agg #[.bool x, .int .u32 y, .int .u32 u]] w fun e w' => e = .returned (.bool true) ∧ Below w.heap.size w w' := by
  have d1 : decide (100 < (n : Int)) = false := by simp; omega
  have bel0 : Below w.heap.size w (w.alloc (.cells #[.bool x, .int .u32 y, .int .u32 u] 72)) := ((Keeps.refl (fun _ => False) w).alloc _).none
  have B0 := heap_new w (.cells #[.bool x, .int .u32 y, .int .u32 u] 72)
  have H0 := Lib.hid (And.intro bel0 B0)
  clear bel0 B0
  go_enter Try.func7, Try.ntmps7
  go_wp2_with fail
  generalize hw0 : w.alloc (.cells #[.bool x, .int .u32 y, .int .u32 u] 72) = w0 at H0 ⊢
  refine (new_any _).mono ?_
  rintro e w1 ⟨rfl, t1, k1⟩
  have B1 := k1.at H0.out.2 fun h => h
  have bel1 := H0.out.1.trans (k1.below H0.out.1.size fun _ _ h => h.elim)
  have gb := H0.out.1.size
  have hbx := lt_of H0.out.2
  generalize hb : w0.heap.size = b at *
  clear hw0 k1 H0 hb
  have hne : w.heap.size ≠ b := by omega
  have ht := t1.lt
  have b0 : w1.cell? ⟨w.heap.size, 0, none⟩ = some (.bool x) := cell_of B1 0
  have b1 : w1.cell? ⟨w.heap.size, 1, none⟩ = some (.int .u32 y) := cell_of B1 1
  have b2 : w1.cell? ⟨w.heap.size, 2, none⟩ = some (.int .u32 u) := cell_of B1 2
  have H1 := Lib.hid (And.intro B1 (And.intro bel1 t1))
  clear B1 bel1 t1
  go_wp2_with fail
  refine (give_none _ _ _ _ _ _ H1.out.2.2).mono ?_
  rintro e w2 ⟨rfl, t2, k2⟩
  have H2 := Lib.hid (And.intro (k2.at H1.out.1 hne) (And.intro (H1.out.2.1.trans (k2.below H1.out.2.1.size fun k _ h => by omega)) t2))
  clear H1 b0 b1 b2 t2 k2 ht
  go_wp2_with fail
  refine (copy_some _ _ _ _ _ _ _ rfl H2.out.2.2).mono ?_
  rintro e w3 ⟨rfl, t3, k3⟩
  have H3 := Lib.hid (And.intro (k3.at H2.out.1 fun h => h) (And.intro (H2.out.2.1.trans (k3.below H2.out.2.1.size fun k _ h => h.elim)) (H2.out.2.2.none k3)))
  have hbc : b < w2.heap.size := H2.out.2.2.lt
  generalize hc : w2.heap.size = c at *
  have C3 := Lib.hid t3
  clear H2 hc t3 k3
  go_wp2_with fail
  refine (taken_some _ _ _ _ _ _ _ H3.out.2.2).mono ?_
  rintro e w4 ⟨rfl, t4, k4⟩
  have ka : Keeps (fun _ => False) w4 (w4.alloc (.cells #[.bool x, .int .u32 y, .int .u32 u] 76)) := (Keeps.refl _ _).alloc _
  have H4 := Lib.hid (And.intro (ka.at (k4.at H3.out.1 hne) fun h => h) (And.intro ((H3.out.2.1.trans (k4.below H3.out.2.1.size fun k _ h => by omega)).trans (ka.below (Nat.le_trans H3.out.2.1.size k4.size) fun _ _ h => h.elim))
    (And.intro (t4.none ka) (And.intro ((C3.out.other H3.out.2.2 k4 (by omega)).none ka) (heap_new w4 (.cells #[.bool x, .int .u32 y, .int .u32 u] 76))))))
  clear H3 C3 t4 k4 ka
  go_wp2_with fail
  generalize hw4 : w4.alloc (.cells #[.bool x, .int .u32 y, .int .u32 u] 76) = w4a at H4 ⊢
  generalize hl : w4.heap.size = l7 at *
  clear hw4 hl
  refine (taken_none _ _ _ _ H4.out.2.2.1).mono ?_
  rintro e w5 ⟨rfl, k5⟩
  have ka : Keeps (fun _ => False) w4a (w5.alloc (.cells #[.bool false, .int .u32 0, .int .u32 0] 76)) := k5.alloc _
  have H5 := Lib.hid (And.intro (ka.at H4.out.1 fun h => h) (And.intro (H4.out.2.1.trans (ka.below H4.out.2.1.size fun _ _ h => h.elim)) (And.intro (H4.out.2.2.1.none ka) (And.intro (H4.out.2.2.2.1.none ka) (ka.at H4.out.2.2.2.2 fun h => h)))))
  clear H4 k5 ka
  go_wp2_with fail
  generalize hw5 : w5.alloc (.cells #[.bool false, .int .u32 0, .int .u32 0] 76) = w5a at H5 ⊢
  generalize hl : w5.heap.size = l9 at *
  clear hw5 hl
  refine (taken_some _ _ _ _ _ _ _ H5.out.2.2.2.1).mono ?_
  rintro e w6 ⟨rfl, t6, k6⟩
  have ka : Keeps (fun _ => False) w6 (w6.alloc (.cells #[.bool x, .int .u32 y, .int .u32 u] 76)) := (Keeps.refl _ _).alloc _
  have hcl : w.heap.size ≠ c := by omega
  have hlc : l7 ≠ c := by
    rintro rfl
    obtain ⟨_, q, _⟩ := H5.out.2.2.2.1
    have := H5.out.2.2.2.2
    rw [q] at this
    simp at this
  have H6 := Lib.hid (And.intro (ka.at (k6.at H5.out.1 hcl) fun h => h) (And.intro ((H5.out.2.1.trans (k6.below H5.out.2.1.size fun k _ h => by omega)).trans (ka.below (Nat.le_trans H5.out.2.1.size k6.size) fun _ _ h => h.elim))
    (And.intro ((H5.out.2.2.1.other H5.out.2.2.2.1 k6 (by omega)).none ka) (And.intro (t6.none ka) (And.intro (ka.at (k6.at H5.out.2.2.2.2 hlc) fun h => h) (heap_new w6 (.cells #[.bool x, .int .u32 y, .int .u32 u] 76)))))))
  clear H5 t6 k6 ka
  generalize hw6 : w6.alloc (.cells #[.bool x, .int .u32 y, .int .u32 u] 76) = w6a at H6
  generalize hl6 : w6.heap.size = l11 at H6
  have u0 : w6a.cell? ⟨w.heap.size, 0, none⟩ = some (.bool x) := cell_of H6.out.1 0
  have u1 : w6a.cell? ⟨w.heap.size, 1, none⟩ = some (.int .u32 y) := cell_of H6.out.1 1
  have u2 : w6a.cell? ⟨w.heap.size, 2, none⟩ = some (.int .u32 u) := cell_of H6.out.1 2
  have v0 : w6a.cell? ⟨l7, 0, none⟩ = some (.bool x) := cell_of H6.out.2.2.2.2.1 0
  have v1 : w6a.cell? ⟨l7, 1, none⟩ = some (.int .u32 y) := cell_of H6.out.2.2.2.2.1 1
  have v2 : w6a.cell? ⟨l7, 2, none⟩ = some (.int .u32 u) := cell_of H6.out.2.2.2.2.1 2
  have z0 : w6a.cell? ⟨l11, 0, none⟩ = some (.bool x) := cell_of H6.out.2.2.2.2.2 0
  have z1 : w6a.cell? ⟨l11, 1, none⟩ = some (.int .u32 y) := cell_of H6.out.2.2.2.2.2 1
  have z2 : w6a.cell? ⟨l11, 2, none⟩ = some (.int .u32 u) := cell_of H6.out.2.2.2.2.2 2
  have n1 := lt_of H6.out.2.2.2.2.1
  have n2 := lt_of H6.out.2.2.2.2.2
  have n3 := lt_of H6.out.1
  subst hw6
  subst hl6
  go_wp2_with fail
  refine (go_yes _ _ _ _ _ (.inr (.inr rfl)) H6.out.2.2.1).mono ?_
  rintro e w7 ⟨rfl, t7, k7⟩
  have ka : Keeps (fun _ => False) w7 (w7.alloc (.cells #[.int .i64 0, .int .u32 0, .pointer none] 82)) := (Keeps.refl _ _).alloc _
  have hb7 := t7.lt
  have hc7 := (H6.out.2.2.2.1.other H6.out.2.2.1 k7 (by omega)).lt
  have H7 : Hid (Ends w (w7.alloc (.cells #[.int .i64 0, .int .u32 0, .pointer none] 82)) b c w7.heap.size ((0 : Nat) : Int)) := Lib.hid ⟨(H6.out.2.1.trans (k7.below H6.out.2.1.size fun k _ h => by omega)).trans (ka.below (Nat.le_trans H6.out.2.1.size k7.size) fun _ _ h => h.elim),
    t7.none ka, (H6.out.2.2.2.1.other H6.out.2.2.1 k7 (by omega)).none ka, ⟨_, heap_new _ _, rfl⟩, by omega, by omega, by omega⟩
  clear H6 t7 k7 ka u0 u1 u2 v0 v1 v2 z0 z1 z2 n1 n2 n3 hlc hcl hb7 hc7
  go_wp2_with fail
  generalize hw7 : w7.alloc (.cells #[.int .i64 0, .int .u32 0, .pointer none] 82) = w7a at H7 ⊢
  generalize hz : w7.heap.size = z at H7 ⊢
  clear hw7 hz
  go_loopw [15] (fun i wr => ∃ k N : Nat, k ≤ n ∧ i = .int .i64 k ∧ N < 4294967296 ∧ Ends w wr b c z N) (fun i _ => n - (intOf i).toNat)
  case atStart => exact ⟨0, 0, by omega, rfl, by omega, H7.out⟩
  case round =>
    clear H7
    obtain ⟨k, N, hk, rfl, hNb, hE⟩ := hrel
    have HE := Lib.hid hE
    clear hE
    by_cases hlt : k < n
    · obtain ⟨b0, off, rfl, hb, hcs⟩ := h0 (by omega)
      obtain ⟨c1, c2, c3, c4, c5⟩ := hcs k hlt
      have hM := hN k hlt
      have hsame : ∀ a : Nat, wr.cell? ⟨b0, a, none⟩ = w.cell? ⟨b0, a, none⟩ := fun a => World.cell?_of_block (w := w) (HE.out.below.block b0 hb)
      have hb2 : b0 < wr.heap.size := Nat.lt_of_lt_of_le hb HE.out.below.size
      rw [← hsame] at c1 c2 c3 c4 c5
      clear hcs h0 hN hsame
      generalize hF : F k = f at c1 c2 c3 c4 c5 hM
      obtain ⟨st, ⟨p, q, r⟩, more⟩ := f
      simp only at c1 c2 c3 c4 c5 hM
      clear hF
      have ka : Keeps (fun _ => False) wr (wr.alloc (.cells #[.bool p, .int .u32 q, .int .u32 r] 76)) := (Keeps.refl _ _).alloc _
      have hs : ∀ a : Nat, (wr.alloc (.cells #[.bool p, .int .u32 q, .int .u32 r] 76)).cell? ⟨b0, a, none⟩ = wr.cell? ⟨b0, a, none⟩ := fun a => World.cell?_of_block (w := wr) (ka.block b0 hb2 fun h => h)
      have HR : Hid (Rnd w (wr.alloc (.cells #[.bool p, .int .u32 q, .int .u32 r] 76)) b c z N b0 (off + k * 6) wr.heap.size st p q r more) :=
        Lib.hid ⟨HE.out.none ka, hb, (hs _).trans c1, (hs _).trans c5, heap_new _ _⟩
      clear ka hs
      go_wp2_with fail
      generalize hwa : wr.alloc (.cells #[.bool p, .int .u32 q, .int .u32 r] 76) = wa at HR ⊢
      generalize hL : wr.heap.size = L at HR ⊢
      clear hwa hL
      have HR0 := HR
      clear HR c1 c2 c3 c4 c5 hb2
      have s1 := HR0.out.st
      have s5 := HR0.out.more
      have l0 := HR0.out.l0
      have l1 := HR0.out.l1
      have l2 := HR0.out.l2
      have g1 := Nat.lt_of_lt_of_le HR0.out.ha HR0.out.ends.below.size
      have g2 := lt_of HR0.out.loc
      refine (go_no _ _ _ _ _ _ rfl HR0.out.ends.tt).mono ?_
      rintro e w' ⟨rfl, rfl⟩
      go_wp2_with fail
      refine (wake_no _ _ _ _ _ _ _ _ rfl rfl HR0.out.ends.tt).mono ?_
      rintro e v1 ⟨rfl, kk⟩
      have HR1 := Lib.hid (HR0.out.none kk)
      clear s1 s5 l0 l1 l2 g1 g2 kk HR0
      have s1 := HR1.out.st
      have s5 := HR1.out.more
      have l0 := HR1.out.l0
      have l1 := HR1.out.l1
      have l2 := HR1.out.l2
      have g1 := Nat.lt_of_lt_of_le HR1.out.ha HR1.out.ends.below.size
      have g2 := lt_of HR1.out.loc
      go_wp2_with fail
      refine (give_no _ _ _ _ _ _ _ _ rfl HR1.out.ends.tt).mono ?_
      rintro e v2 ⟨rfl, kk⟩
      have HR2 := Lib.hid (HR1.out.none kk)
      clear s1 s5 l0 l1 l2 g1 g2 kk HR1
      have s1 := HR2.out.st
      have s5 := HR2.out.more
      have l0 := HR2.out.l0
      have l1 := HR2.out.l1
      have l2 := HR2.out.l2
      have g1 := Nat.lt_of_lt_of_le HR2.out.ha HR2.out.ends.below.size
      have g2 := lt_of HR2.out.loc
      go_wp2_with fail
      refine (go_nil _ _).mono ?_
      rintro e w' ⟨rfl, rfl⟩
      go_wp2_with fail
      refine (wake_no _ _ _ _ _ _ _ _ rfl rfl HR2.out.ends.tz).mono ?_
      rintro e v3 ⟨rfl, kk⟩
      have HR3 := Lib.hid (HR2.out.none kk)
      clear s1 s5 l0 l1 l2 g1 g2 kk HR2
      have s1 := HR3.out.st
      have s5 := HR3.out.more
      have l0 := HR3.out.l0
      have l1 := HR3.out.l1
      have l2 := HR3.out.l2
      have g1 := Nat.lt_of_lt_of_le HR3.out.ha HR3.out.ends.below.size
      have g2 := lt_of HR3.out.loc
      go_wp2_with fail
      refine (give_nil _ _ _ _).mono ?_
      rintro e v4 ⟨rfl, kk⟩
      have HR4 := Lib.hid (HR3.out.none kk)
      clear s1 s5 l0 l1 l2 g1 g2 kk HR3
      have s1 := HR4.out.st
      have s5 := HR4.out.more
      have l0 := HR4.out.l0
      have l1 := HR4.out.l1
      have l2 := HR4.out.l2
      have g1 := Nat.lt_of_lt_of_le HR4.out.ha HR4.out.ends.below.size
      have g2 := lt_of HR4.out.loc
      go_wp2_with fail
      refine (go_no _ _ _ _ _ _ rfl HR4.out.ends.tz).mono ?_
      rintro e w' ⟨rfl, rfl⟩
      go_wp2_with fail
      refine (note_nil _ _).mono ?_
      rintro e v5 ⟨rfl, kk⟩
      have HR5 := Lib.hid (HR4.out.none kk)
      clear s1 s5 l0 l1 l2 g1 g2 kk HR4
      have s1 := HR5.out.st
      have s5 := HR5.out.more
      have l0 := HR5.out.l0
      have l1 := HR5.out.l1
      have l2 := HR5.out.l2
      have g1 := Nat.lt_of_lt_of_le HR5.out.ha HR5.out.ends.below.size
      have g2 := lt_of HR5.out.loc
      go_wp2_with fail
      refine (note_zero _ _ _ _ _ HR5.out.ends.tz).mono ?_
      rintro e v6 ⟨rfl, kk⟩
      have HR6 := Lib.hid (HR5.out.none kk)
      clear s1 s5 l0 l1 l2 g1 g2 kk HR5
      have s1 := HR6.out.st
      have s5 := HR6.out.more
      have l0 := HR6.out.l0
      have l1 := HR6.out.l1
      have l2 := HR6.out.l2
      have g1 := Nat.lt_of_lt_of_le HR6.out.ha HR6.out.ends.below.size
      have g2 := lt_of HR6.out.loc
      go_wp2_with fail
      refine (note_any _ _ _ _ _ _ rfl hNb hM HR6.out.ends.tt).mono ?_
      rintro e w8 ⟨rfl, t8, k8⟩
      have HE2 : Hid (Ends w w8 b c z ((N ||| more : Nat) : Int)) := by
        have h := HR6.out.ends
        have gb := h.gb
        exact Lib.hid ⟨h.below.trans (k8.below h.below.size fun k _ h => by omega), t8, h.tc.other h.tt k8 h.bc, h.tz.other h.tt k8 h.bz, h.gb, h.bc, h.bz⟩
      clear HR6 s1 s5 l0 l1 l2 g1 g2 t8 k8
      go_wp2
      go_roundw
      case rel => exact ⟨k + 1, N ||| more, by omega, by go_num, Nat.or_lt_two_pow (n := 32) hNb hM, HE2.out⟩
      case measure => simp [intOf]; omega
    · have hkn : k = n := by omega
      subst hkn
      clear h0 hN
      go_wp2_with fail
      refine (taken_nil _).mono ?_
      rintro e v1 ⟨rfl, k1⟩
      have HE1 := Lib.hid (HE.out.none (k1.alloc (.cells #[.bool false, .int .u32 0, .int .u32 0] 76)))
      clear HE k1
      go_wp2_with fail
      generalize v1.alloc (.cells #[.bool false, .int .u32 0, .int .u32 0] 76) = v2 at HE1 ⊢
      refine (taken_none _ _ _ _ HE1.out.tz).mono ?_
      rintro e v3 ⟨rfl, k3⟩
      have HE3 := Lib.hid (HE1.out.none (k3.alloc (.cells #[.bool false, .int .u32 0, .int .u32 0] 76)))
      clear HE1 k3
      go_wp2_with fail
      generalize v3.alloc (.cells #[.bool false, .int .u32 0, .int .u32 0] 76) = v4 at HE3 ⊢
      refine (state_any _ _ _ _ _ HE3.out.tt).mono ?_
      rintro e w' ⟨rfl, rfl⟩
      go_wp2_with fail
      refine (state_nil _).mono ?_
      rintro e w' ⟨rfl, rfl⟩
      go_wp2_with fail
      refine (state_any _ _ _ _ _ HE3.out.tz).mono ?_
      rintro e w' ⟨rfl, rfl⟩
      go_wp2_with fail
      refine (bits_nil _).mono ?_
      rintro e w' ⟨rfl, rfl⟩
      go_wp2_with fail
      refine (bits_zero _ _ _ _ HE3.out.tz).mono ?_
      rintro e w' ⟨rfl, rfl⟩
      go_wp2_with fail
      refine (clear_nil _).mono ?_
      rintro e w' ⟨rfl, rfl⟩
      go_wp2_with fail
      refine (copy_nil _).mono ?_
      rintro e w' ⟨rfl, rfl⟩
      go_wp2_with fail
      refine (state_any _ _ _ _ _ HE3.out.tc).mono ?_
      rintro e w' ⟨rfl, rfl⟩
      go_wp2_with fail
      refine (alive26_any _).mono ?_
      rintro e w6 ⟨rfl, hb⟩
      go_wp2
      go_ret
      exact ⟨rfl, HE3.out.below.trans (hb.mono HE3.out.below.size)⟩

set_option maxRecDepth 20000 in
theorem taskEnds_large (a0 : Option Addr) (n cap0 : Nat) (x : Bool) (y u : Int) (w : World) (hn : n ≤ maxLen) (h : 100 < n) :
    Calls Try.prog 7 #[.slice a0 n cap0, .agg #[.bool x, .int .u32 y, .int .u32 u]] w fun e w' => e = .returned (.bool true) ∧ Below w.heap.size w w' := by
  unfold maxLen at hn
  have k0 : Below w.heap.size w (w.alloc (.cells #[.bool x, .int .u32 y, .int .u32 u] 72)) := ((Keeps.refl (fun _ => False) w).alloc _).none
  have H0 := Lib.hid k0
  clear k0
  go_enter Try.func7, Try.ntmps7
  go_wp2_with fail
  refine (alive26_any _).mono ?_
  rintro e w6 ⟨rfl, hb⟩
  go_wp2
  go_ret
  exact ⟨rfl, H0.out.trans (hb.mono H0.out.size)⟩

theorem step26_cells {w : World} {cs : List Value} (h : Reads Try.prog w 84 cs) :
    ∃ (k0 : Value) (f : Int × (Bool × Int × Int) × Nat), cs = [k0, .int .i64 f.1, .bool f.2.1.1, .int .u32 f.2.1.2.1, .int .u32 f.2.1.2.2, .int .u32 f.2.2] ∧ f.2.2 < 4294967296 := by
  obtain ⟨hl, hf⟩ := h.struct Try.underlying84
  have hc : Try.prog.cellsOf 84 = 6 := by kernel_rfl
  have hi : Try.prog.cellsOf 3 = 1 := by kernel_rfl
  have ha : Try.prog.cellsOf 72 = 3 := by kernel_rfl
  have hu : Try.prog.cellsOf 28 = 1 := by kernel_rfl
  rw [hc] at hl
  match cs, hl with
  | [v0, v1, v2, v3, v4, v5], _ =>
    obtain ⟨s, hs, _⟩ := (h.field Try.underlying84 1 3 1 1 rfl hi).int Try.underlying3
    obtain ⟨f, hf⟩ := ans_cells (h.field Try.underlying84 2 72 2 3 rfl ha)
    obtain ⟨m, hm, hw⟩ := (h.field Try.underlying84 3 28 5 1 rfl hu).int Try.underlying28
    have hb := bounds_u32 hw
    obtain ⟨y, rfl⟩ := Int.eq_ofNat_of_zero_le hb.1
    simp at hs hf hm
    exact ⟨v0, (s, f, y), by simp [hs, hf, hm], by simp; omega⟩

set_option maxRecDepth 100000 in
theorem taskEnds_walk {H : Type} {enc : TypeId × Value → H} (W : World) (base : Nat) {v0 v1 : Value} {d0 d1 : DataW H} {p0 p1 : List MemPlace}
    (k0 : Value.okWide Try.prog W .any base 70 v0) (h0 : DataW.Trod enc Try.prog W 0 (fun _ => true) true 70 v0 d0 p0)
    (k1 : Value.okWide Try.prog W .any base 72 v1) (h1 : DataW.Trod enc Try.prog W 0 (fun _ => true) true 72 v1 d1 p1) :
    Calls Try.prog 7 #[v0, v1] W fun e w' => e = .returned (.bool true) ∧ Below W.heap.size W w' := by
  obtain ⟨a0, n0, c0, rfl⟩ := okWide_slice Try.underlying70 k0
  obtain ⟨cs, rfl, _⟩ := okWide_struct Try.underlying72 k1
  obtain ⟨⟨x, y, u⟩, hx⟩ := ans_cells (reads_of h1)
  obtain rfl : cs = #[.bool x, .int .u32 y, .int .u32 u] := by
    have : cs.toList = [.bool x, .int .u32 y, .int .u32 u] := by simpa [Value.cells] using hx
    cases cs; simp_all
  obtain ⟨a, n, c, e, hl0, hm0, r0⟩ := (reads_of h0).rows Try.underlying70 (n := 6) (by kernel_rfl) (by omega)
  simp [Value.cells] at e
  obtain ⟨rfl, rfl, rfl⟩ := e
  by_cases hlarge : 100 < n0
  · exact taskEnds_large _ _ _ _ _ _ W (by omega) hlarge
  · have q0 : ∃ F : Nat → Int × (Bool × Int × Int) × Nat, (∀ i, i < n0 → (F i).2.2 < 4294967296) ∧ (0 < n0 → ∃ b off, a0 = some ⟨b, off, none⟩ ∧ b < W.heap.size ∧ ∀ i, i < n0 → W.cell? ⟨b, off + i * 6 + 1, none⟩ = some (.int .i64 (F i).1) ∧ W.cell? ⟨b, off + i * 6 + 2, none⟩ = some (.bool (F i).2.1.1) ∧ W.cell? ⟨b, off + i * 6 + 3, none⟩ = some (.int .u32 (F i).2.1.2.1)
        ∧ W.cell? ⟨b, off + i * 6 + 4, none⟩ = some (.int .u32 (F i).2.1.2.2) ∧ W.cell? ⟨b, off + i * 6 + 5, none⟩ = some (.int .u32 (F i).2.2)) := by
      by_cases hp : 0 < n0
      · obtain ⟨b, off, rfl, hb, hr⟩ := r0 hp
        obtain ⟨F, hF⟩ := Deep.choose_lt (n := n0) (p := fun i (F : Int × (Bool × Int × Int) × Nat) => F.2.2 < 4294967296 ∧ (W.cell? ⟨b, off + i * 6 + 1, none⟩ = some (.int .i64 F.1) ∧ W.cell? ⟨b, off + i * 6 + 2, none⟩ = some (.bool F.2.1.1) ∧ W.cell? ⟨b, off + i * 6 + 3, none⟩ = some (.int .u32 F.2.1.2.1)
            ∧ W.cell? ⟨b, off + i * 6 + 4, none⟩ = some (.int .u32 F.2.1.2.2) ∧ W.cell? ⟨b, off + i * 6 + 5, none⟩ = some (.int .u32 F.2.2))) (fun i hi => by
          obtain ⟨cs', _, hc, hrd⟩ := hr i hi
          obtain ⟨k0, f, rfl, hf⟩ := step26_cells hrd
          exact ⟨f, hf, hc 1 (by omega), hc 2 (by omega), hc 3 (by omega), hc 4 (by omega), hc 5 (by omega)⟩)
        exact ⟨F, fun i hi => (hF i hi).1, fun _ => ⟨b, off, rfl, hb, fun i hi => (hF i hi).2⟩⟩
      · exact ⟨fun _ => (0, (false, 0, 0), 0), fun i hi => by omega, fun h => absurd h hp⟩
    obtain ⟨F, hN, q0⟩ := q0
    exact taskEnds_plain _ _ _ F _ _ _ W (by omega) hN q0
end Go.Proofs.Ytflnibioimnliac
