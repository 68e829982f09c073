import Derived.Test.YtflnibioimnliacTask
import Derived.Test.YtflnibioimnliacOpen
namespace Go.Proofs.Ytflnibioimnliac
open Go.ChangeShapes Go.WideShapes Go.ChangeAt Go.RowKit
set_option linter.unusedVariables false

theorem alive26_any (w : World) :
    Calls Try.prog 33 #[] w fun e w' => e = .returned (.bool true) ∧ Below w.heap.size w w' := by
  go_enter Try.func33, Try.ntmps33
  go_wp2_with fail
  refine (new_any _).mono ?_
  rintro e w1 ⟨rfl, t1, k1⟩
  have hlt := k1.size
  have T1 := Lib.hid t1
  clear t1
  go_wp2_with fail
  refine (go_yes _ _ _ _ _ (.inl rfl) T1.out).mono ?_
  rintro e w2 ⟨rfl, t2, k2⟩
  have T2 := Lib.hid t2
  clear t2
  go_wp2_with fail
  refine (go_no _ _ _ _ _ _ rfl T2.out).mono ?_
  rintro e w2' ⟨rfl, rfl⟩
  go_wp2_with fail
  refine (wake_yes _ _ _ _ _ _ _ _ (.inl rfl) T2.out).mono ?_
  rintro e w3 ⟨rfl, t3, k3⟩
  have T3 := Lib.hid t3
  clear t3
  go_wp2_with fail
  refine (taken_some _ _ _ _ _ _ _ T3.out).mono ?_
  rintro e w4 ⟨rfl, t4, k4⟩
  have k5 : Keeps (fun _ => False) w4 (w4.alloc (.cells #[.bool false, .int .u32 0, .int .u32 7] 76)) := (Keeps.refl _ _).alloc _
  have T5 := Lib.hid (t4.keeps k5 fun _ _ h => h)
  have B5 := Lib.hid (heap_new w4 (.cells #[.bool false, .int .u32 0, .int .u32 7] 76))
  have L5 := lt_of B5.out
  clear t4
  go_wp2_with fail
  refine (taken_none _ _ _ _ T5.out).mono ?_
  rintro e w6 ⟨rfl, k6⟩
  have T6 := Lib.hid (T5.out.keeps k6 fun _ _ h => h)
  have B6 := k6.at B5.out (fun h => h)
  have L6 := lt_of B6
  have c2 : w6.cell? ⟨w4.heap.size, 2, none⟩ = some (.int .u32 7) := cell_of B6 2
  have T7 := Lib.hid (T6.out.keeps ((Keeps.refl (fun _ => False) _).alloc (.cells #[.bool false, .int .u32 0, .int .u32 0] 76)) fun _ _ h => h)
  clear B6
  go_wp2_with fail
  refine (state_any _ _ _ _ _ T7.out).mono ?_
  rintro e w8 ⟨rfl, rfl⟩
  go_wp2
  go_ret
  have hs : ∀ k, k < w.heap.size → ¬ k = w.heap.size := fun k h => by omega
  have g2 : Keeps (fun k => k = w.heap.size) w w2 := (k1.mono fun _ _ h => h.elim).trans k2
  have g3 := g2.trans k3
  have g4 := g3.trans k4
  have g6 := (g4.trans (k5.mono fun _ _ h => h.elim)).trans (k6.mono fun _ _ h => h.elim)
  exact ⟨rfl, (g6.alloc _).below (Nat.le_refl _) fun k _ h => by omega⟩

/-- All bits of the first k words. -/
def orB (N : Nat → Nat) : Nat → Nat
  | 0 => 0
  | k + 1 => orB N k ||| N k
theorem orB_lt (N : Nat → Nat) (n : Nat) (h : ∀ i, i < n → N i < 4294967296) : ∀ k, k ≤ n → orB N k < 4294967296 := by
  intro k
  induction k with
  | zero => intro _; simp [orB]
  | succ k ih => intro hk; exact Nat.or_lt_two_pow (n := 32) (ih (by omega)) (h k (by omega))
/-- The last of the first k answers. -/
def lastA (F : Nat → Bool × Int × Int) : Nat → Option (Bool × Int × Int)
  | 0 => none
  | k + 1 => some (F k)

set_option maxHeartbeats 800000 in
theorem taskLast_plain (a0 a1 : Option Addr) (n m cap0 cap1 : Nat) (F : Nat → Bool × Int × Int) (N : Nat → Nat) (w : World)
    (hn : n ≤ 40) (hm : m ≤ 40) (hN : ∀ i, i < m → N i < 4294967296)
    (h0 : 0 < n → ∃ b off, a0 = some ⟨b, off, none⟩ ∧ b < w.heap.size ∧ ∀ i, i < n → w.cell? ⟨b, off + i * 3, none⟩ = some (.bool (F i).1) ∧ w.cell? ⟨b, off + i * 3 + 1, none⟩ = some (.int .u32 (F i).2.1) ∧ w.cell? ⟨b, off + i * 3 + 2, none⟩ = some (.int .u32 (F i).2.2))
    (h1 : 0 < m → ∃ b off, a1 = some ⟨b, off, none⟩ ∧ b < w.heap.size ∧ ∀ i, i < m → w.cell? ⟨b, off + i, none⟩ = some (.int .u32 (N i))) :
    Calls Try.prog 8 #[.slice a0 n cap0, .slice a1 m cap1] w fun e w' => e = .returned (.bool true) ∧ Below w.heap.size w w' := by
  have d1 : decide (40 < (n : Int)) = false := by simp; omega
  have d2 : decide (40 < (m : Int)) = false := by simp; omega
  go_enter Try.func8, Try.ntmps8
  go_wp2_with fail
  refine (new_any _).mono ?_
  rintro e w1 ⟨rfl, t1, k1⟩
  have T1 := Lib.hid t1
  clear t1
  go_wp2_with fail
  go_loopw [6, 7] (fun x i wr => ∃ k : Nat, k ≤ m ∧ i = .int .i64 k ∧ x = .int .u32 (orB N k) ∧ IsTask wr w.heap.size 1 (orB N k) none ∧ Keeps (fun b => b = w.heap.size) w wr) (fun _ i _ => m - (intOf i).toNat)
  case atStart => exact ⟨0, by omega, rfl, rfl, T1.out, k1.mono fun _ _ h => h.elim⟩
  case round =>
    obtain ⟨k, hk, rfl, rfl, ht, hw⟩ := hrel
    have HT := Lib.hid ht
    have HK := Lib.hid hw
    clear ht hw
    by_cases hlt : k < m
    · obtain ⟨b, off, rfl, hb, hc⟩ := h1 (by omega)
      have hcell : wr.cell? ⟨b, off + k, none⟩ = some (.int .u32 (N k)) := by
        rw [← hc k hlt]; exact World.cell?_of_block (w := w) (HK.out.block b hb (by omega))
      have o1 := orB_lt N m hN k (by omega)
      have o2 := hN k hlt
      have e1 : bits .or .u32 (orB N k : Int) (N k : Int) = ((orB N k ||| N k : Nat) : Int) := u32_or_nat _ _ o1 o2
      clear hc h0 h1 hN
      go_wp2_with fail
      refine (note_any _ _ _ _ _ _ rfl o1 o2 HT.out).mono ?_
      rintro e w2 ⟨rfl, ht, hw⟩
      have HT2 := Lib.hid ht
      have HK2 := Lib.hid (HK.out.trans hw)
      clear ht hw
      go_wp2
      go_roundw
      case rel => exact ⟨k + 1, by omega, by go_num, rfl, HT2.out, HK2.out⟩
      case measure => simp [intOf]; omega
    · have hkm : k = m := by omega
      subst hkm
      clear h1
      go_wp2_with fail
      obtain ⟨wo, rfl⟩ : ∃ wo : World, wo = wr := ⟨_, rfl⟩
      go_loopw [8] (fun i wr => ∃ j : Nat, j ≤ n ∧ i = .int .i64 j ∧ IsTask wr w.heap.size 1 (orB N k) (lastA F j) ∧ Keeps (fun b => b = w.heap.size) w wr) (fun i _ => n - (intOf i).toNat)
      case atStart => exact ⟨0, by omega, rfl, HT.out, HK.out⟩
      case round =>
        clear HT HK
        obtain ⟨j, hj, rfl, ht, hw⟩ := hrel
        have HT := Lib.hid ht
        have HK := Lib.hid hw
        clear ht hw
        by_cases hlt : j < n
        · obtain ⟨b, off, rfl, hb, hc⟩ := h0 (by omega)
          obtain ⟨c0, c1, c2⟩ := hc j hlt
          have hsame : ∀ a : Nat, wr.cell? ⟨b, a, none⟩ = w.cell? ⟨b, a, none⟩ := fun a => World.cell?_of_block (w := w) (HK.out.block b hb (by omega))
          rw [← hsame] at c0 c1 c2
          clear hc h0 hN hsame
          generalize hF : F j = f at c0 c1 c2
          obtain ⟨x, y, z⟩ := f
          have HF := Lib.hid hF
          clear hF
          go_wp2_with fail
          refine (give_any _ _ _ x y z _ HT.out).mono ?_
          rintro e w2 ⟨rfl, ht, hw⟩
          have HT2 := Lib.hid ht
          have HK2 := Lib.hid (HK.out.trans hw)
          clear ht hw
          go_wp2
          go_roundw
          case rel => exact ⟨j + 1, by omega, by go_num, by rw [lastA, HF.out]; exact HT2.out, HK2.out⟩
          case measure => simp [intOf]; omega
        · have hjn : j = n := by omega
          subst hjn
          by_cases h0n : j = 0
          · subst h0n
            go_wp2_with fail
            refine (taken_none _ _ _ _ HT.out).mono ?_
            rintro e w2 ⟨rfl, hw⟩
            have HT2 := Lib.hid ((HT.out.keeps hw fun _ _ h => h).keeps ((Keeps.refl (fun _ => False) _).alloc (.cells #[.bool false, .int .u32 0, .int .u32 0] 76)) fun _ _ h => h)
            have HK2 := Lib.hid ((HK.out.trans (hw.mono fun _ _ h => h.elim)).alloc (.cells #[.bool false, .int .u32 0, .int .u32 0] 76))
            clear hw
            go_wp2_with fail
            go_quiet (fail)
            have HT3 : Hid (IsTask ((w2.alloc (.cells #[.bool false, .int .u32 0, .int .u32 0] 76)).drewN nq) w.heap.size 1 (orB N k) none) := HT2
            have HK3 : Hid (Keeps (fun b => b = w.heap.size) w ((w2.alloc (.cells #[.bool false, .int .u32 0, .int .u32 0] 76)).drewN nq)) := Lib.hid (HK2.out.drewN nq)
            go_wp2_with fail
            refine (clear_any _ _ _ _ _ rfl HT3.out).mono ?_
            rintro e w3 ⟨rfl, ht, hw⟩
            have HT4 := Lib.hid ht
            have HK4 := Lib.hid (HK3.out.trans hw)
            clear ht hw
            go_wp2_with fail
            refine (bits_any _ _ _ _ _ rfl HT4.out).mono ?_
            rintro e w4 ⟨rfl, ht, hw⟩
            have HT5 := Lib.hid ht
            have HK5 := Lib.hid (HK4.out.trans hw)
            clear ht hw
            go_wp2_with fail
            refine (state_any _ _ _ _ _ HT5.out).mono ?_
            rintro e w5 ⟨rfl, rfl⟩
            go_wp2_with fail
            refine (alive26_any _).mono ?_
            rintro e w6 ⟨rfl, hb⟩
            go_wp2
            go_ret
            have HB : Below w.heap.size w w4 := HK5.out.below (Nat.le_refl _) fun _ _ h => by omega
            exact ⟨rfl, HB.trans (hb.mono HK5.out.size)⟩
          · obtain ⟨b, off, rfl, hb, hc⟩ := h0 (by omega)
            obtain ⟨i, rfl⟩ : ∃ i, j = i + 1 := ⟨j - 1, by omega⟩
            obtain ⟨c0, c1, c2⟩ := hc i (by omega)
            rw [lastA] at HT
            generalize hF : F i = f at c0 c1 c2 HT
            obtain ⟨x, y, z⟩ := f
            simp only at c0 c1 c2
            clear hc h0 hN hF
            go_wp2_with fail
            refine (taken_some _ _ _ _ _ _ _ HT.out).mono ?_
            rintro e w2 ⟨rfl, ht, hw⟩
            have HT2 := Lib.hid (ht.keeps ((Keeps.refl (fun _ => False) _).alloc (.cells #[.bool x, .int .u32 y, .int .u32 z] 76)) fun _ _ h => h)
            have HW := Lib.hid (HK.out.trans hw)
            have HK2 := Lib.hid (HW.out.alloc (.cells #[.bool x, .int .u32 y, .int .u32 z] 76))
            have hsame : ∀ a : Nat, w2.cell? ⟨b, a, none⟩ = w.cell? ⟨b, a, none⟩ := fun a => World.cell?_of_block (w := w) (HW.out.block b hb (by omega))
            have hb2 : b < w2.heap.size := Nat.lt_of_lt_of_le hb HW.out.size
            rw [← hsame] at c0 c1 c2
            clear ht hw hsame
            go_wp2_with fail
            go_quiet (fail)
            have HT3 : Hid (IsTask ((w2.alloc (.cells #[.bool x, .int .u32 y, .int .u32 z] 76)).drewN nq) w.heap.size 1 (orB N k) none) := HT2
            have HK3 : Hid (Keeps (fun b => b = w.heap.size) w ((w2.alloc (.cells #[.bool x, .int .u32 y, .int .u32 z] 76)).drewN nq)) := Lib.hid (HK2.out.drewN nq)
            go_wp2_with fail
            refine (clear_any _ _ _ _ _ rfl HT3.out).mono ?_
            rintro e w3 ⟨rfl, ht, hw⟩
            have HT4 := Lib.hid ht
            have HK4 := Lib.hid (HK3.out.trans hw)
            clear ht hw
            go_wp2_with fail
            refine (bits_any _ _ _ _ _ rfl HT4.out).mono ?_
            rintro e w4 ⟨rfl, ht, hw⟩
            have HT5 := Lib.hid ht
            have HK5 := Lib.hid (HK4.out.trans hw)
            clear ht hw
            go_wp2_with fail
            refine (state_any _ _ _ _ _ HT5.out).mono ?_
            rintro e w5 ⟨rfl, rfl⟩
            go_wp2_with fail
            refine (alive26_any _).mono ?_
            rintro e w6 ⟨rfl, hb⟩
            go_wp2
            go_ret
            have HB : Below w.heap.size w w4 := HK5.out.below (Nat.le_refl _) fun _ _ h => by omega
            exact ⟨rfl, HB.trans (hb.mono HK5.out.size)⟩

theorem taskLast_large (a0 a1 : Option Addr) (n m cap0 cap1 : Nat) (w : World) (hn : n ≤ maxLen) (hm : m ≤ maxLen) (h : 40 < n ∨ 40 < m) :
    Calls Try.prog 8 #[.slice a0 n cap0, .slice a1 m cap1] w fun e w' => e = .returned (.bool true) ∧ Below w.heap.size w w' := by
  unfold maxLen at hn hm
  by_cases h1 : 40 < n
  · go_enter Try.func8, Try.ntmps8
    go_wp2_with fail
    refine (alive26_any _).mono ?_
    rintro e w6 ⟨rfl, hb⟩
    go_wp2
    go_ret
    exact ⟨rfl, hb⟩
  · have h2 : 40 < m := by omega
    go_enter Try.func8, Try.ntmps8
    go_wp2_with fail
    refine (alive26_any _).mono ?_
    rintro e w6 ⟨rfl, hb⟩
    go_wp2
    go_ret
    exact ⟨rfl, hb⟩

theorem ans_cells {w : World} {cs : List Value} (h : Reads Try.prog w 72 cs) :
    ∃ f : Bool × Int × Int, cs = [.bool f.1, .int .u32 f.2.1, .int .u32 f.2.2] := by
  obtain ⟨hl, hf⟩ := h.struct Try.underlying72
  have hc : Try.prog.cellsOf 72 = 3 := by kernel_rfl
  have hb : Try.prog.cellsOf 4 = 1 := by kernel_rfl
  have hu : Try.prog.cellsOf 28 = 1 := by kernel_rfl
  rw [hc] at hl
  match cs, hl with
  | [v0, v1, v2], _ =>
    obtain ⟨x, hx⟩ := (h.field Try.underlying72 0 4 0 1 rfl hb).bool Try.underlying4
    obtain ⟨y, hy, _⟩ := (h.field Try.underlying72 1 28 1 1 rfl hu).int Try.underlying28
    obtain ⟨z, hz, _⟩ := (h.field Try.underlying72 2 28 2 1 rfl hu).int Try.underlying28
    simp at hx hy hz
    exact ⟨(x, y, z), by simp [hx, hy, hz]⟩

set_option maxRecDepth 100000 in
theorem taskLast_walk {H : Type} {enc : TypeId × Value → H} (W : World) (base : Nat) {v0 v1 : Value} {d0 d1 : DataW H} {p0 p1 : List MemPlace}
    (k0 : Value.okWide Try.prog W .any base 88 v0) (h0 : DataW.Trod enc Try.prog W 0 (fun _ => true) true 88 v0 d0 p0)
    (k1 : Value.okWide Try.prog W .any base 22 v1) (h1 : DataW.Trod enc Try.prog W 0 (fun _ => true) true 22 v1 d1 p1) :
    Calls Try.prog 8 #[v0, v1] W fun e w' => e = .returned (.bool true) ∧ Below W.heap.size W w' := by
  obtain ⟨a0, n0, c0, rfl⟩ := okWide_slice Try.underlying88 k0
  obtain ⟨a1, n1, c1, rfl⟩ := okWide_slice Try.underlying22 k1
  obtain ⟨a, n, c, e, hl0, hm0, r0⟩ := (reads_of h0).rows Try.underlying88 (n := 3) (by kernel_rfl) (by omega)
  simp [Value.cells] at e
  obtain ⟨rfl, rfl, rfl⟩ := e
  obtain ⟨a, n, c, e, hl1, hm1, r1⟩ := (reads_of h1).rows Try.underlying22 (n := 1) (by kernel_rfl) (by omega)
  simp [Value.cells] at e
  obtain ⟨rfl, rfl, rfl⟩ := e
  by_cases hlarge : 40 < n0 ∨ 40 < n1
  · exact taskLast_large _ _ _ _ _ _ W (by omega) (by omega) hlarge
  · have q0 : ∃ F : Nat → Bool × Int × Int, 0 < n0 → ∃ b off, a0 = some ⟨b, off, none⟩ ∧ b < W.heap.size ∧ ∀ i, i < n0 → W.cell? ⟨b, off + i * 3, none⟩ = some (.bool (F i).1) ∧ W.cell? ⟨b, off + i * 3 + 1, none⟩ = some (.int .u32 (F i).2.1) ∧ W.cell? ⟨b, off + i * 3 + 2, none⟩ = some (.int .u32 (F i).2.2) := by
      by_cases hp : 0 < n0
      · obtain ⟨b, off, rfl, hb, hr⟩ := r0 hp
        obtain ⟨F, hF⟩ := Deep.choose_lt (n := n0) (p := fun i (f : Bool × Int × Int) => W.cell? ⟨b, off + i * 3, none⟩ = some (.bool f.1) ∧ W.cell? ⟨b, off + i * 3 + 1, none⟩ = some (.int .u32 f.2.1) ∧ W.cell? ⟨b, off + i * 3 + 2, none⟩ = some (.int .u32 f.2.2)) (fun i hi => by
          obtain ⟨cs', _, hc, hrd⟩ := hr i hi
          obtain ⟨f, rfl⟩ := ans_cells hrd
          exact ⟨f, hc 0 (by omega), hc 1 (by omega), hc 2 (by omega)⟩)
        exact ⟨F, fun _ => ⟨b, off, rfl, hb, hF⟩⟩
      · exact ⟨fun _ => (false, 0, 0), fun h => absurd h hp⟩
    have q1 : ∃ N : Nat → Nat, (∀ i, i < n1 → N i < 4294967296) ∧ (0 < n1 → ∃ b off, a1 = some ⟨b, off, none⟩ ∧ b < W.heap.size ∧ ∀ i, i < n1 → W.cell? ⟨b, off + i, none⟩ = some (.int .u32 (N i))) := by
      by_cases hp : 0 < n1
      · obtain ⟨b, off, rfl, hb, hr⟩ := r1 hp
        obtain ⟨N, hN⟩ := Deep.choose_lt (n := n1) (p := fun i (x : Nat) => x < 4294967296 ∧ W.cell? ⟨b, off + i, none⟩ = some (.int .u32 x)) (fun i hi => by
          obtain ⟨cs', _, hc, hrd⟩ := hr i hi
          obtain ⟨x, rfl, hx⟩ := hrd.int Try.underlying28
          have hb := bounds_u32 hx
          obtain ⟨y, rfl⟩ := Int.eq_ofNat_of_zero_le hb.1
          have := hc 0 (by omega)
          simp at this
          exact ⟨y, by omega, this⟩)
        exact ⟨N, fun i hi => (hN i hi).1, fun _ => ⟨b, off, rfl, hb, fun i hi => (hN i hi).2⟩⟩
      · exact ⟨fun _ => 0, fun i hi => by omega, fun h => absurd h hp⟩
    obtain ⟨F, q0⟩ := q0
    obtain ⟨N, hN, q1⟩ := q1
    exact taskLast_plain _ _ _ _ _ _ F N W (by omega) (by omega) hN q0 q1
end Go.Proofs.Ytflnibioimnliac
