import Derived.Test.YtjpbfmhfjlbcgaaPlaneM
import Derived.Test.YtjpbfmhfjlbcgaaHas
import Derived.Laws.EntriesVeiled
namespace Go.Proofs.Ytjpbfmhfjlbcgaa
open Go.ChangeShapes Go.WideShapes Go.ChangeAt Go.RowKit
set_option linter.unusedVariables false
/-- The language's complex number at a point of the plane. -/
abbrev cxOf (a b : Int) : Value := .complex .f64 (floatOfInt .f64 a) (floatOfInt .f64 b)
theorem wrap_in (n : Int) (h : -9223372036854775808 ≤ n ∧ n ≤ 9223372036854775807) : IntKind.i64.wrap n = n := IntWalk.i64_in _ ⟨by omega, by omega⟩
theorem rest_eq (n p : Int) (hp : 0 < p) : (n.tmod p + p).tmod p = n % p := by
  have h1 := Int.tmod_lt_of_pos n hp
  have h2 := Int.lt_tmod_of_pos n hp
  have h3 := Int.mul_tdiv_add_tmod n p
  rw [Int.tmod_eq_emod_of_nonneg (by omega)]
  rw [Int.add_emod_right]
  have : n % p = (p * n.tdiv p + n.tmod p) % p := by rw [h3]
  rw [this, Int.mul_add_emod_self_left]
theorem rplane_any (a b : Int) (w : World) :
    Calls Try.prog 26 #[.agg #[.int .i64 a, .int .i64 b]] w fun e w' => e = .returned (cxOf a b) ∧ Keeps (fun _ => False) w w' := by
  go_enter Try.func26, Try.ntmps26
  go_wp2
  go_ret
  exact ⟨rfl, (Keeps.refl _ _).alloc _⟩
theorem rwhole_any (a b : Int) (w : World) (ha : a.natAbs ≤ 9007199254740992) (hb : b.natAbs ≤ 9007199254740992) :
    Calls Try.prog 24 #[cxOf a b] w fun e w' => e = .returned (.agg #[.int .i64 a, .int .i64 b]) ∧ Keeps (fun _ => False) w w' := by
  have c1 := fun w => run_toInt _ a w (plane_isF ha) (by omega) (by omega)
  have c2 := fun w => run_toInt _ b w (plane_isF hb) (by omega) (by omega)
  clear ha hb
  go_enter Try.func24, Try.ntmps24
  go_wp2
  refine bodyPost_ret (v := .agg #[.int .i64 a, .int .i64 b]) (by simp [results, Try.results24, go_sem]) rfl ⟨rfl, ?_⟩
  exact (Keeps.refl _ _).alloc _
theorem rpart_any (x : Nat) (a p : Int) (Q : Nat) (w : World) (hx : IsF x a) (ha : a.natAbs ≤ 9007199254740992) (hp : 0 < p ∧ p ≤ 1000000) (hQ : w.cell? ⟨Q, 0, none⟩ = some (.int .i64 p)) :
    Calls Try.prog 28 #[.float .f64 x, .pointer (some ⟨Q, 0, none⟩)] w fun e w' => e = .returned (.float .f64 (floatOfInt .f64 (a % p))) ∧ Keeps (fun _ => False) w w' := by
  have c1 := fun w => run_toInt x a w hx (by omega) (by omega)
  have e1 := rest_eq a p hp.1
  have h1 := Int.tmod_lt_of_pos a hp.1
  have h2 := Int.lt_tmod_of_pos a hp.1
  have W1 : IntKind.i64.wrap (a.tmod p + p) = a.tmod p + p := wrap_in _ ⟨by omega, by omega⟩
  have W2 : wrap64 (a.tmod p + p) = a.tmod p + p := by rw [IntWalk.wrap64_in _ ⟨by omega, by omega⟩]
  have z0 : ¬ p = 0 := by omega
  have z1 : (p == 0) = false := beq_eq_false_iff_ne.mpr z0
  clear hx ha h1 h2
  go_enter Try.func28, Try.ntmps28
  go_wp2_with fail
  go_quiet (fail)
  go_wp2
  go_ret
  exact ⟨rfl, (Keeps.refl _ _).drewN _⟩
/-- What the reducer's function stands on. -/
def Red (w : World) (PB : Nat) (p : Int) : Prop := ∃ Q, w.heap[PB]? = some (.cells #[.func (.func 28) #[] #[.pointer (some ⟨Q, 0, none⟩)]] 65 (0, 0)) ∧ w.heap[Q]? = some (.cells #[.int .i64 p] 3 (0, 0))
theorem Red.none {w w' : World} {PB : Nat} {p : Int} (h : Red w PB p) (k : Keeps (fun _ => False) w w') : Red w' PB p := by
  obtain ⟨Q, h1, h2⟩ := h
  exact ⟨Q, k.at h1 fun h => h, k.at h2 fun h => h⟩
theorem red_any (x y : Nat) (a b p : Int) (PB : Nat) (w : World) (hx : IsF x a) (hy : IsF y b) (ha : a.natAbs ≤ 9007199254740992) (hb : b.natAbs ≤ 9007199254740992) (hp : 0 < p ∧ p ≤ 1000000) (hR : Red w PB p) :
    Calls Try.prog 29 #[.complex .f64 x y, .pointer (some ⟨PB, 0, none⟩)] w fun e w' => e = .returned (cxOf (a % p) (b % p)) ∧ Keeps (fun _ => False) w w' := by
  obtain ⟨Q, h1, h2⟩ := hR
  have H1 := Lib.hid (fun w h => rpart_any x a p Q w hx ha hp h)
  have H2 := Lib.hid (fun w h => rpart_any y b p Q w hy hb hp h)
  have HB := Lib.hid (((Has.start w).old h2).old h1 |>.drew)
  have c0 := cell_of h1 0
  clear hx hy h1 h2
  go_enter Try.func29, Try.ntmps29
  go_wp2_with fail
  go_region_held3 (fun w' => w'.cell? ⟨PB, 0, none⟩ = some (.func (.func 28) #[] #[.pointer (some ⟨Q, 0, none⟩)]))
    (first
      | exact cell_of (HB.out.at 0 rfl) 0
      | go_keep)
    ((go_at_call 28; first
      | (with_reducible refine (H1.out _ (cell_of (HB.out.at 1 rfl) 0)).mono ?_; rintro e w3 ⟨rfl, k3⟩; replace HB := Lib.hid (HB.out.none k3); clear k3)
      | (with_reducible refine (H2.out _ (cell_of (HB.out.at 1 rfl) 0)).mono ?_; rintro e w3 ⟨rfl, k3⟩; replace HB := Lib.hid (HB.out.none k3); clear k3)))
  all_goals
    go_wp2
    go_ret
    exact ⟨rfl, HB.out.keeps⟩
theorem reducer_any (p : Int) (w : World) :
    Calls Try.prog 21 #[.int .i64 p] w fun e w' => ∃ PB, e = .returned (.func (.func 29) #[] #[.pointer (some ⟨PB, 0, none⟩)]) ∧ Red w' PB p ∧ Keeps (fun _ => False) w w' := by
  go_enter Try.func21, Try.ntmps21
  go_wp2
  go_ret
  refine ⟨_, rfl, ⟨w.heap.size, ?_, ?_⟩, ((Keeps.refl _ _).alloc _).alloc _⟩
  · have := heap_new (w.alloc (.cells #[.int .i64 p] 3)) (.cells #[.func (.func 28) #[] #[.pointer (some ⟨w.heap.size, 0, none⟩)]] 65)
    rw [show (w.alloc (.cells #[.int .i64 p] 3)).heap.size = w.heap.size + 1 by simp] at this
    exact this
  · exact heap_old (heap_new w _) _
theorem mul_lim {x a : Int} (hx : 0 ≤ x ∧ x ≤ 1000) (ha : 0 ≤ a ∧ a ≤ 1000) : 0 ≤ x * a ∧ x * a ≤ 1000000 :=
  ⟨Int.mul_nonneg hx.1 ha.1, by have := Int.mul_le_mul hx.2 ha.2 ha.1 (by decide : (0 : Int) ≤ 1000); omega⟩
theorem rof_any (a b c d x y p : Int) (PB : Nat) (w : World) (ha : 0 ≤ a ∧ a ≤ 1000) (hb : 0 ≤ b ∧ b ≤ 1000) (hc : 0 ≤ c ∧ c ≤ 1000) (hd : 0 ≤ d ∧ d ≤ 1000) (hx : 0 ≤ x ∧ x ≤ 1000) (hy : 0 ≤ y ∧ y ≤ 1000) (hp : 0 < p ∧ p ≤ 1000000) (hR : Red w PB p) :
    Calls Try.prog 25 #[.agg #[cxOf a b, cxOf c d], cxOf x y, .func (.func 29) #[] #[.pointer (some ⟨PB, 0, none⟩)]] w fun e w' => e = .returned (cxOf ((x * a - y * b + c) % p) ((x * b + y * a + d) % p)) ∧ Keeps (fun _ => False) w w' := by
  have l1 := mul_lim hx ha
  have l2 := mul_lim hy hb
  have l3 := mul_lim hx hb
  have l4 := mul_lim hy ha
  obtain ⟨re, im, hm, f1, f2⟩ := cmul_is (M := 1000) (N := 1000) (plane_isF (a := x) (by omega)) (plane_isF (a := y) (by omega)) (plane_isF (a := a) (by omega)) (plane_isF (a := b) (by omega)) (by omega) (by omega) (by omega) (by omega) (by decide)
  generalize x * a = xa at *
  generalize y * b = yb at *
  generalize x * b = xb at *
  generalize y * a = ya at *
  obtain ⟨rs, is, hs, g1, g2⟩ := csum_is (op := .add) (.inl rfl) f1 f2 (plane_isF (a := c) (by omega)) (plane_isF (a := d) (by omega)) (· + ·) rfl (by show (xa - yb + c).natAbs ≤ _; omega) (by show (xb + ya + d).natAbs ≤ _; omega)
  have hmul := fun w => run_complex_mul (P := Try.prog) w 55 _ _ _ _ _ _ hm
  have hadd := fun w => run_complex_sum (P := Try.prog) w .add (.inl rfl) 55 .f64 _ _ _ _ _ _ hs
  have HR := Lib.hid (fun w h => red_any rs is (xa - yb + c) (xb + ya + d) p PB w g1 g2 (by omega) (by omega) hp h)
  have HH := Lib.hid hR
  clear hm hs f1 f2 g1 g2 hR l1 l2 l3 l4
  go_enter Try.func25, Try.ntmps25
  go_wp2_with fail
  refine (HR.out _ (HH.out.none ((Keeps.refl _ _).alloc _))).mono ?_
  rintro e w1 ⟨rfl, k1⟩
  go_wp2
  go_ret
  exact ⟨rfl, ((Keeps.refl _ _).alloc _).trans k1⟩
end Go.Proofs.Ytjpbfmhfjlbcgaa
