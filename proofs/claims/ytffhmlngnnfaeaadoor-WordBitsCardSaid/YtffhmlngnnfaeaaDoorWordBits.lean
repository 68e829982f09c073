import Derived.Test.YtffhmlngnnfaeaaDoorWordRefMore
import Derived.Test.YtffhmlngnnfaeaaDoorWordLaid
import Derived.Test.YtffhmlngnnfaeaaDoorOpen
namespace Go.Proofs.YtffhmlngnnfaeaaDoor
open Go.ChangeShapes Go.WideShapes Go.ChangeAt Go.RowKit
set_option linter.unusedVariables false
/-- A slice of n numbers, of which F tells. -/
def Row (w : World) (a : Option Addr) (n : Nat) (F : Nat → Int) : Prop := 0 < n → ∃ b off, a = some ⟨b, off, none⟩ ∧ b < w.heap.size ∧ ∀ i, i < n → w.cell? ⟨b, off + i, none⟩ = some (.int .i64 (F i))
theorem Row.keeps {w w' : World} {a : Option Addr} {n : Nat} {F : Nat → Int} (h : Row w a n F) (hk : Keeps (fun _ => False) w w') : Row w' a n F := by
  intro hn
  obtain ⟨b, off, ha, hb, hc⟩ := h hn
  exact ⟨b, off, ha, Nat.lt_of_lt_of_le hb hk.size, fun i hi => (World.cell?_of_block (w := w) (hk.block b hb fun h => h)).trans (hc i hi)⟩
theorem tabAt_keeps {g : Nat} {tab : List Nat} {w w' : World} (h : TabAt g tab w) (hg : g < w.heap.size) (hk : Keeps (fun _ => False) w w') : TabAt g tab w' := fun j hj => (World.cell?_of_block (w := w) (hk.block g hg fun h => h)).trans (h j hj)
theorem of_row (a : Option Addr) (n cap : Nat) (F : Nat → Int) (w : World) (hn : n ≤ maxLen) (h : Row w a n F) :
    Calls Tryd.prog 21 #[.slice a n cap] w fun e w' => e = .returned (.int .u32 (ofs F n)) ∧ w = w' := by
  rcases Nat.eq_zero_or_pos n with rfl | hp
  · exact of_zero a cap w
  · obtain ⟨b, off, rfl, hb, hc⟩ := h hp
    exact of_any b off n cap F w hn hc
theorem rof_row (a : Option Addr) (n cap : Nat) (F : Nat → Int) (w : World) (hn : n ≤ maxLen) (h : Row w a n F) :
    Calls Tryd.prog 22 #[.slice a n cap] w fun e w' => e = .returned (.int .u32 (ofs F n)) ∧ Keeps (fun _ => False) w w' := by
  rcases Nat.eq_zero_or_pos n with rfl | hp
  · exact rof_zero a cap w
  · obtain ⟨b, off, rfl, hb, hc⟩ := h hp
    exact rof_any b off n cap F w hn hb hc
theorem low_all (x : Nat) (w : World) (hx : x < 4294967296) (hT : TabAt 0 Lib.deBruijn32tab w) :
    Calls Tryd.prog 11 #[.int .u32 x] w fun e w' => e = .returned (.int .i64 (lowV x)) ∧ w = w' := by
  by_cases h0 : x = 0
  · subst h0; exact low_zero w
  · rw [lowV, if_neg h0]; exact low_any x w hx h0 hT
/-- Two rows of the same numbers. -/
theorem same_own (l : List Nat) (B0 B1 : Nat) (v0 v1 : Value) (w : World) (hl : l.length ≤ maxLen) (h0 : w.ownsRow B0 3 1 v0 l.length (ints l)) (h1 : w.ownsRow B1 3 1 v1 l.length (ints l)) :
    Calls Tryd.prog 19 #[v0, v1] w fun e w' => e = .returned (.bool true) ∧ Keeps (fun _ => False) w w' := by
  by_cases hp : 0 < l.length
  · obtain ⟨g0, c0, rfl, _, _, hc0⟩ := own_ints h0 hp
    obtain ⟨g1, c1, rfl, _, _, hc1⟩ := own_ints h1 hp
    refine rsame_some g0 0 g1 0 l.length c0 c1 (fun i => ((l[i]?.getD 0 : Nat) : Int)) w hl ?_ ?_
    · intro i hi; rw [Nat.zero_add, hc0 i hi]; simp [hi]
    · intro i hi; rw [Nat.zero_add, hc1 i hi]; simp [hi]
  · have e : l = [] := List.eq_nil_of_length_eq_zero (by omega)
    subst e
    obtain ⟨a0, c0, rfl⟩ := own_zero h0
    obtain ⟨a1, c1, rfl⟩ := own_zero h1
    exact rsame_zero a0 a1 c0 c1 w
theorem own_below {w w' : World} {B : Nat} {E : TypeId} {v : Value} {n s : Nat} {xs : List Value} (h : w.ownsRow B E s v n xs) (hk : Below w.heap.size w w') : w'.ownsRow B E s v n xs := own_keeps h (Keeps.ofBelow hk)

set_option maxRecDepth 100000 in
theorem wordBits_plain (x : Nat) (i : Int) (a0 : Option Addr) (n cap : Nat) (F : Nat → Int) (w : World) (hx : x < 4294967296) (hlo : -9223372036854775808 ≤ i) (hhi : i ≤ 9223372036854775807) (hn : n ≤ 60) (hr : Row w a0 n F)
    (hT : TabAt 0 Lib.deBruijn32tab w) (hg : 0 < w.heap.size) :
    Calls Tryd.prog 3 #[.int .u32 x, .int .i64 i, .slice a0 n cap] w fun e w' => e = .returned (.bool true) ∧ Below w.heap.size w w' := by
  have hm : n ≤ maxLen := by unfold maxLen; omega
  have hbl : (bitsL x).length ≤ maxLen := by have := bitsL_len x; unfold maxLen; omega
  have hd : decide (60 < (n : Int)) = false := by simp; omega
  have H := Lib.hid (And.intro hr (And.intro hT hg))
  clear hr hT hg
  go_enter Tryd.func3, Tryd.ntmps3
  go_wp2_with fail
  refine (has_any x i _ hx).mono ?_
  rintro e w' ⟨rfl, rfl⟩
  go_wp2_with fail
  refine (rhas_any x i _ hx).mono ?_
  rintro e w1 ⟨rfl, k1⟩
  have K1 := Lib.hid k1
  clear k1
  go_wp2_with fail
  refine (with_any x i _ hx).mono ?_
  rintro e w' ⟨rfl, rfl⟩
  go_wp2_with fail
  refine (rput_any x i true _ hx).mono ?_
  rintro e w2 ⟨rfl, k2⟩
  have K2 := Lib.hid (K1.out.trans k2)
  clear k2 K1
  rw [if_pos rfl]
  go_wp2_with fail
  refine (without_any x i _ hx).mono ?_
  rintro e w' ⟨rfl, rfl⟩
  go_wp2_with fail
  refine (rput_any x i false _ hx).mono ?_
  rintro e w3 ⟨rfl, k3⟩
  have K3 := Lib.hid (K2.out.trans k3)
  clear k3 K2
  rw [if_neg Bool.false_ne_true]
  go_wp2_with fail
  refine (low_all x _ hx (tabAt_keeps H.out.2.1 H.out.2.2 K3.out)).mono ?_
  rintro e w' ⟨rfl, rfl⟩
  go_wp2_with fail
  refine (rlow_any x _ hx).mono ?_
  rintro e w4 ⟨rfl, k4⟩
  have K4 := Lib.hid (K3.out.trans k4)
  clear k4 K3
  go_wp2_with fail
  refine (high_any x _ hx).mono ?_
  rintro e w' ⟨rfl, rfl⟩
  go_wp2_with fail
  refine (rhigh_any x _ hx).mono ?_
  rintro e w5 ⟨rfl, k5⟩
  have K5 := Lib.hid (K4.out.trans k5)
  clear k5 K4
  go_wp2_with fail
  refine (count_any x _ hx).mono ?_
  rintro e w6 ⟨n6, rfl, rfl⟩
  have K6 := Lib.hid (K5.out.drewN n6)
  clear K5
  go_wp2_with fail
  refine (rlist_any x _ hx).mono ?_
  rintro e w7 ⟨v7, rfl, o7, k7⟩
  obtain ⟨a7, c7, rfl⟩ := owns_slice o7
  have K7 := Lib.hid (K6.out.trans (Keeps.ofBelow k7))
  clear k7 o7 K6
  go_wp2_with fail
  refine (mask_any i _).mono ?_
  rintro e w' ⟨rfl, rfl⟩
  go_wp2_with fail
  refine (rmask_any i _ hlo hhi).mono ?_
  rintro e w8 ⟨rfl, k8⟩
  have K8 := Lib.hid (K7.out.trans k8)
  clear k8 K7
  go_wp2_with fail
  refine (list_any x _ hx (tabAt_keeps H.out.2.1 H.out.2.2 K8.out) (Nat.lt_of_lt_of_le H.out.2.2 K8.out.size)).mono ?_
  rintro e w9 ⟨v9, rfl, o9, k9⟩
  have K9 := Lib.hid (K8.out.trans (Keeps.ofBelow k9))
  have O9 := Lib.hid o9
  clear k9 K8 o9
  go_wp2_with fail
  refine (rlist_any x _ hx).mono ?_
  rintro e w10 ⟨v10, rfl, o10, k10⟩
  have K10 := Lib.hid (K9.out.trans (Keeps.ofBelow k10))
  have O10 := Lib.hid (And.intro (own_below O9.out k10) o10)
  clear k10 K9 o10 O9
  go_wp2_with fail
  refine (same_own (bitsL x) _ _ _ _ _ hbl O10.out.1 O10.out.2).mono ?_
  rintro e w11 ⟨rfl, k11⟩
  have K11 := Lib.hid (K10.out.trans k11)
  clear k11 K10 O10
  go_wp2_with fail
  refine (of_row a0 n cap F _ hm (H.out.1.keeps K11.out)).mono ?_
  rintro e w' ⟨rfl, rfl⟩
  go_wp2_with fail
  refine (rof_row a0 n cap F _ hm (H.out.1.keeps K11.out)).mono ?_
  rintro e w12 ⟨rfl, k12⟩
  have K12 := Lib.hid (K11.out.trans k12)
  clear k12 K11
  go_wp2_with fail
  refine (alive02_any _).mono ?_
  rintro e w13 ⟨rfl, hb⟩
  go_wp2
  go_ret
  exact ⟨rfl, (K12.out.trans (Keeps.ofBelow hb)).none⟩
theorem wordBits_large (x i : Int) (a0 : Option Addr) (n cap : Nat) (w : World) (hm : n ≤ maxLen) (hn : 60 < n) :
    Calls Tryd.prog 3 #[.int .u32 x, .int .i64 i, .slice a0 n cap] w fun e w' => e = .returned (.bool true) ∧ Below w.heap.size w w' := by
  unfold maxLen at hm
  have hd : decide (60 < (n : Int)) = true := by simp; omega
  go_enter Tryd.func3, Tryd.ntmps3
  go_wp2_with fail
  refine (alive02_any _).mono ?_
  rintro e w13 ⟨rfl, hb⟩
  go_wp2
  go_ret
  exact ⟨rfl, hb⟩
/-- A slice of numbers, read. -/
theorem row_of {H : Type} {enc : TypeId × Value → H} {W : World} {base : Nat} {v : Value} {d : DataW H} {p : List MemPlace}
    (k : Value.okWide Tryd.prog W .any base 23 v) (h : DataW.Trod enc Tryd.prog W 0 (fun _ => true) true 23 v d p) :
    ∃ (a : Option Addr) (n cap : Nat) (F : Nat → Int), v = .slice a n cap ∧ n ≤ maxLen ∧ Row W a n F ∧ ∀ i, i < n → (Lit.int .i64 (F i)).wf = true := by
  obtain ⟨a0, n0, c0, rfl⟩ := okWide_slice Tryd.underlying23 k
  obtain ⟨a, n, c, e, hl, hm, r⟩ := (reads_of h).rows Tryd.underlying23 (n := 1) (by kernel_rfl) (by omega)
  simp [Value.cells] at e
  obtain ⟨rfl, rfl, rfl⟩ := e
  rcases Nat.eq_zero_or_pos n0 with rfl | hp
  · exact ⟨a0, 0, c0, fun _ => 0, rfl, by omega, fun h => by omega, fun i hi => by omega⟩
  · obtain ⟨b, off, rfl, hb, hr⟩ := r hp
    obtain ⟨F, hF⟩ := Deep.choose_lt (n := n0) (p := fun i (x : Int) => W.cell? ⟨b, off + i, none⟩ = some (.int .i64 x) ∧ (Lit.int .i64 x).wf = true) (fun i hi => by
      obtain ⟨cs', _, hc, hrd⟩ := hr i hi
      obtain ⟨x, rfl, hx⟩ := hrd.int Tryd.underlying3
      have := hc 0 (by omega)
      simp at this
      exact ⟨x, this, hx⟩)
    exact ⟨_, n0, c0, F, rfl, by omega, fun _ => ⟨b, off, rfl, hb, fun i hi => (hF i hi).1⟩, fun i hi => (hF i hi).2⟩

def wordBitsLaid := tabLaid
set_option maxRecDepth 100000 in
theorem wordBits_walk {H : Type} {enc : TypeId × Value → H} (W : World) (base : Nat) {v0 v1 v2 : Value} {d0 d1 d2 : DataW H} {p0 p1 p2 : List MemPlace}
    (k0 : Value.okWide Tryd.prog W .any base 22 v0) (h0 : DataW.Trod enc Tryd.prog W 0 (fun _ => true) true 22 v0 d0 p0)
    (k1 : Value.okWide Tryd.prog W .any base 3 v1) (h1 : DataW.Trod enc Tryd.prog W 0 (fun _ => true) true 3 v1 d1 p1)
    (k2 : Value.okWide Tryd.prog W .any base 23 v2) (h2 : DataW.Trod enc Tryd.prog W 0 (fun _ => true) true 23 v2 d2 p2)
    (hL : laidMetH Tryd.prog wordBitsLaid W) :
    Calls Tryd.prog 3 #[v0, v1, v2] W fun e w' => e = .returned (.bool true) ∧ Below W.heap.size W w' := by
  obtain ⟨hT, hg⟩ := tab_of hL
  obtain ⟨x, rfl, _, _, wx⟩ := open_int Tryd.underlying22 k0 h0
  obtain ⟨i, rfl, _, _, wi⟩ := open_int Tryd.underlying3 k1 h1
  obtain ⟨a, n, cap, F, rfl, hm, hr, _⟩ := row_of k2 h2
  have hx : 0 ≤ x ∧ x ≤ 4294967295 := by simpa [Lit.wf, IntKind.min, IntKind.max, IntKind.signed, IntKind.bits] using wx
  have hi : -9223372036854775808 ≤ i ∧ i ≤ 9223372036854775807 := by simpa [Lit.wf, IntKind.min, IntKind.max, IntKind.signed, IntKind.bits] using wi
  obtain ⟨x, rfl⟩ := Int.eq_ofNat_of_zero_le hx.1
  by_cases hn : n ≤ 60
  · exact wordBits_plain x i a n cap F W (by omega) hi.1 hi.2 hn hr hT hg
  · exact wordBits_large x i a n cap W hm (by omega)
end Go.Proofs.YtffhmlngnnfaeaaDoor
