import Derived.Test.YtlpnobpgphmngabDoorWordRefA
import Derived.Test.YtlpnobpgphmngabDoorPop
namespace Go.Proofs.YtlpnobpgphmngabDoor
open Go.ChangeShapes Go.WideShapes Go.ChangeAt Go.RowKit
set_option linter.unusedVariables false
/-- The document's pend: a truth for each level, and two counts. -/
def rp (x r m : Nat) : Array Value := ((List.range 32).map (fun i => Value.bool (x.testBit i)) ++ [Value.int .i64 (r : Int), Value.int .i64 (m : Int)]).toArray
theorem rp_size (x r m : Nat) : (rp x r m).size = 34 := by simp [rp]
theorem rp_bit (x r m i : Nat) (h : i < 32) : (rp x r m)[i]? = some (.bool (x.testBit i)) := by
  simp only [rp, List.getElem?_toArray]
  rw [List.getElem?_append_left (by simpa using h)]
  simp [h]
theorem rp_r (x r m : Nat) : (rp x r m)[32]? = some (.int .i64 (r : Int)) := by
  simp only [rp, List.getElem?_toArray]
  rw [List.getElem?_append_right (by simp)]
  simp
theorem rp_m (x r m : Nat) : (rp x r m)[33]? = some (.int .i64 (m : Int)) := by
  simp only [rp, List.getElem?_toArray]
  rw [List.getElem?_append_right (by simp)]
  simp
theorem rp_ext {cs : Array Value} {x r m : Nat} (h1 : cs.size = 34) (h2 : ∀ i, i < 32 → cs[i]? = some (.bool (x.testBit i))) (h3 : cs[32]? = some (.int .i64 (r : Int))) (h4 : cs[33]? = some (.int .i64 (m : Int))) : cs = rp x r m := by
  apply Array.ext_getElem?
  intro i
  by_cases hi : i < 32
  · rw [h2 i hi, rp_bit x r m i hi]
  · by_cases e : i = 32
    · subst e; rw [h3, rp_r]
    · by_cases e2 : i = 33
      · subst e2; rw [h4, rp_m]
      · rw [Array.getElem?_eq_none (by omega), Array.getElem?_eq_none (by rw [rp_size]; omega)]
theorem rp_one (x r m : Nat) : (rp x r m).all (·.oneCell') = true := by
  rw [Array.all_eq_true]
  intro i hi
  have h := Array.getElem?_eq_getElem hi
  rw [rp_size] at hi
  by_cases h1 : i < 32
  · rw [rp_bit x r m i h1] at h; rw [← Option.some.inj h]; rfl
  · by_cases e : i = 32
    · subst e; rw [rp_r] at h; rw [← Option.some.inj h]; rfl
    · obtain rfl : i = 33 := by omega
      rw [rp_m] at h; rw [← Option.some.inj h]; rfl
theorem rp_set (x r m k : Nat) (b : Bool) (hx : x < 4294967296) (hk : k < 32) : (rp x r m).setIfInBounds k (.bool b) = rp (if b then setB x k else clrB x k) r m := by
  apply rp_ext
  · rw [Array.size_setIfInBounds, rp_size]
  · intro i hi
    rw [Array.getElem?_setIfInBounds]
    by_cases e : k = i
    · subst e
      rw [if_pos rfl, if_pos (by rw [rp_size]; omega)]
      cases b
      · rw [if_neg Bool.false_ne_true, clrB_testBit hx]; simp
      · rw [if_pos rfl, setB_testBit]; simp [hk]
    · rw [if_neg e, rp_bit x r m i hi]
      have h : ¬ (i : Int) = (k : Int) := by omega
      cases b
      · rw [if_neg Bool.false_ne_true, clrB_testBit hx]; simp [h]
      · rw [if_pos rfl, setB_testBit]; simp [h]
  · rw [Array.getElem?_setIfInBounds_ne (by omega), rp_r]
  · rw [Array.getElem?_setIfInBounds_ne (by omega), rp_m]
theorem rp_setr (x r m z : Nat) : (rp x r m).setIfInBounds 32 (.int .i64 (z : Int)) = rp x z m := by
  apply rp_ext
  · rw [Array.size_setIfInBounds, rp_size]
  · intro i hi; rw [Array.getElem?_setIfInBounds_ne (by omega), rp_bit x r m i hi]
  · rw [Array.getElem?_setIfInBounds, if_pos rfl, if_pos (by rw [rp_size]; omega)]
  · rw [Array.getElem?_setIfInBounds_ne (by omega), rp_m]
theorem rp_setm (x r m z : Nat) : (rp x r m).setIfInBounds 33 (.int .i64 (z : Int)) = rp x r z := by
  apply rp_ext
  · rw [Array.size_setIfInBounds, rp_size]
  · intro i hi; rw [Array.getElem?_setIfInBounds_ne (by omega), rp_bit x r m i hi]
  · rw [Array.getElem?_setIfInBounds_ne (by omega), rp_r]
  · rw [Array.getElem?_setIfInBounds, if_pos rfl, if_pos (by rw [rp_size]; omega)]
theorem put_mod (x k : Nat) (hk : k < 32) : (if x.testBit k then setB (x % 2 ^ k) k else clrB (x % 2 ^ k) k) = x % 2 ^ (k + 1) := by
  have hlt : x % 2 ^ k < 4294967296 := Nat.lt_of_lt_of_le (Nat.mod_lt _ (Nat.two_pow_pos k)) (Nat.pow_le_pow_right (by omega) (by omega) : 2 ^ k ≤ 2 ^ 32)
  apply Nat.eq_of_testBit_eq
  intro j
  rw [Nat.testBit_mod_two_pow]
  have key : ∀ y : Nat, y = (if x.testBit k then setB (x % 2 ^ k) k else clrB (x % 2 ^ k) k) → y.testBit j = (decide (j < k + 1) && x.testBit j) := by
    intro y hy
    subst hy
    by_cases e : j = k
    · subst e
      cases hb : x.testBit j
      · rw [if_neg Bool.false_ne_true, clrB_testBit hlt]; simp
      · rw [if_pos rfl, setB_testBit]; simp [hk]
    · have h : ¬ (j : Int) = (k : Int) := by omega
      have h2 : decide (j < k + 1) = decide (j < k) := by rw [Bool.eq_iff_iff]; simp; omega
      rw [h2]
      cases hb : x.testBit k
      · rw [if_neg Bool.false_ne_true, clrB_testBit hlt, Nat.testBit_mod_two_pow]; simp [h]
      · rw [if_pos rfl, setB_testBit, Nat.testBit_mod_two_pow]; simp [h]
  exact key _ rfl
theorem results_row_tmp {P : Program} {fn : Func} {p t : Tmp} {ty : TypeId} (h : fn.results = #[.cell p ty, .tmp t]) (tmps : Array Value) (w : World) (g : Nat) (E : TypeId) (cs : Array Value) (fr : Nat × Nat) (d : TypeDesc)
    (hp : tmps.getD p undef = .pointer (some ⟨g, 0, none⟩)) (hg : w.heap[g]? = some (.cells cs E fr))
    (hu : P.underlying ty = some d) (hd : (match d with | .struct _ | .array _ _ => true | _ => false) = true) (hi : (P.info? ty).map (·.size) = some cs.size) :
    (results fn tmps).run P w = .ok (.tuple #[.agg cs, tmps.getD t undef]) w := by
  have hp' : tmps[p]?.getD undef = .pointer (some ⟨g, 0, none⟩) := by simpa using hp
  simp [results, h, hp', asAddr, run_loadVar_row w g E ty cs fr d hg hu hd hi]
theorem rp_info (x r m : Nat) : (Tryd.prog.info? 30).map (·.size) = some (rp x r m).size := by rw [rp_size]; kernel_rfl
set_option maxRecDepth 20000 in
theorem rpbits (x r m : Nat) (w : World) (hx : x < 4294967296) :
    Calls Tryd.prog 13 #[.agg (rp x r m)] w fun e w' => e = .returned (.int .u32 (x : Int)) ∧ Keeps (fun _ => False) w w' := by
  have H0 := Lib.hid (And.intro (heap_new w (.cells (rp x r m) 30)) ((Keeps.refl (fun _ => False) w).alloc (.cells (rp x r m) 30)))
  go_enter Tryd.func13, Tryd.ntmps13
  go_wp2_with fail
  obtain ⟨wo, rfl⟩ : ∃ wo : World, wo = w := ⟨_, rfl⟩
  go_loopw [3, 4] (fun y i wr => ∃ k : Nat, k ≤ 32 ∧ i = .int .i64 k ∧ y = .int .u32 ((x % 2 ^ k : Nat) : Int) ∧ wr.heap[wo.heap.size]? = some (.cells (rp x r m) 30 (0, 0)) ∧ Keeps (fun _ => False) wo wr) (fun _ i _ => 32 - (intOf i).toNat)
  case atStart => exact ⟨0, by omega, rfl, by simp [Nat.mod_one], H0.out.1, H0.out.2⟩
  case round =>
    obtain ⟨k, hk, rfl, rfl, h1, hK⟩ := hrel
    have hlt : x % 2 ^ k < 4294967296 := Nat.lt_of_le_of_lt (Nat.mod_le _ _) hx
    by_cases hk32 : k < 32
    · have c1 : wr.cell? ⟨wo.heap.size, k, none⟩ = some (.bool (x.testBit k)) := (cell_of h1 k).trans (rp_bit x r m k hk32)
      have l1 := lt_of h1
      have hpm := put_mod x k hk32
      have HH := Lib.hid (And.intro h1 (And.intro hK hpm))
      clear h1 hK hpm H0
      generalize hy : x % 2 ^ k = y at *
      generalize hb : x.testBit k = b at *
      have HY := Lib.hid (And.intro hy hb)
      clear hy hb
      go_wp2_with fail
      refine (rput_any y k b _ hlt).mono ?_
      rintro e w1 ⟨rfl, k1⟩
      rw [HH.out.2.2]
      go_wp2
      go_roundw
      case rel => exact ⟨k + 1, by omega, by go_num, rfl, k1.at HH.out.1 fun h => h, HH.out.2.1.trans k1⟩
      case measure => simp [intOf]; omega
    · obtain rfl : k = 32 := by omega
      have hm : x % 2 ^ 32 = x := Nat.mod_eq_of_lt hx
      rw [hm]
      clear hm
      go_wp2
      go_ret
      exact ⟨rfl, hK⟩
set_option maxRecDepth 20000 in
theorem rptop (x r m : Nat) (w : World) (hx : x < 4294967296) :
    Calls Tryd.prog 15 #[.agg (rp x r m)] w fun e w' => e = .returned (.int .i64 ((Lib.bitLen x : Int) - 1)) ∧ Keeps (fun _ => False) w w' := by
  have H0 := Lib.hid (heap_new w (.cells (rp x r m) 30))
  go_enter Tryd.func15, Tryd.ntmps15
  go_wp2_with fail
  go_loop [3] (fun i => ∃ k : Nat, k ≤ 32 ∧ i = .int .i64 (pred1 k) ∧ ∀ j, k ≤ j → x.testBit j = false) (fun i => (intOf i + 1).toNat)
  case atStart => exact ⟨32, by omega, rfl, fun j hj => testBit_ge hx hj⟩
  case round =>
    obtain ⟨k, hk, rfl, hz⟩ := hrel
    have HZ := Lib.hid hz
    clear hz
    rcases k with _ | k
    · rw [pred1_zero]
      have hx0 : x = 0 := zero_bits hx fun j _ => HZ.out j (Nat.zero_le _)
      subst hx0
      go_wp2
      go_ret
      exact ⟨ret_i64 (by rw [bitLen_zero]; rfl), (Keeps.refl _ _).alloc _⟩
    · rw [pred1_succ]
      have c1 : (w.alloc (.cells (rp x r m) 30)).cell? ⟨w.heap.size, k, none⟩ = some (.bool (x.testBit k)) := (cell_of H0.out k).trans (rp_bit x r m k (by omega))
      cases hb : x.testBit k
      · rw [hb] at c1
        have HB := Lib.hid hb
        clear hb
        go_wp2
        go_round
        case rel => exact ⟨k, by omega, rfl, fun j hj => by
          by_cases e : j = k
          · subst e; exact HB.out
          · exact HZ.out j (by omega)⟩
        case measure => simp [intOf]
      · rw [hb] at c1
        have hx0 : x ≠ 0 := by rintro rfl; rw [Nat.zero_testBit] at hb; cases hb
        obtain ⟨b1, b2, b3, b4⟩ := high_spec hx hx0
        have hbl : Lib.bitLen x = k + 1 := by
          rcases Nat.lt_or_ge k (Lib.bitLen x - 1) with h | h
          · rw [HZ.out _ (by omega)] at b3; cases b3
          · rcases Nat.lt_or_ge k (Lib.bitLen x) with h2 | h2
            · omega
            · rw [b4 k h2] at hb; cases hb
        have HBL := Lib.hid hbl
        clear hb b1 b2 b3 b4 hbl
        go_wp2
        go_ret
        exact ⟨ret_i64 (by rw [HBL.out]; omega), (Keeps.refl _ _).alloc _⟩
end Go.Proofs.YtlpnobpgphmngabDoor
