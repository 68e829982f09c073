import Derived.Test.YtdjfelabdofaaaaCodeF
import Derived.Test.YtdjfelabdofaaaaRowGa
namespace Go.Proofs.Ytdjfelabdofaaaa
open Go.ChangeShapes Go.WideShapes Go.ChangeAt Go.RowKit
set_option linter.unusedVariables false
set_option linter.unusedSimpArgs false
theorem info_fn : (Try.prog.info? 113).map (fun i => (i.zero, i.size, i.bytes)) = some (some .nilFunc, 1, 8) := by kernel_rfl
/-- What stores a number of a row: its function, and what that has captured. -/
def putV (b : Nat) (T : Nat → Nat) (j : Nat) : Value :=
  if j = 0 then .func (.func 62) #[] #[.pointer (some ⟨b, 0, none⟩)]
  else if j < 5 then .func (.func 63) #[] #[.pointer (some ⟨T (j - 1), 0, none⟩)]
  else .func (.func 64) #[] #[.pointer (some ⟨b, 0, none⟩)]
def putL (b : Nat) (T : Nat → Nat) (n : Nat) : List Value := (List.range n).map (putV b T)
theorem putL_snoc (b : Nat) (T : Nat → Nat) (n : Nat) : putL b T (n + 1) = putL b T n ++ [putV b T n] := by
  unfold putL
  rw [List.range_succ, List.map_append]
  rfl
theorem putL_congr (b : Nat) (T S : Nat → Nat) (n : Nat) (h : ∀ j, j + 1 < n → T j = S j) : putL b T n = putL b S n := by
  unfold putL
  apply List.map_congr_left
  intro j hj
  rw [List.mem_range] at hj
  unfold putV
  by_cases h0 : j = 0
  · rw [if_pos h0, if_pos h0]
  · rw [if_neg h0, if_neg h0, h (j - 1) (by omega)]
theorem own_typed {W : World} {base size n : Nat} {e t : TypeId} {v : Value} {xs : List Value} (h : W.ownsRow base e size v n xs) {A : Nat} {cur : Array Value} {fr : Nat × Nat} (hA : W.heap[A]? = some (.cells cur t fr)) (hte : t ≠ e) : v.ownBlock ≠ some A := by
  rcases h.2 with ⟨rfl, _⟩ | ⟨g, cap, cur', rfl, _, hgb, _⟩
  · simp [Value.ownBlock]
  · intro q
    obtain rfl : g = A := by simpa [Value.ownBlock] using q
    rw [hgb] at hA
    simp at hA
    exact hte hA.2.1.symm
theorem putL_at (b : Nat) (T : Nat → Nat) (n j : Nat) (h : j < n) : (putL b T n)[j]? = some (putV b T j) := by
  unfold putL
  rw [List.getElem?_map, List.getElem?_range h]
  rfl
theorem putV_one (b : Nat) (T : Nat → Nat) (j : Nat) : (putV b T j).oneCell' = true := by
  unfold putV
  split
  · rfl
  · split <;> rfl
/-- The boxes of the words' addresses. -/
def ToAt (w : World) (B X : Nat) (T : Nat → Nat) (k : Nat) : Prop := ∀ j, j < k → B ≤ T j ∧ w.heap[T j]? = some (.cells #[.pointer (some ⟨X, 2 + j, none⟩)] 121 (0, 0))
set_option maxRecDepth 100000 in
set_option maxHeartbeats 1000000 in
theorem dest_any (w : World) (X : Nat) :
    Calls Try.prog 55 #[.pointer (some ⟨X, 0, none⟩)] w fun e w' => ∃ (g cap b : Nat) (T : Nat → Nat), e = .returned (.slice (some ⟨g, 0, none⟩) 6 cap) ∧ w.heap.size ≤ g ∧
      (∀ j, j < 6 → w'.cell? ⟨g, j, none⟩ = some (putV b T j)) ∧ w.heap.size ≤ b ∧ w'.heap[b]? = some (.cells #[.pointer (some ⟨X, 0, none⟩)] 110 (0, 0)) ∧
      ToAt w' w.heap.size X T 4 ∧ g < w'.heap.size ∧ Below w.heap.size w w' := by
  obtain ⟨i0, hi, hz0, hz1, hz2⟩ := info_parts info_fn
  have HI := Lib.hid (And.intro hi (And.intro hz0 (And.intro hz1 hz2)))
  clear hi hz0 hz1 hz2
  go_enter Try.func55, Try.ntmps55
  go_wp2_with fail
  have b0 := heap_old (heap_new w (.cells #[.pointer (some ⟨X, 0, none⟩)] 110)) (.cells #[.func (.func 62) #[] #[.pointer (some ⟨w.heap.size, 0, none⟩)]] 113)
  have o0 := own_one (w.alloc (.cells #[.pointer (some ⟨X, 0, none⟩)] 110)) (w.heap.size + 1) 113 (.func (.func 62) #[] #[.pointer (some ⟨w.heap.size, 0, none⟩)]) (by simp)
  rw [World.size_alloc] at o0
  have k0 : Below w.heap.size w ((w.alloc (.cells #[.pointer (some ⟨X, 0, none⟩)] 110)).alloc (.cells #[.func (.func 62) #[] #[.pointer (some ⟨w.heap.size, 0, none⟩)]] 113)) := ((Below.refl _ w).alloc (Nat.le_refl _) _).alloc (by simp) _
  have z0 : ((w.alloc (.cells #[.pointer (some ⟨X, 0, none⟩)] 110)).alloc (.cells #[.func (.func 62) #[] #[.pointer (some ⟨w.heap.size, 0, none⟩)]] 113)).heap.size = w.heap.size + 2 := by simp
  generalize (w.alloc (.cells #[.pointer (some ⟨X, 0, none⟩)] 110)).alloc (.cells #[.func (.func 62) #[] #[.pointer (some ⟨w.heap.size, 0, none⟩)]] 113) = wo at *
  have H0 := Lib.hid (And.intro b0 (And.intro o0 (And.intro k0 z0)))
  clear b0 o0 k0 z0
  go_loopw [3, 8] (fun v i wr => ∃ (k : Nat) (T : Nat → Nat), k ≤ 4 ∧ i = .int .i64 (k : Int) ∧ wr.ownsRow (w.heap.size + 1) 113 1 v (1 + k) (putL w.heap.size T (1 + k)) ∧
    wr.heap[w.heap.size]? = some (.cells #[.pointer (some ⟨X, 0, none⟩)] 110 (0, 0)) ∧ ToAt wr w.heap.size X T k ∧ Below w.heap.size w wr ∧ w.heap.size + 1 ≤ wr.heap.size) (fun _ i _ => 4 - (intOf i).toNat)
  case atStart => exact ⟨0, fun _ => 0, by omega, rfl, H0.out.2.1, H0.out.1, (fun j hj => by omega), H0.out.2.2.1, by have := H0.out.2.2.2; omega⟩
  case round =>
    obtain ⟨k, T, hk, rfl, hown, hbox, hT, hB, hz⟩ := hrel
    rename_i wr
    have c0 : wr.cell? ⟨w.heap.size, 0, none⟩ = some (.pointer (some ⟨X, 0, none⟩)) := by rw [cell_of hbox 0]; rfl
    have hsz := hB.size
    have HJ := Lib.hid (And.intro hown (And.intro hbox (And.intro hT hB)))
    clear hbox hT hB
    obtain ⟨hi, hz0, hz1, hz2⟩ := HI.out
    by_cases hlt : k < 4
    · have HV := Lib.hid (show putV w.heap.size (fun j => if j = k then wr.heap.size else T j) (1 + k) = .func (.func 63) #[] #[.pointer (some ⟨wr.heap.size, 0, none⟩)] by
        unfold putV
        rw [if_neg (by omega), if_pos (by omega)]
        dsimp only
        rw [if_pos (by omega)])
      go_wp2_with (at_builtin; refine wpList_append_own _ rfl _ _ 108 rfl (w.heap.size + 1) 113 i0 .nilFunc 1 8 Try.underlying108 hi hz0 hz1 hz2 rfl (by decide) _ _ _ rfl ((hown.alloc _).alloc _) ⟨wr.heap.size + 1, 0, none⟩ 1 1 [.func (.func 63) #[] #[.pointer (some ⟨wr.heap.size, 0, none⟩)]] rfl rfl ?c1 ?c2 ?c3 ?c4 ?c5 ?_)
      case c1 =>
        have h := cell_one_new (wr.alloc (.cells #[.pointer (some ⟨X, 2 + k, none⟩)] 121)) (.func (.func 63) #[] #[.pointer (some ⟨wr.heap.size, 0, none⟩)]) 113
        rw [World.size_alloc] at h
        exact h
      case c2 => intro u hu; simp at hu; subst hu; rfl
      case c3 => unfold maxLen; omega
      case c4 => omega
      case c5 => simp; omega
      intro v' w4 hown' hgrow _
      obtain ⟨g', cap', rfl⟩ := ownsRow_succ hown'
      have hown0 := HJ.out.1
      have hlt' : ∀ j, j < k → T j < wr.heap.size := fun j hj => lt_of (HJ.out.2.2.1 j hj).2
      have kT : ∀ j, j < k → w4.heap[T j]? = some (.cells #[.pointer (some ⟨X, 2 + j, none⟩)] 121 (0, 0)) := fun j hj => by
        rw [hgrow.block (T j) (by simp; have := hlt' j hj; omega) (fun q => own_typed hown0 (HJ.out.2.2.1 j hj).2 (by decide) q.symm)]
        exact heap_old (heap_old (HJ.out.2.2.1 j hj).2 _) _
      have kN : w4.heap[wr.heap.size]? = some (.cells #[.pointer (some ⟨X, 2 + k, none⟩)] 121 (0, 0)) := by
        rw [hgrow.block wr.heap.size (by simp; omega) (fun q => by have := (hown0.lt _ q.symm).2; omega)]
        exact heap_old (heap_new wr _) _
      have kB : w4.heap[w.heap.size]? = some (.cells #[.pointer (some ⟨X, 0, none⟩)] 110 (0, 0)) := by
        rw [hgrow.block w.heap.size (by simp; omega) (fun q => by have := (hown0.lt _ q.symm).1; omega)]
        exact heap_old (heap_old HJ.out.2.1 _) _
      have kW : Below w.heap.size w w4 := ((HJ.out.2.2.2.alloc hsz _).alloc (by simp; omega) _).grown hgrow (by simp; omega) (fun j hj => by have := (hown0.lt j hj).1; omega)
      have kz : w.heap.size + 1 ≤ w4.heap.size := by have := lt_of kN; omega
      have HWW := Lib.hid (And.intro hown' (And.intro kB (And.intro kT (And.intro kN (And.intro kW kz)))))
      clear hown hown' hgrow hi hz0 hz1 hz2 hown0 hlt' kT kN kB kW kz
      go_wp2_with fail
      go_roundw
      case rel =>
        refine ⟨k + 1, fun j => if j = k then wr.heap.size else T j, by omega, by go_num, ?_, HWW.out.2.1, ?_, HWW.out.2.2.2.2.1, HWW.out.2.2.2.2.2⟩
        · have h := HWW.out.1
          rw [show 1 + (k + 1) = (1 + k) + 1 by omega, putL_snoc, HV.out, putL_congr _ (fun j => if j = k then wr.heap.size else T j) T (1 + k) (fun j hj => if_neg (by omega))]
          exact h
        · intro j hj
          by_cases q : j = k
          · subst q
            dsimp only
            rw [if_pos rfl]
            exact ⟨hsz, HWW.out.2.2.2.1⟩
          · dsimp only
            rw [if_neg q]
            exact ⟨(HJ.out.2.2.1 j (by omega)).1, HWW.out.2.2.1 j (by omega)⟩
      case measure => simp [intOf]; omega
    · obtain rfl : k = 4 := by omega
      have HV := Lib.hid (show putV w.heap.size T (1 + 4) = .func (.func 64) #[] #[.pointer (some ⟨w.heap.size, 0, none⟩)] by
        unfold putV
        rw [if_neg (by omega), if_neg (by omega)])
      go_wp2_with (at_builtin; refine wpList_append_own _ rfl _ _ 108 rfl (w.heap.size + 1) 113 i0 .nilFunc 1 8 Try.underlying108 hi hz0 hz1 hz2 rfl (by decide) _ _ _ rfl (hown.alloc _) ⟨wr.heap.size, 0, none⟩ 1 1 [.func (.func 64) #[] #[.pointer (some ⟨w.heap.size, 0, none⟩)]] rfl rfl ?c1 ?c2 ?c3 ?c4 ?c5 ?_)
      case c1 => exact cell_one_new _ _ _
      case c2 => intro u hu; simp at hu; subst hu; rfl
      case c3 => unfold maxLen; omega
      case c4 => omega
      case c5 => simp; omega
      intro v' w4 hown' hgrow _
      obtain ⟨g', cap', rfl⟩ := ownsRow_succ (k := 5) hown'
      have hown0 := HJ.out.1
      have kT : ToAt w4 w.heap.size X T 4 := fun j hj => ⟨(HJ.out.2.2.1 j hj).1, by
        rw [hgrow.block (T j) (by simp; have := lt_of (HJ.out.2.2.1 j hj).2; omega) (fun q => own_typed hown0 (HJ.out.2.2.1 j hj).2 (by decide) q.symm)]
        exact heap_old (HJ.out.2.2.1 j hj).2 _⟩
      have kB : w4.heap[w.heap.size]? = some (.cells #[.pointer (some ⟨X, 0, none⟩)] 110 (0, 0)) := by
        rw [hgrow.block w.heap.size (by simp; omega) (fun q => by have := (hown0.lt _ q.symm).1; omega)]
        exact heap_old HJ.out.2.1 _
      have kW : Below w.heap.size w w4 := (HJ.out.2.2.2.alloc hsz _).grown hgrow (by simp; omega) (fun j hj => by have := (hown0.lt j hj).1; omega)
      have kc : ∀ j, j < 6 → w4.cell? ⟨g', j, none⟩ = some (putV w.heap.size T j) := fun j hj => by
        have h := hown'.cells (g := g') rfl j (putV w.heap.size T j) (by
          have e : putL w.heap.size T (1 + 4) ++ [Value.func (.func 64) #[] #[.pointer (some ⟨w.heap.size, 0, none⟩)]] = putL w.heap.size T 6 := by rw [← HV.out]; exact (putL_snoc _ _ 5).symm
          rw [e]
          exact putL_at _ _ _ _ hj)
        rw [addr_add] at h
        exact h
      have HWW := Lib.hid (And.intro (hown'.lt g' rfl) (And.intro kc (And.intro kB (And.intro kT kW))))
      clear hown hown' hgrow hi hz0 hz1 hz2 hown0 kT kB kW kc
      go_wp2_with fail
      go_ret
      exact ⟨g', cap', w.heap.size, T, rfl, by have := HWW.out.1.1; omega, HWW.out.2.1, Nat.le_refl _, HWW.out.2.2.1, HWW.out.2.2.2.1, HWW.out.1.2, HWW.out.2.2.2.2⟩
end Go.Proofs.Ytdjfelabdofaaaa
namespace Go.Proofs.Ytdjfelabdofaaaa
open Go.ChangeShapes Go.WideShapes Go.ChangeAt Go.RowKit
set_option linter.unusedVariables false
set_option linter.unusedSimpArgs false
def opP (F : Nat → List UInt8) (i : Nat) : Int × Int := parP (F i) (if i = 1 then -2147483648 else 0) (if i = 1 then 2147483647 else 4294967295)
/-- The first fault of so many operands from i on. -/
def opsF (F : Nat → List UInt8) : Nat → Nat → Int
  | 0, _ => 0
  | f + 1, i => if (opP F i).2 = 0 then opsF F f (i + 1) else (opP F i).2
def valO (F : Nat → List UInt8) (n i : Nat) : Int := if i < n then (opP F i).1 else 0
/-- The call of the operands ahead of n. -/
def callO (F : Nat → List UInt8) (n : Nat) : CallD := ⟨(kindP (F 0)).1, valO F n 1, valO F n 2, valO F n 3, valO F n 4, valO F n 5, valO F n 6⟩
def zeroC : CallD := ⟨0, 0, 0, 0, 0, 0, 0⟩
/-- The call of a row of words, and the fault. -/
def parseC (n : Nat) (F : Nat → List UInt8) : CallD × Int :=
  if n = 0 then (zeroC, 4) else if 7 < n then (zeroC, 3) else if (kindP (F 0)).2 = false then (zeroC, 3)
  else if opsF F (n - 1) 1 = 0 then (callO F n, 0) else (zeroC, opsF F (n - 1) 1)
theorem opP_bound (F : Nat → List UInt8) (i : Nat) : (i = 1 → -2147483648 ≤ (opP F i).1 ∧ (opP F i).1 ≤ 2147483647) ∧ (i ≠ 1 → 0 ≤ (opP F i).1 ∧ (opP F i).1 ≤ 4294967295) := by
  unfold opP parP
  constructor
  · intro h
    subst h
    simp only [if_true]
    cases valP (F 1) with
    | none => simp
    | some n => by_cases h : n < -2147483648 ∨ 2147483647 < n <;> simp [h] <;> omega
  · intro h
    simp only [if_neg h]
    cases valP (F i) with
    | none => simp
    | some n => by_cases h : n < 0 ∨ 4294967295 < n <;> simp [h] <;> omega
theorem callO_one (F : Nat → List UInt8) : callO F 1 = ⟨(kindP (F 0)).1, 0, 0, 0, 0, 0, 0⟩ := by
  unfold callO valO
  simp
/-- The next operand goes into the next cell. -/
theorem callO_step (F : Nat → List UInt8) (i : Nat) (h1 : 1 ≤ i) (h2 : i ≤ 6) : callC (callO F (i + 1)) = (callC (callO F i)).setIfInBounds i (if i = 1 then .int .i64 (opP F i).1 else .int .u32 (opP F i).1) := by
  rcases (show i = 1 ∨ i = 2 ∨ i = 3 ∨ i = 4 ∨ i = 5 ∨ i = 6 by omega) with rfl | rfl | rfl | rfl | rfl | rfl <;> simp [callC, callO, valO]
theorem put1_any (w : World) (b X : Nat) (n : Int) (cs : Array Value) (hb : w.heap[b]? = some (.cells #[.pointer (some ⟨X, 0, none⟩)] 110 (0, 0))) (hx : w.heap[X]? = some (.cells cs 81 (0, 0))) (hc : cs.size = 7) :
    Calls Try.prog 62 #[.int .i64 n, .pointer (some ⟨b, 0, none⟩)] w fun e w' => e = .returned (.tuple #[]) ∧ w' = w.setCell ⟨X, 1, none⟩ (.int .i64 n) := by
  have c0 : w.cell? ⟨b, 0, none⟩ = some (.pointer (some ⟨X, 0, none⟩)) := by rw [cell_of hb 0]; rfl
  obtain ⟨v, hv⟩ : ∃ v, w.cell? ⟨X, 1, none⟩ = some v := ⟨_, (cell_of hx 1).trans (Array.getElem?_eq_getElem (by omega))⟩
  have f0 := free_of hx 1
  go_enter Try.func62, Try.ntmps62
  go_wp2_with fail
  go_end0
  exact ⟨rfl, rfl⟩
theorem put2_any (w : World) (b X o : Nat) (n : Int) (hn : 0 ≤ n ∧ n ≤ 4294967295) (cs : Array Value) (ho : o < 7) (hb : w.heap[b]? = some (.cells #[.pointer (some ⟨X, o, none⟩)] 121 (0, 0))) (hx : w.heap[X]? = some (.cells cs 81 (0, 0))) (hc : cs.size = 7) :
    Calls Try.prog 63 #[.int .i64 n, .pointer (some ⟨b, 0, none⟩)] w fun e w' => e = .returned (.tuple #[]) ∧ w' = w.setCell ⟨X, o, none⟩ (.int .u32 n) := by
  have c0 : w.cell? ⟨b, 0, none⟩ = some (.pointer (some ⟨X, o, none⟩)) := by rw [cell_of hb 0]; rfl
  obtain ⟨v, hv⟩ : ∃ v, w.cell? ⟨X, o, none⟩ = some v := ⟨_, (cell_of hx o).trans (Array.getElem?_eq_getElem (by omega))⟩
  have f0 := free_of hx o
  go_enter Try.func63, Try.ntmps63
  go_wp2_with fail
  go_end0
  exact ⟨rfl, rfl⟩
theorem put3_any (w : World) (b X : Nat) (n : Int) (hn : 0 ≤ n ∧ n ≤ 4294967295) (cs : Array Value) (hb : w.heap[b]? = some (.cells #[.pointer (some ⟨X, 0, none⟩)] 110 (0, 0))) (hx : w.heap[X]? = some (.cells cs 81 (0, 0))) (hc : cs.size = 7) :
    Calls Try.prog 64 #[.int .i64 n, .pointer (some ⟨b, 0, none⟩)] w fun e w' => e = .returned (.tuple #[]) ∧ w' = w.setCell ⟨X, 6, none⟩ (.int .u32 n) := by
  have c0 : w.cell? ⟨b, 0, none⟩ = some (.pointer (some ⟨X, 0, none⟩)) := by rw [cell_of hb 0]; rfl
  obtain ⟨v, hv⟩ : ∃ v, w.cell? ⟨X, 6, none⟩ = some v := ⟨_, (cell_of hx 6).trans (Array.getElem?_eq_getElem (by omega))⟩
  have f0 := free_of hx 6
  go_enter Try.func64, Try.ntmps64
  go_wp2_with fail
  go_end0
  exact ⟨rfl, rfl⟩
end Go.Proofs.Ytdjfelabdofaaaa
