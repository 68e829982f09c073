import Derived.Test.YtohajfkekkelhaaDoorRefXz
import Derived.Test.YtohajfkekkelhaaDoorRefAz
import Derived.Deep.RegionWith
namespace Go.Proofs.YtohajfkekkelhaaDoor
open Go.ChangeShapes Go.WideShapes Go.ChangeAt Go.RowKit
set_option linter.unusedVariables false
set_option linter.unusedSimpArgs false
def opsC (L : List OpX) : List Value := L.flatMap opL
theorem opsC_len : ∀ L : List OpX, (opsC L).length = L.length * 17
  | [] => rfl
  | x :: L => by
    have := opsC_len L
    unfold opsC at this ⊢
    rw [List.flatMap_cons, List.length_append, this]
    have e : (x :: L).length = L.length + 1 := rfl
    rw [e]
    show 17 + L.length * 17 = _
    omega
theorem opsC_get : ∀ (L : List OpX) (k r : Nat) (x : OpX), r < 17 → L[k]? = some x → (opsC L)[k * 17 + r]? = (opL x)[r]?
  | [], k, r, x, _, h => by simp at h
  | y :: L, 0, r, x, hr, h => by
    have e : y = x := by simpa using h
    unfold opsC
    rw [List.flatMap_cons, ← e, Nat.zero_mul, Nat.zero_add, List.getElem?_append_left (by show r < 17; exact hr)]
  | y :: L, k + 1, r, x, hr, h => by
    have := opsC_get L k r x hr (by simpa using h)
    unfold opsC at this ⊢
    rw [List.flatMap_cons, show (k + 1) * 17 + r = 17 + (k * 17 + r) by omega, List.getElem?_append_right (by show 17 ≤ 17 + (k * 17 + r); omega)]
    show (List.flatMap _ L)[17 + (k * 17 + r) - 17]? = _
    rw [show 17 + (k * 17 + r) - 17 = k * 17 + r by omega]
    exact this
theorem opL_one (x : OpX) : ∀ u, u ∈ opL x → u.oneCell' = true := by
  intro u hu
  simp [opL] at hu
  rcases hu with rfl | rfl | rfl | rfl | rfl | rfl | rfl | rfl | rfl | rfl | rfl | rfl | rfl | rfl | rfl | rfl | rfl <;> rfl
theorem opsC_one (L : List OpX) : ∀ u, u ∈ opsC L → u.oneCell' = true := fun u hu => by
  unfold opsC at hu
  obtain ⟨x, _, h⟩ := List.mem_flatMap.1 hu
  exact opL_one x u h
theorem ops_cells {w : World} {b off n : Nat} {L : List OpX} (h : OpsArg w (some ⟨b, off, none⟩) n L) (hn : 0 < n) (j : Nat) (u : Value) (hj : (opsC L)[j]? = some u) : w.cell? ⟨b, off + j, none⟩ = some u := by
  obtain ⟨b', off', e, hl, hc⟩ := h.lies hn
  cases e
  have hlt : j < L.length * 17 := by rw [← opsC_len]; exact (List.getElem?_eq_some_iff.1 hj).1
  have hk : j / 17 < L.length := by omega
  have hx := List.getElem?_eq_getElem hk
  have := opsC_get L (j / 17) (j % 17) _ (Nat.mod_lt _ (by omega)) hx
  rw [show j / 17 * 17 + j % 17 = j by omega, hj] at this
  have h2 := hc _ _ hx (j % 17) u this.symm
  rw [show off + j / 17 * 17 + j % 17 = off + j by omega] at h2
  exact h2
theorem op_zero : (Tryd.prog.info? 47).map (fun i => (i.zero, i.size, i.bytes)) = some (some (.agg #[.int .i64 0, .int .i64 0, .int .i64 0, .int .i64 0, .int .u32 0, .int .u32 0, .int .u32 0, .int .u32 0, .int .u32 0, .int .i64 0, .int .u32 0, .int .u32 0, .int .u32 0, .int .u32 0, .bool false, .int .i64 0, .int .i64 0]), 17, 104) := by kernel_rfl
/-- A call that is not done. -/
def clrX (x : OpX) : OpX := fun q => if q = 14 then 0 else x q
def hasI (O : List Int) (i : Nat) : Bool := O.any fun x => x == (i : Int)
def onlyX (O : List Int) (i : Nat) (x : OpX) : OpX := if hasI O i then x else clrX x
end Go.Proofs.YtohajfkekkelhaaDoor
namespace Go.Proofs.YtohajfkekkelhaaDoor
open Go.ChangeShapes Go.WideShapes Go.ChangeAt Go.RowKit
set_option linter.unusedVariables false
set_option linter.unusedSimpArgs false
/-- A row of calls in a block that may be written. -/
structure OpRow (w : World) (g n : Nat) (N : Nat → OpX) : Prop where
  blk : ∃ cs : Array Value, w.heap[g]? = some (.cells cs 47 (0, 0)) ∧ ∀ i r, i < n → r < 17 → cs[i * 17 + r]? = (opL (N i))[r]?
theorem OpRow.cell {w : World} {g n : Nat} {N : Nat → OpX} (h : OpRow w g n N) {i r : Nat} {v : Value} (hi : i < n) (hr : r < 17) (hv : (opL (N i))[r]? = some v) : w.cell? ⟨g, i * 17 + r, none⟩ = some v := by
  obtain ⟨cs, h1, h3⟩ := h.blk
  exact (cell_of h1 _).trans ((h3 i r hi hr).trans hv)
theorem OpRow.free {w : World} {g n : Nat} {N : Nat → OpX} (h : OpRow w g n N) (i : Nat) : w.frozen? ⟨g, i, none⟩ = false := by
  obtain ⟨cs, h1, _⟩ := h.blk
  exact free_of h1 i
theorem OpRow.lt {w : World} {g n : Nat} {N : Nat → OpX} (h : OpRow w g n N) : g < w.heap.size := by obtain ⟨cs, h1, _⟩ := h.blk; exact lt_of h1
theorem OpRow.kept {w w' : World} {g n : Nat} {N : Nat → OpX} (h : OpRow w g n N) (hk : Keeps (fun _ => False) w w') : OpRow w' g n N := by
  obtain ⟨cs, h1, h3⟩ := h.blk
  exact ⟨⟨cs, (hk.block g (lt_of h1) (fun e => e)).trans h1, h3⟩⟩
theorem clr_get (x : OpX) (r : Nat) : (opL (clrX x))[r]? = if r = 14 then some (.bool false) else (opL x)[r]? := by
  match r with
  | 0 | 1 | 2 | 3 | 4 | 5 | 6 | 7 | 8 | 9 | 10 | 11 | 12 | 13 | 14 | 15 | 16 => rfl
  | r + 17 => rfl
theorem OpRow.clr {w : World} {g n : Nat} {N : Nat → OpX} (h : OpRow w g n N) (q : Nat) (hq : q < n) : OpRow (w.setCell ⟨g, q * 17 + 14, none⟩ (.bool false)) g n (fun k => if k = q then clrX (N k) else N k) := by
  obtain ⟨cs, h1, h3⟩ := h.blk
  refine ⟨⟨cs.setIfInBounds (q * 17 + 14) (.bool false), heap_set h1 _ _, fun i r hi hr => ?_⟩⟩
  by_cases e : i = q
  · subst e
    rw [if_pos rfl, clr_get]
    by_cases e2 : r = 14
    · subst e2
      rw [if_pos rfl, Array.getElem?_setIfInBounds_self_of_lt]
      have := h3 i 14 hi hr
      have h4 : (opL (N i))[14]? = some (.bool (decide (N i 14 = 1))) := rfl
      rw [h4] at this
      exact (Array.getElem?_eq_some_iff.1 this).1
    · rw [if_neg e2, Array.getElem?_setIfInBounds_ne (by omega)]
      exact h3 i r hi hr
  · rw [if_neg e, Array.getElem?_setIfInBounds_ne (by omega)]
    exact h3 i r hi hr
end Go.Proofs.YtohajfkekkelhaaDoor
namespace Go.Proofs.YtohajfkekkelhaaDoor
open Go.ChangeShapes Go.WideShapes Go.ChangeAt Go.RowKit
set_option linter.unusedVariables false
set_option linter.unusedSimpArgs false
def onlyL (L : List OpX) (O : List Int) : List OpX := (List.range L.length).map fun k => onlyX O k ((L[k]?).getD fun _ => 0)
def onlyRow (L : List OpX) (O : List Int) (q k : Nat) : OpX := if k < q then onlyX O k ((L[k]?).getD fun _ => 0) else (L[k]?).getD fun _ => 0
theorem grown_alloc1 {w w' : World} {o : Obj} {row : Option Nat} (h : (w.alloc o).grownBy w' row) : w.grownBy w' row :=
  ⟨h.os, h.tape, h.output, Nat.le_trans (by simp) h.size, fun k hk hne => by
    rw [h.block k (by simp; omega) hne]
    exact ((Keeps.refl (fun _ => False) w).alloc o).block k hk fun h => h⟩
theorem below_of {w w' : World} (h : w.grownBy w' (some w.heap.size)) : Below w.heap.size w w' :=
  Keeps.none ⟨h.os, h.tape, h.output, h.size, fun k hk _ => h.block k hk (by intro e; injection e with e; omega)⟩
theorem has_step {O : List Int} {k : Nat} {x : Int} (h : O[k]? = some x) (q : Nat) : hasI (O.take (k + 1)) q = (hasI (O.take k) q || (x == (q : Int))) := by
  unfold hasI
  rw [List.take_add_one, h, List.any_append]
  simp
theorem kN {w w1 w2 : World} (h : Keeps (fun _ => False) w w1) (h2 : Keeps (fun _ => False) w1 w2) : Keeps (fun _ => False) w w2 :=
  ⟨h2.os.trans h.os, h2.tape.trans h.tape, h2.output.trans h.output, Nat.le_trans h.size h2.size, fun i hi e => (h2.block i (Nat.lt_of_lt_of_le hi h.size) e).trans (h.block i hi e)⟩
theorem kN2 {w w1 w2 : World} {g : Nat} (h : Keeps (fun k => k = g) w w1) (h2 : Keeps (fun _ => False) w1 w2) : Keeps (fun k => k = g) w w2 :=
  ⟨h2.os.trans h.os, h2.tape.trans h.tape, h2.output.trans h.output, Nat.le_trans h.size h2.size, fun i hi e => (h2.block i (Nat.lt_of_lt_of_le hi h.size) (fun e => e)).trans (h.block i hi e)⟩
theorem kG {w w1 : World} {g : Nat} (h : Keeps (fun k => k = g) w w1) (i : Nat) (v : Value) : Keeps (fun k => k = g) w (w1.setCell ⟨g, i, none⟩ v) :=
  ⟨h.os, h.tape, h.output, by simpa using h.size, fun k hk e => (Below.heap_setCell w1 ⟨g, i, none⟩ v k e).trans (h.block k hk e)⟩
theorem clr_ok {x : OpX} (h : OpOk x) : OpOk (clrX x) :=
  ⟨fun j hj hl => by
    unfold clrX
    rw [if_neg (by omega)]
    exact h.i j hj hl, fun j h1 h2 h3 => by
    unfold clrX
    rw [if_neg (by omega)]
    exact h.u j h1 h2 h3, .inl rfl⟩
theorem only_get {L : List OpX} {O : List Int} {k : Nat} {x : OpX} (h : (onlyL L O)[k]? = some x) : ∃ y, L[k]? = some y ∧ x = onlyX O k y := by
  unfold onlyL at h
  rw [List.getElem?_map] at h
  by_cases hk : k < L.length
  · rw [List.getElem?_range hk] at h
    rw [List.getElem?_eq_getElem hk]
    have e : onlyX O k ((L[k]?).getD fun _ => 0) = x := Option.some.inj h
    rw [List.getElem?_eq_getElem hk] at e
    exact ⟨_, rfl, e.symm⟩
  · rw [List.getElem?_eq_none (by rw [List.length_range]; omega)] at h
    exact absurd h (by simp)
theorem only_args {w w' : World} {a : Option Addr} {n g : Nat} {L : List OpX} {O : List Int} (h : OpsArg w a n L) (hr : OpRow w' g n (onlyRow L O n)) : OpsArg w' (some ⟨g, 0, none⟩) n (onlyL L O) := by
  refine ⟨by unfold onlyL; rw [List.length_map, List.length_range]; exact h.len, fun x hx => ?_, fun hn => ⟨g, 0, rfl, hr.lt, fun k x hk j v hj => ?_⟩⟩
  · obtain ⟨k, hk, e⟩ := List.getElem_of_mem hx
    obtain ⟨y, hy, rfl⟩ := only_get ((List.getElem?_eq_getElem hk).trans (congrArg some e))
    unfold onlyX
    split
    · exact h.ok y (List.mem_of_getElem? hy)
    · exact clr_ok (h.ok y (List.mem_of_getElem? hy))
  · obtain ⟨y, hy, rfl⟩ := only_get hk
    have hkn : k < n := by rw [← h.len]; exact (List.getElem?_eq_some_iff.1 hy).1
    have hj17 : j < 17 := (List.getElem?_eq_some_iff.1 hj).1
    have e : onlyRow L O n k = onlyX O k y := by unfold onlyRow; rw [if_pos hkn, hy]; rfl
    rw [← e] at hj
    rw [show 0 + k * 17 + j = k * 17 + j by omega]
    exact hr.cell hkn hj17 hj

theorem row_step (L : List OpX) (O : List Int) (q : Nat) : onlyRow L O (q + 1) = if hasI O q = true then onlyRow L O q else fun k => if k = q then clrX (onlyRow L O q k) else onlyRow L O q k := by
  funext k
  by_cases hq : hasI O q = true
  · rw [if_pos hq]
    unfold onlyRow
    by_cases e : k = q
    · rw [e, if_pos (by omega), if_neg (by omega)]
      unfold onlyX
      rw [if_pos hq]
    · by_cases e2 : k < q
      · rw [if_pos (by omega), if_pos e2]
      · rw [if_neg (by omega), if_neg e2]
  · rw [if_neg hq]
    show onlyRow L O (q + 1) k = if k = q then clrX (onlyRow L O q k) else onlyRow L O q k
    unfold onlyRow
    by_cases e : k = q
    · rw [e, if_pos (by omega), if_pos rfl, if_neg (by omega)]
      unfold onlyX
      rw [if_neg hq]
    · rw [if_neg e]
      by_cases e2 : k < q
      · rw [if_pos (by omega), if_pos e2]
      · rw [if_neg (by omega), if_neg e2]
theorem opRow_of {w : World} {B n : Nat} {v : Value} {L : List OpX} {O : List Int} (h : w.ownsRow B 47 17 v n (opsC L)) (hn : 0 < n) : ∃ g cap, v = .slice (some ⟨g, 0, none⟩) n cap ∧ B ≤ g ∧ OpRow w g n (onlyRow L O 0) := by
  obtain ⟨hl, h | ⟨g, cap, cur, rfl, hb, hc, _, _, _, ht⟩⟩ := h
  · omega
  · refine ⟨g, cap, rfl, hb, ⟨⟨cur, hc, fun i r hi hr => ?_⟩⟩⟩
    rw [opsC_len] at hl
    have hx : L[i]? = some ((L[i]?).getD fun _ => 0) := by rw [List.getElem?_eq_getElem (by omega)]; rfl
    have h2 := opsC_get L i r _ hr hx
    unfold onlyRow
    rw [if_neg (Nat.not_lt_zero _), ← h2, ← ht, List.getElem?_take, if_pos (by omega), Array.getElem?_toList]
set_option maxRecDepth 100000 in
set_option maxHeartbeats 8000000 in
theorem only_any (w : World) (a : Option Addr) (n c : Nat) (L : List OpX) (h : OpsArg w a n L) (hp : 0 < n) (hn : n ≤ 1000) (a2 : Option Addr) (m c2 : Nat) (O : List Int) (h2 : IntsArg w a2 m O) (hm : m ≤ 1000) :
    Calls Tryd.prog 22 #[.slice a n c, .slice a2 m c2] w fun e w' => ∃ g cap, e = .returned (.slice (some ⟨g, 0, none⟩) n cap) ∧ OpsArg w' (some ⟨g, 0, none⟩) n (onlyL L O) ∧ Below w.heap.size w w' := by
  obtain ⟨b, off, rfl, hbl, _⟩ := h.lies hp
  have HH := Lib.hid h
  have HO2 := Lib.hid h2
  have HL := Lib.hid h.len
  have HB := Lib.hid (show Below w.heap.size w (w.alloc (.cells #[] 47)) from (Below.refl _ w).alloc (Nat.le_refl _) _)
  have HCA := Lib.hid (show ∀ (j : Nat) (u : Value), (opsC L)[j]? = some u → (w.alloc (.cells #[] 47)).cell? ((⟨b, off, none⟩ : Addr).add j) = some u from fun j u hu => by
    rw [show (⟨b, off, none⟩ : Addr).add j = ⟨b, off + j, none⟩ by unfold Addr.add; split <;> simp_all]
    exact (HB.out.cell (p := ⟨b, off + j, none⟩) hbl).trans (ops_cells HH.out hp j u hu))
  obtain ⟨i0, hi, hz0, hz1, hz2⟩ := info_parts op_zero
  have HO := Lib.hid (show (w.alloc (.cells #[] 47)).ownsRow w.heap.size 47 17 (.slice (some ⟨w.heap.size, 0, none⟩) 0 0) 0 [] from w.ownsRow_made #[] 0 (Nat.le_refl _) (by unfold maxLen; omega) rfl)
  clear h h2
  go_enter Tryd.func22, Tryd.ntmps22
  go_wp2_with (at_builtin; refine wpList_append_own _ rfl (.tmp 9) (.tmp 10) 23 rfl w.heap.size 47 i0 _ 17 104 Tryd.underlying23 hi hz0 hz1 hz2 rfl (by decide) (.slice (some ⟨w.heap.size, 0, none⟩) 0 0) 0 [] rfl HO.out ⟨b, off, none⟩ n c (opsC L) rfl (by rw [opsC_len, HL.out]) HCA.out (opsC_one L) (by unfold maxLen; omega) (by omega) (by simp) ?_; intro v w2 how hgr hk)
  obtain ⟨g, cap, rfl, hgb, hrow⟩ := opRow_of (L := L) (O := O) (by simpa using how) hp
  have HG := Lib.hid (And.intro hgb (show Below w.heap.size w w2 from by
    have h1 := (Below.refl w.heap.size w).alloc (Nat.le_refl _) (.cells #[] 47)
    exact below_of (grown_alloc1 hgr)))
  have HR := Lib.hid hrow
  clear how hgr hk hrow hz0 hz1 hz2 hi HCA HO
  go_wp2_with fail
  go_loopw [6] (fun v6 wr => ∃ q : Nat, q ≤ n ∧ v6 = .int .i64 (q : Int) ∧ OpRow wr g n (onlyRow L O q) ∧ Keeps (fun k => k = g) w2 wr) (fun v6 _ => n - (intOf v6).toNat)
  case atStart => exact ⟨0, Nat.zero_le _, rfl, HR.out, Keeps.refl _ _⟩
  case round =>
    clear HR
    obtain ⟨q, hq, rfl, hR, hK⟩ := hrel
    have HR := Lib.hid hR
    have HK := Lib.hid hK
    clear hR hK
    by_cases hlt : q < n
    · have e1 : decide (q < n) = true := decide_eq_true hlt
      have e1' : decide ((q : Int) < (n : Int)) = true := decide_eq_true (by omega)
      have e3 : (0 : Int) ≤ (q : Int) := by omega
      have e4 : (q : Int) < (n : Int) := by omega
      have HQ := Lib.hid hlt
      go_wp2_with fail
      obtain ⟨wi, hwi⟩ : ∃ wi : World, wi = wr := ⟨_, rfl⟩
      clear hwi
      go_loopw [7, 8] (fun v7 v8 wq => ∃ k : Nat, k ≤ m ∧ v8 = .int .i64 (k : Int) ∧ v7 = .bool (hasI (O.take k) q) ∧ Keeps (fun _ => False) wr wq) (fun _ v8 _ => m - (intOf v8).toNat)
      case atStart => exact ⟨0, Nat.zero_le _, rfl, rfl, Keeps.refl _ _⟩
      case round =>
        obtain ⟨k, hk, rfl, rfl, hKq⟩ := hrel
        have HKQ := Lib.hid hKq
        clear hKq
        by_cases hkl : k < m
        · obtain ⟨b2, off2, rfl, hb2, hc2⟩ := HO2.out.lies (by omega)
          obtain ⟨x, hx⟩ : ∃ x, O[k]? = some x := ⟨_, List.getElem?_eq_getElem (by rw [HO2.out.len]; exact hkl)⟩
          have c0 : wr.cell? ⟨b2, off2 + k, none⟩ = some (.int .i64 x) := by
            refine (World.cell?_of_block (a := ⟨b2, off2 + k, none⟩) (HKQ.out.block b2 (Nat.lt_of_lt_of_le hb2 ?_) (fun e => e))).trans ((World.cell?_of_block (a := ⟨b2, off2 + k, none⟩) (HK.out.block b2 (Nat.lt_of_lt_of_le hb2 ?_) (fun e => by have := HG.out.1; omega))).trans ?_)
            · exact Nat.le_trans HG.out.2.size HK.out.size
            · exact HG.out.2.size
            · exact (HG.out.2.cell (p := ⟨b2, off2 + k, none⟩) hb2).trans (hc2 k x hx)
          have HT := Lib.hid (has_step hx q)
          have f1 : decide (k < m) = true := decide_eq_true hkl
          have f1' : decide ((k : Int) < (m : Int)) = true := decide_eq_true (by omega)
          have f3 : (0 : Int) ≤ (k : Int) := by omega
          have f4 : (k : Int) < (m : Int) := by omega
          clear hc2 hx
          cases his : hasI (O.take k) q with
          | true =>
            go_wp2_with fail
            go_roundw
            case rel => exact ⟨k + 1, by omega, by go_num, by rw [HT.out, his]; rfl, kN HKQ.out (by first | exact Keeps.refl _ _ | exact (Keeps.refl _ _).drewN _ | exact (Keeps.refl _ _).drew _)⟩
            case measure => simp [intOf]; omega
          | false =>
            cases hxq : (x == (q : Int)) with
            | true =>
              go_wp2_with fail
              go_roundw
              case rel => exact ⟨k + 1, by omega, by go_num, by rw [HT.out, his, hxq]; rfl, kN HKQ.out (by first | exact Keeps.refl _ _ | exact (Keeps.refl _ _).drewN _ | exact (Keeps.refl _ _).drew _)⟩
              case measure => simp [intOf]; omega
            | false =>
              go_wp2_with fail
              go_roundw
              case rel => exact ⟨k + 1, by omega, by go_num, by rw [HT.out, his, hxq]; rfl, kN HKQ.out (by first | exact Keeps.refl _ _ | exact (Keeps.refl _ _).drewN _ | exact (Keeps.refl _ _).drew _)⟩
              case measure => simp [intOf]; omega
        · obtain rfl : k = m := by omega
          have f1 : decide (k < k) = false := decide_eq_false (Nat.lt_irrefl _)
          rw [show O.take k = O from List.take_of_length_le (by rw [HO2.out.len]; exact Nat.le_refl _)]
          clear hkl
          cases his : hasI O q with
          | true =>
            have HN := Lib.hid (row_step L O q)
            rw [his] at HN
            go_wp2_with fail
            go_roundw
            case rel => exact ⟨q + 1, by have := HQ.out; omega, by go_num, by rw [HN.out]; exact HR.out.kept HKQ.out, kN2 HK.out HKQ.out⟩
            case measure => simp [intOf]; have := HQ.out; omega
          | false =>
            have HN := Lib.hid (row_step L O q)
            rw [his] at HN
            have hR2 := HR.out.kept HKQ.out
            have z1 := hR2.free (q * 17 + 14)
            have z2 : wr.cell? ⟨g, q * 17 + 14, none⟩ = some (.bool (decide (onlyRow L O q q 14 = 1))) := hR2.cell HQ.out (by omega) rfl
            have HS := Lib.hid (hR2.clr q HQ.out)
            have HGL := Lib.hid hR2.lt
            clear hR2
            go_wp2_with fail
            go_roundw
            case rel => exact ⟨q + 1, by have := HQ.out; omega, by go_num, by rw [HN.out]; exact HS.out, kG (kN2 HK.out HKQ.out) _ _⟩
            case measure => simp [intOf]; have := HQ.out; omega
    · obtain rfl : q = n := by omega
      have e1 : decide (q < q) = false := decide_eq_false (Nat.lt_irrefl _)
      clear hlt
      go_wp2_with fail
      go_ret
      exact ⟨g, cap, rfl, only_args HH.out HR.out, Keeps.none ⟨HK.out.os.trans HG.out.2.os, HK.out.tape.trans HG.out.2.tape, HK.out.output.trans HG.out.2.output, Nat.le_trans HG.out.2.size HK.out.size, fun k hk _ => (HK.out.block k (Nat.lt_of_lt_of_le hk HG.out.2.size) (fun e => by have := HG.out.1; omega)).trans (HG.out.2.block k hk)⟩⟩
end Go.Proofs.YtohajfkekkelhaaDoor
namespace Go.Proofs.YtohajfkekkelhaaDoor
open Go.ChangeShapes Go.WideShapes Go.ChangeAt Go.RowKit
set_option linter.unusedVariables false
set_option linter.unusedSimpArgs false
set_option maxRecDepth 100000 in
set_option maxHeartbeats 8000000 in
theorem only_zero (w : World) (a : Option Addr) (c : Nat) (hc : a = none → c = 0) (a2 : Option Addr) (m c2 : Nat) :
    Calls Tryd.prog 22 #[.slice a 0 c, .slice a2 m c2] w fun e w' => ∃ A cap, e = .returned (.slice A 0 cap) ∧ (A = none → cap = 0) ∧ OpsArg w' A 0 [] ∧ Below w.heap.size w w' := by
  obtain ⟨i0, hi, hz0, hz1, hz2⟩ := info_parts op_zero
  have HO := Lib.hid (show (w.alloc (.cells #[] 47)).ownsRow w.heap.size 47 17 (.slice (some ⟨w.heap.size, 0, none⟩) 0 0) 0 [] from w.ownsRow_made #[] 0 (Nat.le_refl _) (by unfold maxLen; omega) rfl)
  have HC := Lib.hid hc
  clear hc
  go_enter Tryd.func22, Tryd.ntmps22
  go_wp2_with (at_builtin; refine wpList_app_any rfl (.tmp 9) (.tmp 10) 23 rfl w.heap.size 47 i0 _ 17 104 Tryd.underlying23 hi hz0 hz1 hz2 rfl (by decide) (.slice (some ⟨w.heap.size, 0, none⟩) 0 0) 0 [] rfl HO.out a 0 c [] rfl (fun h => ⟨rfl, HC.out h⟩) rfl (fun _ _ j u h => absurd h (by simp)) (fun u h => absurd h (by simp)) (by unfold maxLen; omega) (by omega) (by simp) ?_; intro v w2 how hgr)
  have HG := Lib.hid (below_of (grown_alloc1 hgr))
  obtain ⟨A, cap, rfl, hcap⟩ : ∃ A cap, v = .slice A 0 cap ∧ (A = none → cap = 0) := by
    obtain ⟨_, h | ⟨g, cap, cur, rfl, _⟩⟩ := how
    · exact ⟨none, 0, h.1, fun _ => rfl⟩
    · exact ⟨_, cap, rfl, fun h => absurd h (by simp)⟩
  have HCP := Lib.hid hcap
  clear how hgr hcap hz0 hz1 hz2 hi HO HC
  go_wp2_with fail
  go_loopw [6] (fun v6 wr => v6 = .int .i64 0 ∧ wr = w2) (fun v6 _ => 0)
  case atStart => exact ⟨rfl, rfl⟩
  case round =>
    obtain ⟨rfl, rfl⟩ := hrel
    have e1 : decide ((0 : Int) < 0) = false := rfl
    go_wp2_with fail
    go_ret
    exact ⟨A, cap, rfl, HCP.out, ⟨rfl, fun x h => absurd h (by simp), fun h => absurd h (by omega)⟩, HG.out⟩
end Go.Proofs.YtohajfkekkelhaaDoor
namespace Go.Proofs.YtohajfkekkelhaaDoor
open Go.ChangeShapes Go.WideShapes Go.ChangeAt Go.RowKit
set_option linter.unusedVariables false
set_option linter.unusedSimpArgs false
/-- A slice of orders as an argument. -/
structure IntRows (w : World) (a : Option Addr) (n : Nat) (A : List (List Int)) : Prop where
  len : A.length = n
  lies : 0 < n → ∃ b off, a = some ⟨b, off, none⟩ ∧ b < w.heap.size ∧ ∀ (k : Nat) (r : List Int), A[k]? = some r → ∃ ra c, w.cell? ⟨b, off + k, none⟩ = some (.slice ra r.length c) ∧ IntsArg w ra r.length r
theorem IntRows.below {w w' : World} {a : Option Addr} {n : Nat} {A : List (List Int)} (h : IntRows w a n A) (hb : Below w.heap.size w w') : IntRows w' a n A :=
  ⟨h.len, fun hn => by
    obtain ⟨b, off, e, hl, hc⟩ := h.lies hn
    refine ⟨b, off, e, Nat.lt_of_lt_of_le hl hb.size, fun k r hk => ?_⟩
    obtain ⟨ra, c, h1, h2⟩ := hc k r hk
    exact ⟨ra, c, (hb.cell (p := ⟨b, off + k, none⟩) hl).trans h1, h2.below hb⟩⟩
/-- Does none of these orders begin with the order? -/
def lastR (A : List (List Int)) (r : List Int) : Bool := A.all fun s => !(beginsP s r)
/-- How many of all orders are such that none begins with them; not more than most. -/
def numLast (A all : List (List Int)) : Nat := (A.filter fun r => lastR all r).length
def rcountP (A : List (List Int)) (most : Int) : Int := min (numLast A A : Int) (max most 0)
theorem last_step {A : List (List Int)} {k : Nat} {s : List Int} (h : A[k]? = some s) (r : List Int) : lastR (A.take (k + 1)) r = (lastR (A.take k) r && !(beginsP s r)) := by
  unfold lastR
  rw [List.take_add_one, h, List.all_append]
  simp
theorem num_step {A all : List (List Int)} {k : Nat} {r : List Int} (h : A[k]? = some r) : numLast (A.take (k + 1)) all = numLast (A.take k) all + (if lastR all r = true then 1 else 0) := by
  unfold numLast
  rw [List.take_add_one, h, List.filter_append, List.length_append]
  congr 1
  show (List.filter _ [r]).length = _
  by_cases e : lastR all r = true
  · rw [if_pos e, List.filter_cons_of_pos (by simpa using e)]; rfl
  · rw [if_neg e, List.filter_cons_of_neg (by simpa using e)]; rfl
end Go.Proofs.YtohajfkekkelhaaDoor
namespace Go.Proofs.YtohajfkekkelhaaDoor
open Go.ChangeShapes Go.WideShapes Go.ChangeAt Go.RowKit
set_option linter.unusedVariables false
set_option linter.unusedSimpArgs false
set_option maxRecDepth 100000 in
set_option maxHeartbeats 8000000 in
theorem rcount_any (w : World) (a : Option Addr) (n c : Nat) (A : List (List Int)) (h : IntRows w a n A) (hn : n ≤ 1000000) (hr : ∀ r, r ∈ A → r.length ≤ 1000) (most : Int) :
    Calls Tryd.prog 12 #[.slice a n c, .int .i64 most] w fun e w' => e = .returned (.int .i64 (rcountP A most)) ∧ Below w.heap.size w w' := by
  have HH := Lib.hid h
  have HRL := Lib.hid hr
  have HL := Lib.hid h.len
  clear h hr
  go_enter Tryd.func12, Tryd.ntmps12
  go_wp2_with fail
  go_loopw [5, 6] (fun v5 v6 wr => ∃ q : Nat, q ≤ n ∧ v6 = .int .i64 (q : Int) ∧ v5 = .int .i64 ((numLast (A.take q) A : Nat) : Int) ∧ Below w.heap.size w wr) (fun _ v6 _ => n - (intOf v6).toNat)
  case atStart => exact ⟨0, Nat.zero_le _, rfl, rfl, Below.refl _ _⟩
  case round =>
    obtain ⟨q, hq, rfl, rfl, hB⟩ := hrel
    have HB := Lib.hid hB
    clear hB
    have HNL := Lib.hid (show numLast (A.take q) A ≤ 1000000 from Nat.le_trans (List.length_filter_le _ _) (by rw [List.length_take]; omega))
    by_cases hlt : q < n
    · have e1 : decide (q < n) = true := decide_eq_true hlt
      have e1' : decide ((q : Int) < (n : Int)) = true := decide_eq_true (by omega)
      have e3 : (0 : Int) ≤ (q : Int) := by omega
      have e4 : (q : Int) < (n : Int) := by omega
      obtain ⟨b, off, rfl, hbl, hcs⟩ := HH.out.lies (by omega)
      obtain ⟨r, hr⟩ : ∃ r, A[q]? = some r := ⟨_, List.getElem?_eq_getElem (by rw [HL.out]; exact hlt)⟩
      obtain ⟨ra, rc, hrc, hra⟩ := hcs q r hr
      have HCS := Lib.hid hcs
      have HRC := Lib.hid (And.intro hrc hra)
      have HQ := Lib.hid (And.intro hlt hr)
      clear hcs hrc hra hr
      go_wp2_with fail
      go_loopw [7, 8] (fun v7 v8 wq => ∃ k : Nat, k ≤ n ∧ v8 = .int .i64 (k : Int) ∧ v7 = .bool (lastR (A.take k) r) ∧ Below w.heap.size w wq) (fun _ v8 _ => n - (intOf v8).toNat)
      case atStart => exact ⟨0, Nat.zero_le _, rfl, rfl, HB.out⟩
      case round =>
        obtain ⟨k, hk, rfl, rfl, hBq⟩ := hrel
        have HBQ := Lib.hid hBq
        clear hBq
        by_cases hkl : k < n
        · obtain ⟨s, hs⟩ : ∃ s, A[k]? = some s := ⟨_, List.getElem?_eq_getElem (by rw [HL.out]; exact hkl)⟩
          obtain ⟨sa, sc, hsc, hsa⟩ := HCS.out k s hs
          have c0 : wr.cell? ⟨b, off + k, none⟩ = some (.slice sa s.length sc) := (HBQ.out.cell (p := ⟨b, off + k, none⟩) hbl).trans hsc
          have c1 : wr.cell? ⟨b, off + q, none⟩ = some (.slice ra r.length rc) := (HBQ.out.cell (p := ⟨b, off + q, none⟩) hbl).trans HRC.out.1
          have HBG := Lib.hid (fun (w0 : World) (h0 : Below w.heap.size w w0) => begins_any w0 sa s.length sc s (hsa.below h0) ra r.length rc r (HRC.out.2.below h0) (HRL.out r (List.mem_of_getElem? HQ.out.2)))
          have HT := Lib.hid (last_step hs r)
          have f1 : decide (k < n) = true := decide_eq_true hkl
          have f1' : decide ((k : Int) < (n : Int)) = true := decide_eq_true (by omega)
          have f3 : (0 : Int) ≤ (k : Int) := by omega
          have f4 : (k : Int) < (n : Int) := by omega
          have HSZ := Lib.hid (Nat.lt_of_lt_of_le hbl HBQ.out.size)
          clear hs hsc hsa
          cases his : lastR (A.take k) r with
          | true =>
            go_wp2_with fail
            refine wp_region_noPanic ?_
            refine wp_region_held_drew (S := (fun W => W.cell? ⟨b, off + k, none⟩ = some (.slice sa s.length sc) ∧ W.cell? ⟨b, off + q, none⟩ = some (.slice ra r.length rc))) (by kernel_rfl) ?_ (fun hHeld => ?_)
            · exact ⟨c0, c1⟩
            refine wpAnyH_take (i := 0) (v := ?_) rfl (by kernel_rfl) (by kernel_rfl) (by kernel_rfl) (fun _ _ _ h => h) (Or.inl ⟨by rfl, ?_⟩) (by assumption) ?_
            rotate_left
            · (intro w hSw; (try dsimp only at hSw); go_simp; try with_reducible rfl)
            simp only [Act.put, List.getElem_toArray, List.getElem_cons_zero, List.getElem_cons_succ, List.setIfInBounds_toArray, List.set_cons_zero, List.set_cons_succ]
            refine wpAnyH_take (i := 1) (v := ?_) rfl (by kernel_rfl) (by kernel_rfl) (by kernel_rfl) (fun _ _ _ h => h) (Or.inl ⟨by rfl, ?_⟩) (by assumption) ?_
            rotate_left
            · (intro w hSw; (try dsimp only at hSw); go_simp; try with_reducible rfl)
            simp only [Act.put, List.getElem_toArray, List.getElem_cons_zero, List.getElem_cons_succ, List.setIfInBounds_toArray, List.set_cons_zero, List.set_cons_succ]
            refine wpAnyH_take (i := 2) (v := ?_) rfl (by kernel_rfl) (by kernel_rfl) (by kernel_rfl) (fun _ _ _ h => h) (Or.inl ⟨by rfl, ?_⟩) (by assumption) ?_
            rotate_left
            · (intro w hSw; (try dsimp only at hSw); go_simp; try with_reducible rfl)
            simp only [Act.put, List.getElem_toArray, List.getElem_cons_zero, List.getElem_cons_succ, List.setIfInBounds_toArray, List.set_cons_zero, List.set_cons_succ]
            refine wpAnyH_take (i := 3) (v := ?_) rfl (by kernel_rfl) (by kernel_rfl) (by kernel_rfl) (fun _ _ _ h => h) (Or.inl ⟨by rfl, ?_⟩) (by assumption) ?_
            rotate_left
            · (intro w hSw; (try dsimp only at hSw); go_simp; try with_reducible rfl)
            simp only [Act.put, List.getElem_toArray, List.getElem_cons_zero, List.getElem_cons_succ, List.setIfInBounds_toArray, List.set_cons_zero, List.set_cons_succ]
            refine wpAnyH_take (i := 4) (v := ?_) rfl (by kernel_rfl) (by kernel_rfl) (by kernel_rfl) (fun _ _ _ h => h) (Or.inl ⟨by rfl, ?_⟩) (by assumption) ?_
            rotate_left
            · (intro w hSw; (try dsimp only at hSw); go_simp; try with_reducible rfl)
            simp only [Act.put, List.getElem_toArray, List.getElem_cons_zero, List.getElem_cons_succ, List.setIfInBounds_toArray, List.set_cons_zero, List.set_cons_succ]
            refine wpAnyH_take (i := 5) (v := ?_) rfl (by kernel_rfl) (by kernel_rfl) (by kernel_rfl) (fun _ _ _ h => h) (Or.inl ⟨by rfl, ?_⟩) (by assumption) ?_
            rotate_left
            · (intro w hSw; (try dsimp only at hSw); go_simp; try with_reducible rfl)
            simp only [Act.put, List.getElem_toArray, List.getElem_cons_zero, List.getElem_cons_succ, List.setIfInBounds_toArray, List.set_cons_zero, List.set_cons_succ]
            refine wpAnyH_take (i := 6) (v := ?_) rfl (by kernel_rfl) (by kernel_rfl) (by kernel_rfl) (fun _ _ _ h => h) (Or.inl ⟨by rfl, ?_⟩) (by assumption) ?_
            rotate_left
            · (intro w hSw; (try dsimp only at hSw); go_simp; try with_reducible rfl)
            simp only [Act.put, List.getElem_toArray, List.getElem_cons_zero, List.getElem_cons_succ, List.setIfInBounds_toArray, List.set_cons_zero, List.set_cons_succ]
            refine wpAnyH_take (i := 7) (v := ?_) rfl (by kernel_rfl) (by kernel_rfl) (by kernel_rfl) (fun _ _ _ h => h) (Or.inl ⟨by rfl, ?_⟩) (by assumption) ?_
            rotate_left
            · (intro w hSw; (try dsimp only at hSw); go_simp; try with_reducible rfl)
            simp only [Act.put, List.getElem_toArray, List.getElem_cons_zero, List.getElem_cons_succ, List.setIfInBounds_toArray, List.set_cons_zero, List.set_cons_succ]
            refine wpAnyH_take (i := 8) (v := ?_) rfl (by kernel_rfl) (by kernel_rfl) (by kernel_rfl) (fun _ _ _ h => h) (Or.inl ⟨by rfl, ?_⟩) (by assumption) ?_
            rotate_left
            · (intro w hSw; (try dsimp only at hSw); go_simp; try with_reducible rfl)
            simp only [Act.put, List.getElem_toArray, List.getElem_cons_zero, List.getElem_cons_succ, List.setIfInBounds_toArray, List.set_cons_zero, List.set_cons_succ]
            refine wpAnyH_take (i := 9) (v := ?_) rfl (by kernel_rfl) (by kernel_rfl) (by kernel_rfl) (fun _ _ _ h => h) (Or.inl ⟨by rfl, ?_⟩) (by assumption) ?_
            rotate_left
            · (intro w hSw; (try dsimp only at hSw); go_simp; try with_reducible rfl)
            simp only [Act.put, List.getElem_toArray, List.getElem_cons_zero, List.getElem_cons_succ, List.setIfInBounds_toArray, List.set_cons_zero, List.set_cons_succ]
            refine wpAnyH_ready (rs := [10]) (by kernel_rfl) (by simp) ?_
            refine AllReadyH.cons rfl (fun K hK => ?_) AllReadyH.nil
            go_simp
            (go_at_call 25; refine (HBG.out _ HBQ.out.drew).mono ?_; rintro e9 w9 ⟨rfl, b9⟩; have HB9 := Lib.hid ((HBQ.out.drew).trans (b9.mono (HBQ.out.drew).size)); have HC9 := Lib.hid (And.intro ((b9.cell (p := ⟨b, off + k, none⟩) (HSZ.out)).trans c0) ((b9.cell (p := ⟨b, off + q, none⟩) (HSZ.out)).trans c1)); clear b9)
            go_wp2_with fail
            refine hK.out _ _ ?_ (fun hHeld => ?_)
            · ((try dsimp only); exact HC9.out)
            clear hK K
            try simp only [Act.put, List.getElem_toArray, List.getElem_cons_zero, List.getElem_cons_succ, List.setIfInBounds_toArray, List.set_cons_zero, List.set_cons_succ]
            refine wpAnyH_take (i := 11) (v := ?_) rfl (by kernel_rfl) (by kernel_rfl) (by kernel_rfl) (fun _ _ _ h => h) (Or.inl ⟨by rfl, ?_⟩) (by assumption) ?_
            rotate_left
            · (intro w hSw; (try dsimp only at hSw); go_simp; try with_reducible rfl)
            simp only [Act.put, List.getElem_toArray, List.getElem_cons_zero, List.getElem_cons_succ, List.setIfInBounds_toArray, List.set_cons_zero, List.set_cons_succ]
            refine wpAnyH_take (i := 12) (v := ?_) rfl (by kernel_rfl) (by kernel_rfl) (by kernel_rfl) (fun _ _ _ h => h) (Or.inl ⟨by rfl, ?_⟩) (by assumption) ?_
            rotate_left
            · (intro w hSw; (try dsimp only at hSw); go_simp; try with_reducible rfl)
            simp only [Act.put, List.getElem_toArray, List.getElem_cons_zero, List.getElem_cons_succ, List.setIfInBounds_toArray, List.set_cons_zero, List.set_cons_succ]
            refine wpAnyH_take (i := 13) (v := ?_) rfl (by kernel_rfl) (by kernel_rfl) (by kernel_rfl) (fun _ _ _ h => h) (Or.inl ⟨by rfl, ?_⟩) (by assumption) ?_
            rotate_left
            · (intro w hSw; (try dsimp only at hSw); go_simp; try with_reducible rfl)
            simp only [Act.put, List.getElem_toArray, List.getElem_cons_zero, List.getElem_cons_succ, List.setIfInBounds_toArray, List.set_cons_zero, List.set_cons_succ]
            refine wpAnyH_done (by kernel_rfl) ?_ _
            refine NoPanic.normal ?_
            go_wp2_with fail
            go_roundw
            case rel => exact ⟨k + 1, by omega, by go_num, by rw [HT.out, his]; rfl, HB9.out⟩
            case measure => simp [intOf]; omega
          | false =>
            go_wp2_with fail
            refine wp_region_noPanic ?_
            refine wp_region_held_drew (S := (fun W => W.cell? ⟨b, off + k, none⟩ = some (.slice sa s.length sc) ∧ W.cell? ⟨b, off + q, none⟩ = some (.slice ra r.length rc))) (by kernel_rfl) ?_ (fun hHeld => ?_)
            · exact ⟨c0, c1⟩
            refine wpAnyH_take (i := 0) (v := ?_) rfl (by kernel_rfl) (by kernel_rfl) (by kernel_rfl) (fun _ _ _ h => h) (Or.inl ⟨by rfl, ?_⟩) (by assumption) ?_
            rotate_left
            · (intro w hSw; (try dsimp only at hSw); go_simp; try with_reducible rfl)
            simp only [Act.put, List.getElem_toArray, List.getElem_cons_zero, List.getElem_cons_succ, List.setIfInBounds_toArray, List.set_cons_zero, List.set_cons_succ]
            refine wpAnyH_take (i := 1) (v := ?_) rfl (by kernel_rfl) (by kernel_rfl) (by kernel_rfl) (fun _ _ _ h => h) (Or.inl ⟨by rfl, ?_⟩) (by assumption) ?_
            rotate_left
            · (intro w hSw; (try dsimp only at hSw); go_simp; try with_reducible rfl)
            simp only [Act.put, List.getElem_toArray, List.getElem_cons_zero, List.getElem_cons_succ, List.setIfInBounds_toArray, List.set_cons_zero, List.set_cons_succ]
            refine wpAnyH_take (i := 2) (v := undef) rfl (by kernel_rfl) (by kernel_rfl) (by kernel_rfl) (fun _ _ _ h => h) (Or.inr ⟨by rfl, rfl⟩) (by assumption) ?_
            simp only [Act.put, List.getElem_toArray, List.getElem_cons_zero, List.getElem_cons_succ, List.setIfInBounds_toArray, List.set_cons_zero, List.set_cons_succ]
            refine wpAnyH_take (i := 3) (v := undef) rfl (by kernel_rfl) (by kernel_rfl) (by kernel_rfl) (fun _ _ _ h => h) (Or.inr ⟨by rfl, rfl⟩) (by assumption) ?_
            simp only [Act.put, List.getElem_toArray, List.getElem_cons_zero, List.getElem_cons_succ, List.setIfInBounds_toArray, List.set_cons_zero, List.set_cons_succ]
            refine wpAnyH_take (i := 4) (v := undef) rfl (by kernel_rfl) (by kernel_rfl) (by kernel_rfl) (fun _ _ _ h => h) (Or.inr ⟨by rfl, rfl⟩) (by assumption) ?_
            simp only [Act.put, List.getElem_toArray, List.getElem_cons_zero, List.getElem_cons_succ, List.setIfInBounds_toArray, List.set_cons_zero, List.set_cons_succ]
            refine wpAnyH_take (i := 5) (v := undef) rfl (by kernel_rfl) (by kernel_rfl) (by kernel_rfl) (fun _ _ _ h => h) (Or.inr ⟨by rfl, rfl⟩) (by assumption) ?_
            simp only [Act.put, List.getElem_toArray, List.getElem_cons_zero, List.getElem_cons_succ, List.setIfInBounds_toArray, List.set_cons_zero, List.set_cons_succ]
            refine wpAnyH_take (i := 6) (v := undef) rfl (by kernel_rfl) (by kernel_rfl) (by kernel_rfl) (fun _ _ _ h => h) (Or.inr ⟨by rfl, rfl⟩) (by assumption) ?_
            simp only [Act.put, List.getElem_toArray, List.getElem_cons_zero, List.getElem_cons_succ, List.setIfInBounds_toArray, List.set_cons_zero, List.set_cons_succ]
            refine wpAnyH_take (i := 7) (v := undef) rfl (by kernel_rfl) (by kernel_rfl) (by kernel_rfl) (fun _ _ _ h => h) (Or.inr ⟨by rfl, rfl⟩) (by assumption) ?_
            simp only [Act.put, List.getElem_toArray, List.getElem_cons_zero, List.getElem_cons_succ, List.setIfInBounds_toArray, List.set_cons_zero, List.set_cons_succ]
            refine wpAnyH_take (i := 8) (v := undef) rfl (by kernel_rfl) (by kernel_rfl) (by kernel_rfl) (fun _ _ _ h => h) (Or.inr ⟨by rfl, rfl⟩) (by assumption) ?_
            simp only [Act.put, List.getElem_toArray, List.getElem_cons_zero, List.getElem_cons_succ, List.setIfInBounds_toArray, List.set_cons_zero, List.set_cons_succ]
            refine wpAnyH_take (i := 9) (v := undef) rfl (by kernel_rfl) (by kernel_rfl) (by kernel_rfl) (fun _ _ _ h => h) (Or.inr ⟨by rfl, rfl⟩) (by assumption) ?_
            simp only [Act.put, List.getElem_toArray, List.getElem_cons_zero, List.getElem_cons_succ, List.setIfInBounds_toArray, List.set_cons_zero, List.set_cons_succ]
            refine wpAnyH_ready (rs := [10]) (by kernel_rfl) (by simp) ?_
            refine AllReadyH.cons rfl (fun K hK => ?_) AllReadyH.nil
            go_simp
            refine hK.out _ _ ?_ (fun hHeld => ?_)
            · ((try dsimp only); exact ⟨c0, c1⟩)
            clear hK K
            try simp only [Act.put, List.getElem_toArray, List.getElem_cons_zero, List.getElem_cons_succ, List.setIfInBounds_toArray, List.set_cons_zero, List.set_cons_succ]
            refine wpAnyH_take (i := 11) (v := undef) rfl (by kernel_rfl) (by kernel_rfl) (by kernel_rfl) (fun _ _ _ h => h) (Or.inr ⟨by rfl, rfl⟩) (by assumption) ?_
            simp only [Act.put, List.getElem_toArray, List.getElem_cons_zero, List.getElem_cons_succ, List.setIfInBounds_toArray, List.set_cons_zero, List.set_cons_succ]
            refine wpAnyH_take (i := 12) (v := ?_) rfl (by kernel_rfl) (by kernel_rfl) (by kernel_rfl) (fun _ _ _ h => h) (Or.inl ⟨by rfl, ?_⟩) (by assumption) ?_
            rotate_left
            · (intro w hSw; (try dsimp only at hSw); go_simp; try with_reducible rfl)
            simp only [Act.put, List.getElem_toArray, List.getElem_cons_zero, List.getElem_cons_succ, List.setIfInBounds_toArray, List.set_cons_zero, List.set_cons_succ]
            refine wpAnyH_take (i := 13) (v := ?_) rfl (by kernel_rfl) (by kernel_rfl) (by kernel_rfl) (fun _ _ _ h => h) (Or.inl ⟨by rfl, ?_⟩) (by assumption) ?_
            rotate_left
            · (intro w hSw; (try dsimp only at hSw); go_simp; try with_reducible rfl)
            simp only [Act.put, List.getElem_toArray, List.getElem_cons_zero, List.getElem_cons_succ, List.setIfInBounds_toArray, List.set_cons_zero, List.set_cons_succ]
            refine wpAnyH_done (by kernel_rfl) ?_ _
            refine NoPanic.normal ?_
            go_wp2_with fail
            go_roundw
            case rel => exact ⟨k + 1, by omega, by go_num, by rw [HT.out, his]; rfl, HBQ.out.drew⟩
            case measure => simp [intOf]; omega
        · obtain rfl : k = n := by omega
          have f1 : decide (k < k) = false := decide_eq_false (Nat.lt_irrefl _)
          rw [show A.take k = A from List.take_of_length_le (by rw [HL.out]; exact Nat.le_refl _)]
          clear hkl
          have HN := Lib.hid (num_step (all := A) HQ.out.2)
          cases his : lastR A r with
          | true =>
            rw [his] at HN
            go_wp2_with fail
            go_roundw
            case rel => exact ⟨q + 1, by have := HQ.out.1; omega, by go_num, by rw [HN.out, IntWalk.wrap64_in _ ⟨by have := HNL.out; omega, by have := HNL.out; omega⟩]; rfl, HBQ.out⟩
            case measure => simp [intOf]; have := HQ.out.1; omega
          | false =>
            rw [his] at HN
            go_wp2_with fail
            go_roundw
            case rel => exact ⟨q + 1, by have := HQ.out.1; omega, by go_num, by rw [HN.out]; rfl, HBQ.out⟩
            case measure => simp [intOf]; have := HQ.out.1; omega
    · obtain rfl : q = n := by omega
      have e1 : decide (q < q) = false := decide_eq_false (Nat.lt_irrefl _)
      rw [show A.take q = A from List.take_of_length_le (by rw [HL.out]; exact Nat.le_refl _)]
      clear hlt
      go_wp2_with fail
      all_goals (go_ret; exact ⟨congrArg (fun x => Ending.returned (.int .i64 x)) (by unfold rcountP; omega), HB.out⟩)
end Go.Proofs.YtohajfkekkelhaaDoor
