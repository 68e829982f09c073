import Derived.Test.YthnmlklgbggmbaaGreatRankAz
import Derived.Laws.CopyOwn
import Derived.Deep.OwnRows
import Derived.Deep.WholeRow
import Derived.Great.BuildSlice
namespace Go.Proofs.YthnmlklgbggmbaaGreat
open Go.ChangeShapes Go.WideShapes Go.ChangeAt Go.RowKit
set_option linter.unusedVariables false
set_option linter.unusedSimpArgs false
theorem splice_get {α : Type} (cur : List α) (off : Nat) (cs : List α) (h : off + cs.length ≤ cur.length) (i : Nat) : (splice cur off cs)[i]? = if off ≤ i ∧ i < off + cs.length then cs[i - off]? else cur[i]? := by
  unfold splice
  rcases Nat.lt_or_ge i off with h1 | h1
  · rw [List.getElem?_append_left (by simp; omega), List.getElem?_take, if_pos h1, if_neg (by omega)]
  · rw [List.getElem?_append_right (by simp; omega), List.length_take, Nat.min_eq_left (by omega)]
    rcases Nat.lt_or_ge i (off + cs.length) with h2 | h2
    · rw [List.getElem?_append_left (by omega), if_pos ⟨h1, h2⟩]
    · rw [List.getElem?_append_right (by omega), List.getElem?_drop, if_neg (by omega)]
      congr 1
      omega
/-- A copy within a known block. -/
theorem step_copy_put {P : Program} {ops : Array Oper} {o : Oper} {a : Act} {w : World} {K : Act → World → Prop} {Q : Exit → Act → World → Prop} {E : Prop} (hgd : o.guard = none) (d s : Operand) (dT sT : TypeId)
    (ho : o.op = .call { callee := .builtin .copy, args := #[d, s], argTypes := #[dT, sT] }) (elem : TypeId) (hu : P.underlying dT = some (.slice elem)) (hsz : (P.info? elem).map (·.size) = some 1)
    (dp sp : Option Addr) (dLen dCap sLen sCap : Nat) (hd : a.eval d = .slice dp dLen dCap) (hs : a.eval s = .slice sp sLen sCap)
    (g off : Nat) (cur : List Value) (t : TypeId) (hg : w.heap[g]? = some (.cells cur.toArray t (0, 0))) (cs : List Value) (hn : cs.length = Nat.min sLen dLen)
    (hpos : 0 < cs.length → dp = some ⟨g, off, none⟩ ∧ ∃ ad, sp = some ad ∧ ∀ j v, cs[j]? = some v → w.cell? (ad.add j) = some v)
    (hfit : off + cs.length ≤ cur.length) (h1 : ∀ v ∈ cs, v.oneCell' = true)
    (h : ∀ w', Hid (w'.heap[g]? = some (.cells (splice cur off cs).toArray t (0, 0))) → Hid (Keeps (fun k => k = g) w w') → K (a.put o.dst (goInt cs.length)) w') :
    if Region.wanted o (yielded ops a.tmps) = true then Oper.wp P o a w K Q else E := by
  have hw : Region.wanted o (yielded ops a.tmps) = true := by simp [Region.wanted, hgd]
  rw [if_pos hw]
  by_cases h0 : cs.length = 0
  · obtain rfl : cs = [] := List.eq_nil_of_length_eq_zero h0
    have hrun := run_copy_none (P := P) w dT sT o.type elem dp sp dLen dCap sLen sCap hu hsz (by simpa using hn.symm)
    unfold Oper.wp
    simp [execOp, ho, resolve, invoke, builtin, hd, hs, hrun, Result.andThen]
    exact h w (Lib.hid (by simpa [splice] using hg)) (Lib.hid (Keeps.refl _ _))
  · obtain ⟨rfl, ad, rfl, hsrc⟩ := hpos (by omega)
    have hrun := run_copy_row (P := P) w dT sT o.type elem g off dLen dCap ad sLen sCap cur.toArray t cs hu hsz hg hn hsrc (by simpa using hfit) h1
    unfold Oper.wp
    simp [execOp, ho, resolve, invoke, builtin, hd, hs, hrun, Result.andThen]
    exact h _ (Lib.hid (by simpa [splice] using setRow_heap w g _ _ t _ hg)) (Lib.hid ⟨rfl, rfl, rfl, by simp [World.setRow], fun k _ hk => setRow_other w g k _ hk⟩)
/-- What the copy moves down: n tasks of a row, from the one behind k. -/
def movedUp (X : Nat → Nat → Int) (p k n : Nat) : List Value := (List.range n).map fun j => Value.int .i8 (X p (k + 1 + j))
theorem movedUp_len (X : Nat → Nat → Int) (p k n : Nat) : (movedUp X p k n).length = n := by simp [movedUp]
theorem movedUp_get (X : Nat → Nat → Int) (p k n j : Nat) (h : j < n) : (movedUp X p k n)[j]? = some (.int .i8 (X p (k + 1 + j))) := by simp [movedUp, h]
theorem RkM.moved {w w2 : World} {b : Nat} {cs : Array Value} {X : Nat → Nat → Int} {m pr : Nat → Nat} {bs : Nat} (h1 : w.heap[b]? = some (.cells cs 154 (0, 0))) (h : RkM w b X m pr bs) (p k n : Nat) (hp : p < 32) (hn : k + 1 + n ≤ 16) (h2 : w2.heap[b]? = some (.cells (splice cs.toList (p * 16 + k) (movedUp X p k n)).toArray 154 (0, 0))) :
    RkM w2 b (fun q j => if q = p ∧ k ≤ j ∧ j < k + n then X p (j + 1) else X q j) m pr bs := by
  obtain ⟨cs', h1', hs, h3, h4, h5, h6⟩ := h.one
  rw [h1] at h1'
  obtain rfl : cs = cs' := by injection h1' with h; injection h
  have hl : p * 16 + k + (movedUp X p k n).length ≤ cs.toList.length := by rw [movedUp_len]; simp; omega
  have hg : ∀ i, ((splice cs.toList (p * 16 + k) (movedUp X p k n)).toArray)[i]? = if p * 16 + k ≤ i ∧ i < p * 16 + k + n then (movedUp X p k n)[i - (p * 16 + k)]? else cs[i]? := fun i => by
    rw [List.getElem?_toArray, splice_get _ _ _ hl, movedUp_len]; simp
  refine ⟨_, h2, ?_, fun q j hq hj => ?_, fun q hq => ?_, fun t ht => ?_, ?_⟩
  · rw [List.size_toArray, length_splice _ _ _ hl]; simpa using hs
  · rw [hg]
    by_cases e : q = p ∧ k ≤ j ∧ j < k + n
    · obtain ⟨rfl, e1, e2⟩ := e
      rw [if_pos ⟨by omega, by omega⟩, if_pos ⟨rfl, e1, e2⟩, show q * 16 + j - (q * 16 + k) = j - k by omega, movedUp_get _ _ _ _ _ (by omega), show k + 1 + (j - k) = j + 1 by omega]
    · rw [if_neg (by omega), if_neg e]; exact h3 q j hq hj
  · rw [hg, if_neg (by omega)]; exact h4 q hq
  · rw [hg, if_neg (by omega)]; exact h5 t ht
  · rw [hg, if_neg (by omega)]; exact h6
/-- What lies behind a place of a row. -/
theorem rk_from (b p n k : Nat) (hk : k ≤ n) (hn : n ≤ 16) (w : World) :
    ∃ A, (k < n → A = some ⟨b, p * 16 + k, none⟩) ∧ ∀ w, (Instr.sliceAt 189 (.slice (some ⟨b, p * 16, none⟩) n 16) (some (.int .i64 (k : Int))) none none).run Tryz.prog w = .ok (.slice A (n - k) (16 - k)) w := by
  have hs : ∀ w, (sizeOf (Tryz.prog.elem 189)).run Tryz.prog w = .ok 1 w := fun w => by kernel_rfl
  have hu : Tryz.prog.underlying 189 = some (.slice (Tryz.prog.elem 189)) := by kernel_rfl
  refine ⟨(if 16 = k then some ⟨b, p * 16, none⟩ else some ⟨b, p * 16 + k, none⟩), fun h => by rw [if_neg (by omega)], fun w => ?_⟩
  have h1 := run_sliceAt_slice (P := Tryz.prog) (w := w) 189 (.slice (some ⟨b, p * 16, none⟩) n 16) (some (.int .i64 (k : Int))) none none hu
  have h2 := run_slice_l (P := Tryz.prog) (w := w) 189 (some ⟨b, p * 16, none⟩) n 16 hu .i64 (k : Int) (by omega) (by omega)
  rw [h1, h2, hs]
  simp only [Result.andThen, sliced, Int.toNat_natCast]
  by_cases e : 16 = k
  · subst e; simp
  · by_cases e2 : k = 0
    · subst e2; simp [Addr.add]
    · simp [e, Addr.add, e2]
end Go.Proofs.YthnmlklgbggmbaaGreat
namespace Go.Proofs.YthnmlklgbggmbaaGreat
open Go.ChangeShapes Go.WideShapes Go.ChangeAt Go.RowKit
set_option linter.unusedVariables false
set_option linter.unusedSimpArgs false
theorem rkremove_out (w : World) (b : Nat) (t : Int) (ht : ¬ (0 ≤ t ∧ t < 16)) :
    Calls Tryz.prog 169 #[.pointer (some ⟨b, 0, none⟩), .int .i64 t] w fun e w' => e = .returned (.bool false) ∧ w = w' := by
  have HB := Lib.hid (rkprio_out w b t ht)
  clear ht
  go_enter Tryz.func169, Tryz.ntmps169
  go_wp2_with fail
  refine HB.out.mono ?_
  rintro e w' ⟨rfl, rfl⟩
  go_wp2
  go_ret
  exact ⟨rfl, rfl⟩
theorem rkremove_none (w : World) (b : Nat) (X : Nat → Nat → Int) (m pr : Nat → Nat) (bs : Nat) (h : RkM w b X m pr bs) (t : Nat) (ht : t < 16) (h0 : pr t = 0) :
    Calls Tryz.prog 169 #[.pointer (some ⟨b, 0, none⟩), .int .i64 (t : Int)] w fun e w' => e = .returned (.bool false) ∧ w = w' := by
  have hc := rkprio_any w b X m pr bs h t ht (by omega)
  rw [h0] at hc
  have HB := Lib.hid hc
  clear ht h0 h hc
  go_enter Tryz.func169, Tryz.ntmps169
  go_wp2_with fail
  refine HB.out.mono ?_
  rintro e w' ⟨rfl, rfl⟩
  go_wp2
  go_ret
  exact ⟨rfl, rfl⟩
theorem rk_cells {w : World} {b : Nat} {cs : Array Value} (h : w.heap[b]? = some (.cells cs 154 (0, 0))) : w.drew.heap[b]? = some (.cells cs.toList.toArray 154 (0, 0)) := by
  rw [Array.toArray_toList]
  exact h
theorem rk_min (X : Nat → Nat → Int) (p k n : Nat) (hk : k + 1 ≤ n) : (movedUp X p k (n - (k + 1))).length = Nat.min (n - (k + 1)) (n - k) := by
  rw [movedUp_len]
  exact (Nat.min_eq_left (by omega)).symm
theorem RkM.movesFrom {w : World} {b : Nat} {X : Nat → Nat → Int} {m pr : Nat → Nat} {bs : Nat} (h : RkM w b X m pr bs) (p k n : Nat) (hp : p < 32) (hn16 : n ≤ 16) :
    0 < (movedUp X p k (n - (k + 1))).length → some (⟨b, p * 16 + k, none⟩ : Addr) = some ⟨b, p * 16 + k, none⟩ ∧ ∃ ad, (if 16 = k + 1 then some (⟨b, p * 16, none⟩ : Addr) else some ⟨b, p * 16 + (k + 1), none⟩) = some ad ∧ ∀ j v, (movedUp X p k (n - (k + 1)))[j]? = some v → w.drew.cell? (ad.add j) = some v := by
  intro hpos
  rw [movedUp_len] at hpos
  refine ⟨rfl, ⟨b, p * 16 + (k + 1), none⟩, by rw [if_neg (by omega)], fun j v hv => ?_⟩
  rcases Nat.lt_or_ge j (n - (k + 1)) with h1 | h1
  · rw [movedUp_get _ _ _ _ _ h1] at hv
    rw [← hv]
    have h2 := h.row p (k + 1 + j) hp (by omega)
    have e : (⟨b, p * 16 + (k + 1), none⟩ : Addr).add j = ⟨b, p * 16 + (k + 1 + j), none⟩ := by
      unfold Addr.add
      by_cases hj : j = 0
      · subst hj; rfl
      · rw [if_neg hj, ← Nat.add_assoc]
        simp
        omega
    rw [e]
    exact h2
  · rw [List.getElem?_eq_none (by rw [movedUp_len]; exact h1)] at hv
    cases hv
theorem rk_fit (X : Nat → Nat → Int) (p k n : Nat) (hp : p < 32) (hn16 : n ≤ 16) (hk : k + 1 ≤ n) (cs : Array Value) (h : cs.size = 561) : p * 16 + k + (movedUp X p k (n - (k + 1))).length ≤ cs.toList.length := by
  rw [movedUp_len, Array.length_toList, h]
  omega
theorem rk_ones (X : Nat → Nat → Int) (p k n : Nat) : ∀ v ∈ movedUp X p k n, v.oneCell' = true := by
  intro v hv
  obtain ⟨j, _, rfl⟩ := List.mem_map.1 hv
  rfl
set_option maxRecDepth 20000 in
set_option maxHeartbeats 1000000 in
theorem rkremove_yes (w : World) (b : Nat) (X : Nat → Nat → Int) (m pr : Nat → Nat) (bs : Nat) (h : RkM w b X m pr bs) (p t k n : Nat) (hp : p < 32) (ht : t < 16) (hpr : pr t = p + 1) (hn : m p = n) (hn16 : n ≤ 16) (hk : k < n) (hX : ∀ j, j < n → ∃ u : Nat, u < 16 ∧ X p j = (u : Int) ∧ (u = t ↔ j = k)) (hbs : bs < 4294967296) :
    Calls Tryz.prog 169 #[.pointer (some ⟨b, 0, none⟩), .int .i64 (t : Int)] w fun e w' => e = .returned (.bool true) ∧ RkM w' b (fun q j => if q = p ∧ k ≤ j ∧ j < k + (n - (k + 1)) then X p (j + 1) else X q j) (fun q => if q = p then n - 1 else m q) (fun q => if q = t then 0 else pr q) (if n - 1 = 0 then clrB bs (p : Int) else bs) ∧ Keeps (fun k => k = b) w w' := by
  have H := Lib.hid h
  have hc := rkprio_any w b X m pr bs h t ht (by omega)
  rw [hpr, Nat.add_sub_cancel, show (!(p + 1 == 0)) = true by simp] at hc
  have HB := Lib.hid hc
  have c1 := h.many p hp
  rw [hn] at c1
  have lb := h.lt
  have hsl := fun w => rk_slice b p n hn16 w
  have HX := Lib.hid hX
  have hmn := Lib.hid hn
  clear h hc hX hpr hn
  go_enter Tryz.func169, Tryz.ntmps169
  go_wp2_with fail
  refine HB.out.mono ?_
  rintro e w' ⟨rfl, rfl⟩
  go_wp2_with fail
  go_quiet (fail)
  go_wp2_with fail
  go_loopw [32] (fun i wr => ∃ j : Nat, j ≤ k ∧ i = .int .i64 (j : Int) ∧ Keeps (fun _ => False) w wr) (fun i _ => n - (intOf i).toNat)
  case atStart => exact ⟨0, by omega, rfl, (Keeps.refl _ _).drewN _⟩
  case round =>
    obtain ⟨j, hj, rfl, hK⟩ := hrel
    have hlt : j < n := by omega
    obtain ⟨u, hu, hx, hiff⟩ := HX.out j hlt
    have hMr := H.out.keeps hK (fun h => h)
    have c2 := hMr.row p j hp (by omega)
    rw [hx] at c2
    have lbr := hMr.lt
    have W8 : IntKind.i64.wrap (u : Int) = (u : Int) := IntWalk.i64_in _ ⟨by omega, by omega⟩
    by_cases hjk : j < k
    · have e1 : ((u : Int) == (t : Int)) = false := by
        rw [beq_eq_false_iff_ne]
        intro e
        have := hiff.1 (by omega)
        omega
      clear hx hiff hMr
      have HK := Lib.hid hK
      clear hK
      go_wp2_with fail
      go_roundw
      case rel => exact ⟨j + 1, by omega, by go_num, HK.out⟩
      case measure => simp [intOf]; omega
    · obtain rfl : k = j := by omega
      obtain rfl : t = u := (hiff.2 rfl).symm
      have hmv : k + 1 + (n - (k + 1)) ≤ 16 := by omega
      have hkn : k ≤ n := by omega
      have hkn1 : k + 1 ≤ n := by omega
      have h16 : (16 = k) = False := eq_false (by omega)
      have W9 : IntKind.i64.wrap ((k : Int) + 1) = (k : Int) + 1 := IntWalk.i64_in _ ⟨by omega, by omega⟩
      have W10 : ((k : Int) + 1).toNat = k + 1 := by omega
      have W11 : 0 ≤ (k : Int) + 1 := by omega
      have W12 : (k : Int) + 1 ≤ (n : Int) := by omega
      obtain ⟨cs, hcs, hcsz, hcr, _⟩ := hMr.one
      have HCS := Lib.hid hcs
      have HG := Lib.hid (rk_cells hcs)
      have HMIN := Lib.hid (rk_min X p k n hkn1)
      have HPOS := Lib.hid (hMr.movesFrom p k n hp hn16)
      have HFIT := Lib.hid (rk_fit X p k n hp hn16 hkn1 cs hcsz)
      have HONE := Lib.hid (rk_ones X p k (n - (k + 1)))
      have HR := Lib.hid hMr
      have HK := Lib.hid hK
      clear hx hiff hMr hK hcs hcr hcsz
      go_wp2_with fail
      go_region_law (refine step_copy_put rfl (.tmp 43) (.tmp 47) 189 189 rfl (Tryz.prog.elem 189) (by kernel_rfl) (by kernel_rfl) (some ⟨b, p * 16 + k, none⟩) (if 16 = k + 1 then some ⟨b, p * 16, none⟩ else some ⟨b, p * 16 + (k + 1), none⟩) (n - k) (16 - k) (n - (k + 1)) (16 - (k + 1)) (by simp [Act.eval, Act.put]) (by simp [Act.eval, Act.put]) b (p * 16 + k) cs.toList 154 HG.out (movedUp X p k (n - (k + 1))) (HMIN.out) (fun h => ⟨rfl, (HPOS.out h).2⟩) HFIT.out HONE.out ?_; intro w4 hg4 hk4)
      generalize hA : (if k = 15 then some (⟨b, p * 16, none⟩ : Addr) else some ⟨b, p * 16 + (k + 1), none⟩) = A2
      clear hA
      have HM4 := Lib.hid (RkM.moved HCS.out HR.out p k (n - (k + 1)) hp hmv hg4.out)
      have K4 := Lib.hid ((HK.out.drew.mono fun z _ hz => hz.elim).trans hk4.out)
      clear HG HMIN HPOS HFIT HONE hg4 hk4 c2 lbr c1 HX
      have c1 := HM4.out.many p hp
      rw [hmn.out] at c1
      have f1 := HM4.out.free (512 + p)
      have lx := HM4.out.lt
      have W4 : wrap64 ((n : Int) - 1) = ((n - 1 : Nat) : Int) := by rw [IntWalk.wrap64_in _ ⟨by omega, by omega⟩]; omega
      clear W8 W9 W10 W11 W12 hsl
      go_wp2_with fail
      go_region
      have H1 := Lib.hid (((HM4.out.setMany p hp (n - 1) ((n : Int) - 1) (by omega)).keeps (Keeps.refl (fun _ => False) _).drew (fun h => h)))
      have K1 := Lib.hid ((K4.out.setCell (p := ⟨b, 512 + p, none⟩) (.inl rfl) (.int .i64 ((n : Int) - 1))).drew)
      clear c1 f1 lx W4
      generalize hW : World.drew (World.setCell w4 _ _) = W1 at H1 K1 ⊢
      clear hW HM4 K4
      have c1 := H1.out.prio t ht
      have f1 := H1.out.free (544 + t)
      have lx := H1.out.lt
      have H2 := Lib.hid (H1.out.setPrio t ht 0 0 rfl)
      have K2 := Lib.hid (K1.out.setCell (p := ⟨b, 544 + t, none⟩) (.inl rfl) (.int .i64 0))
      have c3 := H2.out.many p hp
      rw [if_pos rfl] at c3
      have lx3 := H2.out.lt
      rcases Nat.eq_zero_or_pos (n - 1) with hz | hz
      · have c4 := H2.out.bits
        have f4 := H2.out.free 560
        rw [hz] at c3
        have HZ := Lib.hid hz
        clear hz
        go_wp2_with fail
        refine (without_any bs (p : Int) _ hbs).mono ?_
        rintro e w' ⟨rfl, rfl⟩
        have H3 := Lib.hid (H2.out.setBits (clrB bs (p : Int)) _ rfl)
        have K3 := Lib.hid (K2.out.setCell (p := ⟨b, 560, none⟩) (.inl rfl) (.int .u32 (clrB bs (p : Int) : Int)))
        go_wp2
        go_ret
        refine ⟨rfl, ?_, K3.out⟩
        have h := H3.out
        rw [HZ.out] at h
        exact h
      · have e1 : (((n - 1 : Nat) : Int) == 0) = false := beq_eq_false_iff_ne.mpr (by omega)
        have HZ := Lib.hid hz
        clear hz
        go_wp2_with fail
        all_goals first | (exfalso; have h := HZ.out; omega) | (go_ret; exact ⟨rfl, H2.out, K2.out⟩)
end Go.Proofs.YthnmlklgbggmbaaGreat
namespace Go.Proofs.YthnmlklgbggmbaaGreat
open Go.ChangeShapes Go.WideShapes Go.ChangeAt Go.RowKit
set_option linter.unusedVariables false
set_option linter.unusedSimpArgs false
/-- The rows of a rank, and each task's priority plus one. -/
abbrev RkT : Type := (Nat → List Nat) × (Nat → Nat)
structure RkS (w : World) (b : Nat) (s : RkT) : Prop where
  one : ∃ X m bs, RkM w b X m s.2 bs ∧ RkOk X m s.2 bs s.1
section
variable {w wr : World} {b : Nat} {s : RkT}
theorem RkS.keeps {S : Nat → Prop} (h : RkS w b s) (k : Keeps S w wr) (hs : ¬ S b) : RkS wr b s := by
  obtain ⟨X, m, bs, h1, h2⟩ := h.one
  exact ⟨X, m, bs, h1.keeps k hs, h2⟩
theorem RkS.lt (h : RkS w b s) : b < w.heap.size := by
  obtain ⟨X, m, bs, h1, h2⟩ := h.one
  exact h1.lt
theorem RkS.small (h : RkS w b s) : ∀ t, t < 16 → s.2 t ≤ 32 := by
  obtain ⟨X, m, bs, h1, h2⟩ := h.one
  exact h2.small
theorem RkS.mem (h : RkS w b s) : ∀ p t, p < 32 → (t ∈ s.1 p ↔ t < 16 ∧ s.2 t = p + 1) := by
  obtain ⟨X, m, bs, h1, h2⟩ := h.one
  exact h2.mem
theorem RkS.nd (h : RkS w b s) : ∀ p, p < 32 → (s.1 p).Nodup := by
  obtain ⟨X, m, bs, h1, h2⟩ := h.one
  exact h2.nd
theorem RkS.le (h : RkS w b s) : ∀ p, p < 32 → (s.1 p).length ≤ 16 := by
  obtain ⟨X, m, bs, h1, h2⟩ := h.one
  exact h2.le
end
def canAdd (pr : Nat → Nat) (t p : Int) : Bool := decide ((0 ≤ t ∧ t < 16) ∧ (0 ≤ p ∧ p < 32) ∧ pr t.toNat = 0)
def canRem (pr : Nat → Nat) (t : Int) : Bool := decide ((0 ≤ t ∧ t < 16) ∧ pr t.toNat ≠ 0)
def addL (L : Nat → List Nat) (p t : Nat) : Nat → List Nat := fun q => if q = p then L p ++ [t] else L q
def remL (L : Nat → List Nat) (t : Nat) : Nat → List Nat := fun q => (L q).filter (fun x => x != t)
def setP (pr : Nat → Nat) (t u : Nat) : Nat → Nat := fun q => if q = t then u else pr q
def addT (s : RkT) (t p : Int) : RkT := if canAdd s.2 t p then (addL s.1 p.toNat t.toNat, setP s.2 t.toNat (p.toNat + 1)) else s
def remT (s : RkT) (t : Int) : RkT := if canRem s.2 t then (remL s.1 t.toNat, setP s.2 t.toNat 0) else s
def prioT (s : RkT) (t : Int) : Nat := if canRem s.2 t then s.2 t.toNat - 1 else 0
def turnT (s : RkT) (t : Int) : RkT := if canRem s.2 t then addT (remT s t) t (prioT s t : Int) else s
def listT (s : RkT) : List Nat := flat s.1 0
theorem rks_add (w : World) (b : Nat) (s : RkT) (h : RkS w b s) (t p : Int) :
    Calls Tryz.prog 74 #[.pointer (some ⟨b, 0, none⟩), .int .i64 t, .int .i64 p] w fun e w' => e = .returned (.bool (canAdd s.2 t p)) ∧ RkS w' b (addT s t p) ∧ Keeps (fun k => k = b) w w' := by
  by_cases hc : (0 ≤ t ∧ t < 16) ∧ (0 ≤ p ∧ p < 32) ∧ s.2 t.toNat = 0
  · have e : canAdd s.2 t p = true := decide_eq_true hc
    unfold addT
    rw [if_pos e, e]
    obtain ⟨⟨h1, h2⟩, ⟨h3, h4⟩, h5⟩ := hc
    obtain ⟨T, rfl⟩ := Int.eq_ofNat_of_zero_le h1
    obtain ⟨P, rfl⟩ := Int.eq_ofNat_of_zero_le h3
    simp only [Int.toNat_natCast] at h5 ⊢
    obtain ⟨X, m, bs, hm, ho⟩ := h.one
    have hT : T < 16 := by omega
    have hP : P < 32 := by omega
    have hl : m P < 16 := by rw [ho.len P hP]; exact ho.less P T hP hT h5
    refine (rkadd_yes w b X m s.2 bs hm T P hT hP h5 hl ho.lt).mono ?_
    rintro e w' ⟨rfl, hm', hk⟩
    exact ⟨rfl, ⟨_, _, _, hm', ho.add P T hP hT h5⟩, hk⟩
  · have e : canAdd s.2 t p = false := decide_eq_false hc
    unfold addT
    rw [e]
    have hout : ∀ {e : Ending} {w' : World}, (e = .returned (.bool false) ∧ w = w') → (e = .returned (.bool false) ∧ RkS w' b (if false = true then (addL s.1 p.toNat t.toNat, setP s.2 t.toNat (p.toNat + 1)) else s) ∧ Keeps (fun k => k = b) w w') := by
      rintro e w' ⟨rfl, rfl⟩
      exact ⟨rfl, h, Keeps.refl _ _⟩
    by_cases h1 : 0 ≤ t ∧ t < 16
    · by_cases h2 : p < 0
      · exact (rkadd_p_low w b t p ⟨h1, h2⟩).mono fun e w' hh => hout hh
      · by_cases h3 : 32 ≤ p
        · exact (rkadd_p_high w b t p ⟨h1, h3⟩).mono fun e w' hh => hout hh
        · obtain ⟨T, rfl⟩ := Int.eq_ofNat_of_zero_le h1.1
          have h5 : 0 < s.2 T := by
            rcases Nat.eq_zero_or_pos (s.2 T) with h5 | h5
            · exact absurd ⟨h1, ⟨by omega, by omega⟩, by simpa using h5⟩ hc
            · exact h5
          obtain ⟨X, m, bs, hm, ho⟩ := h.one
          exact (rkadd_there w b X m s.2 bs hm T p (by omega) ⟨by omega, by omega⟩ h5).mono fun e w' hh => hout hh
    · exact (rkadd_t_out w b t p h1).mono fun e w' hh => hout hh
theorem rks_prio (w : World) (b : Nat) (s : RkT) (h : RkS w b s) (t : Int) :
    Calls Tryz.prog 171 #[.pointer (some ⟨b, 0, none⟩), .int .i64 t] w fun e w' => e = .returned (.tuple #[.int .i64 (prioT s t : Int), .bool (canRem s.2 t)]) ∧ w = w' := by
  unfold prioT
  by_cases h1 : 0 ≤ t ∧ t < 16
  · obtain ⟨T, rfl⟩ := Int.eq_ofNat_of_zero_le h1.1
    obtain ⟨X, m, bs, hm, ho⟩ := h.one
    have hT : T < 16 := by omega
    refine (rkprio_any w b X m s.2 bs hm T hT (ho.small T hT)).mono ?_
    rintro e w' ⟨rfl, rfl⟩
    refine ⟨?_, rfl⟩
    by_cases h5 : s.2 T = 0
    · have e : canRem s.2 (T : Int) = false := decide_eq_false (fun hh => hh.2 (by simpa using h5))
      rw [e, h5]
      simp
    · have e : canRem s.2 (T : Int) = true := decide_eq_true ⟨h1, by simpa using h5⟩
      rw [e]
      simp [h5]
  · have e : canRem s.2 t = false := decide_eq_false (fun hh => h1 hh.1)
    rw [e]
    exact (rkprio_out w b t h1).mono fun e w' hh => by simpa using hh
theorem RkOk.at {X : Nat → Nat → Int} {m pr : Nat → Nat} {bs : Nat} {L : Nat → List Nat} (h : RkOk X m pr bs L) (p t k : Nat) (hp : p < 32) (hk : (L p)[k]? = some t) :
    ∀ j, j < (L p).length → ∃ u : Nat, u < 16 ∧ X p j = (u : Int) ∧ (u = t ↔ j = k) := by
  intro j hj
  have hg : (L p)[j]? = some (L p)[j] := List.getElem?_eq_getElem hj
  refine ⟨(L p)[j], ((h.mem p _ hp).1 (List.getElem_mem hj)).1, h.row p j _ hp hg, fun e => ?_, fun e => ?_⟩
  · rw [e, ← hk] at hg
    exact (List.getElem?_inj hj (h.nd p hp)).1 hg
  · subst e
    rw [hg] at hk
    injection hk
theorem rks_rem (w : World) (b : Nat) (s : RkT) (h : RkS w b s) (t : Int) :
    Calls Tryz.prog 169 #[.pointer (some ⟨b, 0, none⟩), .int .i64 t] w fun e w' => e = .returned (.bool (canRem s.2 t)) ∧ RkS w' b (remT s t) ∧ Keeps (fun k => k = b) w w' := by
  obtain ⟨X, m, bs, hm, ho⟩ := h.one
  by_cases hc : (0 ≤ t ∧ t < 16) ∧ s.2 t.toNat ≠ 0
  · have e : canRem s.2 t = true := decide_eq_true hc
    unfold remT
    rw [if_pos e, e]
    obtain ⟨h1, h5⟩ := hc
    obtain ⟨T, rfl⟩ := Int.eq_ofNat_of_zero_le h1.1
    simp only [Int.toNat_natCast] at h5 ⊢
    have hT : T < 16 := by omega
    have hs := ho.small T hT
    obtain ⟨P, hP⟩ : ∃ P, s.2 T = P + 1 := ⟨s.2 T - 1, by omega⟩
    have hP32 : P < 32 := by omega
    have hmem : T ∈ s.1 P := (ho.mem P T hP32).2 ⟨hT, hP⟩
    obtain ⟨k, hk⟩ := List.getElem?_of_mem hmem
    have hkl : k < (s.1 P).length := by
      rcases Nat.lt_or_ge k (s.1 P).length with h1 | h1
      · exact h1
      · rw [List.getElem?_eq_none h1] at hk; cases hk
    refine (rkremove_yes w b X m s.2 bs hm P T k (s.1 P).length hP32 hT hP (ho.len P hP32) (ho.le P hP32) hkl (ho.at P T k hP32 hk) ho.lt).mono ?_
    rintro e w' ⟨rfl, hm', hK⟩
    refine ⟨rfl, ?_, hK⟩
    have hr := ho.remove P T k hP32 hk
    rw [ho.len P hP32] at hr
    have e1 : (fun q j => if q = P ∧ k ≤ j ∧ j < k + ((s.1 P).length - (k + 1)) then X P (j + 1) else X q j) = (fun q j => if q = P ∧ k ≤ j ∧ j + 1 < (s.1 P).length then X P (j + 1) else X q j) := by
      funext q j
      by_cases e : q = P ∧ k ≤ j ∧ j + 1 < (s.1 P).length
      · rw [if_pos e, if_pos ⟨e.1, e.2.1, by omega⟩]
      · rw [if_neg e, if_neg (fun hh => e ⟨hh.1, hh.2.1, by omega⟩)]
    rw [e1] at hm'
    exact ⟨_, _, _, hm', hr⟩
  · have e : canRem s.2 t = false := decide_eq_false hc
    unfold remT
    rw [e]
    have hout : ∀ {e : Ending} {w' : World}, (e = .returned (.bool false) ∧ w = w') → (e = .returned (.bool false) ∧ RkS w' b (if false = true then (remL s.1 t.toNat, setP s.2 t.toNat 0) else s) ∧ Keeps (fun k => k = b) w w') := by
      rintro e w' ⟨rfl, rfl⟩
      exact ⟨rfl, h, Keeps.refl _ _⟩
    by_cases h1 : 0 ≤ t ∧ t < 16
    · obtain ⟨T, rfl⟩ := Int.eq_ofNat_of_zero_le h1.1
      have h5 : s.2 T = 0 := by
        rcases Nat.eq_zero_or_pos (s.2 T) with h5 | h5
        · exact h5
        · exact absurd ⟨h1, by simp; omega⟩ hc
      exact (rkremove_none w b X m s.2 bs hm T (by omega) h5).mono fun e w' hh => hout hh
    · exact (rkremove_out w b t h1).mono fun e w' hh => hout hh
theorem rks_list (w : World) (b : Nat) (s : RkT) (h : RkS w b s) :
    Calls Tryz.prog 53 #[.pointer (some ⟨b, 0, none⟩)] w fun e w' => ∃ v, e = .returned v ∧ w'.ownsRow w.heap.size 3 1 v (listT s).length (ints (listT s)) ∧ Keeps (fun _ => False) w w' := by
  obtain ⟨X, m, bs, hm, ho⟩ := h.one
  exact rklist_any w b X m s.2 bs s.1 hm ho
theorem rks_first (w : World) (b : Nat) (s : RkT) (h : RkS w b s) :
    Calls Tryz.prog 127 #[.pointer (some ⟨b, 0, none⟩)] w fun e w' => e = .returned (.tuple #[.int .i64 ((listT s).headD 0 : Int), .bool (!(listT s).isEmpty)]) ∧ w = w' := by
  obtain ⟨X, m, bs, hm, ho⟩ := h.one
  by_cases h0 : bs = 0
  · subst h0
    refine (rkfirst_any w b X m s.2 0 hm ho.lt (fun h => absurd rfl h)).mono ?_
    rintro e w' ⟨rfl, rfl⟩
    have : listT s = [] := ho.empty
    rw [this]
    exact ⟨rfl, rfl⟩
  · obtain ⟨p, t, hp, hp32, hX, ht, hh⟩ := ho.first h0
    refine (rkfirst_any w b X m s.2 bs hm ho.lt (fun _ => ?_)).mono ?_
    · rw [hp, Nat.add_sub_cancel, hX]
      omega
    · rintro e w' ⟨rfl, rfl⟩
      have hh' : (listT s).head? = some t := hh
      rw [hp, Nat.add_sub_cancel, hX, if_neg h0]
      cases hl : listT s with
      | nil => rw [hl] at hh'; cases hh'
      | cons a l =>
        rw [hl] at hh'
        injection hh' with e
        subst e
        simp [h0]
theorem rks_bits (w : World) (b : Nat) (s : RkT) (h : RkS w b s) :
    ∃ bs : Nat, bs < 4294967296 ∧ (∀ p, p < 32 → bs.testBit p = !(s.1 p).isEmpty) ∧ ∀ w', RkS w' b s → Calls Tryz.prog 93 #[.pointer (some ⟨b, 0, none⟩)] w' fun e w2 => e = .returned (.int .u32 (bs : Int)) ∧ w' = w2 := by
  obtain ⟨X, m, bs, hm, ho⟩ := h.one
  refine ⟨bs, ho.lt, ho.bit, fun w' h' => ?_⟩
  obtain ⟨X', m', bs', hm', ho'⟩ := h'.one
  have e : bs = bs' := Nat.eq_of_testBit_eq fun i => by
    by_cases hi : i < 32
    · rw [ho.bit i hi, ho'.bit i hi]
    · rw [testBit_ge ho.lt (by omega), testBit_ge ho'.lt (by omega)]
  rw [e]
  exact rkbits_any w' b X' m' s.2 bs' hm'
end Go.Proofs.YthnmlklgbggmbaaGreat
namespace Go.Proofs.YthnmlklgbggmbaaGreat
open Go.ChangeShapes Go.WideShapes Go.ChangeAt Go.RowKit
set_option linter.unusedVariables false
set_option linter.unusedSimpArgs false
theorem canAdd_back (s : RkT) (t : Int) (h : canRem s.2 t = true) (hs : ∀ t, t < 16 → s.2 t ≤ 32) : canAdd (remT s t).2 t (prioT s t : Int) = true := by
  have h1 := of_decide_eq_true h
  have h2 := hs t.toNat (by omega)
  unfold canAdd remT prioT
  rw [if_pos h, if_pos h]
  refine decide_eq_true ⟨h1.1, ⟨by omega, by omega⟩, ?_⟩
  simp [setP]
theorem rks_turn (w : World) (b : Nat) (s : RkT) (h : RkS w b s) (t : Int) :
    Calls Tryz.prog 134 #[.pointer (some ⟨b, 0, none⟩), .int .i64 t] w fun e w' => e = .returned (.bool (canRem s.2 t)) ∧ RkS w' b (turnT s t) ∧ Keeps (fun k => k = b) w w' := by
  have HP := Lib.hid (rks_prio w b s h t)
  rcases hc : canRem s.2 t with _ | _
  · have HF := Lib.hid (show RkS w b (turnT s t) by unfold turnT; rw [hc]; exact h)
    rw [hc] at HP
    clear hc h
    go_enter Tryz.func134, Tryz.ntmps134
    go_wp2_with fail
    refine HP.out.mono ?_
    rintro e w' ⟨rfl, rfl⟩
    go_wp2
    go_ret
    exact ⟨rfl, HF.out, Keeps.refl _ _⟩
  · have HB := Lib.hid (canAdd_back s t hc h.small)
    have HR := Lib.hid (rks_rem w b s h t)
    have HT := Lib.hid (show turnT s t = addT (remT s t) t (prioT s t : Int) by unfold turnT; rw [if_pos hc])
    rw [hc] at HP HR
    clear hc h
    go_enter Tryz.func134, Tryz.ntmps134
    go_wp2_with fail
    refine HP.out.mono ?_
    rintro e w' ⟨rfl, rfl⟩
    go_wp2_with fail
    refine HR.out.mono ?_
    rintro e w1 ⟨rfl, hS, hK⟩
    have HA := Lib.hid (rks_add w1 b (remT s t) hS t (prioT s t : Int))
    rw [HB.out] at HA
    have HK := Lib.hid hK
    clear hS hK
    go_wp2_with fail
    refine HA.out.mono ?_
    rintro e w2 ⟨rfl, hS2, hK2⟩
    have HS := Lib.hid (And.intro hS2 (HK.out.trans hK2))
    clear hS2 hK2
    go_wp2
    go_ret
    exact ⟨rfl, by rw [HT.out]; exact HS.out.1, HS.out.2⟩
theorem RkM.ones {w : World} {b : Nat} {X : Nat → Nat → Int} {m pr : Nat → Nat} {bs : Nat} {cs : Array Value} (hs : cs.size = 561) (h3 : ∀ p i, p < 32 → i < 16 → cs[p * 16 + i]? = some (.int .i8 (X p i))) (h4 : ∀ p, p < 32 → cs[512 + p]? = some (.int .i64 (m p : Int))) (h5 : ∀ t, t < 16 → cs[544 + t]? = some (.int .i64 (pr t : Int))) (h6 : cs[560]? = some (.int .u32 (bs : Int))) : cs.all (·.oneCell') = true := by
  rw [Array.all_eq_true]
  intro i hi
  have hx : cs[i]? = some cs[i] := Array.getElem?_eq_getElem hi
  by_cases h1 : i < 512
  · have := h3 (i / 16) (i % 16) (by omega) (by omega)
    rw [show i / 16 * 16 + i % 16 = i by omega, hx] at this
    rw [Option.some.inj this]; rfl
  · by_cases h2 : i < 544
    · have := h4 (i - 512) (by omega)
      rw [show 512 + (i - 512) = i by omega, hx] at this
      rw [Option.some.inj this]; rfl
    · by_cases h2 : i < 560
      · have := h5 (i - 544) (by omega)
        rw [show 544 + (i - 544) = i by omega, hx] at this
        rw [Option.some.inj this]; rfl
      · obtain rfl : i = 560 := by omega
        rw [h6] at hx; rw [← Option.some.inj hx]; rfl
def zAt (k : IntKind) (v : Option Value) : Bool := match v with | some (.int k' 0) => k' == k | _ => false
theorem zAt_eq {k : IntKind} {v : Option Value} (h : zAt k v = true) : v = some (.int k 0) := by
  unfold zAt at h
  split at h
  · rw [beq_iff_eq.1 h]
  · cases h
/-- The cells of a rank that nobody has touched. -/
theorem rk_zeros : ∃ zs : Array Value, Tryz.prog.built 154 [] = some zs ∧ (∀ w, (zeroValue 154).run Tryz.prog w = .ok (.agg zs) w) ∧ zs.size = 561 ∧ (∀ p i, p < 32 → i < 16 → zs[p * 16 + i]? = some (.int .i8 0)) ∧ (∀ p, p < 32 → zs[512 + p]? = some (.int .i64 0)) ∧ (∀ t, t < 16 → zs[544 + t]? = some (.int .i64 0)) ∧ zs[560]? = some (.int .u32 0) := by
  refine ⟨(Tryz.prog.built 154 []).getD #[], by kernel_rfl, fun w => by kernel_rfl, by kernel_rfl, fun p i hp hi => ?_, fun p hp => ?_, fun t ht => ?_, ?_⟩
  · have h : (List.range 512).all (fun i => zAt .i8 ((Tryz.prog.built 154 []).getD #[])[i]?) = true := by kernel_rfl
    exact zAt_eq (List.all_eq_true.1 h (p * 16 + i) (List.mem_range.2 (by omega)))
  · have h : (List.range 32).all (fun i => zAt .i64 ((Tryz.prog.built 154 []).getD #[])[512 + i]?) = true := by kernel_rfl
    exact zAt_eq (List.all_eq_true.1 h p (List.mem_range.2 hp))
  · have h : (List.range 16).all (fun i => zAt .i64 ((Tryz.prog.built 154 []).getD #[])[544 + i]?) = true := by kernel_rfl
    exact zAt_eq (List.all_eq_true.1 h t (List.mem_range.2 ht))
  · have h : zAt .u32 ((Tryz.prog.built 154 []).getD #[])[560]? = true := by kernel_rfl
    exact zAt_eq h
/-- A copy: another block, the same cells. -/
theorem rks_copy (w : World) (b : Nat) (s : RkT) (h : RkS w b s) :
    Calls Tryz.prog 35 #[.pointer (some ⟨b, 0, none⟩)] w fun e w' => e = .returned (.pointer (some ⟨w.heap.size, 0, none⟩)) ∧ RkS w' w.heap.size s ∧ Keeps (fun _ => False) w w' := by
  obtain ⟨X, m, bs, hm, ho⟩ := h.one
  obtain ⟨cs, hb, hs, h3, h4, h5, h6⟩ := hm.one
  have l1 := lt_of hb
  obtain ⟨zs, _, hz, hzs, _⟩ := rk_zeros
  have HZS := Lib.hid hzs
  clear hzs
  have hi : (Tryz.prog.info? 154).map (·.size) = some cs.size := by rw [hs]; kernel_rfl
  have h1 : cs.all (·.oneCell') = true := RkM.ones (w := w) (b := b) hs h3 h4 h5 h6
  have HB := Lib.hid (And.intro hb (And.intro hs (And.intro h3 (And.intro h4 (And.intro h5 h6)))))
  have HI := Lib.hid hi
  have H1 := Lib.hid h1
  have HO := Lib.hid ho
  clear hb hs h3 h4 h5 h6 hi h1 hm ho h
  go_enter Tryz.func35, Tryz.ntmps35
  go_wp2_with (first
    | (with_reducible refine wpList_load_row rfl 154 (.tmp 7) rfl b rfl 154 cs (0, 0) _ HB.out.1 Tryz.underlying154 rfl HI.out ?_)
    | (refine wpList_store_row rfl 154 (.tmp 3) (.tmp 8) rfl w.heap.size cs rfl rfl 154 _ (heap_new _ _) HI.out (by rw [HB.out.2.1]; exact HZS.out) H1.out ?_; rw [World.setRow_alloc_new]))
  go_ret
  exact ⟨rfl, ⟨X, m, bs, ⟨cs, heap_new _ _, HB.out.2⟩, HO.out⟩, (Keeps.refl _ _).alloc _⟩
end Go.Proofs.YthnmlklgbggmbaaGreat
namespace Go.Proofs.YthnmlklgbggmbaaGreat
open Go.ChangeShapes Go.WideShapes Go.ChangeAt Go.RowKit
set_option linter.unusedVariables false
set_option linter.unusedSimpArgs false
def rk0 : RkT := (fun _ => [], fun _ => 0)
/-- A rank that has just been made. -/
theorem rk_fresh : ∃ zs : Array Value, (∀ w, (zeroValue 154).run Tryz.prog w = .ok (.agg zs) w) ∧ ∀ (w : World) (b : Nat), w.heap[b]? = some (.cells zs 154 (0, 0)) → RkS w b rk0 := by
  obtain ⟨zs, _, hb, hs, h3, h4, h5, h6⟩ := rk_zeros
  refine ⟨zs, hb, fun w b h => ⟨fun _ _ => 0, fun _ => 0, 0, ⟨zs, h, hs, h3, h4, h5, h6⟩, ?_⟩⟩
  refine ⟨fun p hp => rfl, fun p i t hp hi => ?_, fun p hp => List.nodup_nil, fun p t hp => ?_, fun t ht => Nat.zero_le _, by omega, fun p hp => ?_⟩
  · simp [rk0] at hi
  · simp [rk0]
  · simp [rk0]
def rkA : RkT := addT (addT (addT rk0 1 5) 2 5) 3 9
def rkB : RkT := turnT (remT rkA 3) 1
theorem rkA_list : listT rkA = [3, 1, 2] := by decide
theorem rkB_list : listT rkB = [2, 1] := by decide
end Go.Proofs.YthnmlklgbggmbaaGreat
