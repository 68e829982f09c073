import Derived.Test.YthnmlklgbggmbaaGreatSchCq
import Derived.Deep.RegionHeld3
import Derived.Test.YthnmlklgbggmbaaGreatGhostq
namespace Go.Proofs.YthnmlklgbggmbaaGreat
set_option linter.unusedVariables false
set_option linter.unusedSimpArgs false
structure Inv (M : ScM) : Prop where
  le : M.many ≤ 16
  row : ∀ t, t < M.many → (M.st t = 1 ↔ M.R.2 t ≠ 0)
  wait : ∀ t : Nat, t < M.many → (M.st t = 2 ↔ ∃ v, v ∈ M.W ∧ v.1 = (t : Int))
  win : ∀ v, v ∈ M.W → 0 ≤ v.1 ∧ v.1 < (M.many : Int)
  time : ∀ t : Nat, t < M.many → M.T (t : Int) ≠ 0 → M.st t = 2 ∨ M.st t = 3
  pr : ∀ t, t < M.many → M.st t ≠ 4 → 0 ≤ M.prio t ∧ M.prio t < 32
  live : ∀ t, t < M.many → M.st t = 1 ∨ M.st t = 2 ∨ M.st t = 3 ∨ M.st t = 4
theorem mem_remW {W : List WaitT} {t : Int} {v : WaitT} : v ∈ remW W t ↔ v ∈ W ∧ v.1 ≠ t := by
  unfold remW
  rw [List.mem_filter]
  simp
theorem remT_at (R : RkT) (t : Nat) (h : t < 16) (x : Nat) : (remT R (t : Int)).2 x = if x = t then 0 else R.2 x := by
  unfold remT canRem
  by_cases hc : (0 ≤ (t : Int) ∧ (t : Int) < 16) ∧ R.2 ((t : Int)).toNat ≠ 0
  · rw [if_pos (decide_eq_true hc)]
    show (if x = ((t : Int)).toNat then 0 else R.2 x) = _
    rfl
  · rw [if_neg (by simpa using hc)]
    have h0 : R.2 t = 0 := by
      by_cases e : R.2 t = 0
      · exact e
      · exact absurd ⟨⟨by omega, by omega⟩, e⟩ hc
    split
    · rename_i e; rw [e, h0]
    · rfl
theorem addT_at (R : RkT) (t : Nat) (h : t < 16) (p : Int) (hp : 0 ≤ p ∧ p < 32) (h0 : R.2 t = 0) (x : Nat) : (addT R (t : Int) p).2 x = if x = t then p.toNat + 1 else R.2 x := by
  unfold addT canAdd
  rw [if_pos (decide_eq_true ⟨⟨by omega, by omega⟩, hp, h0⟩)]
  rfl
theorem turnT_at (R : RkT) (t : Nat) (h : t < 16) (hs : R.2 t ≤ 32) (x : Nat) : (turnT R (t : Int)).2 x = R.2 x := by
  unfold turnT
  split
  · rename_i hc
    have hc' := of_decide_eq_true hc
    have hne : R.2 t ≠ 0 := hc'.2
    have hp : prioT R (t : Int) = R.2 t - 1 := by unfold prioT; rw [if_pos hc]; rfl
    rw [hp, addT_at _ t h _ (by omega) (by rw [remT_at R t h, if_pos rfl]) x]
    split
    · rename_i e
      rw [e]
      omega
    · rename_i e
      rw [remT_at R t h, if_neg e]
  · rfl
section
variable {M : ScM}
theorem Inv.congr {M' : ScM} (h : Inv M) (h1 : M'.many = M.many) (h2 : M'.prio = M.prio) (h3 : M'.st = M.st) (h4 : ∀ t, t < M.many → (M'.R.2 t ≠ 0 ↔ M.R.2 t ≠ 0)) (h5 : ∀ t : Nat, M'.T (t : Int) ≠ 0 → M.T (t : Int) ≠ 0) (h6 : M'.W = M.W) : Inv M' where
  le := h1 ▸ h.le
  row := fun t ht => by rw [h1] at ht; rw [h3, h4 t ht]; exact h.row t ht
  wait := fun t ht => by rw [h1] at ht; rw [h3, h6]; exact h.wait t ht
  win := fun v hv => by rw [h1]; rw [h6] at hv; exact h.win v hv
  time := fun t ht hT => by rw [h1] at ht; rw [h3]; exact h.time t ht (h5 t hT)
  pr := fun t ht hs => by rw [h1] at ht; rw [h2]; rw [h3] at hs; exact h.pr t ht hs
  live := fun t ht => by rw [h1] at ht; rw [h3]; exact h.live t ht
theorem Inv.give (h : Inv M) (t : Nat) (x : Bool × Int × Int) : Inv (giveM M t x) := by
  unfold giveM
  split
  · exact h.congr rfl rfl rfl (fun _ _ => Iff.rfl) (fun _ h => h) rfl
  · exact h
theorem Inv.clear (h : Inv M) (t : Nat) : Inv (clearM M t) := h.congr rfl rfl rfl (fun _ _ => Iff.rfl) (fun _ h => h) rfl
theorem Inv.yield (h : Inv M) (hr : ∀ t, t < 16 → M.R.2 t ≤ 32) (t : Nat) (ht : t < M.many) : Inv (yieldM M t) := by
  unfold yieldM
  have := h.le
  exact Inv.give (Inv.congr (M' := { M with R := turnT M.R (t : Int) }) h rfl rfl rfl (fun x hx => by show (turnT M.R (t : Int)).2 x ≠ 0 ↔ _; rw [turnT_at M.R t (by omega) (hr t (by omega))]) (fun _ h => h) rfl) t _
theorem Inv.over (h : Inv M) (t : Nat) (ht : t < M.many) (x : Bool × Int × Int) (M' : ScM) (hm : M'.many = M.many) (hp : M'.prio = M.prio) (hst : M'.st = M.st) (hR : M'.R = M.R) (hT : ∀ z : Nat, M'.T (z : Int) ≠ 0 → M.T (z : Int) ≠ 0 ∧ z ≠ t) (hW : M'.W = remW M.W (t : Int)) (hs : M.st t ≠ 2 → M'.W = M.W) :
    Inv (resumeM M' t x) := by
  have hle := h.le
  unfold resumeM
  rw [hst]
  split
  · rename_i h1
    unfold wakeM
    rw [hst, if_pos h1, hR, hp]
    have h0 : M.R.2 t = 0 := by
      by_cases e : M.R.2 t = 0
      · exact e
      · have := (h.row t ht).2 e; omega
    have hpr := h.pr t ht (by omega)
    refine ⟨by show M'.many ≤ 16; rw [hm]; exact h.le, fun x hx => ?_, fun x hx => ?_, fun v hv => ?_, fun x hx hT' => ?_, fun x hx hs' => ?_, fun x hx => ?_⟩
    · have hx : x < M.many := hm ▸ hx
      show upd M.st t 1 x = 1 ↔ (addT M.R (t : Int) (M.prio t)).2 x ≠ 0
      rw [addT_at M.R t (by omega) _ hpr h0]
      by_cases e : x = t
      · rw [e, upd_at, if_pos rfl]; constructor <;> intro _ <;> omega
      · rw [upd_ne _ _ e, if_neg e]; exact h.row x hx
    · have hx : x < M.many := hm ▸ hx
      show upd M.st t 1 x = 2 ↔ ∃ v, v ∈ M'.W ∧ v.1 = (x : Int)
      rw [hW]
      by_cases e : x = t
      · subst e
        rw [upd_at]
        constructor
        · intro h; omega
        · rintro ⟨v, hv, e⟩; exact absurd e (mem_remW.1 hv).2
      · rw [upd_ne _ _ e, h.wait x hx]
        constructor
        · rintro ⟨v, hv, e'⟩; exact ⟨v, mem_remW.2 ⟨hv, by omega⟩, e'⟩
        · rintro ⟨v, hv, e'⟩; exact ⟨v, (mem_remW.1 hv).1, e'⟩
    · have hv' : v ∈ M'.W := hv
      rw [hW] at hv'
      show 0 ≤ v.1 ∧ v.1 < (M'.many : Int)
      rw [hm]
      exact h.win v (mem_remW.1 hv').1
    · have hx : x < M.many := hm ▸ hx
      show upd M.st t 1 x = 2 ∨ upd M.st t 1 x = 3
      have := hT x hT'
      rw [upd_ne _ _ this.2]
      exact h.time x hx this.1
    · have hx : x < M.many := hm ▸ hx
      have hs'' : upd M.st t 1 x ≠ 4 := hs'
      show 0 ≤ M.prio x ∧ M.prio x < 32
      by_cases e : x = t
      · subst e; exact hpr
      · rw [upd_ne _ _ e] at hs''; exact h.pr x hx hs''
    · have hx : x < M.many := hm ▸ hx
      show upd M.st t 1 x = 1 ∨ upd M.st t 1 x = 2 ∨ upd M.st t 1 x = 3 ∨ upd M.st t 1 x = 4
      by_cases e : x = t
      · subst e; rw [upd_at]; omega
      · rw [upd_ne _ _ e]; exact h.live x hx
  · rename_i h1
    exact h.congr hm hp hst (fun x _ => by rw [hR]) (fun z hz => (hT z hz).1) (hs (by omega))
theorem remW_none {W : List WaitT} {t : Int} (h : ¬ ∃ v, v ∈ W ∧ v.1 = t) : remW W t = W := by
  unfold remW
  exact List.filter_eq_self.2 fun v hv => by simpa using fun e => h ⟨v, hv, e⟩
theorem Inv.overT (h : Inv M) (t : Nat) (ht : t < M.many) (h0 : M.T (t : Int) = 0) : Inv (overM M (t : Int)) := by
  unfold overM
  refine h.over t ht _ _ rfl rfl rfl rfl (fun z hz => ⟨hz, ?_⟩) rfl (fun hs => remW_none fun e => hs ((h.wait t ht).2 e))
  rintro rfl
  exact hz h0
theorem over_T (t : Int) : (overM M t).T = M.T := by
  unfold overM resumeM
  split
  · unfold wakeM; split <;> rfl
  · rfl
theorem over_many (t : Int) : (overM M t).many = M.many := by
  unfold overM resumeM
  split
  · unfold wakeM; split <;> rfl
  · rfl
theorem Inv.overs : ∀ (l : List Int) (M : ScM), Inv M → (∀ t, t ∈ l → (0 ≤ t ∧ t < (M.many : Int)) ∧ M.T t = 0) → Inv (l.foldl overM M)
  | [], M, h, _ => h
  | t :: l, M, h, hl => by
    obtain ⟨⟨h1, h2⟩, h3⟩ := hl t (.head _)
    obtain ⟨n, rfl⟩ := Int.eq_ofNat_of_zero_le h1
    exact Inv.overs l _ (h.overT n (by omega) h3) fun z hz => by rw [over_T, over_many]; exact hl z (.tail _ hz)
theorem Inv.tick (h : Inv M) {l : List Int} (hl : ToldN M.T l) (hin : ∀ t, M.T t ≠ 0 → 0 ≤ t ∧ t < (M.many : Int)) : Inv (tickM M l) := by
  unfold tickM
  refine Inv.overs l _ (h.congr rfl rfl rfl (fun _ _ => Iff.rfl) (fun t ht => ?_) rfl) fun t ht => ?_
  · intro e
    have ht' : M.T (t : Int) - 1 ≠ 0 := ht
    omega
  · have h1 := (hl.one t).1 ht
    exact ⟨hin t (by omega), by show M.T t - 1 = 0; omega⟩
end
end Go.Proofs.YthnmlklgbggmbaaGreat
namespace Go.Proofs.YthnmlklgbggmbaaGreat
open Go.ChangeShapes Go.WideShapes Go.ChangeAt Go.RowKit
set_option linter.unusedVariables false
set_option linter.unusedSimpArgs false
set_option maxRecDepth 20000 in
set_option maxHeartbeats 2000000 in
theorem disp_any (w : World) (P : Nat → Prop) (a : ScA) (M : ScM) (h : ScW w P a M)  :
    Calls Tryz.prog 76 #[.pointer (some ⟨a.s, 0, none⟩)] w fun e w' => e = .returned (.tuple #[.int .i64 (firstM M), .bool (firstM M != M.cur)]) ∧ ScW w' P a (dispM M) ∧ KeepsS P w w' := by
  have c33 := h.cCur
  have f33 := h.free 33
  have c34 := h.cRk
  have HF := Lib.hid (sc_rfirst w P a M h)
  have hc : firstM M = -1 ∨ (0 ≤ firstM M ∧ firstM M < (M.many : Int)) := by
    unfold firstM
    cases hl : listT M.R with
    | nil => exact .inl rfl
    | cons x r =>
      have := h.inRow (t := x) (by rw [hl]; exact .head _)
      refine .inr ?_
      simp only [List.isEmpty_cons, List.headD_cons, Bool.false_eq_true, if_false]
      omega
  have HC := Lib.hid (h.setCur (firstM M) hc)
  have HK := Lib.hid (show KeepsS P w (w.setCell ⟨a.s, 33, none⟩ (.int .i64 (firstM M))) from by
    obtain ⟨cs, hb, _⟩ := h.blk
    exact (Keeps.refl _ w).setCell (.inl ⟨h.low.1, _, .head _, _, _, hb⟩) _)
  clear h hc
  unfold dispM
  unfold firstM at HC HK ⊢
  cases hl : listT M.R with
  | nil =>
    rw [hl] at HC HK HF
    simp only [List.isEmpty_nil, if_true, Bool.not_true, List.headD_nil] at HC HK HF ⊢
    go_enter Tryz.func76, Tryz.ntmps76
    go_wp2_with fail
    refine HF.out.mono ?_
    rintro e w' ⟨rfl, rfl⟩
    go_wp2_with fail
    refine bodyPost_ret (v := .tuple #[.int .i64 (-1), .bool (-1 != M.cur)]) (by simp [results, Tryz.results76, go_sem]) rfl ⟨rfl, HC.out, HK.out⟩
  | cons x r =>
    rw [hl] at HC HK HF
    simp only [List.isEmpty_cons, List.headD_cons, Bool.false_eq_true, if_false, Bool.not_false] at HC HK HF ⊢
    go_enter Tryz.func76, Tryz.ntmps76
    go_wp2_with fail
    refine HF.out.mono ?_
    rintro e w' ⟨rfl, rfl⟩
    go_wp2_with fail
    refine bodyPost_ret (v := .tuple #[.int .i64 (x : Int), .bool ((x : Int) != M.cur)]) (by simp [results, Tryz.results76, go_sem]) rfl ⟨rfl, HC.out, HK.out⟩
end Go.Proofs.YthnmlklgbggmbaaGreat
namespace Go.Proofs.YthnmlklgbggmbaaGreat
open Go.ChangeShapes Go.WideShapes Go.ChangeAt Go.RowKit
set_option linter.unusedVariables false
set_option linter.unusedSimpArgs false
def rk0 : RkT := (fun _ => [], fun _ => 0)
theorem rk_fresh : ∃ zs : Array Value, (∀ w, (zeroValue 154).run Tryz.prog w = .ok (.agg zs) w) ∧ ∀ (w : World) (b : Nat), w.heap[b]? = some (.cells zs 154 (0, 0)) → RkS w b rk0 := by
  obtain ⟨zs, _, hb, hs, h3, h4, h5, h6⟩ := rk_zeros
  refine ⟨zs, hb, fun w b h => ⟨fun _ _ => 0, fun _ => 0, 0, ⟨zs, h, hs, h3, h4, h5, h6⟩, ?_⟩⟩
  refine ⟨fun p hp => rfl, fun p i t hp hi => ?_, fun p hp => List.nodup_nil, fun p t hp => ?_, fun t ht => Nat.zero_le _, by omega, fun p hp => ?_⟩
  · simp [rk0] at hi
  · simp [rk0]
  · simp [rk0]
end Go.Proofs.YthnmlklgbggmbaaGreat
namespace Go.Proofs.YthnmlklgbggmbaaGreat
open Go.ChangeShapes Go.WideShapes Go.ChangeAt Go.RowKit
set_option linter.unusedVariables false
set_option linter.unusedSimpArgs false
theorem keepsF {w x y : World} (h : Keeps (fun _ => False) w x) (k : KeepsS (fun k => w.heap.size ≤ k) x y) : Keeps (fun _ => False) w y :=
  ⟨k.os.trans h.os, k.tape.trans h.tape, k.output.trans h.output, Nat.le_trans h.size k.size, fun i hi _ => (k.block i (Nat.lt_of_lt_of_le hi h.size) fun e => by have := e.1; omega).trans (h.block i hi fun e => e)⟩
theorem cell_farS {w : World} {p q : Addr} {v : Value} (h : w.cell? q = some v) (hne : q.block ≠ p.block) (u : Value) : (w.setCell p u).cell? q = some v :=
  (World.cell?_of_block (w := w) (Below.heap_setCell w p u q.block hne)).trans h
theorem upd_upd {α : Type} (f : Nat → α) (t : Nat) (x y : α) : upd (upd f t x) t y = upd f t y := by
  funext j
  unfold upd
  split <;> rfl
structure PriosAt (w : World) (la : Option Addr) (n : Nat) (L : List Int) : Prop where
  len : L.length = n
  lies : 0 < n → ∃ b off, la = some ⟨b, off, none⟩ ∧ b < w.heap.size ∧ ∀ (k : Nat) (p : Int), L[k]? = some p → w.cell? ⟨b, off + k * 3, none⟩ = some (.int .i64 p)
def zeroM : ScM := { many := 0, cur := -1, prio := fun _ => 0, st := fun _ => 1, bits := fun _ => 0, ans := fun _ => none, R := rk0, T := fun _ => 0, W := [] }
def bornM (M : ScM) (p : Int) : ScM := { M with many := M.many + 1, prio := upd M.prio M.many p, st := upd M.st M.many 1, bits := upd M.bits M.many 0, ans := upd M.ans M.many none }
def addM (M : ScM) (p : Int) : ScM := if canAdd M.R.2 (M.many : Int) p then { bornM M p with R := addT M.R (M.many : Int) p } else { bornM M p with st := upd M.st M.many 4 }
def newM (L : List Int) : ScM := (L.take 16).foldl addM zeroM
theorem add_many (M : ScM) (p : Int) : (addM M p).many = M.many + 1 := by unfold addM; split <;> rfl
theorem add_no (M : ScM) (p : Int) (hc : canAdd M.R.2 (M.many : Int) p = false) : goM { bornM M p with R := addT M.R (M.many : Int) p } M.many 4 = addM M p := by
  have hst : ({ bornM M p with R := addT M.R (M.many : Int) p } : ScM).st M.many = 1 := upd_at _ _ _
  unfold goM
  rw [if_pos hst]
  unfold addM addT
  rw [if_neg (by rw [hc]; simp), if_neg (by rw [hc]; simp)]
  show ({ bornM M p with R := M.R, st := upd (upd M.st M.many 1) M.many 4 } : ScM) = _
  rw [upd_upd]
  rfl
theorem adds_many : ∀ (L : List Int) (M : ScM), (L.foldl addM M).many = M.many + L.length
  | [], _ => rfl
  | p :: L, M => by
    have := adds_many L (addM M p)
    rw [add_many] at this
    show ((L.foldl addM (addM M p))).many = _
    rw [this, List.length_cons]
    omega
theorem adds_take {M : ScM} {L : List Int} {q : Nat} {p : Int} (h : L[q]? = some p) : (L.take (q + 1)).foldl addM M = addM ((L.take q).foldl addM M) p := by
  rw [List.take_add_one, h]
  simp
theorem ScW.born {w w1 : World} {P : Nat → Prop} {a : ScA} {M : ScM} (h : ScW w P a M) (hlt : M.many < 16) (hk : Keeps (fun _ => False) w w1) {b : Nat} (hb : IsTask w1 b 1 ((0 : Nat) : Int) none) (hnew : w.heap.size ≤ b) (p : Int) :
    ScW ((w1.setCell ⟨a.s, M.many, none⟩ (.pointer (some ⟨b, 0, none⟩))).setCell ⟨a.s, 16 + M.many, none⟩ (.int .i64 p)) P { a with tb := upd a.tb M.many b } (bornM M p) := by
  have h1 := h.quiet hk
  obtain ⟨cs, hbk, hc⟩ := h1.blk
  have hkt : KeepsTy [100] w1 ((w1.setCell ⟨a.s, M.many, none⟩ (.pointer (some ⟨b, 0, none⟩))).setCell ⟨a.s, 16 + M.many, none⟩ (.int .i64 p)) :=
    ((Keeps.refl _ w1).setCell (p := ⟨a.s, M.many, none⟩) (.inl ⟨_, .head _, _, _, hbk⟩) _).setCell (p := ⟨a.s, 16 + M.many, none⟩) (.inl ⟨_, .head _, _, _, hbk⟩) _
  have hold : ∀ j, j < M.many → a.tb j ≠ b := fun j hj e => by have := (h.task j hj).lt; omega
  refine { blk := ⟨_, heap_set (heap_set hbk _ _) _ _, ⟨by simpa using hc.size, fun t ht => ?_, fun t ht => ?_, ?_, ?_, ?_, ?_, ?_⟩⟩, le := hlt, task := fun j hj => ?_, inj := fun i j hi hj e => ?_, live := fun j hj => ?_, small := fun j hj => ?_, rank := rank_kept h1.rank hkt (by decide), delta := h1.deltaK hkt (by decide) (by decide), tin := fun t ht => ?_, queue := h1.queueK hkt (by decide) (by decide), low := ⟨h.low.1, h.low.2.1, h.low.2.2.1, h.low.2.2.2.1, fun t ht => ?_⟩, new := h1.newK hkt, cin := ?_, rin := fun t ht hR => ?_ }
  · show ((cs.setIfInBounds M.many _).setIfInBounds (16 + M.many) _)[t]? = some (.pointer (if t < M.many + 1 then some ⟨upd a.tb M.many b t, 0, none⟩ else none))
    rw [Array.getElem?_setIfInBounds_ne (by omega)]
    by_cases e : t = M.many
    · subst e
      rw [Array.getElem?_setIfInBounds_self_of_lt (by rw [hc.size]; omega), if_pos (by omega), upd_at]
    · rw [Array.getElem?_setIfInBounds_ne (fun h => e h.symm), hc.task t ht, upd_ne _ _ e]
      by_cases e2 : t < M.many
      · rw [if_pos e2, if_pos (by omega)]
      · rw [if_neg e2, if_neg (by omega)]
  · show ((cs.setIfInBounds M.many _).setIfInBounds (16 + M.many) _)[16 + t]? = some (.int .i64 (upd M.prio M.many p t))
    by_cases e : t = M.many
    · subst e
      rw [Array.getElem?_setIfInBounds_self_of_lt (by rw [Array.size_setIfInBounds, hc.size]; omega), upd_at]
    · rw [Array.getElem?_setIfInBounds_ne (by omega), Array.getElem?_setIfInBounds_ne (by omega), hc.prio t ht, upd_ne _ _ e]
  · rw [Array.getElem?_setIfInBounds_ne (by omega), Array.getElem?_setIfInBounds_ne (by omega)]; exact hc.many
  · rw [Array.getElem?_setIfInBounds_ne (by omega), Array.getElem?_setIfInBounds_ne (by omega)]; exact hc.cur
  · rw [Array.getElem?_setIfInBounds_ne (by omega), Array.getElem?_setIfInBounds_ne (by omega)]; exact hc.rk
  · rw [Array.getElem?_setIfInBounds_ne (by omega), Array.getElem?_setIfInBounds_ne (by omega)]; exact hc.D
  · rw [Array.getElem?_setIfInBounds_ne (by omega), Array.getElem?_setIfInBounds_ne (by omega)]; exact hc.Q
  · have hj' : j < M.many + 1 := hj
    show IsTask _ (upd a.tb M.many b j) (upd M.st M.many 1 j) ((upd M.bits M.many 0 j : Nat) : Int) (upd M.ans M.many none j)
    by_cases e : j = M.many
    · subst e
      rw [upd_at, upd_at, upd_at, upd_at]
      exact task_kept hb hkt (KeepsTy.apart (task_ty hb) (by decide)) fun k ⟨T, hT, hk⟩ hk' => hk'.ne hk (by rw [List.mem_singleton.1 hT]; decide) rfl
    · rw [upd_ne _ _ e, upd_ne _ _ e, upd_ne _ _ e, upd_ne _ _ e]
      exact h1.taskK hkt (by decide) (by decide) j (by omega)
  · have hi' : i < M.many + 1 := hi
    have hj' : j < M.many + 1 := hj
    have e' : upd a.tb M.many b i = upd a.tb M.many b j := e
    by_cases e1 : i = M.many
    · by_cases e2 : j = M.many
      · omega
      · rw [e1, upd_at, upd_ne _ _ e2] at e'
        exact absurd e'.symm (hold j (by omega))
    · by_cases e2 : j = M.many
      · rw [e2, upd_at, upd_ne _ _ e1] at e'
        exact absurd e' (hold i (by omega))
      · rw [upd_ne _ _ e1, upd_ne _ _ e2] at e'
        exact h.inj i j (by omega) (by omega) e'
  · have hj' : j < M.many + 1 := hj
    show upd M.st M.many 1 j = 1 ∨ upd M.st M.many 1 j = 2 ∨ upd M.st M.many 1 j = 3 ∨ upd M.st M.many 1 j = 4
    by_cases e : j = M.many
    · rw [e, upd_at]; exact .inl rfl
    · rw [upd_ne _ _ e]; exact h.live j (by omega)
  · have hj' : j < M.many + 1 := hj
    show upd M.bits M.many 0 j < 4294967296
    by_cases e : j = M.many
    · rw [e, upd_at]; omega
    · rw [upd_ne _ _ e]; exact h.small j (by omega)
  · have := h.tin t ht
    show 0 ≤ t ∧ t < ((M.many + 1 : Nat) : Int)
    omega
  · have ht' : t < M.many + 1 := ht
    show P (upd a.tb M.many b t)
    by_cases e : t = M.many
    · rw [e, upd_at]; exact h.new b hnew
    · rw [upd_ne _ _ e]; exact h.low.2.2.2.2 t (by omega)
  · show M.cur = -1 ∨ (0 ≤ M.cur ∧ M.cur < ((M.many + 1 : Nat) : Int))
    have := h.cin
    omega
  · have := h.rin t ht hR
    show t < M.many + 1
    omega
theorem ScW.cNil {w : World} {P : Nat → Prop} {a : ScA} {M : ScM} (h : ScW w P a M) (t : Nat) (h1 : M.many ≤ t) (h2 : t < 16) : w.cell? ⟨a.s, t, none⟩ = some (.pointer none) := h.cell t fun cs hc => by
  rw [hc.task t h2, if_neg (by omega)]
end Go.Proofs.YthnmlklgbggmbaaGreat
namespace Go.Proofs.YthnmlklgbggmbaaGreat
open Go.ChangeShapes Go.WideShapes Go.ChangeAt Go.RowKit
set_option linter.unusedVariables false
set_option linter.unusedSimpArgs false
set_option maxRecDepth 100000 in
set_option maxHeartbeats 8000000 in
theorem snew_any (w : World) (la : Option Addr) (n lc : Nat) (L : List Int) (hL : PriosAt w la n L) (hn63 : n ≤ 9223372036854775807) :
    Calls Tryz.prog 33 #[.slice la n lc] w fun e w' => ∃ a, e = .returned (.pointer (some ⟨a.s, 0, none⟩)) ∧ a.n = (newM L).many ∧ ScW w' (fun k => w.heap.size ≤ k) a (dispM (newM L)) ∧ Keeps (fun _ => False) w w' := by
  obtain ⟨zs, hzb, hz⟩ := rk_fresh
  have HZ := Lib.hid hz
  have HL := Lib.hid hL
  clear hz hL
  go_enter Tryz.func33, Tryz.ntmps33
  go_wp2_with fail
  obtain ⟨N, hN, hN2⟩ : ∃ N : Nat, min (n : Int) 16 = (N : Int) ∧ N = min n 16 := ⟨min n 16, by omega, rfl⟩
  rw [hN]
  generalize hW4 : World.alloc (World.alloc (World.alloc (World.alloc w _) _) _) _ = W4
  have hK4 : Keeps (fun _ => False) w W4 := by
    rw [← hW4]
    exact ((((Keeps.refl _ w).alloc _).alloc _).alloc _).alloc _
  have hblk : ∃ cs, W4.heap[w.heap.size + 1 + 1 + 1]? = some (.cells cs 100 (0, 0)) ∧ ScCells cs ⟨N, w.heap.size + 1 + 1 + 1, fun _ => 0, w.heap.size, w.heap.size + 1, w.heap.size + 1 + 1⟩ zeroM := by
    rw [← hW4]
    have hh := heap_new (((w.alloc (.cells zs 154)).alloc (.cells #[.pointer none] 157)).alloc (.cells #[.int .i64 0, .int .i64 0, .int .i64 0, .int .u32 0, .pointer none, .pointer none] 162))
    rw [World.size_alloc, World.size_alloc, World.size_alloc] at hh
    refine ⟨_, hh _, ⟨rfl, fun t ht => ?_, fun t ht => ?_, rfl, rfl, rfl, rfl, rfl⟩⟩
    · rcases (by omega : t = 0 ∨ t = 1 ∨ t = 2 ∨ t = 3 ∨ t = 4 ∨ t = 5 ∨ t = 6 ∨ t = 7 ∨ t = 8 ∨ t = 9 ∨ t = 10 ∨ t = 11 ∨ t = 12 ∨ t = 13 ∨ t = 14 ∨ t = 15) with rfl | rfl | rfl | rfl | rfl | rfl | rfl | rfl | rfl | rfl | rfl | rfl | rfl | rfl | rfl | rfl <;> rfl
    · rcases (by omega : t = 0 ∨ t = 1 ∨ t = 2 ∨ t = 3 ∨ t = 4 ∨ t = 5 ∨ t = 6 ∨ t = 7 ∨ t = 8 ∨ t = 9 ∨ t = 10 ∨ t = 11 ∨ t = 12 ∨ t = 13 ∨ t = 14 ∨ t = 15) with rfl | rfl | rfl | rfl | rfl | rfl | rfl | rfl | rfl | rfl | rfl | rfl | rfl | rfl | rfl | rfl <;> rfl
  have hrk : W4.heap[w.heap.size]? = some (.cells zs 154 (0, 0)) := by rw [← hW4]; exact heap_old (heap_old (heap_old (heap_new w _) _) _) _
  have hdl : W4.heap[w.heap.size + 1]? = some (.cells #[.pointer none] 157 (0, 0)) := by
    rw [← hW4]
    have hh := heap_new (w.alloc (.cells zs 154))
    rw [World.size_alloc] at hh
    exact heap_old (heap_old (hh _) _) _
  have hqu : W4.heap[w.heap.size + 1 + 1]? = some (.cells #[.int .i64 0, .int .i64 0, .int .i64 0, .int .u32 0, .pointer none, .pointer none] 162 (0, 0)) := by
    rw [← hW4]
    have hh := heap_new ((w.alloc (.cells zs 154)).alloc (.cells #[.pointer none] 157))
    rw [World.size_alloc, World.size_alloc] at hh
    exact heap_old (hh _) _
  have h4 : ScW W4 (fun k => w.heap.size ≤ k) ⟨N, w.heap.size + 1 + 1 + 1, fun _ => 0, w.heap.size, w.heap.size + 1, w.heap.size + 1 + 1⟩ zeroM :=
    { blk := hblk
      le := Nat.zero_le _
      task := fun t ht => absurd ht (Nat.not_lt_zero _)
      inj := fun i j hi _ _ => absurd hi (Nat.not_lt_zero _)
      live := fun t ht => absurd ht (Nat.not_lt_zero _)
      small := fun t ht => absurd ht (Nat.not_lt_zero _)
      rank := HZ.out _ _ hrk
      delta := ⟨[], ⟨hdl, fun i nd hi => by simp at hi, fun i j a b hi => by simp at hi⟩, Abs.nil, fun i nd hi => by simp at hi⟩
      tin := fun t ht => absurd rfl ht
      queue := ⟨[], false, ⟨hqu, fun i x hi => by simp at hi, fun i j a b hi => by simp at hi, fun _ => rfl⟩, good_nil, rfl, fun x hx => by cases hx⟩
      low := ⟨by show w.heap.size ≤ w.heap.size + 1 + 1 + 1; omega, Nat.le_refl _, by show w.heap.size ≤ w.heap.size + 1; omega, by show w.heap.size ≤ w.heap.size + 1 + 1; omega, fun t ht => absurd ht (Nat.not_lt_zero _)⟩
      new := fun k hk => Nat.le_trans hK4.size hk
      cin := .inl rfl
      rin := fun t _ hR => absurd rfl hR }
  have H4 := Lib.hid (And.intro h4 hK4)
  have HLL := Lib.hid HL.out.len
  have HN2 := Lib.hid hN2
  clear hN2 h4 hK4 hW4 hN hblk hrk hdl hqu
  go_loopw [26] (fun i wr => ∃ q : Nat, q ≤ N ∧ i = .int .i64 (q : Int) ∧ ∃ tb, ScW wr (fun k => w.heap.size ≤ k) ⟨N, w.heap.size + 1 + 1 + 1, tb, w.heap.size, w.heap.size + 1, w.heap.size + 1 + 1⟩ ((L.take q).foldl addM zeroM) ∧ Keeps (fun _ => False) w wr) (fun i _ => N - (intOf i).toNat)
  case atStart => exact ⟨0, Nat.zero_le _, rfl, _, H4.out.1, H4.out.2⟩
  case round =>
    obtain ⟨q, hq, rfl, tb, hS, hK⟩ := hrel
    by_cases hlt : q < N
    · have hqn : q < n := by have := HN2.out; omega
      have hq16 : q < 16 := by have := HN2.out; omega
      obtain ⟨b, off, rfl, hbl, hcs⟩ := HL.out.lies (by omega)
      obtain ⟨p, hp⟩ : ∃ p, L[q]? = some p := ⟨_, List.getElem?_eq_getElem (by rw [HLL.out]; exact hqn)⟩
      have cp : wr.cell? ⟨b, off + q * 3, none⟩ = some (.int .i64 p) := (World.cell?_of_block (a := ⟨b, off + q * 3, none⟩) (hK.block b hbl fun e => e)).trans (hcs q p hp)
      have HMQ := Lib.hid (show ((L.take q).foldl addM zeroM).many = q by rw [adds_many]; show 0 + _ = q; rw [List.length_take, HLL.out]; have := HN2.out; omega)
      have HTK := Lib.hid (adds_take (M := zeroM) hp)
      generalize (L.take q).foldl addM zeroM = Mq at *
      have HS := Lib.hid (And.intro hS hK)
      have hmq := HMQ.out
      have cn := hS.cNil q (by omega) hq16
      have cpr := hS.cPrio q hq16
      have fr := hS.free
      have hsl := hS.lt
      have hbw : b < wr.heap.size := Nat.lt_of_lt_of_le hbl hK.size
      have hbs : b ≠ w.heap.size + 1 + 1 + 1 := by omega
      have HWS := Lib.hid hK.size
      have d1 : decide (q < N) = true := decide_eq_true hlt
      have d1' : decide ((q : Int) < (N : Int)) = true := decide_eq_true (by omega)
      have d2 : decide ((q : Int) < 16) = true := decide_eq_true (by omega)
      have d3 : (0 : Int) ≤ (q : Int) := by omega
      have d4 : (q : Int) < 16 := by omega
      have d5 : (q : Int) < (n : Int) := by omega
      have HLT := Lib.hid (And.intro hlt (And.intro hqn hq16))
      have hcp0 := hcs q p hp
      clear hS hK hcs hp hmq
      go_wp2_with fail
      go_region_held3 (fun w' => w'.cell? ⟨b, off + q * 3, none⟩ = some (.int .i64 p))
        (first
          | go_keep
          | exact cp
          | exact z0
          | exact cell_farS z0 hbs _
          | exact cell_farS (cell_farS z0 hbs _) hbs _)
        ((go_at_call 73; refine (new_any _).mono ?_; rintro e w2 ⟨rfl, hT, hk2⟩; have hkk : Keeps (fun _ => False) wr w2 := Keeps.trans (by first | exact (Keeps.refl _ _).drew | exact (Keeps.refl _ _).drewN _ | exact Keeps.refl _ _) hk2; have z0 : w2.cell? ⟨b, off + q * 3, none⟩ = some (.int .i64 p) := (World.cell?_of_block (a := ⟨b, off + q * 3, none⟩) (hkk.block b hbw fun e => e)).trans cp; have h2 := HS.out.1.quiet hkk; have y1 := h2.cNil q (by have := HMQ.out; omega) HLT.out.2.2; have y2 := h2.cPrio q HLT.out.2.2; have y3 := h2.free; have y4 := h2.lt; have HT2 := Lib.hid (And.intro hT hkk); clear hT hk2 hkk h2))
      have h3 : ScW ((w2.setCell ⟨w.heap.size + 1 + 1 + 1, q, none⟩ (.pointer (some ⟨wr.heap.size, 0, none⟩))).setCell ⟨w.heap.size + 1 + 1 + 1, 16 + q, none⟩ (.int .i64 p)) (fun k => w.heap.size ≤ k) ⟨N, w.heap.size + 1 + 1 + 1, upd tb q wr.heap.size, w.heap.size, w.heap.size + 1, w.heap.size + 1 + 1⟩ (bornM Mq p) := by
        have hb := HS.out.1.born (by rw [HMQ.out]; exact HLT.out.2.2) HT2.out.2 HT2.out.1 (Nat.le_refl _) p
        rw [HMQ.out] at hb
        exact hb
      have hK3 : Keeps (fun _ => False) w ((w2.setCell ⟨w.heap.size + 1 + 1 + 1, q, none⟩ (.pointer (some ⟨wr.heap.size, 0, none⟩))).setCell ⟨w.heap.size + 1 + 1 + 1, 16 + q, none⟩ (.int .i64 p)) :=
        (((HS.out.2.trans HT2.out.2).setCell (p := ⟨w.heap.size + 1 + 1 + 1, q, none⟩) (.inr (by show w.heap.size ≤ w.heap.size + 1 + 1 + 1; omega)) _).setCell (p := ⟨w.heap.size + 1 + 1 + 1, 16 + q, none⟩) (.inr (by show w.heap.size ≤ w.heap.size + 1 + 1 + 1; omega)) _)
      have z3 := cell_farS (cell_farS z0 (p := ⟨w.heap.size + 1 + 1 + 1, q, none⟩) hbs (.pointer (some ⟨wr.heap.size, 0, none⟩))) (p := ⟨w.heap.size + 1 + 1 + 1, 16 + q, none⟩) hbs (.int .i64 p)
      clear z0 y1 y2 y3 y4 cp cn cpr fr hsl
      generalize hW3 : World.setCell (World.setCell w2 _ _) _ _ = w3 at *
      clear hW3
      have HM3 := Lib.hid (show (bornM Mq p).many = q + 1 from congrArg (· + 1) HMQ.out)
      have c34 := h3.cRk
      have HST := Lib.hid (show (bornM Mq p).st q = 1 by show upd Mq.st Mq.many 1 q = 1; rw [HMQ.out]; exact upd_at _ _ _)
      have hbw3 : b < w3.heap.size := Nat.lt_of_lt_of_le hbl hK3.size
      have HK3 := Lib.hid hK3
      have HCP := Lib.hid hcp0
      cases hca : canAdd Mq.R.2 (q : Int) p with
      | true =>
        have HR := Lib.hid (fun W (hk : Keeps (fun _ => False) w3 W) => sc_radd W _ _ _ (h3.quiet hk) q (by rw [HM3.out]; omega) p)
        rw [show (bornM Mq p).R = Mq.R from rfl, hca] at HR
        clear h3 hK3
        go_wp2_with fail
        go_region_held3 (fun w' => w'.cell? ⟨w.heap.size + 1 + 1 + 1, 34, none⟩ = some (.pointer (some ⟨w.heap.size, 0, none⟩)) ∧ w'.cell? ⟨b, off + q * 3, none⟩ = some (.int .i64 p))
          (first
            | go_keep
            | exact ⟨c34, z3⟩
            | exact ⟨x34, x3⟩)
          ((go_at_call 74; refine (HR.out _ (by first | exact (Keeps.refl _ _).drew | exact (Keeps.refl _ _).drewN _ | exact Keeps.refl _ _)).mono ?_; rintro e w5 ⟨rfl, h5, k5⟩; have HK5 := Lib.hid (keepsF HK3.out (kS (by first | exact (Keeps.refl _ _).drew | exact (Keeps.refl _ _).drewN _ | exact Keeps.refl _ _) k5)); have H5 := Lib.hid h5; have x34 := h5.cRk; have x3 : w5.cell? ⟨b, off + q * 3, none⟩ = some (.int .i64 p) := (World.cell?_of_block (a := ⟨b, off + q * 3, none⟩) (HK5.out.block b hbl fun e => e)).trans HCP.out; clear h5 k5))
        go_wp2_with fail
        go_roundw
        case rel =>
          refine ⟨q + 1, by omega, by go_num, _, H5.out.same ?_, HK5.out⟩
          rw [HTK.out]
          unfold addM
          rw [HMQ.out, if_pos hca]
        case measure => simp [intOf]; omega
      | false =>
        have HR := Lib.hid (fun W (hk : Keeps (fun _ => False) w3 W) => sc_radd W _ _ _ (h3.quiet hk) q (by rw [HM3.out]; omega) p)
        rw [show (bornM Mq p).R = Mq.R from rfl, hca] at HR
        clear h3 hK3
        go_wp2_with fail
        go_region_held3 (fun w' => w'.cell? ⟨w.heap.size + 1 + 1 + 1, 34, none⟩ = some (.pointer (some ⟨w.heap.size, 0, none⟩)) ∧ w'.cell? ⟨b, off + q * 3, none⟩ = some (.int .i64 p))
          (first
            | go_keep
            | exact ⟨c34, z3⟩
            | exact ⟨x34, x3⟩)
          ((go_at_call 74; refine (HR.out _ (by first | exact (Keeps.refl _ _).drew | exact (Keeps.refl _ _).drewN _ | exact Keeps.refl _ _)).mono ?_; rintro e w5 ⟨rfl, h5, k5⟩; have HK5 := Lib.hid (keepsF HK3.out (kS (by first | exact (Keeps.refl _ _).drew | exact (Keeps.refl _ _).drewN _ | exact Keeps.refl _ _) k5)); have H5 := Lib.hid h5; have x34 := h5.cRk; have x3 : w5.cell? ⟨b, off + q * 3, none⟩ = some (.int .i64 p) := (World.cell?_of_block (a := ⟨b, off + q * 3, none⟩) (HK5.out.block b hbl fun e => e)).trans HCP.out; clear h5 k5))
        have ct5 := H5.out.cTask q (by show q < (bornM Mq p).many; rw [HM3.out]; omega)
        have HGO := Lib.hid (sc_go _ _ _ _ H5.out q (by show q < (bornM Mq p).many; rw [HM3.out]; omega) 4 (.inr (.inr rfl)))
        go_wp2_with fail
        refine HGO.out.mono ?_
        rintro e w6 ⟨rfl, h6, k6⟩
        have H6 := Lib.hid h6
        have HK6 := Lib.hid (keepsF HK5.out k6)
        clear h6 k6 HGO
        go_wp2_with fail
        go_roundw
        case rel =>
          refine ⟨q + 1, by omega, by go_num, _, H6.out.same ?_, HK6.out⟩
          rw [HTK.out, ← add_no Mq p (by rw [HMQ.out]; exact hca), HMQ.out]
        case measure => simp [intOf]; omega
    · obtain rfl : q = N := by omega
      have d1 : decide (q < q) = false := decide_eq_false (Nat.lt_irrefl _)
      have HFIN := Lib.hid (show (L.take q).foldl addM zeroM = newM L by unfold newM; rw [HN2.out]; congr 1; have := HLL.out; rw [show min n 16 = min 16 L.length by omega, ← List.take_take, List.take_length])
      have HMN := Lib.hid (show (newM L).many = q by rw [← HFIN.out, adds_many]; show 0 + _ = q; rw [List.length_take, HLL.out]; have := HN2.out; omega)
      rw [HFIN.out] at hS
      have HD := Lib.hid (disp_any wr _ _ _ hS)
      have HK := Lib.hid hK
      clear hS hK hlt
      go_wp2_with fail
      refine HD.out.mono ?_
      rintro e w7 ⟨rfl, h7, k7⟩
      have H7 := Lib.hid h7
      have HK7 := Lib.hid (keepsF HK.out k7)
      clear h7 k7 HD
      go_wp2_with fail
      go_ret
      exact ⟨_, rfl, HMN.out.symm, H7.out, HK7.out⟩

end Go.Proofs.YthnmlklgbggmbaaGreat
namespace Go.Proofs.YthnmlklgbggmbaaGreat
open Go.ChangeShapes Go.WideShapes Go.ChangeAt Go.RowKit
set_option linter.unusedVariables false
set_option linter.unusedSimpArgs false
def SameAns (w w' : World) (a : ScA) (M : ScM) : Prop := ∀ j, j < M.many → w'.cell? ⟨a.tb j, 2, none⟩ = w.cell? ⟨a.tb j, 2, none⟩
theorem SameAns.trans {w1 w2 w3 : World} {a : ScA} {M M' : ScM} (h : SameAns w1 w2 a M) (k : SameAns w2 w3 a M') (e : M'.many = M.many) : SameAns w1 w3 a M := fun j hj => (k j (e ▸ hj)).trans (h j hj)
end Go.Proofs.YthnmlklgbggmbaaGreat
