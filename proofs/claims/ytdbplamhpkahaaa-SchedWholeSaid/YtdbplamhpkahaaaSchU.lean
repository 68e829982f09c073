import Derived.Test.YtdbplamhpkahaaaSchS
namespace Go.Proofs.Ytdbplamhpkahaaa
open Go.ChangeShapes Go.WideShapes Go.ChangeAt Go.RowKit
set_option linter.unusedVariables false
set_option linter.unusedSimpArgs false
theorem waits_len : ∀ W : List WaitT, (waitsC W).length = W.length * 4
  | [] => rfl
  | v :: W => by
    have := waits_len W
    unfold waitsC at this ⊢
    rw [List.flatMap_cons, List.length_append, this]
    have e : (v :: W).length = W.length + 1 := rfl
    rw [e]
    show 4 + W.length * 4 = _
    omega
theorem waits_cell : ∀ (W : List WaitT) (q : Nat) (t : Int), (W.map fun v => v.1)[q]? = some t → (waitsC W)[q * 4]? = some (.int .i64 t)
  | [], q, t, h => by simp at h
  | v :: W, 0, t, h => by
    have e : v.1 = t := by simpa using h
    unfold waitsC
    rw [List.flatMap_cons, ← e]
    rfl
  | v :: W, q + 1, t, h => by
    have := waits_cell W q t (by simpa using h)
    unfold waitsC at this ⊢
    rw [List.flatMap_cons, show (q + 1) * 4 = 4 + q * 4 by omega, List.getElem?_append_right (by show 4 ≤ 4 + q * 4; omega)]
    show (List.flatMap _ W)[4 + q * 4 - 4]? = _
    rw [show 4 + q * 4 - 4 = q * 4 by omega]
    exact this
theorem waits_at {M : ScM} {q : Nat} {t : Int} (h : (rowW M)[q]? = some t) : (waitsC M.W)[q * 4]? = some (.int .i64 t) := waits_cell M.W q t h
theorem leaveM_many (M : ScM) (t : Nat) (s : Int) : (leaveM M t s).many = M.many := leave_many t s
theorem limitM_many (M : ScM) (t n : Nat) : (limitM M t n).many = M.many := by unfold limitM; split <;> rfl
theorem giveM_many (M : ScM) (t : Nat) (x : Bool × Int × Int) : (giveM M t x).many = M.many := by unfold giveM; split <;> rfl
theorem waitM_many (M : ScM) (t : Nat) (k o : Int) (m n : Nat) : (waitM M t k o m n).many = M.many := by
  unfold waitM
  split
  · rw [limitM_many]; exact leaveM_many M t 2
  · exact leaveM_many M t 2
theorem serve_many (M : ScM) (k o : Int) (m d b : Nat) : (serveM M k o m d b).1.many = M.many := by
  unfold serveM sleepM yieldM awaitM
  repeat' split
  all_goals first
    | rfl
    | exact leaveM_many _ _ _
    | exact giveM_many _ _ _
    | (rw [limitM_many]; exact leaveM_many _ _ _)
    | exact waitM_many _ _ _ _ _ _
theorem wakeS_many (M : ScM) (t : Nat) : (wakeS M t).many = M.many := by
  unfold wakeS resumeM
  have e : ({ endM M t with T := fun z => if z = (t : Int) then 0 else M.T z, W := remW M.W (t : Int) } : ScM).many = M.many := by
    unfold endM
    split <;> rfl
  generalize ({ endM M t with T := fun z => if z = (t : Int) then 0 else M.T z, W := remW M.W (t : Int) } : ScM) = M' at e
  split
  · rw [← e]; unfold wakeM; split <;> rfl
  · exact e
/-- What any step makes of a scheduler that is right. -/
def Went (w : World) (P : Nat → Prop) (a : ScA) (M : ScM) (e : Ending) (w' : World) : Prop := ∃ v M', e = .returned v ∧ ScW w' P a M' ∧ Inv M' ∧ M'.many = M.many ∧ KeepsS P w w'
section
variable (w : World) (P : Nat → Prop) (a : ScA) (M : ScM) (h : ScW w P a M) (hi : Inv M) (hn : a.n = M.many)
include h hi hn
theorem went_serve (k o : Int) (m n b : Nat) (hn32 : n < 4294967296) (hb32 : b < 4294967296) :
    Calls Try.prog 53 #[.pointer (some ⟨a.s, 0, none⟩), .agg #[.int .i64 k, .int .i64 o, .int .u32 (m : Int), .int .u32 (n : Int), .int .u32 (b : Int)]] w (Went w P a M) := by
  refine (serve_any w P a M h hn k o m n b hn32 hb32).mono ?_
  rintro e w' ⟨rfl, h2, k2⟩
  exact ⟨_, _, rfl, h2, hi.serve h.rank.small h.cin k o m n b, serve_many _ _ _ _ _ _, k2⟩
theorem went_tick : Calls Try.prog 54 #[.pointer (some ⟨a.s, 0, none⟩)] w (Went w P a M) := by
  refine (stick_any w P a M h hn).mono ?_
  rintro e w' ⟨v, l, rfl, ht, _, h2, k2⟩
  exact ⟨_, _, rfl, h2, hi.tick ht h.tin, overs_many M l _, k2⟩
theorem went_note (t : Int) (b : Nat) (hb : b < 4294967296) : Calls Try.prog 55 #[.pointer (some ⟨a.s, 0, none⟩), .int .i64 t, .int .u32 (b : Int)] w (Went w P a M) := by
  cases ho : hasM M t with
  | true =>
    have ho' := of_decide_eq_true (show decide (0 ≤ t ∧ t < (M.many : Int)) = true from ho)
    obtain ⟨x, rfl⟩ := Int.eq_ofNat_of_zero_le ho'.1
    refine (snote_any w P a M h hn x (by omega) b hb).mono ?_
    rintro e w' ⟨rfl, h2, k2⟩
    exact ⟨_, _, rfl, h2, hi.note x b, rfl, k2⟩
  | false =>
    refine (snote_not w P a M h hn t b ho).mono ?_
    rintro e w' ⟨rfl, rfl⟩
    exact ⟨_, _, rfl, h, hi, rfl, Keeps.refl _ _⟩
theorem went_wake (t : Int) : Calls Try.prog 56 #[.pointer (some ⟨a.s, 0, none⟩), .int .i64 t] w (Went w P a M) := by
  cases ho : hasM M t with
  | true =>
    have ho' := of_decide_eq_true (show decide (0 ≤ t ∧ t < (M.many : Int)) = true from ho)
    obtain ⟨x, rfl⟩ := Int.eq_ofNat_of_zero_le ho'.1
    have hx : x < M.many := by omega
    by_cases hs : M.st x = 2
    · refine (swake_yes w P a M h hn x hx hs ((hi.wait x hx).1 hs)).mono ?_
      rintro e w' ⟨rfl, h2, k2⟩
      exact ⟨_, _, rfl, h2, hi.wake x hx, wakeS_many M x, k2⟩
    · refine (swake_no w P a M h hn x hx hs).mono ?_
      rintro e w' ⟨rfl, rfl⟩
      exact ⟨_, _, rfl, h, hi, rfl, Keeps.refl _ _⟩
  | false =>
    refine (swake_out w P a M h hn t ho).mono ?_
    rintro e w' ⟨rfl, rfl⟩
    exact ⟨_, _, rfl, h, hi, rfl, Keeps.refl _ _⟩
omit hn in
theorem went_disp : Calls Try.prog 57 #[.pointer (some ⟨a.s, 0, none⟩)] w fun e w' => ∃ x b M', e = .returned (.tuple #[.int .i64 x, .bool b]) ∧ ScW w' P a M' ∧ Inv M' ∧ M'.many = M.many ∧ KeepsS P w w' := by
  refine (disp_any w P a M h).mono ?_
  rintro e w' ⟨rfl, h2, k2⟩
  exact ⟨_, _, _, rfl, h2, hi.disp, rfl, k2⟩
end
theorem ScW.narrow2 {w w' : World} {P Q : Nat → Prop} {a : ScA} {M : ScM} (h : ScW w P a M) (hk : Keeps (fun _ => False) w w') (hq : ∀ k, k < w.heap.size → P k → Q k) (hn : ∀ k, w'.heap.size ≤ k → Q k) : ScW w' Q a M :=
  { h.quiet hk with
    delta := by
      obtain ⟨L, hd, ha, hl⟩ := h.delta
      exact ⟨L, hd.none hk, ha, fun i nd hi => hq _ (lt_of (hd.node i nd hi)) (hl i nd hi)⟩
    queue := by
      obtain ⟨N, b, hd, hg, hw, hl⟩ := h.queue
      refine ⟨N, b, hd.none hk, hg, hw, fun x hx => ?_⟩
      obtain ⟨i, hi⟩ := List.getElem?_of_mem hx
      exact hq _ (lt_of (hd.node i x hi)) (hl x hx)
    low := ⟨hq _ h.lt h.low.1, hq _ h.rank.lt h.low.2.1, by obtain ⟨L, hd, _⟩ := h.delta; exact hq _ hd.lt h.low.2.2.1, by obtain ⟨N, b, hd, _⟩ := h.queue; exact hq _ (lt_of hd.head) h.low.2.2.2.1, fun t ht => hq _ (h.task t ht).lt (h.low.2.2.2.2 t ht)⟩
    new := hn }
theorem w11 : ((whenS 1 1 : Nat) : Int) = 1 := rfl
theorem w12 : ((whenS 1 2 : Nat) : Int) = 0 := rfl
theorem w21 : ((whenS 2 1 : Nat) : Int) = 0 := rfl
theorem w22 : ((whenS 2 2 : Nat) : Int) = 1 := rfl
theorem w31 : ((whenS 3 1 : Nat) : Int) = 0 := rfl
theorem w32 : ((whenS 3 2 : Nat) : Int) = 0 := rfl
theorem w41 : ((whenS 4 1 : Nat) : Int) = 0 := rfl
theorem w42 : ((whenS 4 2 : Nat) : Int) = 0 := rfl
theorem list_len16 {w : World} {b : Nat} {s : RkT} (h : RkS w b s) : (listT s).length ≤ 16 :=
  nodup_le 16 _ (flat_nodup h.mem h.nd 32 0 rfl) fun x hx => by
    obtain ⟨q, _, hq, hm⟩ := (mem_flat s.1 0 x).1 hx
    exact ((h.mem q x hq).1 hm).1
theorem ScV.sLt {w : World} {a : ScA} {M : ScM} (h : ScV w a M) : a.s < w.heap.size := by obtain ⟨cs, hb, _⟩ := h.blk; exact lt_of hb
theorem ScV.tLt {w : World} {a : ScA} {M : ScM} (h : ScV w a M) (t : Nat) (ht : t < M.many) : a.tb t < w.heap.size := by obtain ⟨v, hv⟩ := h.task t ht; exact lt_of hv
theorem ready_row {w : World} {B : Nat} {v : Value} {M : ScM} (h : w.ownsRow B 3 1 v (listT M.R).length (ints (listT M.R))) : ∃ a c, v = .slice a (rowI M).length c ∧ ∀ (q : Nat) (t : Int), (rowI M)[q]? = some t → ∃ b, a = some ⟨b, 0, none⟩ ∧ b < w.heap.size ∧ Ty w b 3 ∧ w.cell? ⟨b, q, none⟩ = some (.int .i64 t) :=
  over_cells (l := rowI M) (by
    unfold rowI
    rw [List.length_map, List.map_map]
    exact h)
theorem waits_row {w : World} {B : Nat} {v : Value} {M : ScM} (h : w.ownsRow B 56 4 v M.W.length (waitsC M.W)) : ∃ a c, v = .slice a (rowW M).length c ∧ ∀ (q : Nat) (t : Int), (rowW M)[q]? = some t → ∃ b, a = some ⟨b, 0, none⟩ ∧ b < w.heap.size ∧ Ty w b 56 ∧ w.cell? ⟨b, q * 4, none⟩ = some (.int .i64 t) := by
  have hl : (rowW M).length = M.W.length := by unfold rowW; rw [List.length_map]
  rw [hl]
  obtain ⟨_, h | ⟨g, cap, cur, rfl, _, hb, _, _, _, ht⟩⟩ := h
  · refine ⟨none, 0, by rw [h.1, h.2], fun q t hq => ?_⟩
    have := (List.getElem?_eq_some_iff.1 hq).1
    rw [hl, h.2] at this
    omega
  · refine ⟨_, cap, rfl, fun q t hq => ⟨g, rfl, lt_of hb, ⟨_, _, hb⟩, ?_⟩⟩
    have hq' : q < M.W.length := by have := (List.getElem?_eq_some_iff.1 hq).1; omega
    have hx : (waitsC M.W)[q * 4]? = some (.int .i64 t) := waits_at hq
    rw [cell_of hb]
    have hlen : (waitsC M.W).length = M.W.length * 4 := waits_len M.W
    rw [← ht] at hx
    rw [List.getElem?_take] at hx
    split at hx
    · simpa using hx
    · cases hx
end Go.Proofs.Ytdbplamhpkahaaa
