import Derived.Test.YtfniicgfnlklbaaRankQ
import Derived.Laws.AppendOwnNone
import Derived.Handy
namespace Go.Proofs.Ytfniicgfnlklbaa
open Go.ChangeShapes Go.WideShapes Go.ChangeAt Go.RowKit
set_option linter.unusedVariables false
set_option linter.unusedSimpArgs false
section
variable {P : Program} {w : World}
/-- append to a row that is the call's own, of whatever row: of none, of an empty one, of some. -/
theorem wp_append_any {o : Oper} {a : Act} {K : Act → World → Prop} {Q : Exit → Act → World → Prop} (s x : Operand) (t : TypeId)
    (ho : o.op = .call { callee := .builtin .append, args := #[s, x], argTypes := #[t, t] })
    (base : Nat) (e : TypeId) (i : TypeInfo) (z : Value) (size bytes : Nat) (ht : P.underlying t = some (.slice e)) (hi : P.info? e = some i) (hz : i.zero = some z)
    (hsize : i.size = size) (hby : i.bytes = bytes) (hzs : z.cells.size = size) (hsz : 0 < size)
    (v : Value) (n : Nat) (xs : List Value) (hs : a.eval s = v) (hown : w.ownsRow base e size v n xs)
    (A : Option Addr) (m c : Nat) (news : List Value) (hx : a.eval x = .slice A m c) (hA : A = none → m = 0 ∧ c = 0) (hl : news.length = m * size) (hnews : ∀ ad, A = some ad → ∀ j u, news[j]? = some u → w.cell? (ad.add j) = some u) (h1 : ∀ u ∈ news, u.oneCell' = true)
    (h63 : n + m ≤ maxLen) (hbytes : (n + m) * bytes ≤ 140737488355328) (hbase : base ≤ w.heap.size)
    (h : ∀ v' w', w'.ownsRow base e size v' (n + m) (xs ++ news) → w.grownBy w' v.ownBlock → K (a.put o.dst v') w') : o.wp P a w K Q := by
  cases A with
  | some ad => exact wp_append_own w s x t ho base e i z size bytes ht hi hz hsize hby hzs hsz v n xs hs hown ad m c news hx hl (hnews ad rfl) h1 h63 hbytes hbase fun v' w' h2 h3 _ => h v' w' h2 h3
  | none =>
    obtain ⟨rfl, rfl⟩ := hA rfl
    have hn : news = [] := List.eq_nil_of_length_eq_zero (by rw [hl]; simp)
    subst hn
    have hrun := run_append_owned_none (P := P) (w := w) base t o.type e i size ht hi v n xs hown
    unfold Oper.wp
    simp [execOp, ho, resolve, invoke, builtin, hs, hx, hrun, Result.andThen]
    exact h v w (by simpa using hown) ⟨rfl, rfl, rfl, Nat.le_refl _, fun _ _ _ => rfl⟩
theorem wpList_append_any {ops : Array Oper} {rest : List Oper} {o : Oper} {a : Act} {Q : Exit → Act → World → Prop} (hgd : o.guard = none) (s x : Operand) (t : TypeId)
    (ho : o.op = .call { callee := .builtin .append, args := #[s, x], argTypes := #[t, t] })
    (base : Nat) (e : TypeId) (i : TypeInfo) (z : Value) (size bytes : Nat) (ht : P.underlying t = some (.slice e)) (hi : P.info? e = some i) (hz : i.zero = some z)
    (hsize : i.size = size) (hby : i.bytes = bytes) (hzs : z.cells.size = size) (hsz : 0 < size)
    (v : Value) (n : Nat) (xs : List Value) (hs : a.eval s = v) (hown : w.ownsRow base e size v n xs)
    (A : Option Addr) (m c : Nat) (news : List Value) (hx : a.eval x = .slice A m c) (hA : A = none → m = 0 ∧ c = 0) (hl : news.length = m * size) (hnews : ∀ ad, A = some ad → ∀ j u, news[j]? = some u → w.cell? (ad.add j) = some u) (h1 : ∀ u ∈ news, u.oneCell' = true)
    (h63 : n + m ≤ maxLen) (hbytes : (n + m) * bytes ≤ 140737488355328) (hbase : base ≤ w.heap.size)
    (h : ∀ v' w', w'.ownsRow base e size v' (n + m) (xs ++ news) → w.grownBy w' v.ownBlock → wpList P ops Q rest (a.put o.dst v') w') : wpList P ops Q (o :: rest) a w :=
  wpList_plain hgd fun _ hK => wp_append_any s x t ho base e i z size bytes ht hi hz hsize hby hzs hsz v n xs hs hown A m c news hx hA hl hnews h1 h63 hbytes hbase fun v' w' h2 h3 => hK _ _ (h v' w' h2 h3)
theorem step_append_any {ops : Array Oper} {o : Oper} {a : Act} {K : Act → World → Prop} {Q : Exit → Act → World → Prop} {E : Prop} (hgd : o.guard = none) (s x : Operand) (t : TypeId)
    (ho : o.op = .call { callee := .builtin .append, args := #[s, x], argTypes := #[t, t] })
    (base : Nat) (e : TypeId) (i : TypeInfo) (z : Value) (size bytes : Nat) (ht : P.underlying t = some (.slice e)) (hi : P.info? e = some i) (hz : i.zero = some z)
    (hsize : i.size = size) (hby : i.bytes = bytes) (hzs : z.cells.size = size) (hsz : 0 < size)
    (v : Value) (n : Nat) (xs : List Value) (hs : a.eval s = v) (hown : w.ownsRow base e size v n xs)
    (A : Option Addr) (m c : Nat) (news : List Value) (hx : a.eval x = .slice A m c) (hA : A = none → m = 0 ∧ c = 0) (hl : news.length = m * size) (hnews : ∀ ad, A = some ad → ∀ j u, news[j]? = some u → w.cell? (ad.add j) = some u) (h1 : ∀ u ∈ news, u.oneCell' = true)
    (h63 : n + m ≤ maxLen) (hbytes : (n + m) * bytes ≤ 140737488355328) (hbase : base ≤ w.heap.size)
    (h : ∀ v' w', w'.ownsRow base e size v' (n + m) (xs ++ news) → w.grownBy w' v.ownBlock → K (a.put o.dst v') w') :
    if Region.wanted o (yielded ops a.tmps) = true then Oper.wp P o a w K Q else E := by
  have hw : Region.wanted o (yielded ops a.tmps) = true := by simp [Region.wanted, hgd]
  rw [if_pos hw]
  exact wp_append_any s x t ho base e i z size bytes ht hi hz hsize hby hzs hsz v n xs hs hown A m c news hx hA hl hnews h1 h63 hbytes hbase h
end
/-- The cells of the document's row of tasks with their priorities. -/
def flatQ (R : List (Nat × Nat)) : List Value := R.flatMap fun a => [.int .i64 (a.1 : Int), .int .i64 (a.2 : Int)]
theorem flatQ_app (R S : List (Nat × Nat)) : flatQ (R ++ S) = flatQ R ++ flatQ S := List.flatMap_append
theorem flatQ_len : ∀ R : List (Nat × Nat), (flatQ R).length = R.length * 2
  | [] => rfl
  | a :: R => by
    have := flatQ_len R
    unfold flatQ at this ⊢
    rw [List.flatMap_cons, List.length_append, this, List.length_cons]
    simp
    omega
theorem flatQ_at (R : List (Nat × Nat)) (i : Nat) (a : Nat × Nat) (h : R[i]? = some a) : (flatQ R)[i * 2]? = some (.int .i64 (a.1 : Int)) ∧ (flatQ R)[i * 2 + 1]? = some (.int .i64 (a.2 : Int)) := by
  induction R generalizing i with
  | nil => simp at h
  | cons b R ih =>
    have e : flatQ (b :: R) = [.int .i64 (b.1 : Int), .int .i64 (b.2 : Int)] ++ flatQ R := rfl
    rw [e]
    rcases i with _ | i
    · have : b = a := by simpa using h
      subst this
      exact ⟨rfl, rfl⟩
    · have h' : R[i]? = some a := by simpa using h
      rw [List.getElem?_append_right (by simp; omega), List.getElem?_append_right (by simp; omega)]
      have := ih i h'
      simp only [List.length_cons, List.length_nil]
      rw [show (i + 1) * 2 - (0 + 1 + 1) = i * 2 by omega, show (i + 1) * 2 + 1 - (0 + 1 + 1) = i * 2 + 1 by omega]
      exact this
theorem flatQ_one (R : List (Nat × Nat)) : ∀ u ∈ flatQ R, u.oneCell' = true := by
  intro u hu
  obtain ⟨a, _, hu⟩ := List.mem_flatMap.1 hu
  simp at hu
  rcases hu with rfl | rfl <;> rfl
theorem flatQ_take (R : List (Nat × Nat)) (k j : Nat) (u : Value) (h : (flatQ (R.take k))[j]? = some u) : (flatQ R)[j]? = some u := by
  have hj : j < (flatQ (R.take k)).length := by
    rcases Nat.lt_or_ge j (flatQ (R.take k)).length with h1 | h1
    · exact h1
    · rw [List.getElem?_eq_none h1] at h; cases h
  have : flatQ R = flatQ (R.take k) ++ flatQ (R.drop k) := by rw [← flatQ_app, List.take_append_drop]
  rw [this, List.getElem?_append_left hj]
  exact h
theorem flatQ_drop (R : List (Nat × Nat)) (k j : Nat) (hk : k ≤ R.length) (u : Value) (h : (flatQ (R.drop k))[j]? = some u) : (flatQ R)[k * 2 + j]? = some u := by
  have : flatQ R = flatQ (R.take k) ++ flatQ (R.drop k) := by rw [← flatQ_app, List.take_append_drop]
  have hl : (flatQ (R.take k)).length = k * 2 := by rw [flatQ_len, List.length_take, Nat.min_eq_left hk]
  rw [this, List.getElem?_append_right (by omega), hl, Nat.add_sub_cancel_left]
  exact h
/-- The document's row, in memory. -/
structure QR (w : World) (A : Option Addr) (c : Nat) (R : List (Nat × Nat)) : Prop where
  nil : A = none → R = [] ∧ c = 0
  le : R.length ≤ c
  max : c ≤ maxLen
  lies : ∀ ad, A = some ad → ∃ b, ad = ⟨b, 0, none⟩ ∧ b < w.heap.size ∧ ∀ j u, (flatQ R)[j]? = some u → w.cell? ⟨b, j, none⟩ = some u
section
variable {w w' : World} {A : Option Addr} {c : Nat} {R : List (Nat × Nat)}
theorem QR.keeps {S : Nat → Prop} (h : QR w A c R) (hk : Keeps S w w') (hs : ∀ b off, A = some ⟨b, off, none⟩ → ¬ S b) : QR w' A c R :=
  ⟨h.nil, h.le, h.max, fun ad e => by
    obtain ⟨b, rfl, hb, hc⟩ := h.lies ad e
    exact ⟨b, rfl, Nat.lt_of_lt_of_le hb hk.size, fun j u hu => (World.cell?_of_block (w := w) (hk.block b hb (hs b 0 e))).trans (hc j u hu)⟩⟩
theorem QR.none (h : QR w A c R) (hk : Keeps (fun _ => False) w w') : QR w' A c R := h.keeps hk fun _ _ _ h => h
theorem QR.get (h : QR w A c R) (i : Nat) (a : Nat × Nat) (hi : R[i]? = some a) : ∃ b, A = some ⟨b, 0, Option.none⟩ ∧ b < w.heap.size ∧ w.cell? ⟨b, i * 2, Option.none⟩ = some (.int .i64 (a.1 : Int)) ∧ w.cell? ⟨b, i * 2 + 1, Option.none⟩ = some (.int .i64 (a.2 : Int)) := by
  cases hA : A with
  | none =>
    rw [(h.nil hA).1] at hi
    simp at hi
  | some ad =>
    obtain ⟨b, rfl, hb, hc⟩ := h.lies ad hA
    have := flatQ_at R i a hi
    exact ⟨b, rfl, hb, hc _ _ this.1, hc _ _ this.2⟩
theorem QR.news (h : QR w A c R) : ∀ ad, A = some ad → ∀ j u, (flatQ R)[j]? = some u → w.cell? (ad.add j) = some u := by
  intro ad e j u hu
  obtain ⟨b, rfl, _, hc⟩ := h.lies ad e
  rw [show ((⟨b, 0, Option.none⟩ : Addr).add j) = ⟨b, j, Option.none⟩ by unfold Addr.add; split <;> simp_all]
  exact hc j u hu
theorem QR.empty (w : World) : QR w Option.none 0 [] := ⟨fun _ => ⟨rfl, rfl⟩, Nat.le_refl _, by unfold maxLen; omega, fun ad e => by cases e⟩
theorem QR.ofOwn {B n : Nat} {E : TypeId} {v : Value} (h : w.ownsRow B E 2 v n (flatQ R)) : ∃ A c, v = .slice A R.length c ∧ QR w A c R ∧ ∀ b off, A = some ⟨b, off, Option.none⟩ → B ≤ b := by
  have hn : n = R.length := by have := h.1; rw [flatQ_len] at this; omega
  subst hn
  rcases h.2 with ⟨rfl, h0⟩ | ⟨g, cap, cur, rfl, hg, hb, hc1, hc2, hs, ht⟩
  · have hR : R = [] := List.eq_nil_of_length_eq_zero h0
    subst hR
    exact ⟨Option.none, 0, rfl, QR.empty w, fun b off e => by cases e⟩
  · refine ⟨_, cap, rfl, ⟨(fun e => by cases e), hc1, hc2, fun ad e => ⟨g, (by injection e with e; exact e.symm), lt_of hb, fun j u hu => ?_⟩⟩, fun b off e => by cases e; exact hg⟩
    rw [← ht] at hu
    have e1 : w.cell? ⟨g, j, Option.none⟩ = cur[j]? := by simp [World.cell?, hb]
    rw [e1]
    rw [List.getElem?_take] at hu
    split at hu
    · simpa using hu
    · cases hu
end
end Go.Proofs.Ytfniicgfnlklbaa
