import Derived.Test.YtdjfelabdofaaaaTxCz
import Derived.Test.YtdjfelabdofaaaaTxGz
import Derived.Test.YtdjfelabdofaaaaTxLz
import Derived.Deep.Onto
import Derived.Test.YtdjfelabdofaaaaTextH
import Derived.Test.YtdjfelabdofaaaaRowAz
namespace Go.Proofs.Ytdjfelabdofaaaa
open Go.ChangeShapes Go.WideShapes Go.ChangeAt Go.RowKit
set_option linter.unusedVariables false
set_option linter.unusedSimpArgs false
/-- A task or a level, as it was parsed: a number, a mark, its calls. -/
structure PD where
  x : Int
  b : Bool
  L : List CallD
/-- What was parsed so far; the last owner of calls apart. -/
structure MS (δ : Type) where
  T : List δ
  V : List δ
  cur : Option (Bool × δ)
  O : List (Nat → Int)
  tick : Int
  tk : Bool
  C : List Int
def curT {δ : Type} : Option (Bool × δ) → List δ
  | some (true, d) => [d]
  | _ => []
def curV {δ : Type} : Option (Bool × δ) → List δ
  | some (false, d) => [d]
  | _ => []
def MS.allT {δ : Type} (m : MS δ) : List δ := m.T ++ curT m.cur
def MS.allV {δ : Type} (m : MS δ) : List δ := m.V ++ curV m.cur
def MS.map {δ ε : Type} (f : δ → ε) (m : MS δ) : MS ε := ⟨m.T.map f, m.V.map f, m.cur.map fun d => (d.1, f d.2), m.O, m.tick, m.tk, m.C⟩
theorem map_allT {δ ε : Type} (f : δ → ε) (m : MS δ) : (m.map f).allT = m.allT.map f := by
  obtain ⟨T, V, cur, O, tick, tk, C⟩ := m
  rcases cur with _ | ⟨_ | _, d⟩ <;> simp [MS.allT, MS.map, curT]
theorem map_allV {δ ε : Type} (f : δ → ε) (m : MS δ) : (m.map f).allV = m.allV.map f := by
  obtain ⟨T, V, cur, O, tick, tk, C⟩ := m
  rcases cur with _ | ⟨_ | _, d⟩ <;> simp [MS.allV, MS.map, curV]
/-- A script's rows. -/
inductive RowT where
  | obj (x : Nat → Int)
  | tick (n : Int)
  | task (x : Int) (y : Bool)
  | lvl (x : Int)
  | ch (n : Nat) (F : Nat → Int)
  | call (c : CallD)
def wordsR : RowT → List (List UInt8)
  | .obj x => wRow hObj x 10
  | .tick n => wRow hTick (fun _ => n) 1
  | .task x y => wRow hTask (fun j => if j = 0 then x else if y then 1 else 0) 2
  | .lvl x => wRow hLvl (fun _ => x) 1
  | .ch n F => wRow hCh F n
  | .call c => wordsC c
def is32 (x : Int) : Prop := -2147483648 ≤ x ∧ x ≤ 2147483647
def stepP (m : MS PD) : RowT → MS PD
  | .obj x => { m with O := m.O ++ [x] }
  | .tick n => { m with tick := n, tk := true }
  | .task x y => { m with T := m.allT, V := m.allV, cur := some (true, ⟨x, y, []⟩) }
  | .lvl x => { m with T := m.allT, V := m.allV, cur := some (false, ⟨x, false, []⟩) }
  | .ch n F => { m with C := m.C ++ (List.range n).map F }
  | .call c => { m with cur := m.cur.map fun d => (d.1, ⟨d.2.x, d.2.b, d.2.L ++ [c]⟩) }
def OkR (m : MS PD) : RowT → Prop
  | .obj x => (∀ i, i < 6 → is32 (x i)) ∧ (∀ i, i < 4 → 0 ≤ x (6 + i) ∧ x (6 + i) ≤ 4294967295) ∧ m.O.length ≤ 1000
  | .tick n => is32 n ∧ m.tk = false
  | .task x y => is32 x ∧ m.allT.length ≤ 1000
  | .lvl x => is32 x ∧ m.allV.length ≤ 1000
  | .ch n F => 1 ≤ n ∧ n ≤ 900 ∧ (∀ i, i < n → is32 (F i)) ∧ m.C.length ≤ 1000
  | .call c => c.Fit ∧ ∃ b d, m.cur = some (b, d) ∧ d.L.length ≤ 1000
def OkS : MS PD → List RowT → Prop
  | _, [] => True
  | m, r :: rs => OkR m r ∧ OkS (stepP m r) rs
def runP (m : MS PD) (rs : List RowT) : MS PD := rs.foldl stepP m
/-- The cells. -/
def flatT (T : List (PD × Value)) : List Value := T.flatMap fun d => [.int .i64 d.1.x, .bool d.1.b, d.2]
def flatV (T : List (PD × Value)) : List Value := T.flatMap fun d => [.int .i64 d.1.x, d.2]
def flatO (T : List (Nat → Int)) : List Value := T.flatMap obcL
theorem flatT_len (T : List (PD × Value)) : (flatT T).length = T.length * 3 := by
  induction T with
  | nil => rfl
  | cons d t ih => show ([_, _, _] ++ flatT t).length = _; rw [List.length_append, ih]; simp; omega
theorem flatV_len (T : List (PD × Value)) : (flatV T).length = T.length * 2 := by
  induction T with
  | nil => rfl
  | cons d t ih => show ([_, _] ++ flatV t).length = _; rw [List.length_append, ih]; simp; omega
theorem flatT_snoc (T : List (PD × Value)) (d : PD × Value) : flatT (T ++ [d]) = flatT T ++ [.int .i64 d.1.x, .bool d.1.b, d.2] := by simp [flatT]
theorem flatV_snoc (T : List (PD × Value)) (d : PD × Value) : flatV (T ++ [d]) = flatV T ++ [.int .i64 d.1.x, d.2] := by simp [flatV]
theorem flatO_snoc (T : List (Nat → Int)) (x : Nat → Int) : flatO (T ++ [x]) = flatO T ++ obcL x := by simp [flatO]
theorem flatT_last (T : List (PD × Value)) (d : PD × Value) : (flatT (T ++ [d]))[T.length * 3 + 2]? = some d.2 := by
  rw [flatT_snoc, ← flatT_len, List.getElem?_append_right (by omega), show (flatT T).length + 2 - (flatT T).length = 2 by omega]; rfl
theorem flatV_last (T : List (PD × Value)) (d : PD × Value) : (flatV (T ++ [d]))[T.length * 2 + 1]? = some d.2 := by
  rw [flatV_snoc, ← flatV_len, List.getElem?_append_right (by omega), show (flatV T).length + 1 - (flatV T).length = 1 by omega]; rfl
theorem flatT_set (T : List (PD × Value)) (d : PD × Value) (L : List CallD) (v : Value) : (flatT (T ++ [d])).set (T.length * 3 + 2) v = flatT (T ++ [(⟨d.1.x, d.1.b, L⟩, v)]) := by
  rw [flatT_snoc, flatT_snoc, ← flatT_len, List.set_append_right _ _ (by omega), show (flatT T).length + 2 - (flatT T).length = 2 by omega]; rfl
theorem flatV_set (T : List (PD × Value)) (d : PD × Value) (L : List CallD) (v : Value) : (flatV (T ++ [d])).set (T.length * 2 + 1) v = flatV (T ++ [(⟨d.1.x, d.1.b, L⟩, v)]) := by
  rw [flatV_snoc, flatV_snoc, ← flatV_len, List.set_append_right _ _ (by omega), show (flatV T).length + 1 - (flatV T).length = 1 by omega]; rfl
/-- The types of what the parser writes. -/
def parTys : List TypeId := [69, 42, 44, 59, 3, 81]
def Other (o : Obj) : Prop := ∀ cs E fr, o = .cells cs E fr → E ∉ parTys
/-- All blocks of other types stand. -/
def FrT (w w' : World) : Prop := ∀ (k : Nat) (o : Obj), w.heap[k]? = some o → Other o → w'.heap[k]? = some o
theorem FrT.trans {a b c : World} (h : FrT a b) (k : FrT b c) : FrT a c := fun i o hi ho => k i o (h i o hi ho) ho
section
variable {w w' : World} {B e s k : Nat} {v : Value} {xs : List Value}
theorem own_survive {S : Nat → Prop} (h : w.ownsRow B e s v k xs) (hk : Keeps S w w') (hS : ∀ X, v.ownBlock = some X → ¬ S X) : w'.ownsRow B e s v k xs := by
  refine ⟨h.1, ?_⟩
  rcases h.2 with h2 | ⟨g, cap, cur, rfl, hb, hh, h3⟩
  · exact .inl h2
  · exact .inr ⟨g, cap, cur, rfl, hb, hk.at hh (hS g rfl), h3⟩
theorem own_lt (h : w.ownsRow B e s v k xs) {X : Nat} (hX : v.ownBlock = some X) : X < w.heap.size := by
  rcases h.2 with ⟨rfl, _⟩ | ⟨g, cap, cur, rfl, hb, hh, h3⟩
  · cases hX
  · obtain rfl : g = X := by simpa [Value.ownBlock] using hX
    exact lt_of hh
theorem own_ge (h : w.ownsRow B e s v k xs) {X : Nat} (hX : v.ownBlock = some X) : B ≤ X := by
  rcases h.2 with ⟨rfl, _⟩ | ⟨g, cap, cur, rfl, hb, hh, h3⟩
  · cases hX
  · obtain rfl : g = X := by simpa [Value.ownBlock] using hX
    exact hb
theorem own_other (h : w.ownsRow B e s v k xs) (he : e ∈ parTys) {X : Nat} {o : Obj} (hX : w.heap[X]? = some o) (ho : Other o) : v.ownBlock ≠ some X := by
  rcases h.2 with ⟨rfl, _⟩ | ⟨g, cap, cur, rfl, hb, hh, h3⟩
  · simp [Value.ownBlock]
  · intro hx
    obtain rfl : g = X := by simpa [Value.ownBlock] using hx
    rw [hh] at hX
    injection hX with hX
    exact ho _ _ _ hX.symm he
theorem own_open {g n cap : Nat} (h : w.ownsRow B e s (.slice (some ⟨g, 0, none⟩) n cap) k xs) : ∃ cur : Array Value, w.heap[g]? = some (.cells cur e (0, 0)) ∧ B ≤ g ∧ (∀ (i : Nat) (u : Value), xs[i]? = some u → cur[i]? = some u) ∧
    ∀ (w' : World) (i : Nat) (u : Value), i < xs.length → w'.heap[g]? = some (.cells (cur.setIfInBounds i u) e (0, 0)) → w'.ownsRow B e s (.slice (some ⟨g, 0, none⟩) n cap) k (xs.set i u) := by
  rcases h.2 with ⟨h2, _⟩ | ⟨g', cap', cur, h2, hb, hh, h3, h4, h5, h6⟩
  · cases h2
  · injection h2 with e1 e2 e3
    injection e1 with e1
    injection e1 with e1
    subst e1 e2 e3
    refine ⟨cur, hh, hb, ?_, ?_⟩
    · intro i u hu
      rw [← h6, List.getElem?_take] at hu
      split at hu
      · simpa using hu
      · cases hu
    · intro w' i u hi hw
      refine ⟨by rw [List.length_set]; exact h.1, .inr ⟨g, cap, _, rfl, hb, hw, h3, h4, by rw [Array.size_setIfInBounds]; exact h5, ?_⟩⟩
      rw [Array.toList_setIfInBounds, ← h6, List.take_set]
end
theorem par_other {w : World} {p X : Nat} {cs : Array Value} {o : Obj} (hp : w.heap[p]? = some (.cells cs 69 (0, 0))) (hX : w.heap[X]? = some o) (ho : Other o) : X ≠ p := by
  rintro rfl
  rw [hp] at hX
  injection hX with hX
  exact ho _ _ _ hX.symm (by decide)
theorem own_clear {w : World} {p B B' e e' s s' k k' : Nat} {v u : Value} {xs ys : List Value} {cs : Array Value} (h : w.ownsRow B e s v k xs) (hp : w.heap[p]? = some (.cells cs 69 (0, 0))) (he : e ≠ 69) (hu : w.ownsRow B' e' s' u k' ys) (hne : e ≠ e') : ∀ X, v.ownBlock = some X → ¬ (X = p ∨ u.ownBlock = some X) := by
  rintro X hX (rfl | h2)
  · exact own_apart h hp he hX
  · rcases own_differ h hu hne with h3 | h3
    · rw [h3] at hX; cases hX
    · exact h3 (hX.trans h2.symm)
/-- What was parsed lies so. -/
structure MsW (w : World) (B p : Nat) (m : MS (PD × Value)) (t l o ch ow : Value) (Bk : Nat) : Prop where
  par : w.heap[p]? = some (.cells (parC t l o m.tick ch m.tk ow) 69 (0, 0))
  tr : w.ownsRow B 42 3 t m.allT.length (flatT m.allT)
  lr : w.ownsRow B 44 2 l m.allV.length (flatV m.allV)
  or : w.ownsRow B 59 10 o m.O.length (flatO m.O)
  cr : w.ownsRow B 3 1 ch m.C.length (intsV m.C)
  code : ∀ d, d ∈ m.T ++ m.V → w.ownsRow B 81 7 d.2 d.1.L.length (flatC d.1.L) ∧ ∀ g, d.2.ownBlock = some g → g < Bk
  bk : B ≤ Bk
  bs : Bk ≤ w.heap.size
  bp : B ≤ p
  cur : ∀ b d, m.cur = some (b, d) → w.ownsRow Bk 81 7 d.2 d.1.L.length (flatC d.1.L) ∧ ∃ gO oO n cap, ow = .pointer (some ⟨gO, oO, none⟩) ∧ (b = true → t = .slice (some ⟨gO, 0, none⟩) n cap ∧ oO = m.T.length * 3 + 2) ∧ (b = false → l = .slice (some ⟨gO, 0, none⟩) n cap ∧ oO = m.V.length * 2 + 1)
def MsE (w : World) (B p : Nat) (q : MS PD) : Prop := ∃ m t l o ch ow Bk, MsW w B p m t l o ch ow Bk ∧ m.map Prod.fst = q
def RowPost (w : World) (B p : Nat) (q : MS PD) (r : RowT) (e : Ending) (w' : World) : Prop := e = .returned (.tuple #[]) ∧ MsE w' B p (stepP q r) ∧ Below B w w' ∧ FrT w w'
end Go.Proofs.Ytdjfelabdofaaaa
namespace Go.Proofs.Ytdjfelabdofaaaa
open Go.ChangeShapes Go.WideShapes Go.ChangeAt Go.RowKit
set_option linter.unusedVariables false
set_option linter.unusedSimpArgs false
theorem MsW.size {w : World} {B p : Nat} {m : MS (PD × Value)} {t l o ch ow : Value} {Bk : Nat} (h : MsW w B p m t l o ch ow Bk) : B ≤ w.heap.size := Nat.le_trans h.bk h.bs
theorem MsW.allcode {w : World} {B p : Nat} {m : MS (PD × Value)} {t l o ch ow : Value} {Bk : Nat} (h : MsW w B p m t l o ch ow Bk) : ∀ d, d ∈ m.allT ++ m.allV → w.ownsRow B 81 7 d.2 d.1.L.length (flatC d.1.L) := by
  intro d hd
  have key : d ∈ m.T ++ m.V ∨ ∃ b, m.cur = some (b, d) := by
    obtain ⟨T, V, cur, O, tick, tk, C⟩ := m
    rcases cur with _ | ⟨_ | _, d'⟩ <;> simp [MS.allT, MS.allV, curT, curV] at hd ⊢ <;> grind
  rcases key with h1 | ⟨b, h1⟩
  · exact (h.code d h1).1
  · exact (h.cur b d h1).1.mono h.bk
theorem row_obj (w : World) (B p : Nat) (q : MS PD) (N : Int) (A : Nat) (x : Nat → Int) (h : MsE w B p q) (hw : WordsAt w A (strW (wordsR (.obj x)))) (hok : OkR q (.obj x)) :
    Calls Try.prog 35 #[.pointer (some ⟨p, 0, none⟩), rowV N (some ⟨A, 0, none⟩) 11 11] w (RowPost w B p q (.obj x)) := by
  obtain ⟨m, t, l, o, ch, ow, Bk, h, rfl⟩ := h
  have hl : (strW (wordsR (.obj x))).length = 11 := wRow_len _ _ _
  have hr : StrRow w (some ⟨A, 0, none⟩) 11 (fOf (strW (wordsR (.obj x)))) := hl ▸ words_row hw
  obtain ⟨h1, h2, h3⟩ := hok
  have hb : ∀ i, i < 10 → -2147483648 ≤ x i ∧ x i ≤ 4294967295 := fun i hi => by
    rcases Nat.lt_or_ge i 6 with h6 | h6
    · have := h1 i h6; exact ⟨this.1, by have := this.2; omega⟩
    · have := h2 (i - 6) (by omega); rw [show 6 + (i - 6) = i by omega] at this; omega
  refine (object_ok w p B N (some ⟨A, 0, none⟩) 11 _ x t l o ch ow m.tick m.tk m.O.length (flatO m.O) h.par h3 h.or h.size hr (wRow_small hObj x 10 (by decide) fun i hi => by have := hb i hi; omega) ?_ ?_ h2).mono ?_
  · intro i hi
    have := take_row hObj x 10 i (-2147483648) 2147483647 (by omega) (by have := hb i (by omega); omega) (h1 i hi).1 (h1 i hi).2
    rw [show i + 1 = 1 + i by omega] at this
    exact this
  · intro i hi
    have := take_row hObj x 10 (6 + i) 0 4294967295 (by omega) (by have := hb (6 + i) (by omega); omega) (h2 i hi).1 (h2 i hi).2
    rw [show 6 + i + 1 = 7 + i by omega] at this
    exact this
  rintro e w' ⟨rfl, g, cap, hp', hown', hg, hk⟩
  refine ⟨rfl, ⟨{ m with O := m.O ++ [x] }, t, l, .slice (some ⟨g, 0, none⟩) (m.O.length + 1) cap, ch, ow, Bk, ⟨hp', ?_, ?_, ?_, ?_, ?_, h.bk, Nat.le_trans h.bs hk.size, h.bp, ?_⟩, rfl⟩, ?_, ?_⟩
  · exact own_survive h.tr hk (own_clear h.tr h.par (by decide) h.or (by decide))
  · exact own_survive h.lr hk (own_clear h.lr h.par (by decide) h.or (by decide))
  · show w'.ownsRow B _ 10 _ (m.O ++ [x]).length (flatO (m.O ++ [x]))
    rw [flatO_snoc, List.length_append]; exact hown'
  · exact own_survive h.cr hk (own_clear h.cr h.par (by decide) h.or (by decide))
  · exact fun d hd => ⟨own_survive (h.code d hd).1 hk (own_clear (h.code d hd).1 h.par (by decide) h.or (by decide)), (h.code d hd).2⟩
  · exact fun b d hd => ⟨own_survive (h.cur b d hd).1 hk (own_clear (h.cur b d hd).1 h.par (by decide) h.or (by decide)), (h.cur b d hd).2⟩
  · exact hk.below h.size fun X _ hX => by rcases hX with rfl | hX; exact h.bp; exact own_ge h.or hX
  · exact fun k ob hk1 hob => hk.at hk1 (by rintro (e | e); exact par_other h.par hk1 hob e; exact own_other h.or (by decide) hk1 hob e)
theorem row_tick (w : World) (B p : Nat) (q : MS PD) (N : Int) (A : Nat) (x : Int) (h : MsE w B p q) (hw : WordsAt w A (strW (wordsR (.tick x)))) (hok : OkR q (.tick x)) :
    Calls Try.prog 36 #[.pointer (some ⟨p, 0, none⟩), rowV N (some ⟨A, 0, none⟩) 2 2] w (RowPost w B p q (.tick x)) := by
  obtain ⟨m, t, l, o, ch, ow, Bk, h, rfl⟩ := h
  have hl : (strW (wordsR (.tick x))).length = 2 := wRow_len _ _ _
  have hr : StrRow w (some ⟨A, 0, none⟩) 2 (fOf (strW (wordsR (.tick x)))) := hl ▸ words_row hw
  obtain ⟨h1, h2⟩ := hok
  have hp := h.par
  rw [show m.tk = false from h2] at hp
  have hx := h1.1
  have hy := h1.2
  refine (ticker_ok w p N (some ⟨A, 0, none⟩) 2 _ x m.tick t l o ch ow hp hr (wRow_small hTick (fun _ => x) 1 (by decide) fun i hi => by omega) (take_row hTick (fun _ => x) 1 0 (-2147483648) 2147483647 (by omega) (by omega) hx hy)).mono ?_
  rintro e w' ⟨rfl, hp', hk⟩
  have hS : ∀ {B e s k : Nat} {v : Value} {xs : List Value}, w.ownsRow B e s v k xs → e ≠ 69 → w'.ownsRow B e s v k xs := fun ho he => own_survive ho hk fun X hX e => own_apart ho h.par he (by rw [hX, e])
  refine ⟨rfl, ⟨{ m with tick := x, tk := true }, t, l, o, ch, ow, Bk, ⟨hp', hS h.tr (by decide), hS h.lr (by decide), hS h.or (by decide), hS h.cr (by decide), ?_, h.bk, Nat.le_trans h.bs hk.size, h.bp, ?_⟩, rfl⟩, ?_, ?_⟩
  · exact fun d hd => ⟨hS (h.code d hd).1 (by decide), (h.code d hd).2⟩
  · exact fun b d hd => ⟨hS (h.cur b d hd).1 (by decide), (h.cur b d hd).2⟩
  · exact hk.below h.size fun X _ hX => by rw [hX]; exact h.bp
  · exact fun k ob hk1 hob => hk.at hk1 fun e => par_other h.par hk1 hob e
theorem row_task (w : World) (B p : Nat) (q : MS PD) (N : Int) (A : Nat) (x : Int) (y : Bool) (h : MsE w B p q) (hw : WordsAt w A (strW (wordsR (.task x y)))) (hok : OkR q (.task x y)) :
    Calls Try.prog 37 #[.pointer (some ⟨p, 0, none⟩), rowV N (some ⟨A, 0, none⟩) 3 3] w (RowPost w B p q (.task x y)) := by
  obtain ⟨m, t, l, o, ch, ow, Bk, h, rfl⟩ := h
  have hl : (strW (wordsR (.task x y))).length = 3 := wRow_len _ _ _
  have hr : StrRow w (some ⟨A, 0, none⟩) 3 (fOf (strW (wordsR (.task x y)))) := hl ▸ words_row hw
  obtain ⟨h1, h2⟩ := hok
  rw [map_allT, List.length_map] at h2
  have hx := h1.1
  have hy := h1.2
  have hz : -1 ≤ (if y then (1 : Int) else 0) ∧ 0 ≤ (if y then (1 : Int) else 0) ∧ (if y then (1 : Int) else 0) ≤ 1 := by cases y <;> simp
  refine (task_ok w p B N (some ⟨A, 0, none⟩) 3 _ x (if y then 1 else 0) t l o ch ow m.tick m.tk m.allT.length (flatT m.allT) h.par h2 h.tr h.size hr (wRow_small hTask (fun j => if j = 0 then x else if y then 1 else 0) 2 (by decide) fun i hi => by by_cases h0 : i = 0 <;> simp only [h0, if_true, if_false] <;> omega) (take_row hTask (fun j => if j = 0 then x else if y then 1 else 0) 2 0 (-2147483648) 2147483647 (by omega) (by simp only [if_true]; omega) hx hy) (take_row hTask (fun j => if j = 0 then x else if y then 1 else 0) 2 1 0 1 (by omega) (by simp only [Nat.one_ne_zero, if_false]; omega) hz.2.1 hz.2.2)).mono ?_
  rintro e w' ⟨rfl, g, cap, hp', hown', hg, hk⟩
  have hyy : ((if y then (1 : Int) else 0) == 1) = y := by cases y <;> rfl
  rw [hyy] at hown'
  have hS : ∀ {B e s k : Nat} {v : Value} {xs : List Value}, w.ownsRow B e s v k xs → e ≠ 69 → e ≠ 42 → w'.ownsRow B e s v k xs := fun ho he he2 => own_survive ho hk (own_clear ho h.par he h.tr he2)
  refine ⟨rfl, ⟨⟨m.allT, m.allV, some (true, (⟨x, y, []⟩, .slice none 0 0)), m.O, m.tick, m.tk, m.C⟩, .slice (some ⟨g, 0, none⟩) (m.allT.length + 1) cap, l, o, ch, .pointer (some ⟨g, m.allT.length * 3 + 2, none⟩), w.heap.size, ⟨hp', ?_, ?_, hS h.or (by decide) (by decide), hS h.cr (by decide) (by decide), ?_, h.size, hk.size, h.bp, ?_⟩, ?_⟩, ?_, ?_⟩
  · show w'.ownsRow B _ 3 _ (m.allT ++ [_]).length (flatT (m.allT ++ [_]))
    rw [flatT_snoc, List.length_append]; exact hown'
  · show w'.ownsRow B _ 2 _ (m.allV ++ []).length (flatV (m.allV ++ []))
    rw [List.append_nil]; exact hS h.lr (by decide) (by decide)
  · exact fun d hd => ⟨hS (h.allcode d hd) (by decide) (by decide), fun g hg => own_lt (h.allcode d hd) hg⟩
  · intro b d hd
    injection hd with hd
    injection hd with e1 e2
    subst e1 e2
    exact ⟨⟨rfl, .inl ⟨rfl, rfl⟩⟩, g, _, _, cap, rfl, fun _ => ⟨rfl, rfl⟩, fun e => by cases e⟩
  · show MS.mk _ _ _ _ _ _ _ = MS.mk _ _ _ _ _ _ _
    rw [map_allT, map_allV]
    rfl
  · exact hk.below h.size fun X _ hX => by rcases hX with rfl | hX; exact h.bp; exact own_ge h.tr hX
  · exact fun k ob hk1 hob => hk.at hk1 (by rintro (e | e); exact par_other h.par hk1 hob e; exact own_other h.tr (by decide) hk1 hob e)
theorem row_lvl (w : World) (B p : Nat) (q : MS PD) (N : Int) (A : Nat) (x : Int) (h : MsE w B p q) (hw : WordsAt w A (strW (wordsR (.lvl x)))) (hok : OkR q (.lvl x)) :
    Calls Try.prog 38 #[.pointer (some ⟨p, 0, none⟩), rowV N (some ⟨A, 0, none⟩) 2 2] w (RowPost w B p q (.lvl x)) := by
  obtain ⟨m, t, l, o, ch, ow, Bk, h, rfl⟩ := h
  have hl : (strW (wordsR (.lvl x))).length = 2 := wRow_len _ _ _
  have hr : StrRow w (some ⟨A, 0, none⟩) 2 (fOf (strW (wordsR (.lvl x)))) := hl ▸ words_row hw
  obtain ⟨h1, h2⟩ := hok
  rw [map_allV, List.length_map] at h2
  have hx := h1.1
  have hy := h1.2
  refine (level_ok w p B N (some ⟨A, 0, none⟩) 2 _ x t l o ch ow m.tick m.tk m.allV.length (flatV m.allV) h.par h2 h.lr h.size hr (wRow_small hLvl (fun _ => x) 1 (by decide) fun i hi => by omega) (take_row hLvl (fun _ => x) 1 0 (-2147483648) 2147483647 (by omega) (by omega) hx hy)).mono ?_
  rintro e w' ⟨rfl, g, cap, hp', hown', hg, hk⟩
  have hS : ∀ {B e s k : Nat} {v : Value} {xs : List Value}, w.ownsRow B e s v k xs → e ≠ 69 → e ≠ 44 → w'.ownsRow B e s v k xs := fun ho he he2 => own_survive ho hk (own_clear ho h.par he h.lr he2)
  refine ⟨rfl, ⟨⟨m.allT, m.allV, some (false, (⟨x, false, []⟩, .slice none 0 0)), m.O, m.tick, m.tk, m.C⟩, t, .slice (some ⟨g, 0, none⟩) (m.allV.length + 1) cap, o, ch, .pointer (some ⟨g, m.allV.length * 2 + 1, none⟩), w.heap.size, ⟨hp', ?_, ?_, hS h.or (by decide) (by decide), hS h.cr (by decide) (by decide), ?_, h.size, hk.size, h.bp, ?_⟩, ?_⟩, ?_, ?_⟩
  · show w'.ownsRow B _ 3 _ (m.allT ++ []).length (flatT (m.allT ++ []))
    rw [List.append_nil]; exact hS h.tr (by decide) (by decide)
  · show w'.ownsRow B _ 2 _ (m.allV ++ [_]).length (flatV (m.allV ++ [_]))
    rw [flatV_snoc, List.length_append]; exact hown'
  · exact fun d hd => ⟨hS (h.allcode d hd) (by decide) (by decide), fun g hg => own_lt (h.allcode d hd) hg⟩
  · intro b d hd
    injection hd with hd
    injection hd with e1 e2
    subst e1 e2
    exact ⟨⟨rfl, .inl ⟨rfl, rfl⟩⟩, g, _, _, cap, rfl, (fun e => by cases e), fun _ => ⟨rfl, rfl⟩⟩
  · show MS.mk _ _ _ _ _ _ _ = MS.mk _ _ _ _ _ _ _
    rw [map_allT, map_allV]
    rfl
  · exact hk.below h.size fun X _ hX => by rcases hX with rfl | hX; exact h.bp; exact own_ge h.lr hX
  · exact fun k ob hk1 hob => hk.at hk1 (by rintro (e | e); exact par_other h.par hk1 hob e; exact own_other h.lr (by decide) hk1 hob e)
theorem row_ch (w : World) (B p : Nat) (q : MS PD) (N : Int) (A n : Nat) (F : Nat → Int) (h : MsE w B p q) (hw : WordsAt w A (strW (wordsR (.ch n F)))) (hok : OkR q (.ch n F)) :
    Calls Try.prog 39 #[.pointer (some ⟨p, 0, none⟩), rowV N (some ⟨A, 0, none⟩) (n + 1) (n + 1)] w (RowPost w B p q (.ch n F)) := by
  obtain ⟨m, t, l, o, ch, ow, Bk, h, rfl⟩ := h
  have hl : (strW (wordsR (.ch n F))).length = n + 1 := wRow_len _ _ _
  obtain ⟨h1, h2, h3, h4⟩ := hok
  refine (choose_ok w p B N A (n + 1) (n + 1) _ (fun i => F (i - 1)) t l o ch ow m.tick m.tk m.C.length m.C h.par h4 h.cr h.size (by omega) (by omega) hl hw (wRow_small hCh F n (by decide) fun i hi => by have := (h3 i hi).1; have := (h3 i hi).2; omega) ?_).mono ?_
  · intro i hi1 hi2
    obtain ⟨j, rfl⟩ : ∃ j, i = j + 1 := ⟨i - 1, by omega⟩
    have hj := h3 j (by omega)
    exact take_row hCh F n j (-2147483648) 2147483647 (by omega) (by have := hj.1; have := hj.2; omega) hj.1 hj.2
  rintro e w' ⟨rfl, v, hp', hown', hg, hk⟩
  have hS : ∀ {B e s k : Nat} {v : Value} {xs : List Value}, w.ownsRow B e s v k xs → e ≠ 69 → e ≠ 3 → w'.ownsRow B e s v k xs := fun ho he he2 => own_survive ho hk (own_clear ho h.par he h.cr he2)
  refine ⟨rfl, ⟨{ m with C := m.C ++ (List.range n).map F }, t, l, o, v, ow, Bk, ⟨hp', hS h.tr (by decide) (by decide), hS h.lr (by decide) (by decide), hS h.or (by decide) (by decide), ?_, ?_, h.bk, Nat.le_trans h.bs hk.size, h.bp, ?_⟩, rfl⟩, ?_, ?_⟩
  · show w'.ownsRow B _ 1 _ (m.C ++ (List.range n).map F).length (intsV (m.C ++ (List.range n).map F))
    rw [List.length_append, List.length_map, List.length_range]
    exact hown'
  · exact fun d hd => ⟨hS (h.code d hd).1 (by decide) (by decide), (h.code d hd).2⟩
  · exact fun b d hd => ⟨hS (h.cur b d hd).1 (by decide) (by decide), (h.cur b d hd).2⟩
  · exact hk.below h.size fun X _ hX => by rcases hX with rfl | hX; exact h.bp; exact own_ge h.cr hX
  · exact fun k ob hk1 hob => hk.at hk1 (by rintro (e | e); exact par_other h.par hk1 hob e; exact own_other h.cr (by decide) hk1 hob e)
end Go.Proofs.Ytdjfelabdofaaaa
namespace Go.Proofs.Ytdjfelabdofaaaa
open Go.ChangeShapes Go.WideShapes Go.ChangeAt Go.RowKit
set_option linter.unusedVariables false
set_option linter.unusedSimpArgs false
def ky0 : ByteArray := ⟨#[111, 98, 106, 101, 99, 116]⟩
def ky1 : ByteArray := ⟨#[116, 105, 99, 107, 101, 114]⟩
def ky2 : ByteArray := ⟨#[116, 97, 115, 107]⟩
def ky3 : ByteArray := ⟨#[108, 101, 118, 101, 108]⟩
def ky4 : ByteArray := ⟨#[99, 104, 111, 111, 115, 101]⟩
def isHead (W : ByteArray) : Bool := W == ky0 || (W == ky1 || (W == ky2 || (W == ky3 || W == ky4)))
/-- What a head finds. -/
theorem find_hit (p : Nat) (W : ByteArray) :
    Instr.findNow .string (.string W) (kindsE p).toList 0 = some (if W == ky0 then some (0, (.func (.func 35) #[.pointer (some ⟨p, 0, none⟩)] #[])) else if W == ky1 then some (1, (.func (.func 36) #[.pointer (some ⟨p, 0, none⟩)] #[])) else if W == ky2 then some (2, (.func (.func 37) #[.pointer (some ⟨p, 0, none⟩)] #[])) else if W == ky3 then some (3, (.func (.func 38) #[.pointer (some ⟨p, 0, none⟩)] #[])) else if W == ky4 then some (4, (.func (.func 39) #[.pointer (some ⟨p, 0, none⟩)] #[])) else none) := by
  simp only [kindsE, Instr.findNow, Instr.sameNow]
  repeat' split
  all_goals simp_all [ky0, ky1, ky2, ky3, ky4]
theorem find_head (p : Nat) (W : ByteArray) : (∃ i v, Instr.findNow .string (.string W) (kindsE p).toList 0 = some (some (i, v)) ∧ isHead W = true) ∨ (Instr.findNow .string (.string W) (kindsE p).toList 0 = some none ∧ isHead W = false) := by
  rw [find_hit]
  unfold isHead
  cases h0 : (W == ky0) <;> cases h1 : (W == ky1) <;> cases h2 : (W == ky2) <;> cases h3 : (W == ky3) <;> cases h4 : (W == ky4) <;> simp
theorem zero_func (w : World) : (zeroValue 63).run Try.prog w = .ok .nilFunc w := by kernel_rfl
set_option maxRecDepth 100000 in
set_option maxHeartbeats 4000000 in
theorem head_any (w : World) (W : ByteArray) :
    Calls Try.prog 9 #[.string W] w fun e w' => e = .returned (.bool (isHead W)) ∧ Keeps (fun _ => False) w w' := by
  rcases find_head w.heap.size W with ⟨i, v, hf, he⟩ | ⟨hf, he⟩
  all_goals
    have HF := Lib.hid hf
    rw [he]
    clear hf he
    go_enter Try.func9, Try.ntmps9
    go_wp2_with fail
    refine (kinds_any _ w.heap.size).mono ?_
    rintro e1 w1 ⟨rfl, hm, k1⟩
    have HK := Lib.hid (((Keeps.refl (fun _ => False) w).alloc _).trans k1)
  · have hl := run_lookup_hit (P := Try.prog) 65 _ _ _ 5 i (kindsE w.heap.size) W v Try.underlying65 Try.underlying9 hm HF.out
    rw [World.size_alloc] at hl
    clear hm k1
    go_wp2_with fail
    go_ret
    exact ⟨rfl, HK.out⟩
  · have hl := run_lookup_miss (P := Try.prog) 65 _ _ _ 5 (kindsE w.heap.size) W .nilFunc Try.underlying65 Try.underlying9 hm (zero_func _) HF.out
    rw [World.size_alloc] at hl
    clear hm k1
    go_wp2_with fail
    go_ret
    exact ⟨rfl, HK.out⟩
theorem eq_list (W : ByteArray) (l : List UInt8) : (W == ⟨l.toArray⟩) = decide (W.toList = l) := by
  rw [ByteArray.toList_eq]
  by_cases h : W.data.toList = l
  · have e : W = ⟨l.toArray⟩ := bytes_inj h
    rw [decide_eq_true h, e]
    show (l.toArray == l.toArray) = true
    exact beq_self_eq_true _
  · rw [decide_eq_false h]
    show (W.data == l.toArray) = false
    apply beq_eq_false_iff_ne.2
    intro e
    rw [e] at h
    exact h rfl
theorem eq_list' (W : ByteArray) (l : List UInt8) : (W == ⟨l.toArray⟩) = (W.toList == l) := by
  rw [eq_list]
  by_cases h : W.toList = l
  · rw [decide_eq_true h, h]; exact (beq_self_eq_true _).symm
  · rw [decide_eq_false h]; exact (beq_eq_false_iff_ne.2 h).symm
theorem isHead_eq (W : ByteArray) : isHead W = (W.toList == [111, 98, 106, 101, 99, 116] || (W.toList == [116, 105, 99, 107, 101, 114] || (W.toList == [116, 97, 115, 107] || (W.toList == [108, 101, 118, 101, 108] || W.toList == [99, 104, 111, 111, 115, 101])))) := by
  rw [← eq_list', ← eq_list', ← eq_list', ← eq_list', ← eq_list']
  rfl
set_option maxRecDepth 100000 in
set_option maxHeartbeats 4000000 in
theorem rhead_any (w : World) (W : ByteArray) :
    Calls Try.prog 10 #[.string W] w fun e w' => e = .returned (.bool (isHead W)) ∧ w' = w := by
  rw [isHead_eq]
  go_enter Try.func10, Try.ntmps10
  go_wp2_with fail
  all_goals
    go_ret
    refine ⟨?_, rfl⟩
    first
      | (simp [*]; done)
      | (show Ending.returned (Value.bool _) = _; simp [Bool.or_assoc]; done)
end Go.Proofs.Ytdjfelabdofaaaa
namespace Go.Proofs.Ytdjfelabdofaaaa
open Go.ChangeShapes Go.WideShapes Go.ChangeAt Go.RowKit
set_option linter.unusedVariables false
set_option linter.unusedSimpArgs false
theorem own_clear2 {w : World} {g B B' e e' s s' k k' : Nat} {E : TypeId} {v u : Value} {xs ys : List Value} {cs : Array Value} (h : w.ownsRow B e s v k xs) (hp : w.heap[g]? = some (.cells cs E (0, 0))) (he : e ≠ E) (hu : w.ownsRow B' e' s' u k' ys) (hne : e ≠ e') : ∀ X, v.ownBlock = some X → ¬ (X = g ∨ u.ownBlock = some X) := by
  rintro X hX (rfl | h2)
  · exact own_apart h hp he hX
  · rcases own_differ h hu hne with h3 | h3
    · rw [h3] at hX; cases hX
    · exact h3 (hX.trans h2.symm)
theorem call_small (c : CallD) (h : c.Fit) : ∀ i, i < (strsC c).length → (fOf (strsC c) i).length ≤ 1000
  | 0, _ => by rw [fOf_zero]; have := wordK_len c.k (by have := h.k; omega); omega
  | i + 1, hi => by
    rw [strsC_len] at hi
    rw [fOf_succ c i (by omega)]
    have := prnL_len (numC_ok h.ok i)
    omega
set_option maxHeartbeats 2000000 in
theorem row_call (w : World) (B p : Nat) (q : MS PD) (N : Int) (A n : Nat) (c : CallD) (hn : n = (strW (wordsR (.call c))).length) (h : MsE w B p q) (hw : WordsAt w A (strW (wordsR (.call c)))) (hok : OkR q (.call c)) :
    Calls Try.prog 28 #[.pointer (some ⟨p, 0, none⟩), rowV N (some ⟨A, 0, none⟩) n n] w (RowPost w B p q (.call c)) := by
  obtain ⟨m, t, l, o, ch, ow, Bk, h, rfl⟩ := h
  have hr : StrRow w (some ⟨A, 0, none⟩) n (fOf (strsC c)) := hn ▸ words_row hw
  obtain ⟨hfit, b, d0, hcur, hlen⟩ := hok
  have hn7 : n ≤ 7 := by
    have h1 : n = (strsC c).length := hn
    have h2 := strsC_len c
    have h3 := keepN_le (numC c) 6
    omega
  obtain ⟨d, hd, hd1⟩ : ∃ d, m.cur = some (b, d) ∧ d.1 = d0 := by
    obtain ⟨T, V, cur, O, tick, tk, C⟩ := m
    rcases cur with _ | ⟨b', d'⟩
    · cases hcur
    · injection hcur with hcur
      injection hcur with e1 e2
      have e1 : b' = b := e1
      subst e1
      exact ⟨d', rfl, e2⟩
  subst hd1
  obtain ⟨hown, gO, oO, n1, cap1, rfl, ht, hv⟩ := h.cur b d hd
  have hpc : parseC n (fOf (strsC c)) = (c, 0) := by rw [hn]; exact parse_print c hfit
  have hsm : ∀ i, i < n → (fOf (strsC c) i).length ≤ 1000 := by intro i hi; exact call_small c hfit i (by have h0 : n = (strsC c).length := hn; omega)
  have hBkB := h.bk
  cases b with
  | true =>
    obtain ⟨rfl, rfl⟩ := ht rfl
    have eT : m.allT = m.T ++ [d] := by unfold MS.allT; rw [hd]; rfl
    have eV : m.allV = m.V := by unfold MS.allV; rw [hd]; exact List.append_nil _
    have htr := h.tr
    rw [eT] at htr
    obtain ⟨cur, hO, hgB, hat, hput⟩ := own_open htr
    have hv := hat _ _ (flatT_last m.T d)
    refine (pcall_ok w p Bk N (some ⟨A, 0, none⟩) n n _ c _ l o ch m.tick m.tk gO _ cur _ d.2 d.1.L.length d.1.L h.par hO hv (by decide) rfl hlen hown h.bs (by omega) hr hsm hpc).mono ?_
    rintro e w' ⟨rfl, g, cap, hO', hown', hg, hk⟩
    have hS : ∀ {B e s k : Nat} {v : Value} {xs : List Value}, w.ownsRow B e s v k xs → e ≠ 42 → e ≠ 81 → w'.ownsRow B e s v k xs := fun ho he he2 => own_survive ho hk (own_clear2 ho hO he hown he2)
    have hgp : p ≠ gO := by
      intro e
      have hp := h.par
      rw [e, hO] at hp
      injection hp with hp
      injection hp with _ h2
      exact absurd h2 (by decide)
    refine ⟨rfl, ⟨⟨m.T, m.V, some (true, (⟨d.1.x, d.1.b, d.1.L ++ [c]⟩, .slice (some ⟨g, 0, none⟩) (d.1.L.length + 1) cap)), m.O, m.tick, m.tk, m.C⟩, _, l, o, ch, _, Bk, ⟨hk.at h.par (fun e => by rcases e with e | e; exact hgp e; exact own_apart hown h.par (by decide) e), ?_, ?_, hS h.or (by decide) (by decide), hS h.cr (by decide) (by decide), ?_, h.bk, Nat.le_trans h.bs hk.size, h.bp, ?_⟩, ?_⟩, ?_, ?_⟩
    · have h1 := hput w' (m.T.length * 3 + 2) (.slice (some ⟨g, 0, none⟩) (d.1.L.length + 1) cap) (by rw [flatT_len, List.length_append, List.length_singleton]; omega) hO'
      rw [flatT_set m.T d (d.1.L ++ [c])] at h1
      show w'.ownsRow B _ 3 _ (m.T ++ [_]).length (flatT (m.T ++ [_]))
      rw [List.length_append] at h1 ⊢
      exact h1
    · show w'.ownsRow B _ 2 _ (m.V ++ []).length (flatV (m.V ++ []))
      have h1 := hS h.lr (by decide) (by decide)
      rw [eV] at h1
      rw [List.append_nil]
      exact h1
    · intro x hx
      refine ⟨own_survive (h.code x hx).1 hk ?_, (h.code x hx).2⟩
      rintro X hX (rfl | h2)
      · exact own_apart (h.code x hx).1 hO (by decide) hX
      · have := (h.code x hx).2 X hX
        have := own_ge hown h2
        omega
    · intro b' d' hd'
      injection hd' with hd'
      injection hd' with e1 e2
      subst e1 e2
      exact ⟨by show w'.ownsRow Bk _ 7 _ (d.1.L ++ [c]).length _; rw [List.length_append]; exact hown', gO, _, n1, cap1, rfl, fun _ => ⟨rfl, rfl⟩, fun e => by cases e⟩
    · show MS.mk _ _ _ _ _ _ _ = MS.mk _ _ _ _ _ _ _
      simp only [MS.map, hd]
      rfl
    · exact hk.below h.size fun X _ hX => by rcases hX with rfl | hX; exact hgB; exact Nat.le_trans hBkB (own_ge hown hX)
    · exact fun k ob hk1 hob => hk.at hk1 (by
        rintro (e | e)
        · rw [e, hO] at hk1
          injection hk1 with hk1
          exact hob _ _ _ hk1.symm (by decide)
        · exact own_other hown (by decide) hk1 hob e)
  | false =>
    obtain ⟨rfl, rfl⟩ := hv rfl
    have eT : m.allT = m.T := by unfold MS.allT; rw [hd]; exact List.append_nil _
    have eV : m.allV = m.V ++ [d] := by unfold MS.allV; rw [hd]; rfl
    have hlr := h.lr
    rw [eV] at hlr
    obtain ⟨cur, hO, hgB, hat, hput⟩ := own_open hlr
    have hv := hat _ _ (flatV_last m.V d)
    refine (pcall_ok w p Bk N (some ⟨A, 0, none⟩) n n _ c t _ o ch m.tick m.tk gO _ cur _ d.2 d.1.L.length d.1.L h.par hO hv (by decide) rfl hlen hown h.bs (by omega) hr hsm hpc).mono ?_
    rintro e w' ⟨rfl, g, cap, hO', hown', hg, hk⟩
    have hS : ∀ {B e s k : Nat} {v : Value} {xs : List Value}, w.ownsRow B e s v k xs → e ≠ 44 → e ≠ 81 → w'.ownsRow B e s v k xs := fun ho he he2 => own_survive ho hk (own_clear2 ho hO he hown he2)
    have hgp : p ≠ gO := by
      intro e
      have hp := h.par
      rw [e, hO] at hp
      injection hp with hp
      injection hp with _ h2
      exact absurd h2 (by decide)
    refine ⟨rfl, ⟨⟨m.T, m.V, some (false, (⟨d.1.x, d.1.b, d.1.L ++ [c]⟩, .slice (some ⟨g, 0, none⟩) (d.1.L.length + 1) cap)), m.O, m.tick, m.tk, m.C⟩, t, _, o, ch, _, Bk, ⟨hk.at h.par (fun e => by rcases e with e | e; exact hgp e; exact own_apart hown h.par (by decide) e), ?_, ?_, hS h.or (by decide) (by decide), hS h.cr (by decide) (by decide), ?_, h.bk, Nat.le_trans h.bs hk.size, h.bp, ?_⟩, ?_⟩, ?_, ?_⟩
    · show w'.ownsRow B _ 3 _ (m.T ++ []).length (flatT (m.T ++ []))
      have h1 := hS h.tr (by decide) (by decide)
      rw [eT] at h1
      rw [List.append_nil]
      exact h1
    · have h1 := hput w' (m.V.length * 2 + 1) (.slice (some ⟨g, 0, none⟩) (d.1.L.length + 1) cap) (by rw [flatV_len, List.length_append, List.length_singleton]; omega) hO'
      rw [flatV_set m.V d (d.1.L ++ [c])] at h1
      show w'.ownsRow B _ 2 _ (m.V ++ [_]).length (flatV (m.V ++ [_]))
      rw [List.length_append] at h1 ⊢
      exact h1
    · intro x hx
      refine ⟨own_survive (h.code x hx).1 hk ?_, (h.code x hx).2⟩
      rintro X hX (rfl | h2)
      · exact own_apart (h.code x hx).1 hO (by decide) hX
      · have := (h.code x hx).2 X hX
        have := own_ge hown h2
        omega
    · intro b' d' hd'
      injection hd' with hd'
      injection hd' with e1 e2
      subst e1 e2
      exact ⟨by show w'.ownsRow Bk _ 7 _ (d.1.L ++ [c]).length _; rw [List.length_append]; exact hown', gO, _, n1, cap1, rfl, (fun e => by cases e), fun _ => ⟨rfl, rfl⟩⟩
    · show MS.mk _ _ _ _ _ _ _ = MS.mk _ _ _ _ _ _ _
      simp only [MS.map, hd]
      rfl
    · exact hk.below h.size fun X _ hX => by rcases hX with rfl | hX; exact hgB; exact Nat.le_trans hBkB (own_ge hown hX)
    · exact fun k ob hk1 hob => hk.at hk1 (by
        rintro (e | e)
        · rw [e, hO] at hk1
          injection hk1 with hk1
          exact hob _ _ _ hk1.symm (by decide)
        · exact own_other hown (by decide) hk1 hob e)
/-- Whose row. -/
def fnR : RowT → Nat
  | .obj _ => 35
  | .tick _ => 36
  | .task _ _ => 37
  | .lvl _ => 38
  | .ch _ _ => 39
  | .call _ => 28
theorem row_any (w : World) (B p : Nat) (q : MS PD) (N : Int) (A n : Nat) (r : RowT) (hn : n = (strW (wordsR r)).length) (h : MsE w B p q) (hw : WordsAt w A (strW (wordsR r))) (hok : OkR q r) :
    Calls Try.prog (fnR r) #[.pointer (some ⟨p, 0, none⟩), rowV N (some ⟨A, 0, none⟩) n n] w (RowPost w B p q r) := by
  subst hn
  cases r with
  | obj x => rw [show (strW (wordsR (.obj x))).length = 11 from wRow_len _ _ _]; exact row_obj w B p q N A x h hw hok
  | tick x => rw [show (strW (wordsR (.tick x))).length = 2 from wRow_len _ _ _]; exact row_tick w B p q N A x h hw hok
  | task x y => rw [show (strW (wordsR (.task x y))).length = 3 from wRow_len _ _ _]; exact row_task w B p q N A x y h hw hok
  | lvl x => rw [show (strW (wordsR (.lvl x))).length = 2 from wRow_len _ _ _]; exact row_lvl w B p q N A x h hw hok
  | ch n F => rw [show (strW (wordsR (.ch n F))).length = n + 1 from wRow_len _ _ _]; exact row_ch w B p q N A n F h hw hok
  | call c => exact row_call w B p q N A _ c rfl h hw hok
theorem enter_any (r : RowT) (args : Array Value) (w : World) : Sem.run Try.prog (callFunc (fnR r) args) w = .ok (.enter (fnR r) args) w := by
  cases r <;> kernel_rfl
end Go.Proofs.Ytdjfelabdofaaaa
namespace Go.Proofs.Ytdjfelabdofaaaa
open Go.ChangeShapes Go.WideShapes Go.ChangeAt Go.RowKit
set_option linter.unusedVariables false
set_option linter.unusedSimpArgs false
def isCall : RowT → Bool
  | .call _ => true
  | _ => false
/-- A row's first word. -/
def word0 (r : RowT) : ByteArray := ⟨((wordsR r).headD []).toArray⟩
theorem wordK_head (k : Int) : isHead ⟨(wordK k).toArray⟩ = false := by
  rw [isHead_eq, ByteArray.toList_eq]
  show (wordK k == _ || _) = false
  unfold wordK
  split
  · rename_i h
    have : ∀ i, i < 19 → ((kwF i == [111, 98, 106, 101, 99, 116] || (kwF i == [116, 105, 99, 107, 101, 114] || (kwF i == [116, 97, 115, 107] || (kwF i == [108, 101, 118, 101, 108] || kwF i == [99, 104, 111, 111, 115, 101])))) = false) := by decide
    exact this _ (by omega)
  · simp
theorem look_hit (r : RowT) (hr : isCall r = false) (p mb : Nat) (w : World) (hb : w.heap[mb]? = some (.map (kindsE p) 5)) :
    (Instr.lookup 65 (.map (some mb)) (.string (word0 r)) true).run Try.prog w = .ok (.tuple #[.func (.func (fnR r)) #[.pointer (some ⟨p, 0, none⟩)] #[], .bool true]) w := by
  cases r with
  | call c => cases hr
  | obj x => exact run_lookup_hit (P := Try.prog) 65 _ _ _ 5 0 (kindsE p) ky0 _ Try.underlying65 Try.underlying9 hb (by rw [find_hit]; rfl)
  | tick x => exact run_lookup_hit (P := Try.prog) 65 _ _ _ 5 1 (kindsE p) ky1 _ Try.underlying65 Try.underlying9 hb (by rw [find_hit]; rfl)
  | task x y => exact run_lookup_hit (P := Try.prog) 65 _ _ _ 5 2 (kindsE p) ky2 _ Try.underlying65 Try.underlying9 hb (by rw [find_hit]; rfl)
  | lvl x => exact run_lookup_hit (P := Try.prog) 65 _ _ _ 5 3 (kindsE p) ky3 _ Try.underlying65 Try.underlying9 hb (by rw [find_hit]; rfl)
  | ch n F => exact run_lookup_hit (P := Try.prog) 65 _ _ _ 5 4 (kindsE p) ky4 _ Try.underlying65 Try.underlying9 hb (by rw [find_hit]; rfl)
theorem look_miss (r : RowT) (hr : isCall r = true) (p mb : Nat) (w : World) (hb : w.heap[mb]? = some (.map (kindsE p) 5)) :
    (Instr.lookup 65 (.map (some mb)) (.string (word0 r)) true).run Try.prog w = .ok (.tuple #[.nilFunc, .bool false]) w := by
  cases r with
  | call c =>
    have hf : Instr.findNow .string (.string (word0 (.call c))) (kindsE p).toList 0 = some none := by
      rcases find_head p (word0 (.call c)) with ⟨i, v, _, h2⟩ | ⟨h1, _⟩
      · have : isHead (word0 (.call c)) = false := wordK_head c.k
        rw [this] at h2
        cases h2
      · exact h1
    exact run_lookup_miss (P := Try.prog) 65 _ _ _ 5 (kindsE p) (word0 (.call c)) .nilFunc Try.underlying65 Try.underlying9 hb (zero_func _) hf
  | _ => cases hr
theorem fnR_call (r : RowT) (hr : isCall r = true) : fnR r = 28 := by
  cases r <;> first | rfl | cases hr
theorem word0_at (r : RowT) : (strW (wordsR r))[0]? = some (word0 r) := by cases r <;> rfl
theorem MsW.keep {w w' : World} {B p : Nat} {m : MS (PD × Value)} {t l o ch ow : Value} {Bk : Nat} (h : MsW w B p m t l o ch ow Bk) (hk : Keeps (fun X => X < B) w w') : MsW w' B p m t l o ch ow Bk := by
  have hbk := h.bk
  have hS : ∀ {B' e s k : Nat} {v : Value} {xs : List Value}, B ≤ B' → w.ownsRow B' e s v k xs → w'.ownsRow B' e s v k xs := fun hB ho => own_survive ho hk fun X hX e => by have := own_ge ho hX; omega
  exact ⟨hk.at h.par (by have := h.bp; omega), hS (Nat.le_refl _) h.tr, hS (Nat.le_refl _) h.lr, hS (Nat.le_refl _) h.or, hS (Nat.le_refl _) h.cr, fun d hd => ⟨hS (Nat.le_refl _) (h.code d hd).1, (h.code d hd).2⟩, h.bk, Nat.le_trans h.bs hk.size, h.bp, fun b d hd => ⟨hS h.bk (h.cur b d hd).1, (h.cur b d hd).2⟩⟩
theorem MsE.keep {w w' : World} {B p : Nat} {q : MS PD} (h : MsE w B p q) (hk : Keeps (fun X => X < B) w w') : MsE w' B p q := by
  obtain ⟨m, t, l, o, ch, ow, Bk, h, hq⟩ := h
  exact ⟨m, t, l, o, ch, ow, Bk, h.keep hk, hq⟩
/-- Nothing parsed yet. -/
def ms0 {δ : Type} : MS δ := ⟨[], [], none, [], 0, false, []⟩
theorem MsE.start {w : World} {p : Nat} (hp : w.heap[p]? = some (.cells (parC (.slice none 0 0) (.slice none 0 0) (.slice none 0 0) 0 (.slice none 0 0) false (.pointer none)) 69 (0, 0))) : MsE w p p ms0 :=
  ⟨ms0, _, _, _, _, _, p, ⟨hp, ⟨rfl, .inl ⟨rfl, rfl⟩⟩, ⟨rfl, .inl ⟨rfl, rfl⟩⟩, ⟨rfl, .inl ⟨rfl, rfl⟩⟩, ⟨rfl, .inl ⟨rfl, rfl⟩⟩, (fun d hd => by cases hd), Nat.le_refl _, Nat.le_of_lt (lt_of hp), Nat.le_refl _, fun b d hd => by cases hd⟩, rfl⟩
theorem flatR_at {R : List RowD} {k : Nat} {r : RowD} (h : R[k]? = some r) : (flatR R)[k * 2]? = some (.int .i64 (r.n : Int)) ∧ (flatR R)[k * 2 + 1]? = some (.slice (some ⟨r.A, 0, none⟩) r.ws.length r.ws.length) := by
  induction R generalizing k with
  | nil => cases h
  | cons a t ih =>
    have e : flatR (a :: t) = [.int .i64 (a.n : Int), .slice (some ⟨a.A, 0, none⟩) a.ws.length a.ws.length] ++ flatR t := rfl
    rw [e]
    match k, h with
    | 0, h =>
      obtain rfl : a = r := by simpa using h
      exact ⟨rfl, rfl⟩
    | k + 1, h =>
      have h2 := ih (k := k) (by simpa using h)
      rw [show (k + 1) * 2 = k * 2 + 2 by omega, show k * 2 + 2 + 1 = k * 2 + 1 + 2 by omega, List.getElem?_append_right (by simp), List.getElem?_append_right (by simp)]
      exact h2
/-- Between two rows. -/
structure PaW (w : World) (b1 b2 b3 : Nat) (rs : List RowT) (fin : MS PD) (v : Value) (R : List RowD) (p mb Br : Nat) (k : Nat) (wr : World) : Prop where
  b0 : wr.heap[w.heap.size]? = some (.cells #[.slice none 0 0, .slice none 0 0, .slice none 0 0, .int .i64 0] 26 (0, 0))
  b1 : wr.heap[b1]? = some (.cells #[.slice none 0 0] 27 (0, 0))
  b2 : ∃ n : Int, wr.heap[b2]? = some (.cells #[.int .i64 n] 3 (0, 0))
  b3 : wr.heap[b3]? = some (.cells #[.int .i64 0] 34 (0, 0))
  map : wr.heap[mb]? = some (.map (kindsE p) 5)
  rows : wr.ownsRow Br 78 2 v R.length (flatR R)
  words : RowsAt wr R
  ms : ∃ q, MsE wr p p q ∧ OkS q (rs.drop k) ∧ runP q (rs.drop k) = fin
  keep : Below w.heap.size w wr
/-- Where things lie. -/
structure Ord5 (w : World) (b1 b2 b3 p mb Br : Nat) : Prop where
  l1 : w.heap.size < b1
  l2 : b1 < b2
  l3 : b2 < b3
  l4 : b3 < p
  l5 : p < mb
  l6 : p < Br
/-- The line's number is noted. -/
theorem PaW.line {w : World} {b1 b2 b3 : Nat} {rs : List RowT} {fin : MS PD} {v : Value} {R : List RowD} {p mb Br k : Nat} {wr : World} (h : PaW w b1 b2 b3 rs fin v R p mb Br k wr) (ho : Ord5 w b1 b2 b3 p mb Br) (n : Int) : PaW w b1 b2 b3 rs fin v R p mb Br k (wr.setCell ⟨b2, 0, none⟩ (.int .i64 n)) := by
  obtain ⟨l1, l2, l3, l4, l5, l6⟩ := ho
  obtain ⟨n0, hb2⟩ := h.b2
  have hk : Keeps (fun X => X = b2) wr (wr.setCell ⟨b2, 0, none⟩ (.int .i64 n)) := (Keeps.refl (fun X => X = b2) wr).setCell (p := ⟨b2, 0, none⟩) (.inl rfl) _
  refine ⟨hk.at h.b0 (by omega), hk.at h.b1 (by omega), ⟨n, heap_set hb2 0 _⟩, hk.at h.b3 (by omega), hk.at h.map (by omega), own_survive h.rows hk fun X hX e => by have := own_ge h.rows hX; omega, ?_, ?_, ?_⟩
  · intro r hr
    obtain ⟨cur, h1, h2⟩ := h.words r hr
    refine ⟨cur, hk.at h1 fun e => ?_, h2⟩
    rw [e, hb2] at h1
    injection h1 with h1
    injection h1 with _ h3
    exact absurd h3 (by decide)
  · obtain ⟨q, h1, h2⟩ := h.ms
    exact ⟨q, h1.keep (hk.mono fun X _ e => by omega), h2⟩
  · exact h.keep.trans (hk.below h.keep.size fun X _ e => by omega)
/-- A row is parsed. -/
theorem PaW.step {w : World} {b1 b2 b3 : Nat} {rs : List RowT} {fin : MS PD} {v : Value} {R : List RowD} {p mb Br k : Nat} {wr w2 : World} {r : RowT} {q : MS PD} (h : PaW w b1 b2 b3 rs fin v R p mb Br k wr) (ho : Ord5 w b1 b2 b3 p mb Br) (hr : rs[k]? = some r) (hq : OkS q (rs.drop k) ∧ runP q (rs.drop k) = fin) {e : Ending} (hp : RowPost wr p p q r e w2) : PaW w b1 b2 b3 rs fin v R p mb Br (k + 1) w2 := by
  obtain ⟨l1, l2, l3, l4, l5, l6⟩ := ho
  obtain ⟨_, hms, hbl, hfr⟩ := hp
  have hdrop : rs.drop k = r :: rs.drop (k + 1) := by
    have hlt : k < rs.length := by
      rcases Nat.lt_or_ge k rs.length with h | h
      · exact h
      · rw [List.getElem?_eq_none h] at hr; cases hr
    rw [List.drop_eq_getElem_cons hlt]
    congr 1
    rw [List.getElem?_eq_getElem hlt] at hr
    exact Option.some.inj hr
  rw [hdrop] at hq
  obtain ⟨n0, hb2⟩ := h.b2
  refine ⟨Below.at hbl h.b0 (by omega), Below.at hbl h.b1 (by omega), ⟨n0, Below.at hbl hb2 (by omega)⟩, Below.at hbl h.b3 (by omega), hfr _ _ h.map (fun cs E fr e => by cases e), ?_, ?_, ⟨stepP q r, hms, hq.1.2, hq.2⟩, h.keep.trans ?_⟩
  · refine ⟨h.rows.1, ?_⟩
    rcases h.rows.2 with h2 | ⟨g, cap, cur, e1, hb, hh, h3⟩
    · exact .inl h2
    · exact .inr ⟨g, cap, cur, e1, hb, hfr _ _ hh (fun cs E fr e => by injection e with _ e2 _; subst e2; decide), h3⟩
  · intro x hx
    obtain ⟨cur, h1, h2⟩ := h.words x hx
    exact ⟨cur, hfr _ _ h1 (fun cs E fr e => by injection e with _ e2 _; subst e2; decide), h2⟩
  · exact ⟨hbl.os, hbl.tape, hbl.output, hbl.size, fun j hj => hbl.block j (by omega)⟩
/-- What is returned lies in the results' boxes. -/
structure OutW (w : World) (b1 b2 b3 p : Nat) (m : MS (PD × Value)) (t l o ch ow : Value) (Bk : Nat) (n0 : Int) (W : World) : Prop where
  b0 : W.heap[w.heap.size]? = some (.cells #[t, l, o, .int .i64 m.tick] 26 (0, 0))
  b1 : W.heap[b1]? = some (.cells #[ch] 27 (0, 0))
  b2 : W.heap[b2]? = some (.cells #[.int .i64 n0] 3 (0, 0))
  b3 : W.heap[b3]? = some (.cells #[.int .i64 0] 34 (0, 0))
  ms : MsW W p p m t l o ch ow Bk
  keep : Below w.heap.size w W
theorem PaW.out {w : World} {b1 b2 b3 : Nat} {rs : List RowT} {fin : MS PD} {v : Value} {R : List RowD} {p mb Br k : Nat} {wr : World} {m : MS (PD × Value)} {t l o ch ow : Value} {Bk : Nat} {n0 : Int} (h : PaW w b1 b2 b3 rs fin v R p mb Br k wr) (ho : Ord5 w b1 b2 b3 p mb Br) (hm : MsW wr p p m t l o ch ow Bk) (hb2 : wr.heap[b2]? = some (.cells #[.int .i64 n0] 3 (0, 0))) :
    OutW w b1 b2 b3 p m t l o ch ow Bk n0 ((((((((wr.setCell ⟨w.heap.size, 0, none⟩ t).setCell ⟨w.heap.size, 1, none⟩ l).setCell ⟨w.heap.size, 2, none⟩ o).setCell ⟨w.heap.size, 3, none⟩ (.int .i64 m.tick)).setCell ⟨b1, 0, none⟩ ch).setCell ⟨b2, 0, none⟩ (.int .i64 n0)).setCell ⟨b3, 0, none⟩ (.int .i64 0)).drew) := by
  obtain ⟨l1, l2, l3, l4, l5, l6⟩ := ho
  have hk : Keeps (fun X => X = w.heap.size ∨ X = b1 ∨ X = b2 ∨ X = b3) wr ((((((((wr.setCell ⟨w.heap.size, 0, none⟩ t).setCell ⟨w.heap.size, 1, none⟩ l).setCell ⟨w.heap.size, 2, none⟩ o).setCell ⟨w.heap.size, 3, none⟩ (.int .i64 m.tick)).setCell ⟨b1, 0, none⟩ ch).setCell ⟨b2, 0, none⟩ (.int .i64 n0)).setCell ⟨b3, 0, none⟩ (.int .i64 0)).drew) := ((((((((Keeps.refl _ wr).setCell (p := ⟨w.heap.size, 0, none⟩) (.inl (.inl rfl)) _).setCell (p := ⟨w.heap.size, 1, none⟩) (.inl (.inl rfl)) _).setCell (p := ⟨w.heap.size, 2, none⟩) (.inl (.inl rfl)) _).setCell (p := ⟨w.heap.size, 3, none⟩) (.inl (.inl rfl)) _).setCell (p := ⟨b1, 0, none⟩) (.inl (.inr (.inl rfl))) _).setCell (p := ⟨b2, 0, none⟩) (.inl (.inr (.inr (.inl rfl)))) _).setCell (p := ⟨b3, 0, none⟩) (.inl (.inr (.inr (.inr rfl)))) _).drew
  have hkm := hm.keep (hk.mono fun X _ e => by omega : Keeps (fun X => X < p) wr _)
  have hkb := h.keep.trans (hk.below h.keep.size fun X _ e => by omega)
  clear hk
  obtain ⟨W1, hW1⟩ : ∃ W, W = wr.setCell ⟨w.heap.size, 0, none⟩ t := ⟨_, rfl⟩
  rw [← hW1] at hkm hkb ⊢
  have c1b0 : W1.heap[w.heap.size]? = some (.cells #[t, .slice none 0 0, .slice none 0 0, .int .i64 0] 26 (0, 0)) := by rw [hW1]; exact heap_set h.b0 0 _
  have c1b1 : W1.heap[b1]? = some (.cells #[.slice none 0 0] 27 (0, 0)) := by rw [hW1]; exact heap_other h.b1 (by dsimp only; omega) _
  have c1b2 : W1.heap[b2]? = some (.cells #[.int .i64 n0] 3 (0, 0)) := by rw [hW1]; exact heap_other hb2 (by dsimp only; omega) _
  have c1b3 : W1.heap[b3]? = some (.cells #[.int .i64 0] 34 (0, 0)) := by rw [hW1]; exact heap_other h.b3 (by dsimp only; omega) _
  clear hW1
  obtain ⟨W2, hW2⟩ : ∃ W, W = W1.setCell ⟨w.heap.size, 1, none⟩ l := ⟨_, rfl⟩
  rw [← hW2] at hkm hkb ⊢
  have c2b0 : W2.heap[w.heap.size]? = some (.cells #[t, l, .slice none 0 0, .int .i64 0] 26 (0, 0)) := by rw [hW2]; exact heap_set c1b0 1 _
  have c2b1 : W2.heap[b1]? = some (.cells #[.slice none 0 0] 27 (0, 0)) := by rw [hW2]; exact heap_other c1b1 (by dsimp only; omega) _
  have c2b2 : W2.heap[b2]? = some (.cells #[.int .i64 n0] 3 (0, 0)) := by rw [hW2]; exact heap_other c1b2 (by dsimp only; omega) _
  have c2b3 : W2.heap[b3]? = some (.cells #[.int .i64 0] 34 (0, 0)) := by rw [hW2]; exact heap_other c1b3 (by dsimp only; omega) _
  clear hW2
  obtain ⟨W3, hW3⟩ : ∃ W, W = W2.setCell ⟨w.heap.size, 2, none⟩ o := ⟨_, rfl⟩
  rw [← hW3] at hkm hkb ⊢
  have c3b0 : W3.heap[w.heap.size]? = some (.cells #[t, l, o, .int .i64 0] 26 (0, 0)) := by rw [hW3]; exact heap_set c2b0 2 _
  have c3b1 : W3.heap[b1]? = some (.cells #[.slice none 0 0] 27 (0, 0)) := by rw [hW3]; exact heap_other c2b1 (by dsimp only; omega) _
  have c3b2 : W3.heap[b2]? = some (.cells #[.int .i64 n0] 3 (0, 0)) := by rw [hW3]; exact heap_other c2b2 (by dsimp only; omega) _
  have c3b3 : W3.heap[b3]? = some (.cells #[.int .i64 0] 34 (0, 0)) := by rw [hW3]; exact heap_other c2b3 (by dsimp only; omega) _
  clear hW3
  obtain ⟨W4, hW4⟩ : ∃ W, W = W3.setCell ⟨w.heap.size, 3, none⟩ (.int .i64 m.tick) := ⟨_, rfl⟩
  rw [← hW4] at hkm hkb ⊢
  have c4b0 : W4.heap[w.heap.size]? = some (.cells #[t, l, o, .int .i64 m.tick] 26 (0, 0)) := by rw [hW4]; exact heap_set c3b0 3 _
  have c4b1 : W4.heap[b1]? = some (.cells #[.slice none 0 0] 27 (0, 0)) := by rw [hW4]; exact heap_other c3b1 (by dsimp only; omega) _
  have c4b2 : W4.heap[b2]? = some (.cells #[.int .i64 n0] 3 (0, 0)) := by rw [hW4]; exact heap_other c3b2 (by dsimp only; omega) _
  have c4b3 : W4.heap[b3]? = some (.cells #[.int .i64 0] 34 (0, 0)) := by rw [hW4]; exact heap_other c3b3 (by dsimp only; omega) _
  clear hW4
  obtain ⟨W5, hW5⟩ : ∃ W, W = W4.setCell ⟨b1, 0, none⟩ ch := ⟨_, rfl⟩
  rw [← hW5] at hkm hkb ⊢
  have c5b0 : W5.heap[w.heap.size]? = some (.cells #[t, l, o, .int .i64 m.tick] 26 (0, 0)) := by rw [hW5]; exact heap_other c4b0 (by dsimp only; omega) _
  have c5b1 : W5.heap[b1]? = some (.cells #[ch] 27 (0, 0)) := by rw [hW5]; exact heap_set c4b1 0 _
  have c5b2 : W5.heap[b2]? = some (.cells #[.int .i64 n0] 3 (0, 0)) := by rw [hW5]; exact heap_other c4b2 (by dsimp only; omega) _
  have c5b3 : W5.heap[b3]? = some (.cells #[.int .i64 0] 34 (0, 0)) := by rw [hW5]; exact heap_other c4b3 (by dsimp only; omega) _
  clear hW5
  obtain ⟨W6, hW6⟩ : ∃ W, W = W5.setCell ⟨b2, 0, none⟩ (.int .i64 n0) := ⟨_, rfl⟩
  rw [← hW6] at hkm hkb ⊢
  have c6b0 : W6.heap[w.heap.size]? = some (.cells #[t, l, o, .int .i64 m.tick] 26 (0, 0)) := by rw [hW6]; exact heap_other c5b0 (by dsimp only; omega) _
  have c6b1 : W6.heap[b1]? = some (.cells #[ch] 27 (0, 0)) := by rw [hW6]; exact heap_other c5b1 (by dsimp only; omega) _
  have c6b2 : W6.heap[b2]? = some (.cells #[.int .i64 n0] 3 (0, 0)) := by rw [hW6]; exact heap_set c5b2 0 _
  have c6b3 : W6.heap[b3]? = some (.cells #[.int .i64 0] 34 (0, 0)) := by rw [hW6]; exact heap_other c5b3 (by dsimp only; omega) _
  clear hW6
  obtain ⟨W7, hW7⟩ : ∃ W, W = W6.setCell ⟨b3, 0, none⟩ (.int .i64 0) := ⟨_, rfl⟩
  rw [← hW7] at hkm hkb ⊢
  have c7b0 : W7.heap[w.heap.size]? = some (.cells #[t, l, o, .int .i64 m.tick] 26 (0, 0)) := by rw [hW7]; exact heap_other c6b0 (by dsimp only; omega) _
  have c7b1 : W7.heap[b1]? = some (.cells #[ch] 27 (0, 0)) := by rw [hW7]; exact heap_other c6b1 (by dsimp only; omega) _
  have c7b2 : W7.heap[b2]? = some (.cells #[.int .i64 n0] 3 (0, 0)) := by rw [hW7]; exact heap_other c6b2 (by dsimp only; omega) _
  have c7b3 : W7.heap[b3]? = some (.cells #[.int .i64 0] 34 (0, 0)) := by rw [hW7]; exact heap_set c6b3 0 _
  clear hW7
  exact ⟨c7b0, c7b1, c7b2, c7b3, hkm, hkb⟩
end Go.Proofs.Ytdjfelabdofaaaa
