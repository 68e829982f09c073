import Derived.Test.YtdjfelabdofaaaaTextX
import Derived.Test.YtdjfelabdofaaaaTxAz
namespace Go.Proofs.Ytdjfelabdofaaaa
open Go.ChangeShapes Go.WideShapes Go.ChangeAt Go.RowKit
set_option linter.unusedVariables false
set_option linter.unusedSimpArgs false
def slA : Value → Option Addr
  | .slice a _ _ => a
  | _ => none
def slC : Value → Nat
  | .slice _ _ c => c
  | _ => 0
/-- What was parsed, as a configuration. -/
def cfdM (m : MS (PD × Value)) (t l o : Value) : CfD where
  nT := m.allT.length
  nL := m.allV.length
  nO := m.O.length
  tick := m.tick
  ta := slA t
  la := slA l
  oa := slA o
  tc := slC t
  lc := slC l
  oc := slC o
  tp i := match m.allT[i]? with | some d => d.1.x | none => 0
  tb i := match m.allT[i]? with | some d => d.1.b | none => false
  tl i := match m.allT[i]? with | some d => d.1.L.length | none => 0
  tca i := match m.allT[i]? with | some d => slA d.2 | none => none
  tcc i := match m.allT[i]? with | some d => slC d.2 | none => 0
  lr i := match m.allV[i]? with | some d => d.1.x | none => 0
  ll i := match m.allV[i]? with | some d => d.1.L.length | none => 0
  lca i := match m.allV[i]? with | some d => slA d.2 | none => none
  lcc i := match m.allV[i]? with | some d => slC d.2 | none => 0
  ob i j := match m.O[i]? with | some x => x j | none => 0
  oi i j := match m.O[i]? with | some x => x (6 + j) | none => 0
def codeM (T : List (PD × Value)) (i : Nat) : List CallD := match T[i]? with | some d => d.1.L | none => []
theorem own_cells {w : World} {B e s k : Nat} {v : Value} {xs : List Value} (h : w.ownsRow B e s v k xs) (hk : 0 < k) : ∃ g c, v = .slice (some ⟨g, 0, none⟩) k c ∧ g < w.heap.size ∧ ∀ (i : Nat) (u : Value), xs[i]? = some u → w.cell? ⟨g, i, none⟩ = some u := by
  rcases h.2 with ⟨_, h0⟩ | ⟨g, cap, cur, rfl, hb, hh, h3, h4, h5, h6⟩
  · omega
  · refine ⟨g, cap, rfl, lt_of hh, fun i u hu => ?_⟩
    rw [cell_of hh i]
    rw [← h6, List.getElem?_take] at hu
    split at hu
    · simpa using hu
    · cases hu
theorem flatT_at {T : List (PD × Value)} {k : Nat} {d : PD × Value} (h : T[k]? = some d) : (flatT T)[k * 3]? = some (.int .i64 d.1.x) ∧ (flatT T)[k * 3 + 1]? = some (.bool d.1.b) ∧ (flatT T)[k * 3 + 2]? = some d.2 := by
  induction T generalizing k with
  | nil => cases h
  | cons a t ih =>
    have e : flatT (a :: t) = [.int .i64 a.1.x, .bool a.1.b, a.2] ++ flatT t := rfl
    rw [e]
    match k, h with
    | 0, h =>
      obtain rfl : a = d := by simpa using h
      exact ⟨rfl, rfl, rfl⟩
    | k + 1, h =>
      have h2 := ih (k := k) (by simpa using h)
      rw [show (k + 1) * 3 = k * 3 + 3 by omega, show k * 3 + 3 + 1 = k * 3 + 1 + 3 by omega, show k * 3 + 3 + 2 = k * 3 + 2 + 3 by omega, List.getElem?_append_right (by simp), List.getElem?_append_right (by simp), List.getElem?_append_right (by simp)]
      exact h2
theorem flatV_at {T : List (PD × Value)} {k : Nat} {d : PD × Value} (h : T[k]? = some d) : (flatV T)[k * 2]? = some (.int .i64 d.1.x) ∧ (flatV T)[k * 2 + 1]? = some d.2 := by
  induction T generalizing k with
  | nil => cases h
  | cons a t ih =>
    have e : flatV (a :: t) = [.int .i64 a.1.x, a.2] ++ flatV t := rfl
    rw [e]
    match k, h with
    | 0, h =>
      obtain rfl : a = d := by simpa using h
      exact ⟨rfl, rfl⟩
    | k + 1, h =>
      have h2 := ih (k := k) (by simpa using h)
      rw [show (k + 1) * 2 = k * 2 + 2 by omega, show k * 2 + 2 + 1 = k * 2 + 1 + 2 by omega, List.getElem?_append_right (by simp), List.getElem?_append_right (by simp)]
      exact h2
theorem flatO_at {T : List (Nat → Int)} {k : Nat} {x : Nat → Int} (h : T[k]? = some x) (j : Nat) (hj : j < 10) : (flatO T)[k * 10 + j]? = (obcL x)[j]? := by
  induction T generalizing k with
  | nil => cases h
  | cons a t ih =>
    have e : flatO (a :: t) = obcL a ++ flatO t := rfl
    have hl : (obcL a).length = 10 := rfl
    rw [e]
    match k, h with
    | 0, h =>
      obtain rfl : a = x := by simpa using h
      rw [Nat.zero_mul, Nat.zero_add, List.getElem?_append_left (by omega)]
    | k + 1, h =>
      have h2 := ih (k := k) (by simpa using h)
      rw [show (k + 1) * 10 + j = k * 10 + j + 10 by omega, List.getElem?_append_right (by omega), hl, Nat.add_sub_cancel]
      exact h2
/-- **What was parsed lies as a configuration.** -/
theorem cfd_in {w : World} {B p : Nat} {m : MS (PD × Value)} {t l o ch ow : Value} {Bk : Nat} (h : MsW w B p m t l o ch ow Bk) (hok : ∀ d, d ∈ m.allT ++ m.allV → ∀ x, x ∈ d.1.L → x.Ok) :
    (#[t, l, o, .int .i64 m.tick] : Array Value) = (cfdM m t l o).cells ∧ TxIn w (cfdM m t l o) (codeM m.allT) (codeM m.allV) := by
  have hcode : ∀ d, d ∈ m.allT ++ m.allV → d.2 = .slice (slA d.2) d.1.L.length (slC d.2) ∧ CodeAt w (slA d.2) d.1.L.length d.1.L := by
    intro d hd
    have ho := h.allcode d hd
    obtain ⟨a, c, e⟩ := own_slice ho
    refine ⟨by rw [e]; rfl, rfl, hok d hd, fun hn => ?_⟩
    obtain ⟨g, c2, e2, hg, hc⟩ := own_cells ho hn
    rw [e2]
    exact ⟨g, 0, rfl, hg, fun j v hj => by rw [Nat.zero_add]; exact hc j v hj⟩
  have hget : ∀ {T : List (PD × Value)} {i : Nat}, i < T.length → ∃ d, T[i]? = some d ∧ d ∈ T := fun {T i} hi => ⟨T[i], List.getElem?_eq_getElem hi, List.getElem_mem hi⟩
  refine ⟨?_, ⟨⟨fun hn => ?_, fun hn => ?_, fun hn => ?_⟩, fun i hi => ?_, fun i hi => ?_⟩⟩
  · obtain ⟨a1, c1, rfl⟩ := own_slice h.tr
    obtain ⟨a2, c2, rfl⟩ := own_slice h.lr
    obtain ⟨a3, c3, rfl⟩ := own_slice h.or
    rfl
  · obtain ⟨g, c, e, hg, hc⟩ := own_cells h.tr hn
    refine ⟨g, 0, by rw [e]; rfl, hg, fun i hi => ?_⟩
    obtain ⟨d, hd, hm⟩ := hget (T := m.allT) (i := i) hi
    obtain ⟨f0, f1, f2⟩ := flatT_at hd
    have hcd := (hcode d (List.mem_append_left _ hm)).1
    rw [Nat.zero_add]
    simp only [cfdM, hd]
    exact ⟨hc _ _ f0, hc _ _ f1, (hc _ _ f2).trans (by rw [← hcd])⟩
  · obtain ⟨g, c, e, hg, hc⟩ := own_cells h.lr hn
    refine ⟨g, 0, by rw [e]; rfl, hg, fun i hi => ?_⟩
    obtain ⟨d, hd, hm⟩ := hget (T := m.allV) (i := i) hi
    obtain ⟨f0, f1⟩ := flatV_at hd
    have hcd := (hcode d (List.mem_append_right _ hm)).1
    rw [Nat.zero_add]
    simp only [cfdM, hd]
    exact ⟨hc _ _ f0, (hc _ _ f1).trans (by rw [← hcd])⟩
  · obtain ⟨g, c, e, hg, hc⟩ := own_cells h.or hn
    refine ⟨g, 0, by rw [e]; rfl, hg, fun i hi j hj => ?_⟩
    have hx : m.O[i]? = some (m.O[i]'hi) := List.getElem?_eq_getElem hi
    have f := flatO_at hx j hj
    rw [Nat.zero_add]
    obtain ⟨u, hu⟩ : ∃ u, (obcL (m.O[i]'hi))[j]? = some u := ⟨_, List.getElem?_eq_getElem (by show j < 10; exact hj)⟩
    have e2 : (cfdM m t l o).obj i = (obcL (m.O[i]'hi)).toArray := by
      simp only [cfdM, CfD.obj, hx]
      rfl
    rw [hc _ u (f.trans hu), e2, ← hu]
    simp
  · obtain ⟨d, hd, hm⟩ := hget (T := m.allT) (i := i) hi
    have hcd := (hcode d (List.mem_append_left _ hm)).2
    simp only [cfdM, codeM, hd]
    exact hcd
  · obtain ⟨d, hd, hm⟩ := hget (T := m.allV) (i := i) hi
    have hcd := (hcode d (List.mem_append_right _ hm)).2
    simp only [cfdM, codeM, hd]
    exact hcd
end Go.Proofs.Ytdjfelabdofaaaa
namespace Go.Proofs.Ytdjfelabdofaaaa
open Go.ChangeShapes Go.WideShapes Go.ChangeAt Go.RowKit
set_option linter.unusedVariables false
set_option linter.unusedSimpArgs false
/-- A configuration's rows. -/
def objR (c : CfD) : Nat → List RowT
  | 0 => []
  | k + 1 => objR c k ++ [.obj (objF c k)]
def tskR (c : CfD) (TC : Nat → List CallD) : Nat → List RowT
  | 0 => []
  | k + 1 => tskR c TC k ++ (.task (c.tp k) (c.tb k) :: (TC k).map .call)
def lvlR (c : CfD) (LC : Nat → List CallD) : Nat → List RowT
  | 0 => []
  | k + 1 => lvlR c LC k ++ (.lvl (c.lr k) :: (LC k).map .call)
def chR (n : Nat) (F : Nat → Int) : Nat → List RowT
  | 0 => []
  | k + 1 => chR n F k ++ [.ch (min 20 (n - 20 * k)) (fun j => F (20 * k + j))]
def rowsT (c : CfD) (TC LC : Nat → List CallD) (n : Nat) (F : Nat → Int) : List RowT :=
  objR c c.nO ++ [.tick c.tick] ++ tskR c TC c.nT ++ lvlR c LC c.nL ++ chR n F ((n + 19) / 20)
theorem words_calls (L : List CallD) : (L.map RowT.call).map wordsR = L.map wordsC := by rw [List.map_map]; rfl
theorem words_obj (c : CfD) : ∀ k, (objR c k).map wordsR = objW c k
  | 0 => rfl
  | k + 1 => by show (objR c k ++ [_]).map wordsR = objW c k ++ [_]; rw [List.map_append, words_obj c k]; rfl
theorem words_tsk (c : CfD) (TC : Nat → List CallD) : ∀ k, (tskR c TC k).map wordsR = tskW c TC k
  | 0 => rfl
  | k + 1 => by
    show (tskR c TC k ++ (_ :: (TC k).map RowT.call)).map wordsR = tskW c TC k ++ (_ :: (TC k).map wordsC)
    rw [List.map_append, words_tsk c TC k, List.map_cons, words_calls]
    rfl
theorem words_lvl (c : CfD) (LC : Nat → List CallD) : ∀ k, (lvlR c LC k).map wordsR = lvlW c LC k
  | 0 => rfl
  | k + 1 => by
    show (lvlR c LC k ++ (_ :: (LC k).map RowT.call)).map wordsR = lvlW c LC k ++ (_ :: (LC k).map wordsC)
    rw [List.map_append, words_lvl c LC k, List.map_cons, words_calls]
    rfl
theorem words_ch (n : Nat) (F : Nat → Int) : ∀ k, (chR n F k).map wordsR = chW n F k
  | 0 => rfl
  | k + 1 => by show (chR n F k ++ [_]).map wordsR = chW n F k ++ [_]; rw [List.map_append, words_ch n F k]; rfl
theorem words_rows (c : CfD) (TC LC : Nat → List CallD) (n : Nat) (F : Nat → Int) : (rowsT c TC LC n F).map wordsR = wordsT c TC LC n F := by
  unfold rowsT wordsT
  rw [List.map_append, List.map_append, List.map_append, List.map_append, words_obj, words_tsk, words_lvl, words_ch]
  rfl
theorem runP_app (m : MS PD) (a b : List RowT) : runP m (a ++ b) = runP (runP m a) b := List.foldl_append
theorem okS_app : ∀ (a b : List RowT) (m : MS PD), OkS m a → OkS (runP m a) b → OkS m (a ++ b)
  | [], _, _, _, h => h
  | r :: t, b, m, h, h2 => ⟨h.1, okS_app t b (stepP m r) h.2 h2⟩
/-- The calls of one owner. -/
theorem run_calls : ∀ (L : List CallD) (m : MS PD) (b : Bool) (d : PD), m.cur = some (b, d) → runP m (L.map .call) = { m with cur := some (b, ⟨d.x, d.b, d.L ++ L⟩) }
  | [], m, b, d, h => by
    obtain ⟨T, V, cur, O, tick, tk, C⟩ := m
    have h : cur = some (b, d) := h
    subst h
    show MS.mk _ _ _ _ _ _ _ = MS.mk _ _ _ _ _ _ _
    rw [List.append_nil]
  | x :: t, m, b, d, h => by
    obtain ⟨T, V, cur, O, tick, tk, C⟩ := m
    have h : cur = some (b, d) := h
    subst h
    show runP _ (t.map .call) = _
    rw [run_calls t _ b ⟨d.x, d.b, d.L ++ [x]⟩ rfl]
    show MS.mk _ _ _ _ _ _ _ = MS.mk _ _ _ _ _ _ _
    rw [List.append_assoc]
    rfl
theorem ok_calls : ∀ (L : List CallD) (m : MS PD) (b : Bool) (d : PD), m.cur = some (b, d) → (∀ x, x ∈ L → x.Fit) → d.L.length + L.length ≤ 1000 → OkS m (L.map .call)
  | [], _, _, _, _, _, _ => trivial
  | x :: t, m, b, d, h, hf, hl => by
    rw [List.length_cons] at hl
    refine ⟨⟨hf x (.head _), b, d, h, by omega⟩, ok_calls t _ b ⟨d.x, d.b, d.L ++ [x]⟩ ?_ (fun y hy => hf y (.tail _ hy)) ?_⟩
    · show m.cur.map _ = _
      rw [h]
      rfl
    · show (d.L ++ [x]).length + t.length ≤ 1000
      rw [List.length_append, List.length_singleton]
      omega
/-- A configuration that can be printed and read. -/
structure BackOk (c : CfD) (TC LC : Nat → List CallD) (n : Nat) (F : Nat → Int) : Prop where
  t20 : c.nT ≤ 20
  l40 : c.nL ≤ 40
  o20 : c.nO ≤ 20
  n300 : n ≤ 300
  tick : is32 c.tick
  tp : ∀ i, i < c.nT → is32 (c.tp i)
  lr : ∀ i, i < c.nL → is32 (c.lr i)
  ob : ∀ i, i < c.nO → ∀ j, j < 6 → is32 (c.ob i j)
  oi : ∀ i, i < c.nO → ∀ j, j < 4 → 0 ≤ c.oi i j ∧ c.oi i j ≤ 4294967295
  f : ∀ i, i < n → is32 (F i)
  tc : ∀ i, i < c.nT → (TC i).length ≤ 70 ∧ ∀ x, x ∈ TC i → x.Fit
  lc : ∀ i, i < c.nL → (LC i).length ≤ 70 ∧ ∀ x, x ∈ LC i → x.Fit
theorem run_obj {c : CfD} : ∀ k, runP ms0 (objR c k) = { ms0 with O := (List.range k).map (objF c) }
  | 0 => rfl
  | k + 1 => by
    show runP ms0 (objR c k ++ [_]) = _
    rw [runP_app, run_obj k, List.range_succ, List.map_append]
    rfl
theorem ok_obj {c : CfD} (ho : c.nO ≤ 20) (h1 : ∀ i, i < c.nO → ∀ j, j < 6 → is32 (c.ob i j)) (h2 : ∀ i, i < c.nO → ∀ j, j < 4 → 0 ≤ c.oi i j ∧ c.oi i j ≤ 4294967295) : ∀ k, k ≤ c.nO → OkS ms0 (objR c k)
  | 0, _ => trivial
  | k + 1, hk => by
    refine okS_app _ _ _ (ok_obj ho h1 h2 k (by omega)) ?_
    rw [run_obj k]
    refine ⟨⟨fun i hi => ?_, fun i hi => ?_, ?_⟩, trivial⟩
    · show is32 (if i < 6 then c.ob k i else _)
      rw [if_pos hi]
      exact h1 k (by omega) i hi
    · have e : objF c k (6 + i) = c.oi k i := by
        show (if 6 + i < 6 then _ else c.oi k (6 + i - 6)) = _
        rw [if_neg (by omega), show 6 + i - 6 = i by omega]
      rw [e]
      exact h2 k (by omega) i hi
    · show ((List.range k).map (objF c)).length ≤ 1000
      rw [List.length_map, List.length_range]
      omega
/-- Behind some tasks. -/
theorem run_tsk {c : CfD} {TC : Nat → List CallD} (m : MS PD) : ∀ k, (runP m (tskR c TC k)).allT = m.allT ++ (List.range k).map (fun i => ⟨c.tp i, c.tb i, TC i⟩) ∧ (runP m (tskR c TC k)).allV = m.allV ∧ (runP m (tskR c TC k)).O = m.O ∧ (runP m (tskR c TC k)).tick = m.tick ∧ (runP m (tskR c TC k)).tk = m.tk ∧ (runP m (tskR c TC k)).C = m.C
  | 0 => ⟨(List.append_nil _).symm, rfl, rfl, rfl, rfl, rfl⟩
  | k + 1 => by
    obtain ⟨h1, h2, h3, h4, h5, h6⟩ := run_tsk (c := c) (TC := TC) m k
    have e : runP m (tskR c TC (k + 1)) = ⟨(runP m (tskR c TC k)).allT, (runP m (tskR c TC k)).allV, some (true, ⟨c.tp k, c.tb k, [] ++ TC k⟩), (runP m (tskR c TC k)).O, (runP m (tskR c TC k)).tick, (runP m (tskR c TC k)).tk, (runP m (tskR c TC k)).C⟩ := by
      show runP m (tskR c TC k ++ (_ :: (TC k).map .call)) = _
      rw [runP_app]
      exact run_calls (TC k) (stepP (runP m (tskR c TC k)) (.task (c.tp k) (c.tb k))) true ⟨c.tp k, c.tb k, []⟩ rfl
    rw [e]
    refine ⟨?_, ?_, h3, h4, h5, h6⟩
    · show (runP m (tskR c TC k)).allT ++ [_] = _
      rw [h1, List.range_succ, List.map_append, List.append_assoc]
      rfl
    · show (runP m (tskR c TC k)).allV ++ [] = _
      rw [List.append_nil, h2]
theorem ok_tsk {c : CfD} {TC : Nat → List CallD} (m : MS PD) (hm : m.allT = []) (ht : c.nT ≤ 20) (h1 : ∀ i, i < c.nT → is32 (c.tp i)) (h2 : ∀ i, i < c.nT → (TC i).length ≤ 70 ∧ ∀ x, x ∈ TC i → x.Fit) : ∀ k, k ≤ c.nT → OkS m (tskR c TC k)
  | 0, _ => trivial
  | k + 1, hk => by
    refine okS_app _ _ _ (ok_tsk m hm ht h1 h2 k (by omega)) ⟨⟨h1 k (by omega), ?_⟩, ok_calls (TC k) _ true ⟨c.tp k, c.tb k, []⟩ rfl (h2 k (by omega)).2 (by have := (h2 k (by omega)).1; show 0 + _ ≤ 1000; omega)⟩
    rw [(run_tsk m k).1, hm, List.nil_append, List.length_map, List.length_range]
    omega
theorem run_lvl {c : CfD} {LC : Nat → List CallD} (m : MS PD) : ∀ k, (runP m (lvlR c LC k)).allV = m.allV ++ (List.range k).map (fun i => ⟨c.lr i, false, LC i⟩) ∧ (runP m (lvlR c LC k)).allT = m.allT ∧ (runP m (lvlR c LC k)).O = m.O ∧ (runP m (lvlR c LC k)).tick = m.tick ∧ (runP m (lvlR c LC k)).tk = m.tk ∧ (runP m (lvlR c LC k)).C = m.C
  | 0 => ⟨(List.append_nil _).symm, rfl, rfl, rfl, rfl, rfl⟩
  | k + 1 => by
    obtain ⟨h1, h2, h3, h4, h5, h6⟩ := run_lvl (c := c) (LC := LC) m k
    have e : runP m (lvlR c LC (k + 1)) = ⟨(runP m (lvlR c LC k)).allT, (runP m (lvlR c LC k)).allV, some (false, ⟨c.lr k, false, [] ++ LC k⟩), (runP m (lvlR c LC k)).O, (runP m (lvlR c LC k)).tick, (runP m (lvlR c LC k)).tk, (runP m (lvlR c LC k)).C⟩ := by
      show runP m (lvlR c LC k ++ (_ :: (LC k).map .call)) = _
      rw [runP_app]
      exact run_calls (LC k) (stepP (runP m (lvlR c LC k)) (.lvl (c.lr k))) false ⟨c.lr k, false, []⟩ rfl
    rw [e]
    refine ⟨?_, ?_, h3, h4, h5, h6⟩
    · show (runP m (lvlR c LC k)).allV ++ [_] = _
      rw [h1, List.range_succ, List.map_append, List.append_assoc]
      rfl
    · show (runP m (lvlR c LC k)).allT ++ [] = _
      rw [List.append_nil, h2]
theorem ok_lvl {c : CfD} {LC : Nat → List CallD} (m : MS PD) (hm : m.allV = []) (ht : c.nL ≤ 40) (h1 : ∀ i, i < c.nL → is32 (c.lr i)) (h2 : ∀ i, i < c.nL → (LC i).length ≤ 70 ∧ ∀ x, x ∈ LC i → x.Fit) : ∀ k, k ≤ c.nL → OkS m (lvlR c LC k)
  | 0, _ => trivial
  | k + 1, hk => by
    refine okS_app _ _ _ (ok_lvl m hm ht h1 h2 k (by omega)) ⟨⟨h1 k (by omega), ?_⟩, ok_calls (LC k) _ false ⟨c.lr k, false, []⟩ rfl (h2 k (by omega)).2 (by have := (h2 k (by omega)).1; show 0 + _ ≤ 1000; omega)⟩
    rw [(run_lvl m k).1, hm, List.nil_append, List.length_map, List.length_range]
    omega
theorem run_ch {n : Nat} {F : Nat → Int} (m : MS PD) (hm : m.C = []) : ∀ k, k ≤ (n + 19) / 20 → runP m (chR n F k) = { m with C := (List.range (min n (20 * k))).map F }
  | 0, _ => by
    obtain ⟨T, V, cur, O, tick, tk, C⟩ := m
    have hm : C = [] := hm
    subst hm
    rw [Nat.mul_zero, Nat.min_zero]
    rfl
  | k + 1, hk => by
    show runP m (chR n F k ++ [_]) = _
    rw [runP_app, run_ch m hm k (by omega)]
    show MS.mk _ _ _ _ _ _ _ = MS.mk _ _ _ _ _ _ _
    have e : min n (20 * (k + 1)) = min n (20 * k) + min 20 (n - 20 * k) := by omega
    have e2 : min n (20 * k) = 20 * k := by omega
    rw [e, List.range_add, List.map_append, List.map_map, e2]
    rfl
theorem ok_ch {n : Nat} {F : Nat → Int} (m : MS PD) (hm : m.C = []) (hn : n ≤ 300) (hF : ∀ i, i < n → is32 (F i)) : ∀ k, k ≤ (n + 19) / 20 → OkS m (chR n F k)
  | 0, _ => trivial
  | k + 1, hk => by
    refine okS_app _ _ _ (ok_ch m hm hn hF k (by omega)) ?_
    rw [run_ch m hm k (by omega)]
    refine ⟨⟨by omega, by omega, fun i hi => hF _ (by omega), ?_⟩, trivial⟩
    show ((List.range _).map F).length ≤ 1000
    rw [List.length_map, List.length_range]
    omega
/-- **The rows of a configuration are parsed as it.** -/
theorem rows_run {c : CfD} {TC LC : Nat → List CallD} {n : Nat} {F : Nat → Int} (h : BackOk c TC LC n F) : OkS ms0 (rowsT c TC LC n F) ∧ (runP ms0 (rowsT c TC LC n F)).allT = (List.range c.nT).map (fun i => ⟨c.tp i, c.tb i, TC i⟩) ∧ (runP ms0 (rowsT c TC LC n F)).allV = (List.range c.nL).map (fun i => ⟨c.lr i, false, LC i⟩) ∧
    (runP ms0 (rowsT c TC LC n F)).O = (List.range c.nO).map (objF c) ∧ (runP ms0 (rowsT c TC LC n F)).tick = c.tick ∧ (runP ms0 (rowsT c TC LC n F)).C = (List.range n).map F := by
  unfold rowsT
  have e1 : runP ms0 (objR c c.nO ++ [.tick c.tick]) = ⟨[], [], none, (List.range c.nO).map (objF c), c.tick, true, []⟩ := by
    rw [runP_app, run_obj]
    rfl
  have o1 : OkS ms0 (objR c c.nO ++ [.tick c.tick]) := okS_app _ _ _ (ok_obj h.o20 h.ob h.oi c.nO (Nat.le_refl _)) (by rw [run_obj]; exact ⟨⟨h.tick, rfl⟩, trivial⟩)
  obtain ⟨t1, t2, t3, t4, t5, t6⟩ := run_tsk (c := c) (TC := TC) ⟨[], [], none, (List.range c.nO).map (objF c), c.tick, true, []⟩ c.nT
  have o2 : OkS ms0 (objR c c.nO ++ [.tick c.tick] ++ tskR c TC c.nT) := okS_app _ _ _ o1 (by rw [e1]; exact ok_tsk _ rfl h.t20 h.tp h.tc c.nT (Nat.le_refl _))
  have e2 : runP ms0 (objR c c.nO ++ [.tick c.tick] ++ tskR c TC c.nT) = runP ⟨[], [], none, (List.range c.nO).map (objF c), c.tick, true, []⟩ (tskR c TC c.nT) := by rw [runP_app, e1]
  rw [← e2] at t1 t2 t3 t4 t5 t6
  obtain ⟨l1, l2, l3, l4, l5, l6⟩ := run_lvl (c := c) (LC := LC) (runP ms0 (objR c c.nO ++ [.tick c.tick] ++ tskR c TC c.nT)) c.nL
  have o3 : OkS ms0 (objR c c.nO ++ [.tick c.tick] ++ tskR c TC c.nT ++ lvlR c LC c.nL) := okS_app _ _ _ o2 (ok_lvl _ t2 h.l40 h.lr h.lc c.nL (Nat.le_refl _))
  rw [← runP_app] at l1 l2 l3 l4 l5 l6
  have hC : (runP ms0 (objR c c.nO ++ [.tick c.tick] ++ tskR c TC c.nT ++ lvlR c LC c.nL)).C = [] := l6.trans t6
  have e3 := run_ch (n := n) (F := F) _ hC ((n + 19) / 20) (Nat.le_refl _)
  have o4 := okS_app _ _ _ o3 (ok_ch (n := n) (F := F) _ hC h.n300 h.f ((n + 19) / 20) (Nat.le_refl _))
  rw [← runP_app] at e3
  have en : min n (20 * ((n + 19) / 20)) = n := by omega
  refine ⟨o4, ?_, ?_, ?_, ?_, ?_⟩
  · rw [e3]; exact l2.trans t1
  · rw [e3]; exact l1.trans (by rw [t2]; rfl)
  · rw [e3]; exact l3.trans t3
  · rw [e3]; exact l4.trans t4
  · rw [e3, en]
end Go.Proofs.Ytdjfelabdofaaaa
