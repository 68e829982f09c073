import Derived.Test.YtohajfkekkelhaaDoorLinMz
import Derived.Maps.OwnOps
import Derived.Test.YtohajfkekkelhaaDoorSpecQz
import Derived.Laws.EntriesVeiled
namespace Go.Proofs.YtohajfkekkelhaaDoor
set_option linter.unusedVariables false
set_option linter.unusedSimpArgs false
/-- The key tells states of one shape apart. -/
theorem ofNat_mod (x : Nat) : (UInt8.ofNat x).toNat = x % 256 := by simp
theorem numN_inj {x y : Nat} (hx : x < 4294967296) (hy : y < 4294967296) (h : numN x = numN y) : x = y := by
  unfold numN at h
  simp only [List.cons.injEq, and_true] at h
  obtain ⟨h0, h1, h2, h3⟩ := h
  have e0 := congrArg UInt8.toNat h0
  have e1 := congrArg UInt8.toNat h1
  have e2 := congrArg UInt8.toNat h2
  have e3 := congrArg UInt8.toNat h3
  rw [ofNat_mod, ofNat_mod] at e0 e1 e2 e3
  omega
theorem word_inj {x y : Int} (hx : u32B x) (hy : u32B y) (h : numN x.toNat = numN y.toNat) : x = y := by
  have h1 := hx.1; have h2 := hx.2; have h3 := hy.1; have h4 := hy.2
  have := numN_inj (by omega) (by omega) h
  omega
theorem valN_inj {v u : W4} (hv : v.Ok) (hu : u.Ok) (h : valN v = valN u) : v = u := by
  unfold valN at h
  obtain ⟨h1, hd⟩ := List.append_inj h (by simp [numN_len])
  obtain ⟨h2, hc⟩ := List.append_inj h1 (by simp [numN_len])
  obtain ⟨ha, hb⟩ := List.append_inj h2 (by simp [numN_len])
  cases v
  cases u
  simp only [W4.mk.injEq]
  exact ⟨word_inj hv.a hu.a ha, word_inj hv.b hu.b hb, word_inj hv.c hu.c hc, word_inj hv.d hu.d hd⟩
theorem rowN_inj : ∀ (r s : List W4), (∀ v, v ∈ r → v.Ok) → (∀ v, v ∈ s → v.Ok) → r.length = s.length → rowN r = rowN s → r = s
  | [], [], _, _, _, _ => rfl
  | [], _ :: _, _, _, h, _ => by simp at h
  | _ :: _, [], _, _, h, _ => by simp at h
  | v :: r, u :: s, hr, hs, hl, h => by
    have h' : valN v ++ rowN r = valN u ++ rowN s := h
    obtain ⟨h1, h2⟩ := List.append_inj h' (by rw [valN_len, valN_len])
    rw [valN_inj (hr v (.head _)) (hs u (.head _)) h1, rowN_inj r s (fun x hx => hr x (.tail _ hx)) (fun x hx => hs x (.tail _ hx)) (by simpa using hl) h2]
/-- What of an item no call changes. -/
def shapeP (L : List ItemD) : List ((Nat → Int) × (Nat → Int)) := L.map fun x => (x.o, x.oi)
theorem keyN_inj : ∀ (L M : List ItemD), (∀ x, x ∈ L → x.Ok) → (∀ x, x ∈ M → x.Ok) → shapeP L = shapeP M → keyN L = keyN M → L = M
  | [], [], _, _, _, _ => rfl
  | [], _ :: _, _, _, h, _ => by simp [shapeP] at h
  | _ :: _, [], _, _, h, _ => by simp [shapeP] at h
  | x :: L, y :: M, hL, hM, hs, h => by
    have hs' : (x.o, x.oi) :: shapeP L = (y.o, y.oi) :: shapeP M := hs
    simp only [List.cons.injEq, Prod.mk.injEq] at hs'
    have h' : ((numN x.row.length ++ rowN x.row) ++ valN x.v) ++ keyN L = ((numN y.row.length ++ rowN y.row) ++ valN y.v) ++ keyN M := h
    have hx := hL x (.head _)
    have hy := hM y (.head _)
    have hxl := hx.len
    have hyl := hy.len
    have hn : x.row.length = y.row.length := by
      refine numN_inj (by omega) (by omega) ?_
      have e := congrArg (List.take 4) h'
      simpa [List.append_assoc, numN] using e
    obtain ⟨h1, h2⟩ := List.append_inj h' (by simp [numN_len, valN_len, rowN_len, hn])
    obtain ⟨h3, h4⟩ := List.append_inj h1 (by simp [numN_len, rowN_len, hn])
    obtain ⟨_, h5⟩ := List.append_inj h3 (by simp [numN_len])
    have e1 := rowN_inj _ _ hx.row hy.row hn h5
    have e2 := valN_inj hx.v hy.v h4
    have e3 := keyN_inj L M (fun z hz => hL z (.tail _ hz)) (fun z hz => hM z (.tail _ hz)) hs'.2 h2
    rw [e3]
    congr 1
    cases x
    cases y
    simp only [ItemD.mk.injEq]
    exact ⟨hs'.1.1, hs'.1.2, e1, e2⟩
/-- No call changes what an object is. -/
theorem stepP_shape (x : ItemD) (k : Int) (v : W4) : (stepP x k v).1.o = x.o ∧ (stepP x k v).1.oi = x.oi := by
  unfold stepP ringP valueP flagsP
  repeat' split
  all_goals exact ⟨rfl, rfl⟩
theorem doP_shape (L : List ItemD) (k obj : Int) (v : W4) : shapeP (doP L k obj v).1 = shapeP L := by
  unfold doP
  split
  · rfl
  · split
    · rfl
    · split
      · rfl
      · rename_i y hy
        unfold shapeP
        refine List.ext_getElem? fun j => ?_
        rw [List.getElem?_map, List.getElem?_map, List.getElem?_set]
        split
        · rename_i e
          split
          · rw [← e, hy, Option.map_some, Option.map_some, (stepP_shape _ _ _).1, (stepP_shape _ _ _).2]
          · rename_i h1
            rw [← e, hy] 
            exact absurd (List.getElem?_eq_some_iff.1 hy).1 h1
        · rfl
theorem followP_shape (L : List ItemD) (x : OpX) : shapeP (followP L x).1 = shapeP L := by
  unfold followP allowsP
  split
  · split
    · exact doP_shape _ _ _ _
    · split <;> rfl
  · exact doP_shape _ _ _ _
/-- Orders by their first difference; a part is not greater. -/
def lexP : List Nat → List Nat → Prop
  | [], _ => True
  | _ :: _, [] => False
  | x :: a, y :: o => x < y ∨ x = y ∧ lexP a o
/-- From what has failed nothing goes on. -/
def DeadR (Lo : List OpX) (ans : Nat) (sh : List ((Nat → Int) × (Nat → Int))) (F : Fail) : Prop :=
  ∀ u k, (u, k) ∈ F → ∀ L, (∀ x, x ∈ L → x.Ok) → shapeP L = sh → keyN L = k → ∀ o, ¬ LinR Lo ans u L o
/-- What a search tells: what failed is dead, none means none, and one that is found is the least. -/
def ToldR (Lo : List OpX) (ans : Nat) (sh : List ((Nat → Int) × (Nat → Int))) (used : Nat) (L : List ItemD) (r : Bool × List Nat × Fail) : Prop :=
  DeadR Lo ans sh r.2.2 ∧ (r.1 = false → ∀ o, ¬ LinR Lo ans used L o) ∧ (r.1 = true → ∀ o, LinR Lo ans used L o → lexP r.2.1 o)
theorem try_told {Lo : List OpX} {ans : Nat} {sh : List ((Nat → Int) × (Nat → Int))} {go : Nat → List ItemD → Fail → Bool × List Nat × Fail} (used : Nat) (L : List ItemD)
    (hgo : ∀ i F, i ∈ firstL Lo used → DeadR Lo ans sh F → ToldR Lo ans sh (used ||| 2 ^ i) (followP L (getX Lo i)).1 (go (used ||| 2 ^ i) (followP L (getX Lo i)).1 F)) (ok : ∀ x, x ∈ L → x.Ok) (hsh : shapeP L = sh) :
    ∀ (cs : List Nat) (F : Fail), cs.Pairwise (· < ·) → (∀ i, i ∈ cs → i ∈ firstL Lo used) → DeadR Lo ans sh F → (∀ o, LinR Lo ans used L o → ∃ i r, o = i :: r ∧ i ∈ cs) → ToldR Lo ans sh used L (tryP Lo go used L cs F)
  | [], F, _, _, hF, hc => by
    have none : ∀ o, ¬ LinR Lo ans used L o := fun o ho => by
      obtain ⟨i, r, _, h⟩ := hc o ho
      cases h
    unfold tryP
    refine ⟨?_, fun _ => none, fun h => by simp at h⟩
    intro u k hu M hM hs hk o ho
    rcases List.mem_cons.1 hu with e | hu
    · obtain ⟨rfl, rfl⟩ := Prod.mk.inj e
      rw [keyN_inj M L hM ok (hs.trans hsh.symm) hk] at ho
      exact none o ho
    · exact hF u k hu M hM hs hk o ho
  | i :: cs, F, hp, hm, hF, hc => by
    have hi := hm i (.head _)
    obtain ⟨hlt, hp'⟩ := List.pairwise_cons.1 hp
    have rest : (∀ r, ¬ LinR Lo ans used L (i :: r)) → ∀ o, LinR Lo ans used L o → ∃ j r, o = j :: r ∧ j ∈ cs := fun hn o ho => by
      obtain ⟨j, r, rfl, hj⟩ := hc o ho
      rcases List.mem_cons.1 hj with rfl | hj
      · exact absurd ho (hn r)
      · exact ⟨j, r, rfl, hj⟩
    unfold tryP
    by_cases hf : (followP L (getX Lo i)).2 = true
    · rw [if_pos hf]
      obtain ⟨g1, g2, g3⟩ := hgo i F hi hF
      by_cases hg : (go (used ||| 2 ^ i) (followP L (getX Lo i)).1 F).1 = true
      · rw [if_pos hg]
        refine ⟨g1, fun h => by simp at h, fun _ o ho => ?_⟩
        obtain ⟨j, r, rfl, hj⟩ := hc o ho
        rcases List.mem_cons.1 hj with rfl | hj
        · exact .inr ⟨rfl, g3 hg r ho.2.2⟩
        · exact .inl (hlt j hj)
      · rw [if_neg hg]
        have hn := g2 (by simpa using hg)
        exact try_told used L hgo ok hsh cs _ hp' (fun j hj => hm j (.tail _ hj)) g1 (rest fun r h => hn r h.2.2)
    · rw [if_neg hf]
      exact try_told used L hgo ok hsh cs F hp' (fun j hj => hm j (.tail _ hj)) hF (rest fun r h => hf h.2.1)
theorem first_sorted (Lo : List OpX) (used : Nat) : (firstL Lo used).Pairwise (· < ·) := by
  unfold firstL freeL
  exact (List.pairwise_lt_range.filter _).filter _
theorem search_told {Lo : List OpX} (hok : ∀ x, x ∈ Lo → OpOk x) {ans : Nat} {sh : List ((Nat → Int) × (Nat → Int))} : ∀ (m used : Nat) (L : List ItemD) (F : Fail), (∀ x, x ∈ L → x.Ok) → shapeP L = sh → (freeL Lo.length used).length < m → DeadR Lo ans sh F → ToldR Lo ans sh used L (searchP Lo ans m used L F)
  | 0, _, _, _, _, _, h, _ => absurd h (Nat.not_lt_zero _)
  | m + 1, used, L, F, ok, hsh, hl, hF => by
    unfold searchP
    by_cases ha : used &&& ans = ans
    · rw [if_pos ha]
      exact ⟨hF, fun h => by simp at h, fun _ o _ => by unfold lexP; trivial⟩
    · rw [if_neg ha]
      by_cases hb : failedB F used (keyN L) = true
      · rw [if_pos hb]
        have none : ∀ o, ¬ LinR Lo ans used L o := by
          unfold failedB at hb
          obtain ⟨⟨u, k⟩, hm, he⟩ := List.any_eq_true.1 hb
          simp only [Bool.and_eq_true, beq_iff_eq] at he
          obtain ⟨rfl, rfl⟩ := he
          exact hF _ _ hm L ok hsh rfl
        exact ⟨hF, fun _ => none, fun h => by simp at h⟩
      · rw [if_neg hb]
        refine try_told used L (fun i F' hi hF' => ?_) ok hsh _ F (first_sorted Lo used) (fun i hi => hi) hF (fun o ho => ?_)
        · obtain ⟨⟨h1, h2⟩, _⟩ := mem_first.1 hi
          have hx : OpOk (getX Lo i) := hok _ (by
            unfold getX
            rw [List.getElem?_eq_getElem h1]
            exact List.getElem_mem h1)
          have := free_less h1 h2
          exact search_told hok m _ _ F' (followP_ok ok hx) ((followP_shape _ _).trans hsh) (by omega) hF'
        · cases o with
          | nil => exact absurd ho ha
          | cons i r => exact ⟨i, r, rfl, ho.1⟩
end Go.Proofs.YtohajfkekkelhaaDoor
namespace Go.Proofs.YtohajfkekkelhaaDoor
set_option linter.unusedVariables false
set_option linter.unusedSimpArgs false
theorem check_cons {Lo : List OpX} {t r : List Nat} {i : Nat} {L : List ItemD} (h : checkG Lo t (i :: r) L = (0, 0)) : lateP Lo (lastG Lo t) i = false ∧ (followP L (getX Lo i)).2 = true ∧ checkG Lo (i :: t) r (followP L (getX Lo i)).1 = (0, 0) := by
  unfold checkG at h
  by_cases h1 : lateP Lo (lastG Lo t) i = true
  · rw [if_pos h1] at h
    simp at h
  · rw [if_neg h1] at h
    by_cases h2 : (followP L (getX Lo i)).2 = true
    · rw [if_pos h2] at h
      exact ⟨by simpa using h1, h2, h⟩
    · rw [if_neg h2] at h
      simp at h
theorem check_later {Lo : List OpX} : ∀ (r t : List Nat) (L : List ItemD), checkG Lo t r L = (0, 0) → ∀ j, j ∈ r → ∀ p, p ∈ t → befP (getX Lo j) (getX Lo p) = false
  | [], _, _, _, j, hj, _, _ => by cases hj
  | i :: r, t, L, h, j, hj, p, hp => by
    obtain ⟨h1, _, h3⟩ := check_cons h
    rcases List.mem_cons.1 hj with rfl | hj
    · rw [late_any_of] at h1
      have := List.any_eq_false.1 h1 p hp
      simpa using this
    · exact check_later r _ _ h3 j hj p (.tail _ hp)
theorem not_before {x y : OpX} (h : ¬ x 14 = 1) : befP x y = false := by
  unfold befP
  rw [decide_eq_false h]
  rfl
/-- An order that the check tells right is one that the search looks at. -/
theorem check_lin {Lo : List OpX} {ans : Nat} (hans : ∀ j, ans.testBit j = true → j < Lo.length ∧ (getX Lo j) 14 = 1) : ∀ (r : List Nat) (used : Nat) (t : List Nat) (L : List ItemD), (∀ j, used.testBit j = true ↔ j ∈ t) → (∀ j, j ∈ r → j < Lo.length) → r.Nodup → (∀ j, j ∈ r → j ∉ t) → (∀ j, j < Lo.length → (getX Lo j) 14 = 1 → j ∈ t ∨ j ∈ r) → checkG Lo t r L = (0, 0) → LinR Lo ans used L r
  | [], used, t, L, hb, _, _, _, hd, _ => by
    show used &&& ans = ans
    refine Nat.eq_of_testBit_eq fun j => ?_
    rw [Nat.testBit_and]
    cases ha : ans.testBit j with
    | false => simp
    | true =>
      obtain ⟨h1, h2⟩ := hans j ha
      rcases hd j h1 h2 with h | h
      · rw [(hb j).2 h]; rfl
      · cases h
  | i :: r, used, t, L, hb, hl, hn, ht, hd, h => by
    obtain ⟨h1, h2, h3⟩ := check_cons h
    obtain ⟨hn1, hn2⟩ := List.nodup_cons.1 hn
    have hi : used.testBit i = false := by
      cases e : used.testBit i with
      | false => rfl
      | true => exact absurd ((hb i).1 e) (ht i (.head _))
    refine ⟨mem_first.2 ⟨⟨hl i (.head _), hi⟩, fun j hj hu hne => ?_⟩, h2, check_lin hans r _ (i :: t) _ (fun j => ?_) (fun j hj => hl j (.tail _ hj)) hn2 (fun j hj hjt => ?_) (fun j hj hjd => ?_) h3⟩
    · by_cases hdj : (getX Lo j) 14 = 1
      · rcases hd j hj hdj with h4 | h4
        · rw [(hb j).2 h4] at hu; cases hu
        · rcases List.mem_cons.1 h4 with rfl | h4
          · exact absurd rfl hne
          · exact check_later r _ _ h3 j h4 i (.head _)
      · exact not_before hdj
    · rw [bit_put, List.mem_cons, Bool.or_eq_true, hb j, decide_eq_true_eq]
      exact Or.comm
    · rcases List.mem_cons.1 hjt with rfl | hjt
      · exact hn1 hj
      · exact ht j (.tail _ hj) hjt
    · rcases hd j hj hjd with h4 | h4
      · exact .inl (.tail _ h4)
      · rcases List.mem_cons.1 h4 with rfl | h4
        · exact .inl (.head _)
        · exact .inr h4
theorem seen_all (n : Nat) : ∀ (O : List Int) (s s' : Nat → Bool), seenG n O s = some s' → (O.map Int.toNat).Nodup ∧ (∀ j, j ∈ O.map Int.toNat → s j = false ∧ j < n) ∧ ∀ j, s' j = true ↔ s j = true ∨ j ∈ O.map Int.toNat
  | [], s, s', h => by
    obtain rfl := Option.some.inj (show some s = some s' from h)
    exact ⟨List.nodup_nil, (fun j hj => by cases hj), fun j => by simp⟩
  | y :: O, s, s', h => by
    unfold seenG at h
    by_cases hb : y < 0 ∨ (n : Int) ≤ y ∨ s y.toNat = true
    · rw [if_pos hb] at h; cases h
    · rw [if_neg hb] at h
      simp only [not_or] at hb
      obtain ⟨h1, h2, h3⟩ := seen_all n O _ _ h
      have hy : s y.toNat = false := by simpa using hb.2.2
      have hny : y.toNat ∉ O.map Int.toNat := fun e => by
        have := (h2 _ e).1
        unfold markB at this
        simp at this
      refine ⟨List.nodup_cons.2 ⟨hny, h1⟩, fun j hj => ?_, fun j => ?_⟩
      · rcases List.mem_cons.1 hj with rfl | hj
        · exact ⟨hy, by omega⟩
        · have := (h2 j hj)
          refine ⟨?_, this.2⟩
          have h4 := this.1
          unfold markB at h4
          split at h4
          · cases h4
          · exact h4
      · rw [h3 j, List.map_cons, List.mem_cons]
        unfold markB
        by_cases e : j = y.toNat
        · simp [e]
        · simp [e]
/-- If the check tells any order right, one is found, and it is not greater. -/
theorem find_complete {Os : List ObjX} {Lo : List OpX} {O : List Int} (ho : ∀ p, p ∈ Os → ObjOk p) (hok : ∀ x, x ∈ Lo → OpOk x) (hn : Lo.length ≤ 24) (h : checkP Os Lo O = (0, 0)) : ∃ a, findP Os Lo = some a ∧ lexP a (O.map Int.toNat) := by
  unfold checkP at h
  by_cases hw : wholeP Lo O = true
  · rw [if_pos hw] at h
    unfold wholeP at hw
    cases hs : seenG Lo.length O (fun _ => false) with
    | none => rw [hs] at hw; cases hw
    | some s' =>
      rw [hs] at hw
      obtain ⟨h1, h2, h3⟩ := seen_all _ _ _ _ hs
      have hdone : ∀ j, j < Lo.length → (getX Lo j) 14 = 1 → j ∈ O.map Int.toNat := fun j hj hd => by
        have hw' : ((List.range Lo.length).all fun i => !(decide (((Lo[i]?).getD (fun _ => 0)) 14 = 1)) || s' i) = true := hw
        have := List.all_eq_true.1 hw' j (List.mem_range.2 hj)
        have e : decide (((Lo[j]?).getD (fun _ => 0)) 14 = 1) = true := decide_eq_true hd
        rw [e] at this
        have hs'' : s' j = true := by simpa using this
        rcases (h3 j).1 hs'' with h | h
        · cases h
        · exact h
      have hlin : LinR Lo (doneW Lo Lo.length) 0 (startP Os) (O.map Int.toNat) := check_lin (fun j hj => by
        rw [done_bit, Bool.and_eq_true, decide_eq_true_eq, decide_eq_true_eq] at hj
        exact hj) _ _ [] _ (fun j => by simp) (fun j hj => (h2 j hj).2) h1 (fun j _ hj => by cases hj) (fun j hj hd => .inr (hdone j hj hd)) h
      have hfr : (freeL Lo.length 0).length < Lo.length + 1 := by unfold freeL; exact Nat.lt_succ_of_le (Nat.le_trans (List.length_filter_le _ _) (by simp))
      obtain ⟨_, t2, t3⟩ := search_told hok (ans := doneW Lo Lo.length) (Lo.length + 1) 0 (startP Os) [] (startP_ok ho) rfl hfr (fun u k hu => by cases hu)
      unfold findP
      rw [if_neg (by omega)]
      by_cases hg : (searchP Lo (doneW Lo Lo.length) (Lo.length + 1) 0 (startP Os) []).1 = true
      · rw [if_pos hg]
        exact ⟨_, rfl, t3 hg _ hlin⟩
      · exact absurd hlin (t2 (by simpa using hg) _)
  · rw [if_neg hw] at h
    simp at h
end Go.Proofs.YtohajfkekkelhaaDoor
namespace Go.Proofs.YtohajfkekkelhaaDoor
set_option linter.unusedVariables false
set_option linter.unusedSimpArgs false
/-- What was counted: which calls were done, the state's key, the number. -/
abbrev Cnt := List (Nat × List UInt8 × Nat)
def lookC (C : Cnt) (used : Nat) (key : List UInt8) : Option Nat := (C.find? fun p => (p.1 == used) && (p.2.1 == key)).map fun p => p.2.2
/-- The candidates of a place, counted. -/
def tallyP (Lo : List OpX) (most : Nat) (go : Nat → List ItemD → Cnt → Nat × Cnt) (used : Nat) (L : List ItemD) : List Nat → Nat → Cnt → Nat × Cnt
  | [], n, C => (n, (used, keyN L, n) :: C)
  | i :: r, n, C =>
    if (followP L (getX Lo i)).2 = true then
      if most - n ≤ (go (used ||| 2 ^ i) (followP L (getX Lo i)).1 C).1 then (most, (used, keyN L, most) :: (go (used ||| 2 ^ i) (followP L (getX Lo i)).1 C).2)
      else tallyP Lo most go used L r (n + (go (used ||| 2 ^ i) (followP L (getX Lo i)).1 C).1) (go (used ||| 2 ^ i) (followP L (getX Lo i)).1 C).2
    else tallyP Lo most go used L r n C
/-- The count. -/
def countP (Lo : List OpX) (all most : Nat) : Nat → Nat → List ItemD → Cnt → Nat × Cnt
  | 0, _, _, C => (0, C)
  | m + 1, used, L, C =>
    if used = all then (1, C)
    else match lookC C used (keyN L) with
      | some n => (n, C)
      | none => tallyP Lo most (countP Lo all most m) used L (firstL Lo used) 0 C
/-- How many orders of all calls go on from a place. -/
def numP (Lo : List OpX) (all : Nat) : Nat → Nat → List ItemD → Nat
  | 0, _, _ => 0
  | m + 1, used, L => if used = all then 1 else ((firstL Lo used).map fun i => if (followP L (getX Lo i)).2 = true then numP Lo all m (used ||| 2 ^ i) (followP L (getX Lo i)).1 else 0).sum
theorem num_fuel (Lo : List OpX) (all : Nat) : ∀ (m m' used : Nat) (L : List ItemD), (freeL Lo.length used).length < m → (freeL Lo.length used).length < m' → numP Lo all m used L = numP Lo all m' used L
  | 0, _, _, _, h, _ => absurd h (Nat.not_lt_zero _)
  | _ + 1, 0, _, _, _, h => absurd h (Nat.not_lt_zero _)
  | m + 1, m' + 1, used, L, h, h' => by
    unfold numP
    split
    · rfl
    · refine congrArg List.sum (List.map_congr_left fun i hi => ?_)
      obtain ⟨⟨h1, h2⟩, _⟩ := mem_first.1 hi
      have := free_less h1 h2
      rw [num_fuel Lo all m m' _ _ (by omega) (by omega)]
/-- What was counted is so. -/
def MemoR (Lo : List OpX) (all most : Nat) (sh : List ((Nat → Int) × (Nat → Int))) (C : Cnt) : Prop :=
  ∀ u k n, (u, k, n) ∈ C → ∀ L, (∀ x, x ∈ L → x.Ok) → shapeP L = sh → keyN L = k → ∀ m, (freeL Lo.length u).length < m → n = min most (numP Lo all m u L)
theorem look_mem {C : Cnt} {used n : Nat} {key : List UInt8} (h : lookC C used key = some n) : (used, key, n) ∈ C := by
  unfold lookC at h
  obtain ⟨⟨u, k, n'⟩, hf, rfl⟩ := Option.map_eq_some_iff.1 h
  have h1 := List.find?_some hf
  have h2 := List.mem_of_find?_eq_some hf
  simp only [Bool.and_eq_true, beq_iff_eq] at h1
  obtain ⟨rfl, rfl⟩ := h1
  exact h2
theorem memo_add {Lo : List OpX} {all most : Nat} {sh : List ((Nat → Int) × (Nat → Int))} {C : Cnt} {used n m : Nat} {L : List ItemD} (h : MemoR Lo all most sh C) (ok : ∀ x, x ∈ L → x.Ok) (hsh : shapeP L = sh) (hm : (freeL Lo.length used).length < m) (hn : n = min most (numP Lo all m used L)) : MemoR Lo all most sh ((used, keyN L, n) :: C) := by
  intro u k n' hu M hM hs hk m' hm'
  rcases List.mem_cons.1 hu with e | hu
  · obtain ⟨e1, e2⟩ := Prod.mk.inj e
    obtain ⟨e3, e4⟩ := Prod.mk.inj e2
    subst e1
    rw [e4, keyN_inj M L hM ok (hs.trans hsh.symm) (hk.trans e3), num_fuel Lo all m' m _ _ hm' hm]
    exact hn
  · exact h u k n' hu M hM hs hk m' hm'
theorem tally_told {Lo : List OpX} {all most m : Nat} {sh : List ((Nat → Int) × (Nat → Int))} (used : Nat) (L : List ItemD) (ok : ∀ x, x ∈ L → x.Ok) (hsh : shapeP L = sh) (hfr : (freeL Lo.length used).length < m + 1)
    (hgo : ∀ i C, i ∈ firstL Lo used → MemoR Lo all most sh C → MemoR Lo all most sh (countP Lo all most m (used ||| 2 ^ i) (followP L (getX Lo i)).1 C).2 ∧ (countP Lo all most m (used ||| 2 ^ i) (followP L (getX Lo i)).1 C).1 = min most (numP Lo all m (used ||| 2 ^ i) (followP L (getX Lo i)).1)) :
    ∀ (cs : List Nat) (n : Nat) (C : Cnt), (∀ i, i ∈ cs → i ∈ firstL Lo used) → MemoR Lo all most sh C → n < most → numP Lo all (m + 1) used L = n + (cs.map fun i => if (followP L (getX Lo i)).2 = true then numP Lo all m (used ||| 2 ^ i) (followP L (getX Lo i)).1 else 0).sum →
      MemoR Lo all most sh (tallyP Lo most (countP Lo all most m) used L cs n C).2 ∧ (tallyP Lo most (countP Lo all most m) used L cs n C).1 = min most (numP Lo all (m + 1) used L)
  | [], n, C, _, hC, hn, hs => by
    unfold tallyP
    have e : n = min most (numP Lo all (m + 1) used L) := by rw [hs]; simp; omega
    exact ⟨memo_add hC ok hsh hfr e, e⟩
  | i :: cs, n, C, hm, hC, hn, hs => by
    rw [List.map_cons, List.sum_cons] at hs
    unfold tallyP
    by_cases hf : (followP L (getX Lo i)).2 = true
    · rw [if_pos hf] at hs ⊢
      obtain ⟨g1, g2⟩ := hgo i C (hm i (.head _)) hC
      by_cases hg : most - n ≤ (countP Lo all most m (used ||| 2 ^ i) (followP L (getX Lo i)).1 C).1
      · rw [if_pos hg]
        have e : most = min most (numP Lo all (m + 1) used L) := by
          rw [hs]
          rw [g2] at hg
          omega
        exact ⟨memo_add g1 ok hsh hfr e, e⟩
      · rw [if_neg hg]
        refine tally_told used L ok hsh hfr hgo cs _ _ (fun j hj => hm j (.tail _ hj)) g1 (by omega) ?_
        rw [hs, g2]
        rw [g2] at hg
        omega
    · rw [if_neg hf] at hs ⊢
      exact tally_told used L ok hsh hfr hgo cs n C (fun j hj => hm j (.tail _ hj)) hC hn (by omega)
theorem count_told {Lo : List OpX} (hok : ∀ x, x ∈ Lo → OpOk x) {all most : Nat} (hmost : 0 < most) {sh : List ((Nat → Int) × (Nat → Int))} : ∀ (m used : Nat) (L : List ItemD) (C : Cnt), (∀ x, x ∈ L → x.Ok) → shapeP L = sh → (freeL Lo.length used).length < m → MemoR Lo all most sh C →
    MemoR Lo all most sh (countP Lo all most m used L C).2 ∧ (countP Lo all most m used L C).1 = min most (numP Lo all m used L)
  | 0, _, _, _, _, _, h, _ => absurd h (Nat.not_lt_zero _)
  | m + 1, used, L, C, ok, hsh, hl, hC => by
    unfold countP
    by_cases ha : used = all
    · rw [if_pos ha]
      refine ⟨hC, ?_⟩
      unfold numP
      rw [if_pos ha]
      show 1 = min most 1
      omega
    · rw [if_neg ha]
      cases hk : lookC C used (keyN L) with
      | some n => exact ⟨hC, hC _ _ _ (look_mem hk) L ok hsh rfl _ hl⟩
      | none =>
        refine tally_told used L ok hsh hl (fun i C' hi hC' => ?_) _ 0 C (fun i hi => hi) hC hmost (by rw [numP, if_neg ha, Nat.zero_add])
        obtain ⟨⟨h1, h2⟩, _⟩ := mem_first.1 hi
        have hx : OpOk (getX Lo i) := hok _ (by
          unfold getX
          rw [List.getElem?_eq_getElem h1]
          exact List.getElem_mem h1)
        have := free_less h1 h2
        exact count_told hok hmost m _ _ C' (followP_ok ok hx) ((followP_shape _ _).trans hsh) (by omega) hC'
theorem sum_pos {l : List Nat} {f : Nat → Nat} {i : Nat} (hi : i ∈ l) (h : 1 ≤ f i) : 1 ≤ (l.map f).sum := by
  induction l with
  | nil => cases hi
  | cons a l ih =>
    rw [List.map_cons, List.sum_cons]
    rcases List.mem_cons.1 hi with rfl | hi
    · omega
    · have := ih hi
      omega
/-- All calls of n, as bits. -/
def allN (n : Nat) : Nat := 2 ^ n - 1
theorem allN_bit (n j : Nat) : (allN n).testBit j = decide (j < n) := Nat.testBit_two_pow_sub_one n j
/-- What is not done can follow at the end: an order with all that are done has one with all calls. -/
theorem lin_num {Lo : List OpX} {ans : Nat} (hans : ∀ j, j < Lo.length → (getX Lo j) 14 = 1 → ans.testBit j = true) : ∀ (m used : Nat) (L : List ItemD) (o : List Nat), (freeL Lo.length used).length < m → (∀ j, used.testBit j = true → j < Lo.length) → LinR Lo ans used L o → 1 ≤ numP Lo (allN Lo.length) m used L
  | 0, _, _, _, h, _, _ => absurd h (Nat.not_lt_zero _)
  | m + 1, used, L, o, hl, hb, ho => by
    unfold numP
    by_cases ha : used = allN Lo.length
    · rw [if_pos ha]; exact Nat.le_refl 1
    · rw [if_neg ha]
      have step : ∀ i, i ∈ firstL Lo used → (followP L (getX Lo i)).2 = true → ∀ r, LinR Lo ans (used ||| 2 ^ i) (followP L (getX Lo i)).1 r → 1 ≤ ((firstL Lo used).map fun i => if (followP L (getX Lo i)).2 = true then numP Lo (allN Lo.length) m (used ||| 2 ^ i) (followP L (getX Lo i)).1 else 0).sum := fun i hi hf r hr => by
        obtain ⟨⟨h1, h2⟩, _⟩ := mem_first.1 hi
        have := free_less h1 h2
        refine sum_pos hi ?_
        rw [if_pos hf]
        refine lin_num hans m _ _ r (by omega) (fun j hj => ?_) hr
        rw [bit_put, Bool.or_eq_true, decide_eq_true_eq] at hj
        rcases hj with hj | rfl
        · exact hb j hj
        · exact h1
      cases o with
      | cons i r => exact step i ho.1 ho.2.1 r ho.2.2
      | nil =>
        have h0 : used &&& ans = ans := ho
        have hundone : ∀ j, j < Lo.length → used.testBit j = false → ¬ (getX Lo j) 14 = 1 := fun j hj hu hd => by
          have h1 := hans j hj hd
          rw [← h0, Nat.testBit_and, hu] at h1
          cases h1
        obtain ⟨i, hi, hu⟩ : ∃ i, i < Lo.length ∧ used.testBit i = false := by
          refine Classical.byContradiction fun hno => ha (Nat.eq_of_testBit_eq fun j => ?_)
          rw [allN_bit]
          by_cases hj : j < Lo.length
          · cases e : used.testBit j with
            | true => exact (decide_eq_true hj).symm
            | false => exact absurd ⟨j, hj, e⟩ hno
          · rw [decide_eq_false hj]
            cases e : used.testBit j with
            | false => rfl
            | true => exact absurd (hb j e) hj
        refine step i (mem_first.2 ⟨⟨hi, hu⟩, fun j hj hju _ => not_before (hundone j hj hju)⟩) ?_ [] ?_
        · unfold followP
          rw [decide_eq_false (hundone i hi hu)]
          rfl
        · show (used ||| 2 ^ i) &&& ans = ans
          refine Nat.eq_of_testBit_eq fun j => ?_
          rw [Nat.testBit_and, bit_put]
          have h1 := congrArg (fun x => x.testBit j) h0
          simp only [Nat.testBit_and] at h1
          cases e1 : used.testBit j <;> cases e2 : ans.testBit j <;> simp_all
end Go.Proofs.YtohajfkekkelhaaDoor
namespace Go.Proofs.YtohajfkekkelhaaDoor
open Go.ChangeShapes Go.WideShapes Go.ChangeAt Go.RowKit Go.Maps
set_option linter.unusedVariables false
set_option linter.unusedSimpArgs false
/-- If the check tells any order right, one order of all calls is counted. -/
theorem count_one {Os : List ObjX} {Lo : List OpX} {O : List Int} (ho : ∀ p, p ∈ Os → ObjOk p) (hok : ∀ x, x ∈ Lo → OpOk x) (hn : Lo.length ≤ 24) (h : checkP Os Lo O = (0, 0)) : (countP Lo (allN Lo.length) 1 (Lo.length + 1) 0 (startP Os) []).1 = 1 := by
  have hfr : (freeL Lo.length 0).length < Lo.length + 1 := by unfold freeL; exact Nat.lt_succ_of_le (Nat.le_trans (List.length_filter_le _ _) (by simp))
  rw [(count_told hok (by omega) (sh := shapeP (startP Os)) _ _ _ [] (startP_ok ho) rfl hfr (fun u k n hu => by cases hu)).2]
  obtain ⟨a, ha, _⟩ := find_complete ho hok hn h
  have hlin : LinR Lo (doneW Lo Lo.length) 0 (startP Os) a := by
    unfold findP at ha
    rw [if_neg (by omega)] at ha
    by_cases hg : (searchP Lo (doneW Lo Lo.length) (Lo.length + 1) 0 (startP Os) []).1 = true
    · rw [if_pos hg] at ha
      obtain rfl := Option.some.inj ha
      exact search_sound _ _ _ _ hg
    · rw [if_neg hg] at ha; cases ha
  have := lin_num (ans := doneW Lo Lo.length) (fun j hj hd => by rw [done_bit, decide_eq_true hj, decide_eq_true hd]; rfl) (Lo.length + 1) 0 (startP Os) a hfr (fun j hj => by simp at hj) hlin
  omega
theorem look_cons (u n : Nat) (key : List UInt8) (C : Cnt) (u' : Nat) (key' : List UInt8) : lookC ((u, key, n) :: C) u' key' = if u = u' ∧ key = key' then some n else lookC C u' key' := by
  unfold lookC
  rw [List.find?_cons]
  by_cases e : u = u' ∧ key = key'
  · obtain ⟨rfl, rfl⟩ := e
    simp
  · rw [if_neg e]
    have : ((u == u') && (key == key')) = false := by
      cases h1 : (u == u') with
      | false => rfl
      | true =>
        cases h2 : (key == key') with
        | false => rfl
        | true => exact absurd ⟨by simpa using h1, by simpa using h2⟩ e
    show Option.map _ (match ((u == u') && (key == key')) with | true => _ | false => _) = _
    rw [this]
/-- The map of what was counted. -/
structure CntR (D : DataW Unit) (C : Cnt) : Prop where
  is : IsMap D
  has : ∀ u key, u < 4294967296 → key.length ≤ maxLen → Maps.has D (keyL u key) = (lookC C u key).isSome
  at' : ∀ u key n, u < 4294967296 → key.length ≤ maxLen → lookC C u key = some n → D.atKey (keyL u key) (.lit (.int .i64 0)) = .lit (.int .i64 (n : Int))
theorem CntR.nil : CntR (.map []) [] := ⟨isMap_empty, fun u key _ _ => by simp [Maps.has, lookC], fun u key n _ _ h => by simp [lookC] at h⟩
set_option maxRecDepth 100000 in
theorem CntR.put {D : DataW Unit} {C : Cnt} (h : CntR D C) {u : Nat} {key : List UInt8} (hu : u < 4294967296) (hk : key.length ≤ maxLen) (n : Nat) : CntR (D.put (keyL u key) (.lit (.int .i64 (n : Int)))) ((u, key, n) :: C) := by
  refine ⟨h.is.put _ _, fun u' key' hu' hk' => ?_, fun u' key' n' hu' hk' hl => ?_⟩
  · rw [look_cons]
    by_cases e : u = u' ∧ key = key'
    · obtain ⟨rfl, rfl⟩ := e
      rw [has_put_same h.is (slaw.key (keyOf_is hu hk)), if_pos ⟨rfl, rfl⟩]
      rfl
    · rw [has_put_other (fun e2 => e (by obtain ⟨e3, e4⟩ := keyL_inj hu' hk' hu hk e2; exact ⟨e3.symm, e4.symm⟩)), if_neg e]
      exact h.has u' key' hu' hk'
  · rw [look_cons] at hl
    by_cases e : u = u' ∧ key = key'
    · rw [if_pos e] at hl
      obtain ⟨rfl, rfl⟩ := e
      obtain rfl := Option.some.inj hl
      exact atKey_put_same h.is (slaw.key (keyOf_is hu hk)) _ _
    · rw [if_neg e] at hl
      rw [atKey_put_other (fun e2 => e (by obtain ⟨e3, e4⟩ := keyL_inj hu' hk' hu hk e2; exact ⟨e3.symm, e4.symm⟩))]
      exact h.at' u' key' n' hu' hk' hl
/-- The blocks of what the count has captured: all calls, the map's variable, the history, the count itself, the most; the map. -/
structure CapC where
  bA : Nat
  bF : Nat
  bL : Nat
  bS : Nat
  bP : Nat
  bM : Nat
@[reducible] def CapC.ptrs (c : CapC) : Array Value := #[.pointer (some ⟨c.bA, 0, none⟩), .pointer (some ⟨c.bF, 0, none⟩), .pointer (some ⟨c.bL, 0, none⟩), .pointer (some ⟨c.bS, 0, none⟩), .pointer (some ⟨c.bP, 0, none⟩)]
/-- What a count keeps. -/
structure CtW (W0 W : World) (c : CapC) (B : Nat) (la : Option Addr) (n lc all most : Nat) (D : DataW Unit) (nm : Nat) (C : Cnt) : Prop where
  cA : W.heap[c.bA]? = some (.cells #[.int .u32 (all : Int)] 39 (0, 0))
  cF : W.heap[c.bF]? = some (.cells #[.map (some c.bM)] 66 (0, 0))
  cL : W.heap[c.bL]? = some (.cells #[.slice la n lc] 23 (0, 0))
  cS : W.heap[c.bS]? = some (.cells #[.func (.func 24) #[] c.ptrs] 67 (0, 0))
  cP : W.heap[c.bP]? = some (.cells #[.int .i64 (most : Int)] 3 (0, 0))
  map : W.ownsMap Tryd.prog 56 (plainElem Tryd.prog 3) c.bM nm D
  rel : CntR D C
  below : Below W0.heap.size W0 W
  lo : W0.heap.size ≤ c.bM ∧ W0.heap.size ≤ B
  hi : c.bA < B ∧ c.bF < B ∧ c.bL < B ∧ c.bS < B ∧ c.bP < B ∧ c.bM < B
  nm' : c.bM ≠ c.bA ∧ c.bM ≠ c.bF ∧ c.bM ≠ c.bL ∧ c.bM ≠ c.bS ∧ c.bM ≠ c.bP
section
variable {W0 W W' : World} {c : CapC} {B : Nat} {la : Option Addr} {n lc all most : Nat} {D : DataW Unit} {nm : Nat} {C : Cnt}
theorem CtW.keep (h : CtW W0 W c B la n lc all most D nm C) (hk : Keeps (fun _ => False) W W') : CtW W0 W' c B la n lc all most D nm C :=
  ⟨hk.at h.cA fun h => h, hk.at h.cF fun h => h, hk.at h.cL fun h => h, hk.at h.cS fun h => h, hk.at h.cP fun h => h,
    h.map.kept (row := none) ⟨hk.os, hk.tape, hk.output, hk.size, fun j hj _ => hk.block j hj fun h => h⟩ (by simp), h.rel, h.below.trans (hk.none.mono h.below.size), h.lo, h.hi, h.nm'⟩
theorem CtW.state (h : CtW W0 W c B la n lc all most D nm C) {g : Nat} {L : List ItemD} (hs : StateAt W g L) (hk : Keeps (fun j => j = c.bM) W W') : StateAt W' g L := by
  have hmap : ∃ es ck, W.heap[c.bM]? = some (.map es ck) := by
    obtain ⟨es, ck, hb, _⟩ := h.map
    exact ⟨es, ck, hb⟩
  have key : ∀ (b o : Nat) (u : Value), W.cell? ⟨b, o, none⟩ = some u → b < W.heap.size → W'.heap[b]? = W.heap[b]? := fun b o u hu hb => hk.block b hb fun hw => by
    subst hw
    obtain ⟨es, ck, hm⟩ := hmap
    simp [World.cell?, hm] at hu
  refine ⟨Nat.lt_of_lt_of_le hs.lt hk.size, fun k x hx => ?_⟩
  obtain ⟨a, cc, hr, h1, h2, h3, h4⟩ := hs.at' k x hx
  have hg := key g (k * 15 + 10) (.slice a x.row.length cc) (hr 10 _ rfl) hs.lt
  refine ⟨a, cc, fun j v hv => by rw [World.cell?_of_block (a := ⟨g, k * 15 + j, none⟩) hg]; exact hr j v hv, h1, h2, h3, fun hp => ?_⟩
  obtain ⟨b, off, e, hb, hc⟩ := h4 hp
  obtain ⟨y, hy⟩ : ∃ y, x.row[0]? = some y := ⟨_, List.getElem?_eq_getElem hp⟩
  have hbb := key b (off + 0 * 4 + 1) (.int .u32 y.b) (hc 0 y hy 1 _ rfl) hb
  exact ⟨b, off, e, Nat.lt_of_lt_of_le hb hk.size, fun q z hz j u hu => by rw [World.cell?_of_block (a := ⟨b, off + q * 4 + j, none⟩) hbb]; exact hc q z hz j u hu⟩
theorem CtW.count {w2 : World} {u num : Nat} {key : List UInt8} {nm2 : Nat} (h : CtW W0 W c B la n lc all most D nm C) (hu : u < 4294967296) (hk : key.length ≤ maxLen) (hm : w2.ownsMap Tryd.prog 56 (plainElem Tryd.prog 3) c.bM nm2 (D.put (keyL u key) (.lit (.int .i64 (num : Int))))) (hg : W.grownBy w2 (some c.bM)) :
    CtW W0 w2 c B la n lc all most (D.put (keyL u key) (.lit (.int .i64 (num : Int)))) nm2 ((u, key, num) :: C) ∧ Keeps (fun j => j = c.bM) W w2 := by
  have hgk : Keeps (fun j => j = c.bM) W w2 := ⟨hg.os, hg.tape, hg.output, hg.size, fun k hk hs => hg.block k hk (fun e => by cases e; exact hs rfl)⟩
  refine ⟨⟨hgk.at h.cA h.nm'.1.symm, hgk.at h.cF h.nm'.2.1.symm, hgk.at h.cL h.nm'.2.2.1.symm, hgk.at h.cS h.nm'.2.2.2.1.symm, hgk.at h.cP h.nm'.2.2.2.2.symm, hm, h.rel.put hu hk num, ?_, h.lo, h.hi, h.nm'⟩, hgk⟩
  exact h.below.trans (hgk.below h.below.size fun k hk hw => by rw [hw]; exact h.lo.1)
end
end Go.Proofs.YtohajfkekkelhaaDoor
namespace Go.Proofs.YtohajfkekkelhaaDoor
open Go.ChangeShapes Go.WideShapes Go.ChangeAt Go.RowKit Go.Maps
set_option linter.unusedVariables false
set_option linter.unusedSimpArgs false
theorem zeroE (w : World) : (zeroValue 3).run Tryd.prog w = .ok (.int .i64 0) w := by kernel_rfl
/-- What a count leaves. -/
def CtOut (W0 W : World) (c : CapC) (B : Nat) (la : Option Addr) (n lc all most : Nat) (nm m : Nat) (R : Nat × Cnt) (e : Ending) (W' : World) : Prop :=
  e = .returned (.int .i64 (R.1 : Int)) ∧ ∃ D' nm', CtW W0 W' c B la n lc all most D' nm' R.2 ∧ Keeps (fun j => j = c.bM) W W' ∧ nm' ≤ nm + callsT m
set_option maxRecDepth 100000 in
set_option maxHeartbeats 16000000 in
theorem count_step (W0 : World) (c : CapC) (B : Nat) (la : Option Addr) (n lc all most : Nat) (ha : all < 4294967296) (hmp : 0 < most) (hmm : most ≤ 9223372036854775807) (Lo : List OpX) (hops : OpsArg W0 la n Lo) (hn : n ≤ 24) (hT : TabAt 0 Lib.deBruijn32tab W0) (hg : 0 < W0.heap.size) (m : Nat)
    (ih : ∀ (W : World) (used : Nat) (hu : used < 4294967296) (L : List ItemD) (g cap : Nat) (D : DataW Unit) (nm : Nat) (C : Cnt), CtW W0 W c B la n lc all most D nm C → B ≤ W.heap.size → StateAt W g L → (∀ x, x ∈ L → x.Ok) → L.length ≤ 1000 → (freeL n used).length < m → nm + callsT m ≤ 100000000 →
      Calls Tryd.prog 24 #[.int .u32 (used : Int), .slice (some ⟨g, 0, none⟩) L.length cap, .pointer (some ⟨c.bA, 0, none⟩), .pointer (some ⟨c.bF, 0, none⟩), .pointer (some ⟨c.bL, 0, none⟩), .pointer (some ⟨c.bS, 0, none⟩), .pointer (some ⟨c.bP, 0, none⟩)] W (CtOut W0 W c B la n lc all most nm m (countP Lo all most m used L C)))
    (W : World) (used : Nat) (hu : used < 4294967296) (L : List ItemD) (g cap : Nat) (D : DataW Unit) (nm : Nat) (C : Cnt) (h : CtW W0 W c B la n lc all most D nm C) (hB : B ≤ W.heap.size) (hs : StateAt W g L) (ok : ∀ x, x ∈ L → x.Ok) (hl : L.length ≤ 1000) (hf : (freeL n used).length < m + 1) (hmb : m < 100) (hnm : nm + callsT (m + 1) ≤ 100000000) :
    Calls Tryd.prog 24 #[.int .u32 (used : Int), .slice (some ⟨g, 0, none⟩) L.length cap, .pointer (some ⟨c.bA, 0, none⟩), .pointer (some ⟨c.bF, 0, none⟩), .pointer (some ⟨c.bL, 0, none⟩), .pointer (some ⟨c.bS, 0, none⟩), .pointer (some ⟨c.bP, 0, none⟩)] W (CtOut W0 W c B la n lc all most nm (m + 1) (countP Lo all most (m + 1) used L C)) := by
  have hn24 := hn
  have hlo := hops.len
  have HR := Lib.hid (show countP Lo all most (m + 1) used L C = if used = all then (1, C) else match lookC C used (keyN L) with | some x => (x, C) | none => tallyP Lo most (countP Lo all most m) used L (firstL Lo used) 0 C from rfl)
  generalize countP Lo all most (m + 1) used L C = R at *
  have HS := Lib.hid h
  have HST := Lib.hid hs
  have HOK := Lib.hid ok
  have HOPS := Lib.hid hops
  have HTB := Lib.hid (And.intro hT hg)
  have hk2 : (keyN L).length ≤ 2000000 := key_len L (fun y hy => (ok y hy).len) (by omega)
  have hkm : (keyN L).length ≤ maxLen := by unfold maxLen; omega
  have HKEY := Lib.hid (keyOf_is hu hkm)
  have HAS := Lib.hid (h.rel.has used (keyN L) hu hkm)
  have HAT := Lib.hid (fun x => h.rel.at' used (keyN L) x hu hkm)
  have cA0 : W.cell? ⟨c.bA, 0, none⟩ = some (.int .u32 (all : Int)) := cell_of h.cA 0
  have HKN := Lib.hid (key_any W g cap L hs ok (by omega))
  obtain ⟨n0, hne⟩ : ∃ n0, L.length = n0 := ⟨_, rfl⟩
  have HN0 := Lib.hid hne
  rw [hne] at HKN hl ⊢
  clear h hs ok hops hT hg hne
  by_cases hfin : used = all
  · have e1 : ((used : Int) == (all : Int)) = true := by rw [hfin]; simp
    have HRT := Lib.hid (HR.out.trans (if_pos hfin))
    clear HR hfin
    go_enter Tryd.func24, Tryd.ntmps24
    go_wp2_with fail
    try go_step3
    try go_wp2_with fail
    try rw [Exit.noGoto_ret]
    go_ret
    have hr := HRT.out
    subst hr
    exact ⟨rfl, D, nm, HS.out, Keeps.refl _ _, Nat.le_add_right _ _⟩
  · have e1 : ((used : Int) == (all : Int)) = false := by rw [beq_eq_false_iff_ne]; omega
    have HR2 := Lib.hid (HR.out.trans (if_neg hfin))
    clear HR hfin
    cases hfb : lookC C used (keyN L) with
    | some x =>
      have HRT := Lib.hid (HR2.out.trans (by rw [hfb]))
      clear HR2
      have hhas := HAS.out.trans (by rw [hfb]; rfl : _ = true)
      go_enter Tryd.func24, Tryd.ntmps24
      go_wp2_with fail
      go_step3
      go_wp2_with fail
      refine HKN.out.mono ?_
      rintro e1 w1 ⟨rfl, b1⟩
      have HS2 := Lib.hid ((HS.out.keep (Keeps.ofBelow b1)).keep ((Keeps.refl _ w1).alloc (.cells #[.int .u32 (used : Int), .string ⟨(keyN L).toArray⟩] 56)))
      have HK2 := Lib.hid (show Keeps (fun _ => False) W (w1.alloc (.cells #[.int .u32 (used : Int), .string ⟨(keyN L).toArray⟩] 56)) from (Keeps.ofBelow b1).alloc _)
      have HB2 := Lib.hid (heap_new w1 (.cells #[.int .u32 (used : Int), .string ⟨(keyN L).toArray⟩] 56))
      have HM1 := Lib.hid HS2.out.map
      have hwsz : W.heap.size ≤ w1.heap.size := b1.size
      have cF1 : (w1.alloc (.cells #[.int .u32 (used : Int), .string ⟨(keyN L).toArray⟩] 56)).cell? ⟨c.bF, 0, none⟩ = some (.map (some c.bM)) := cell_of HS2.out.cF 0
      clear b1 cA0
      go_wp2_with (at_lookup; refine wpList_lookup_own_ok_int _ rfl _ _ 66 rfl 56 3 .i64 slaw Tryd.underlying66 Tryd.underlying3 (zeroE _) c.bM nm D rfl HM1.out _ _ rfl HKEY.out ?_; intro c0' hat hwc; rw [hhas])
      have hcx : c0' = (x : Int) := by
        rw [HAT.out x hfb] at hat
        injection hat with h1
        injection h1 with _ h2
        exact h2.symm
      subst hcx
      clear hat hwc
      go_wp2_with fail
      try rw [Exit.noGoto_ret]
      go_ret
      have hr := HRT.out
      subst hr
      exact ⟨rfl, D, nm, HS2.out, HK2.out.mono (fun _ _ h => h.elim), Nat.le_add_right _ _⟩
    | none =>
      have HRT := Lib.hid (show R = tallyP Lo most (countP Lo all most m) used L (firstL Lo used) 0 C from HR2.out.trans (by rw [hfb]))
      clear HR2
      have hhas := HAS.out.trans (by rw [hfb]; rfl : _ = false)
      go_enter Tryd.func24, Tryd.ntmps24
      go_wp2_with fail
      go_step3
      go_wp2_with fail
      refine HKN.out.mono ?_
      rintro e1 w1 ⟨rfl, b1⟩
      have HS2 := Lib.hid ((HS.out.keep (Keeps.ofBelow b1)).keep ((Keeps.refl _ w1).alloc (.cells #[.int .u32 (used : Int), .string ⟨(keyN L).toArray⟩] 56)))
      have HK2 := Lib.hid (show Keeps (fun _ => False) W (w1.alloc (.cells #[.int .u32 (used : Int), .string ⟨(keyN L).toArray⟩] 56)) from (Keeps.ofBelow b1).alloc _)
      have HB2 := Lib.hid (heap_new w1 (.cells #[.int .u32 (used : Int), .string ⟨(keyN L).toArray⟩] 56))
      have HM1 := Lib.hid HS2.out.map
      have hwsz : W.heap.size ≤ w1.heap.size := b1.size
      have cF1 : (w1.alloc (.cells #[.int .u32 (used : Int), .string ⟨(keyN L).toArray⟩] 56)).cell? ⟨c.bF, 0, none⟩ = some (.map (some c.bM)) := cell_of HS2.out.cF 0
      clear b1 cA0
      go_wp2_with (at_lookup; refine wpList_lookup_own_ok_int _ rfl _ _ 66 rfl 56 3 .i64 slaw Tryd.underlying66 Tryd.underlying3 (zeroE _) c.bM nm D rfl HM1.out _ _ rfl HKEY.out ?_; intro c0' hat hwc; rw [hhas])
      clear hat hwc
      go_step3
      generalize (w1.alloc (.cells #[.int .u32 (used : Int), .string ⟨(keyN L).toArray⟩] 56)) = w2 at *
      have hw2 : w1.heap.size < w2.heap.size := lt_of HB2.out
      have HNX := Lib.hid (next_any w2 la n lc Lo (HOPS.out.below HS2.out.below) hn used hu (tabAt_below HTB.out.1 HS2.out.below HTB.out.2) (Nat.lt_of_lt_of_le HTB.out.2 HS2.out.below.size))
      have cL2 : w2.cell? ⟨c.bL, 0, none⟩ = some (.slice la n lc) := cell_of HS2.out.cL 0
      clear hhas cF1
      obtain ⟨nl, hnl⟩ : ∃ nl, firstL Lo used = nl := ⟨_, rfl⟩
      have HNL := Lib.hid (show ∀ i, i ∈ nl → i < n ∧ used.testBit i = false from fun i hi => by
        rw [← hnl] at hi
        have := (mem_first.1 hi).1
        rw [hlo] at this; exact this)
      have HFR := Lib.hid (show ∀ i, i ∈ nl → (freeL n (used ||| 2 ^ i)).length < m from fun i hi => by
        have h1 := free_less (n := n) (used := used) (i := i) ((HNL.out i hi).1) ((HNL.out i hi).2)
        omega)
      have hnll : nl.length ≤ m := by
        rw [← hnl]
        unfold firstL
        rw [hlo]
        exact Nat.le_trans (List.length_filter_le _ _) (by omega)
      rw [hnl] at HNX HRT
      clear hnl
      obtain ⟨ml, hml⟩ : ∃ ml, nl.length = ml := ⟨_, rfl⟩
      have HML := Lib.hid hml
      rw [hml] at HNX hnll
      clear hml
      go_wp2_with fail
      refine HNX.out.mono ?_
      rintro e3 w3 ⟨nv, rfl, hno, hnb⟩
      obtain ⟨va, vc, rfl⟩ := slice_own hno
      have HNO := Lib.hid hno
      have HS3 := Lib.hid (HS2.out.keep (Keeps.ofBelow hnb))
      have HB3 := Lib.hid ((Keeps.ofBelow hnb).at HB2.out fun h => h)
      have HK3 := Lib.hid (HK2.out.trans (Keeps.ofBelow hnb))
      have hw3 : w2.heap.size ≤ w3.heap.size := hnb.size
      clear hno hnb cL2 HNX
      go_wp2_with fail
      go_loopw [13, 38] (fun f s wr => ∃ (k nmk num : Nat) (Dk : DataW Unit) (Ck : Cnt), k ≤ ml ∧ f = .int .i64 (num : Int) ∧ s = .int .i64 (k : Int) ∧ CtW W0 wr c B la n lc all most Dk nmk Ck ∧ Keeps (fun j => j = c.bM) w3 wr ∧ nmk ≤ nm + k * callsT m ∧ num < most ∧ R = tallyP Lo most (countP Lo all most m) used L (nl.drop k) num Ck) (fun _ s _ => ml - (intOf s).toNat)
      case atStart => exact ⟨0, nm, 0, D, C, by omega, rfl, rfl, HS3.out, Keeps.refl _ _, by omega, hmp, HRT.out⟩
      case round =>
        clear HRT
        obtain ⟨k, nmk, num, Dk, Ck, hk, rfl, rfl, hsk, hkk, hnk, hnum, hrk⟩ := hrel
        have HSK := Lib.hid hsk
        have HKK := Lib.hid hkk
        have HRK := Lib.hid hrk
        clear hsk hkk hrk
        have hwr : w3.heap.size ≤ wr.heap.size := HKK.out.size
        have HSTW := Lib.hid (HS3.out.state (HST.out.below (HK3.out.none)) HKK.out)
        by_cases hlt : k < ml
        · obtain ⟨i, hi⟩ : ∃ i, nl[k]? = some i := ⟨_, List.getElem?_eq_getElem (by rw [HML.out]; exact hlt)⟩
          have himem : i ∈ nl := List.mem_of_getElem? hi
          have hin := (HNL.out i himem).1
          have hdrop : nl.drop k = i :: nl.drop (k + 1) := by
            rw [List.drop_eq_getElem_cons (by rw [HML.out]; exact hlt)]
            congr 1
            rw [List.getElem?_eq_getElem (by rw [HML.out]; exact hlt)] at hi
            exact Option.some.inj hi
          have hrk := HRK.out
          rw [hdrop, tallyP] at hrk
          have HRI := Lib.hid hrk
          clear hrk hdrop
          obtain ⟨ng, ncap, hv1, hng1, hng2⟩ := HNO.out.form (by omega)
          obtain ⟨hva, -, -⟩ := Value.slice.inj hv1
          subst hva
          clear hv1
          have hngw : ng ≠ c.bM := by have := HS.out.hi.2.2.2.2.2; omega
          have ck : wr.cell? ⟨ng, k, none⟩ = some (.int .i64 (i : Int)) := by
            rw [World.cell?_of_block (a := ⟨ng, k, none⟩) (HKK.out.block ng hng2 hngw), HNO.out.cellAt k (by omega)]
            unfold ints
            rw [List.getElem?_map, hi]; rfl
          have cLr : wr.cell? ⟨c.bL, 0, none⟩ = some (.slice la n lc) := cell_of HSK.out.cL 0
          have HOW := Lib.hid (HOPS.out.below HSK.out.below)
          obtain ⟨lb, loff, hla, hlb, hlc⟩ := HOW.out.lies (by omega)
          obtain ⟨x, hx⟩ : ∃ x, Lo[i]? = some x := ⟨_, List.getElem?_eq_getElem (by rw [hlo]; exact hin)⟩
          have gx : getX Lo i = x := by unfold getX; rw [hx]; rfl
          have okx := HOPS.out.ok x (List.mem_of_getElem? hx)
          have HX := Lib.hid (hlc i x hx)
          have HFO := Lib.hid (lfollow_any wr g cap L HSTW.out HOK.out (by rw [HN0.out]; omega) x okx)
          have HFL := Lib.hid (And.intro (followP_ok HOK.out okx) (followP_len L x))
          rw [HN0.out] at HFO HFL
          rw [gx] at HRI
          subst hla
          generalize followP L x = FP at *
          obtain ⟨L5, m5⟩ := FP
          have d1 : decide (k < ml) = true := decide_eq_true hlt
          have d2 : decide ((k : Int) < (ml : Int)) = true := decide_eq_true (by omega)
          have f3 : decide (i < n) = true := decide_eq_true hin
          have f6 : decide ((i : Int) < 0) = false := decide_eq_false (by omega)
          have f8 : decide ((n : Int) ≤ (i : Int)) = false := decide_eq_false (by omega)
          have f10 : decide (n ≤ i) = false := decide_eq_false (by omega)
          clear hx gx okx hlc hi
          go_wp2_with (refine wpList_load_mid rfl 47 (.tmp 46) rfl lb (loff + i * 17) rfl (opL x) _ HX.out Tryd.underlying47 rfl op_info ?_)
          refine HFO.out.mono ?_
          rintro e5 w5 ⟨b5, g5, c5, rfl, hs5⟩
          have HS5 := Lib.hid (HSK.out.keep (Keeps.ofBelow b5))
          have HT5 := Lib.hid hs5
          have HK5 := Lib.hid (HKK.out.trans ((Keeps.ofBelow b5).mono fun _ _ h => h.elim))
          have hw5 : wr.heap.size ≤ w5.heap.size := b5.size
          clear b5 hs5 HFO ck cLr
          cases m5 with
          | false =>
            have HR5 := Lib.hid (HRI.out.trans (if_neg (by simp)))
            go_wp2_with fail
            go_roundw
            case rel => exact ⟨k + 1, nmk, num, Dk, Ck, by omega, rfl, by go_num, HS5.out, HK5.out, Nat.le_trans hnk (Nat.add_le_add_left (Nat.mul_le_mul_right _ (by omega)) _), hnum, HR5.out⟩
            case measure => simp [intOf]; omega
          | true =>
            have HR5 := Lib.hid (HRI.out.trans (if_pos rfl))
            have HS7 := Lib.hid (HS5.out.keep ((Keeps.refl _ w5).drew))
            have HT7 := Lib.hid (show StateAt w5.drew g5 L5 from HT5.out.below (((Keeps.refl (fun _ => False) w5).drew).none))
            have hB7 : B ≤ w5.drew.heap.size := Nat.le_trans (by omega : B ≤ w5.heap.size) (Nat.le_refl _)
            have hi32 : i < 32 := by omega
            have hu' : used ||| 2 ^ i < 4294967296 := Nat.or_lt_two_pow (n := 32) hu (Nat.pow_lt_pow_right (by omega) hi32)
            have hsb : setB used (i : Int) = used ||| 2 ^ i := by unfold setB bitW; rw [if_pos (by omega), Int.toNat_natCast]
            have HWI := Lib.hid (fun W => with_any used (i : Int) W hu)
            rw [hsb] at HWI
            clear hsb
            have hT1 : (k + 1) * callsT m ≤ m * callsT m := Nat.mul_le_mul_right _ (by omega)
            have hT2 : (k + 1) * callsT m = k * callsT m + callsT m := Nat.succ_mul _ _
            have hT3 : callsT (m + 1) = 1 + m * callsT m := rfl
            have hnm7 : nmk + callsT m ≤ 100000000 := by rw [hT3] at hnm; omega
            have HIH := Lib.hid (ih w5.drew (used ||| 2 ^ i) hu' L5 g5 c5 Dk nmk Ck HS7.out hB7 HT7.out HFL.out.1 (by rw [HFL.out.2]; omega) (HFR.out i himem) hnm7)
            rw [HFL.out.2] at HIH
            have HT23 := Lib.hid (And.intro hT1 (And.intro hT2 hT3))
            clear hT1 hT2 hT3
            have hdummy : True := trivial
            generalize countP Lo all most m (used ||| 2 ^ i) L5 Ck = P at *
            obtain ⟨b8, C8⟩ := P
            go_wp2_with fail
            refine wp_region_noPanic ?_
            refine wp_region_held_drew (S := (fun W => W.cell? ⟨c.bS, 0, none⟩ = some (.func (.func 24) #[] c.ptrs))) (by kernel_rfl) ?_ (fun hHeld => ?_)
            · exact cell_of HS7.out.cS 0
            refine wpAnyH_take (i := 0) (v := ?_) rfl (by kernel_rfl) (by kernel_rfl) (by kernel_rfl) (fun _ _ _ h => h) (Or.inl ⟨by rfl, ?_⟩) (by assumption) ?_
            rotate_left
            · (intro w hSw; (try dsimp only at hSw); go_simp; try with_reducible rfl)
            simp only [Act.put, List.getElem_toArray, List.getElem_cons_zero, List.getElem_cons_succ, List.setIfInBounds_toArray, List.set_cons_zero, List.set_cons_succ]
            refine wpAnyH_take (i := 1) (v := ?_) rfl (by kernel_rfl) (by kernel_rfl) (by kernel_rfl) (fun _ _ _ h => h) (Or.inl ⟨by rfl, ?_⟩) (by assumption) ?_
            rotate_left
            · (intro w hSw; (try dsimp only at hSw); go_simp; try with_reducible rfl)
            simp only [Act.put, List.getElem_toArray, List.getElem_cons_zero, List.getElem_cons_succ, List.setIfInBounds_toArray, List.set_cons_zero, List.set_cons_succ]
            refine wpAnyH_take (i := 2) (v := ?_) rfl (by kernel_rfl) (by kernel_rfl) (by kernel_rfl) (fun _ _ _ h => h) (Or.inl ⟨by rfl, ?_⟩) (by assumption) ?_
            rotate_left
            · (intro w hSw; (try dsimp only at hSw); go_simp; try with_reducible rfl)
            simp only [Act.put, List.getElem_toArray, List.getElem_cons_zero, List.getElem_cons_succ, List.setIfInBounds_toArray, List.set_cons_zero, List.set_cons_succ]
            refine wpAnyH_take (i := 4) (v := ?_) rfl (by kernel_rfl) (by kernel_rfl) (by kernel_rfl) (fun _ _ _ h => h) (Or.inl ⟨by rfl, ?_⟩) (by assumption) ?_
            rotate_left
            · (intro w hSw; (try dsimp only at hSw); go_simp; try with_reducible rfl)
            simp only [Act.put, List.getElem_toArray, List.getElem_cons_zero, List.getElem_cons_succ, List.setIfInBounds_toArray, List.set_cons_zero, List.set_cons_succ]
            refine wpAnyH_ready (rs := [3]) (by kernel_rfl) (by simp) ?_
            refine AllReadyH.cons rfl (fun K hK => ?_) AllReadyH.nil
            go_simp
            go_at_call 19
            refine (HWI.out _).mono ?_
            rintro e8 w8 ⟨rfl, hw8⟩
            subst hw8
            dsimp only
            refine hK.out _ _ ?_ (fun hHeld => ?_)
            · ((try dsimp only); exact cell_of HS7.out.cS 0)
            clear hK K
            try simp only [Act.put, List.getElem_toArray, List.getElem_cons_zero, List.getElem_cons_succ, List.setIfInBounds_toArray, List.set_cons_zero, List.set_cons_succ]
            refine wpAnyH_ready (rs := [5]) (by kernel_rfl) (by simp) ?_
            refine AllReadyH.cons rfl (fun K hK => ?_) AllReadyH.nil
            go_simp
            go_at_call 24
            refine HIH.out.mono ?_
            rintro e8 w8 ⟨rfl, D8, nm8, hs8, hk8, hn8⟩
            have HS8 := Lib.hid hs8
            have HK8 := Lib.hid (keeps_drew hk8)
            have HN8 := Lib.hid hn8
            clear hs8 hk8 hn8
            dsimp only
            refine hK.out _ _ ?_ (fun hHeld => ?_)
            · ((try dsimp only); exact cell_of HS8.out.cS 0)
            clear hK K
            try simp only [Act.put, List.getElem_toArray, List.getElem_cons_zero, List.getElem_cons_succ, List.setIfInBounds_toArray, List.set_cons_zero, List.set_cons_succ]
            refine wpAnyH_take (i := 6) (v := ?_) rfl (by kernel_rfl) (by kernel_rfl) (by kernel_rfl) (fun _ _ _ h => h) (Or.inl ⟨by rfl, ?_⟩) (by assumption) ?_
            rotate_left
            · (intro w hSw; (try dsimp only at hSw); go_simp; try with_reducible rfl)
            simp only [Act.put, List.getElem_toArray, List.getElem_cons_zero, List.getElem_cons_succ, List.setIfInBounds_toArray, List.set_cons_zero, List.set_cons_succ]
            refine wpAnyH_done (by kernel_rfl) ?_ _
            refine NoPanic.normal ?_
            have HK9 := Lib.hid (show Keeps (fun j => j = c.bM) w3 w8 from HK5.out.trans HK8.out)
            have hnn : nm8 + 1 ≤ nm + callsT (m + 1) := by
              have h1 := HN8.out
              have h2 := HT23.out.1
              have h3 := HT23.out.2.1
              have h4 := HT23.out.2.2
              omega
            have hn8' : nm8 ≤ nm + (k + 1) * callsT m := by
              have h1 := HN8.out
              have h3 := HT23.out.2.1
              omega
            have cP8 : w8.cell? ⟨c.bP, 0, none⟩ = some (.int .i64 (most : Int)) := cell_of HS8.out.cP 0
            have hsub : IntKind.i64.wrap ((most : Int) - (num : Int)) = (most : Int) - (num : Int) := IntWalk.i64_in _ ⟨by omega, by omega⟩
            by_cases hge : most - num ≤ b8
            · have g1 : decide ((most : Int) - (num : Int) ≤ (b8 : Int)) = true := decide_eq_true (by omega)
              have HR8 := Lib.hid (HR5.out.trans (if_pos hge))
              have hnb1 := hnn
              have hnb2 : nm8 < maxLen := by unfold maxLen; omega
              have hbw : w1.heap.size ≠ c.bM := by have := HS.out.map; have := HS.out.hi.2.2.2.2.2; omega
              have hbx := HK9.out.at HB3.out hbw
              have kb0 : w8.cell? ⟨w1.heap.size, 0, none⟩ = some (.int .u32 (used : Int)) := cell_of hbx 0
              have kb1 : w8.cell? ⟨w1.heap.size, 1, none⟩ = some (.string ⟨(keyN L).toArray⟩) := cell_of hbx 1
              have cFr : w8.cell? ⟨c.bF, 0, none⟩ = some (.map (some c.bM)) := cell_of HS8.out.cF 0
              have HMU := Lib.hid HS8.out.map
              clear hbx
              go_wp2_with (at_mapUpdate; refine wpList_mapUpdate_own _ rfl _ _ _ 66 rfl 56 3 slaw Tryd.underlying66 _ c.bM _ _ rfl HMU.out hnb2 _ _ _ rfl rfl HKEY.out _ [] (plainElem_int Tryd.underlying3 (WalkArith.wf_i64 (by omega))) ?_; intro w6 hown6 hgrow6)
              have HF := Lib.hid (HS8.out.count hu hkm (num := most) hown6 hgrow6)
              clear hown6 hgrow6 kb0 kb1 cFr
              go_wp2_with fail
              try rw [Exit.noGoto_ret]
              go_ret
              have hr := HR8.out
              subst hr
              exact ⟨rfl, _, _, HF.out.1, ((HK3.out.mono fun _ _ h => h.elim).trans HK9.out).trans HF.out.2, hnb1⟩
            · have g1 : decide ((most : Int) - (num : Int) ≤ (b8 : Int)) = false := decide_eq_false (by omega)
              have HR8 := Lib.hid (HR5.out.trans (if_neg hge))
              have hadd : IntKind.i64.wrap ((num : Int) + (b8 : Int)) = ((num + b8 : Nat) : Int) := (IntWalk.i64_in _ ⟨by omega, by omega⟩).trans (by omega)
              go_wp2_with fail
              go_roundw
              case rel => exact ⟨k + 1, nm8, num + b8, D8, C8, by omega, rfl, by go_num, HS8.out, HK9.out, hn8', by omega, HR8.out⟩
              case measure => simp [intOf]; omega
        · obtain rfl : k = ml := by omega
          have hrk := HRK.out
          rw [List.drop_of_length_le (by rw [HML.out]; exact Nat.le_refl _)] at hrk
          rw [tallyP] at hrk
          have HRE := Lib.hid hrk
          clear hrk
          have d1 : decide (k < k) = false := decide_eq_false (by omega)
          have hT1 : k * callsT m ≤ m * callsT m := Nat.mul_le_mul_right _ hnll
          have hT3 : callsT (m + 1) = 1 + m * callsT m := rfl
          have hnb1 : nmk + 1 ≤ nm + callsT (m + 1) := by omega
          have hnb2 : nmk < maxLen := by unfold maxLen; omega
          clear hT1 hT3 hnk
          have hbw : w1.heap.size ≠ c.bM := by have := HS.out.map; have := HS.out.hi.2.2.2.2.2; omega
          have hbx := HKK.out.at HB3.out hbw
          have kb0 : wr.cell? ⟨w1.heap.size, 0, none⟩ = some (.int .u32 (used : Int)) := cell_of hbx 0
          have kb1 : wr.cell? ⟨w1.heap.size, 1, none⟩ = some (.string ⟨(keyN L).toArray⟩) := cell_of hbx 1
          have cFr : wr.cell? ⟨c.bF, 0, none⟩ = some (.map (some c.bM)) := cell_of HSK.out.cF 0
          have HMU := Lib.hid HSK.out.map
          clear hbx
          go_wp2_with (at_mapUpdate; refine wpList_mapUpdate_own _ rfl _ _ _ 66 rfl 56 3 slaw Tryd.underlying66 _ c.bM _ _ rfl HMU.out hnb2 _ _ _ rfl rfl HKEY.out _ [] (plainElem_int Tryd.underlying3 (WalkArith.wf_i64 (by omega))) ?_; intro w6 hown6 hgrow6)
          have HF := Lib.hid (HSK.out.count hu hkm (num := num) hown6 hgrow6)
          clear hown6 hgrow6 kb0 kb1 cFr
          go_wp2_with fail
          try rw [Exit.noGoto_ret]
          go_ret
          have hr := HRE.out
          subst hr
          exact ⟨rfl, _, _, HF.out.1, ((HK3.out.mono fun _ _ h => h.elim).trans HKK.out).trans HF.out.2, hnb1⟩
end Go.Proofs.YtohajfkekkelhaaDoor
namespace Go.Proofs.YtohajfkekkelhaaDoor
open Go.ChangeShapes Go.WideShapes Go.ChangeAt Go.RowKit Go.Maps
set_option linter.unusedVariables false
set_option linter.unusedSimpArgs false
theorem callsT_le : ∀ m, callsT m ≤ callsT (m + 1)
  | 0 => by show 0 ≤ _; exact Nat.zero_le _
  | m + 1 => by
    show 1 + m * callsT m ≤ 1 + (m + 1) * callsT (m + 1)
    exact Nat.add_le_add_left (Nat.mul_le_mul (by omega) (callsT_le m)) 1
theorem count_any (W0 : World) (c : CapC) (B : Nat) (la : Option Addr) (n lc all most : Nat) (ha : all < 4294967296) (hmp : 0 < most) (hmm : most ≤ 9223372036854775807) (Lo : List OpX) (hops : OpsArg W0 la n Lo) (hn : n ≤ 24) (hT : TabAt 0 Lib.deBruijn32tab W0) (hg : 0 < W0.heap.size) : ∀ (m : Nat) (W : World) (used : Nat) (hu : used < 4294967296) (L : List ItemD) (g cap : Nat) (D : DataW Unit) (nm : Nat) (C : Cnt), CtW W0 W c B la n lc all most D nm C → B ≤ W.heap.size → StateAt W g L → (∀ x, x ∈ L → x.Ok) → L.length ≤ 1000 → (freeL n used).length < m → m ≤ 100 → nm + callsT m ≤ 100000000 →
      Calls Tryd.prog 24 #[.int .u32 (used : Int), .slice (some ⟨g, 0, none⟩) L.length cap, .pointer (some ⟨c.bA, 0, none⟩), .pointer (some ⟨c.bF, 0, none⟩), .pointer (some ⟨c.bL, 0, none⟩), .pointer (some ⟨c.bS, 0, none⟩), .pointer (some ⟨c.bP, 0, none⟩)] W (CtOut W0 W c B la n lc all most nm m (countP Lo all most m used L C))
  | 0, W, used, hu, L, g, cap, D, nm, C, h, hB, hs, ok, hl, hf, hm, hnm => absurd hf (Nat.not_lt_zero _)
  | m + 1, W, used, hu, L, g, cap, D, nm, C, h, hB, hs, ok, hl, hf, hm, hnm => count_step W0 c B la n lc all most ha hmp hmm Lo hops hn hT hg m (fun W used hu L g cap D nm C h hB hs ok hl hf hnm => count_any W0 c B la n lc all most ha hmp hmm Lo hops hn hT hg m W used hu L g cap D nm C h hB hs ok hl hf (by omega) hnm) W used hu L g cap D nm C h hB hs ok hl hf (by omega) hnm
set_option maxRecDepth 100000 in
set_option maxHeartbeats 16000000 in
theorem lcount_any (w : World) (oa : Option Addr) (n0 oc : Nat) (Os : List ObjX) (h0 : ObjsArg w oa n0 Os) (l0 : n0 ≤ 1000) (la : Option Addr) (n lc : Nat) (Lo : List OpX) (h : OpsArg w la n Lo) (hn : n ≤ 9) (most : Nat) (hmp : 0 < most) (hmo : most ≤ 9223372036854775807) (hT : TabAt 0 Lib.deBruijn32tab w) (hg : 0 < w.heap.size) :
    Calls Tryd.prog 11 #[.slice oa n0 oc, .slice la n lc, .int .i64 (most : Int)] w fun e w' => e = .returned (.int .i64 ((countP Lo (allN Lo.length) most (Lo.length + 1) 0 (startP Os) []).1 : Int)) ∧ Below w.heap.size w w' := by
  have HH := Lib.hid (And.intro h0 (And.intro h (And.intro hT hg)))
  have hlo := h.len
  rw [hlo]
  have hmm := @run_makeMap Tryd.prog
  have d1 : decide (24 < n) = false := decide_eq_false (by omega)
  have d2 : decide ((24 : Int) < (n : Int)) = false := decide_eq_false (by omega)
  have d3 : decide ((most : Int) < 1) = false := decide_eq_false (by omega)
  have HMK := Lib.hid (fun W => maskN n (by omega) W)
  clear h0 h hT hg
  obtain ⟨X5, hX5⟩ : ∃ X5, X5 = (((((w.alloc (.cells #[.slice la n lc] 23)).alloc (.cells #[.int .i64 (most : Int)] 3)).alloc (.cells #[.int .u32 ((2 ^ n - 1 : Nat) : Int)] 39)).alloc (.map #[] 0)).alloc (.cells #[.map (some (w.heap.size + 1 + 1 + 1))] 66)) := ⟨_, rfl⟩
  have hz5 : X5.heap.size = w.heap.size + 1 + 1 + 1 + 1 + 1 := by rw [hX5]; simp only [World.size_alloc]
  have y4 : ((((((w.alloc (.cells #[.slice la n lc] 23)).alloc (.cells #[.int .i64 (most : Int)] 3)).alloc (.cells #[.int .u32 ((2 ^ n - 1 : Nat) : Int)] 39)).alloc (.map #[] 0)).alloc (.cells #[.map (some (w.heap.size + 1 + 1 + 1))] 66)).alloc (.cells #[.nilFunc] 67)).cell? ⟨w.heap.size + 1 + 1 + 1 + 1 + 1, 0, none⟩ = some .nilFunc := by rw [← hX5, ← hz5]; exact cell_of (heap_new X5 _) 0
  have z4 : ((((((w.alloc (.cells #[.slice la n lc] 23)).alloc (.cells #[.int .i64 (most : Int)] 3)).alloc (.cells #[.int .u32 ((2 ^ n - 1 : Nat) : Int)] 39)).alloc (.map #[] 0)).alloc (.cells #[.map (some (w.heap.size + 1 + 1 + 1))] 66)).alloc (.cells #[.nilFunc] 67)).frozen? ⟨w.heap.size + 1 + 1 + 1 + 1 + 1, 0, none⟩ = false := by rw [← hX5, ← hz5]; exact free_of (heap_new X5 _) 0
  have HX5 := Lib.hid (And.intro hX5 hz5)
  clear hX5 hz5
  go_enter Tryd.func11, Tryd.ntmps11
  go_wp2_with fail
  refine (HMK.out _).mono ?_
  rintro e1 w1 ⟨rfl, hw1⟩
  subst hw1
  go_wp2_with fail
  obtain ⟨c, hc⟩ : ∃ c : CapC, c = ⟨w.heap.size + 1 + 1, w.heap.size + 1 + 1 + 1 + 1, w.heap.size, w.heap.size + 1 + 1 + 1 + 1 + 1, w.heap.size + 1, w.heap.size + 1 + 1 + 1⟩ := ⟨_, rfl⟩
  have HX6 := Lib.hid (show Has w ((((((w.alloc (.cells #[.slice la n lc] 23)).alloc (.cells #[.int .i64 (most : Int)] 3)).alloc (.cells #[.int .u32 ((2 ^ n - 1 : Nat) : Int)] 39)).alloc (.map #[] 0)).alloc (.cells #[.map (some (w.heap.size + 1 + 1 + 1))] 66)).alloc (.cells #[(.func (.func 24) #[] #[.pointer (some ⟨w.heap.size + 1 + 1, 0, none⟩), .pointer (some ⟨w.heap.size + 1 + 1 + 1 + 1, 0, none⟩), .pointer (some ⟨w.heap.size, 0, none⟩), .pointer (some ⟨w.heap.size + 1 + 1 + 1 + 1 + 1, 0, none⟩), .pointer (some ⟨w.heap.size + 1, 0, none⟩)])] 67)) [(w.heap.size + 1 + 1 + 1 + 1 + 1, .cells #[(.func (.func 24) #[] #[.pointer (some ⟨w.heap.size + 1 + 1, 0, none⟩), .pointer (some ⟨w.heap.size + 1 + 1 + 1 + 1, 0, none⟩), .pointer (some ⟨w.heap.size, 0, none⟩), .pointer (some ⟨w.heap.size + 1 + 1 + 1 + 1 + 1, 0, none⟩), .pointer (some ⟨w.heap.size + 1, 0, none⟩)])] 67 (0, 0)), (w.heap.size + 1 + 1 + 1 + 1, .cells #[.map (some (w.heap.size + 1 + 1 + 1))] 66 (0, 0)), (w.heap.size + 1 + 1 + 1, .map #[] 0), (w.heap.size + 1 + 1, .cells #[.int .u32 ((2 ^ n - 1 : Nat) : Int)] 39 (0, 0)), (w.heap.size + 1, .cells #[.int .i64 (most : Int)] 3 (0, 0)), (w.heap.size, .cells #[.slice la n lc] 23 (0, 0))] from ((((((Has.start w).alloc _).alloc _).alloc _).alloc _).alloc _ |>.alloc _).eq (by simp))
  have HM6 := Lib.hid (show ((((((w.alloc (.cells #[.slice la n lc] 23)).alloc (.cells #[.int .i64 (most : Int)] 3)).alloc (.cells #[.int .u32 ((2 ^ n - 1 : Nat) : Int)] 39)).alloc (.map #[] 0)).alloc (.cells #[.map (some (w.heap.size + 1 + 1 + 1))] 66)).alloc (.cells #[(.func (.func 24) #[] #[.pointer (some ⟨w.heap.size + 1 + 1, 0, none⟩), .pointer (some ⟨w.heap.size + 1 + 1 + 1 + 1, 0, none⟩), .pointer (some ⟨w.heap.size, 0, none⟩), .pointer (some ⟨w.heap.size + 1 + 1 + 1 + 1 + 1, 0, none⟩), .pointer (some ⟨w.heap.size + 1, 0, none⟩)])] 67)).ownsMap Tryd.prog 56 (plainElem Tryd.prog 3) (w.heap.size + 1 + 1 + 1) 0 (.map []) from by
    have h1 := World.ownsMap_made (H := Unit) (((w.alloc (.cells #[.slice la n lc] 23)).alloc (.cells #[.int .i64 (most : Int)] 3)).alloc (.cells #[.int .u32 ((2 ^ n - 1 : Nat) : Int)] 39)) Tryd.prog 56 (plainElem Tryd.prog 3)
    rw [World.size_alloc, World.size_alloc, World.size_alloc] at h1
    exact (h1.alloc _).alloc _)
  have HZ6 := Lib.hid (show ((((((w.alloc (.cells #[.slice la n lc] 23)).alloc (.cells #[.int .i64 (most : Int)] 3)).alloc (.cells #[.int .u32 ((2 ^ n - 1 : Nat) : Int)] 39)).alloc (.map #[] 0)).alloc (.cells #[.map (some (w.heap.size + 1 + 1 + 1))] 66)).alloc (.cells #[(.func (.func 24) #[] #[.pointer (some ⟨w.heap.size + 1 + 1, 0, none⟩), .pointer (some ⟨w.heap.size + 1 + 1 + 1 + 1, 0, none⟩), .pointer (some ⟨w.heap.size, 0, none⟩), .pointer (some ⟨w.heap.size + 1 + 1 + 1 + 1 + 1, 0, none⟩), .pointer (some ⟨w.heap.size + 1, 0, none⟩)])] 67)).heap.size = w.heap.size + 6 by simp only [World.size_alloc])
  clear y4 z4 hmm HX5
  generalize ((((((w.alloc (.cells #[.slice la n lc] 23)).alloc (.cells #[.int .i64 (most : Int)] 3)).alloc (.cells #[.int .u32 ((2 ^ n - 1 : Nat) : Int)] 39)).alloc (.map #[] 0)).alloc (.cells #[.map (some (w.heap.size + 1 + 1 + 1))] 66)).alloc (.cells #[(.func (.func 24) #[] #[.pointer (some ⟨w.heap.size + 1 + 1, 0, none⟩), .pointer (some ⟨w.heap.size + 1 + 1 + 1 + 1, 0, none⟩), .pointer (some ⟨w.heap.size, 0, none⟩), .pointer (some ⟨w.heap.size + 1 + 1 + 1 + 1 + 1, 0, none⟩), .pointer (some ⟨w.heap.size + 1, 0, none⟩)])] 67)) = x5 at *
  have HS5 := Lib.hid (show CtW w x5.drew c (w.heap.size + 6) la n lc (allN n) most (.map []) 0 [] from CtW.keep (by
    rw [hc]
    exact ⟨HX6.out.at 3 rfl, HX6.out.at 1 rfl, HX6.out.at 5 rfl, HX6.out.at 0 rfl, HX6.out.at 4 rfl, HM6.out, CntR.nil, HX6.out.keeps.none, ⟨by show _ ≤ w.heap.size + 1 + 1 + 1; omega, by omega⟩, ⟨by show w.heap.size + 1 + 1 < _; omega, by show w.heap.size + 1 + 1 + 1 + 1 < _; omega, by show w.heap.size < _; omega, by show w.heap.size + 1 + 1 + 1 + 1 + 1 < _; omega, by show w.heap.size + 1 < _; omega, by show w.heap.size + 1 + 1 + 1 < _; omega⟩, ⟨by show w.heap.size + 1 + 1 + 1 ≠ w.heap.size + 1 + 1; omega, by show w.heap.size + 1 + 1 + 1 ≠ w.heap.size + 1 + 1 + 1 + 1; omega, by show w.heap.size + 1 + 1 + 1 ≠ w.heap.size; omega, by show w.heap.size + 1 + 1 + 1 ≠ w.heap.size + 1 + 1 + 1 + 1 + 1; omega, by show w.heap.size + 1 + 1 + 1 ≠ w.heap.size + 1; omega⟩⟩) ((Keeps.refl _ x5).drew))
  have HSTA := Lib.hid (start_any x5.drew oa n0 oc Os (HH.out.1.below HS5.out.below) l0)
  have HZD := Lib.hid (show x5.drew.heap.size = w.heap.size + 6 from HZ6.out)
  have hlen0 : (startP Os).length = n0 := by unfold startP; rw [List.length_map]; exact HH.out.1.len
  have hcT : callsT (n + 1) ≤ 100000000 := by rcases (by omega : n = 0 ∨ n = 1 ∨ n = 2 ∨ n = 3 ∨ n = 4 ∨ n = 5 ∨ n = 6 ∨ n = 7 ∨ n = 8 ∨ n = 9) with rfl | rfl | rfl | rfl | rfl | rfl | rfl | rfl | rfl | rfl <;> decide
  have hfr : (freeL n 0).length < n + 1 := by unfold freeL; exact Nat.lt_succ_of_le (Nat.le_trans (List.length_filter_le _ _) (by simp))
  have hal : allN n < 4294967296 := by unfold allN; have := Nat.pow_le_pow_right (show 0 < 2 by omega) (show n ≤ 24 by omega); omega
  have HSE := Lib.hid (fun W g cap D nm h1 h2 h3 h4 => count_any w c (w.heap.size + 6) la n lc (allN n) most hal hmp hmo Lo HH.out.2.1 (by omega) HH.out.2.2.1 HH.out.2.2.2 (n + 1) W 0 (by omega) (startP Os) g cap D nm [] h1 h2 h3 (startP_ok HH.out.1.ok) (by omega) hfr (by omega) h4)
  rw [hlen0] at HSE
  have HPT := Lib.hid (show (.func (.func 24) #[] #[.pointer (some ⟨w.heap.size + 1 + 1, 0, none⟩), .pointer (some ⟨w.heap.size + 1 + 1 + 1 + 1, 0, none⟩), .pointer (some ⟨w.heap.size, 0, none⟩), .pointer (some ⟨w.heap.size + 1 + 1 + 1 + 1 + 1, 0, none⟩), .pointer (some ⟨w.heap.size + 1, 0, none⟩)]) = (.func (.func 24) #[] c.ptrs : Value) by rw [hc])
  have HEC := Lib.hid (show c.bS = w.heap.size + 1 + 1 + 1 + 1 + 1 by rw [hc])
  have HC := Lib.hid hc
  clear hc
  refine wp_region_noPanic ?_
  refine wp_region_held_drew (S := (fun W => W.cell? ⟨w.heap.size + 1 + 1 + 1 + 1 + 1, 0, none⟩ = some (.func (.func 24) #[] #[.pointer (some ⟨w.heap.size + 1 + 1, 0, none⟩), .pointer (some ⟨w.heap.size + 1 + 1 + 1 + 1, 0, none⟩), .pointer (some ⟨w.heap.size, 0, none⟩), .pointer (some ⟨w.heap.size + 1 + 1 + 1 + 1 + 1, 0, none⟩), .pointer (some ⟨w.heap.size + 1, 0, none⟩)]))) (by kernel_rfl) ?_ (fun hHeld => ?_)
  · rw [HPT.out, ← HEC.out]; exact cell_of HS5.out.cS 0
  refine wpAnyH_take (i := 0) (v := ?_) rfl (by kernel_rfl) (by kernel_rfl) (by kernel_rfl) (fun _ _ _ h => h) (Or.inl ⟨by rfl, ?_⟩) (by assumption) ?_
  rotate_left
  · (intro w hSw; (try dsimp only at hSw); go_simp; try with_reducible rfl)
  simp only [Act.put, List.getElem_toArray, List.getElem_cons_zero, List.getElem_cons_succ, List.setIfInBounds_toArray, List.set_cons_zero, List.set_cons_succ]
  refine wpAnyH_take (i := 1) (v := ?_) rfl (by kernel_rfl) (by kernel_rfl) (by kernel_rfl) (fun _ _ _ h => h) (Or.inl ⟨by rfl, ?_⟩) (by assumption) ?_
  rotate_left
  · (intro w hSw; (try dsimp only at hSw); go_simp; try with_reducible rfl)
  simp only [Act.put, List.getElem_toArray, List.getElem_cons_zero, List.getElem_cons_succ, List.setIfInBounds_toArray, List.set_cons_zero, List.set_cons_succ]
  refine wpAnyH_ready (rs := [2]) (by kernel_rfl) (by simp) ?_
  refine AllReadyH.cons rfl (fun K hK => ?_) AllReadyH.nil
  go_simp
  go_at_call 20
  refine HSTA.out.mono ?_
  rintro e2 w2 ⟨b2, g2, rfl, hs2⟩
  have HB2 := Lib.hid b2
  have HS2 := Lib.hid (HS5.out.keep (Keeps.ofBelow b2))
  have HT2 := Lib.hid hs2
  clear b2 hs2
  dsimp only
  refine hK.out _ _ ?_ (fun hHeld => ?_)
  · ((try dsimp only); rw [HPT.out, ← HEC.out]; exact cell_of HS2.out.cS 0)
  clear hK K
  try simp only [Act.put, List.getElem_toArray, List.getElem_cons_zero, List.getElem_cons_succ, List.setIfInBounds_toArray, List.set_cons_zero, List.set_cons_succ]
  have hB2 : w.heap.size + 6 ≤ w2.heap.size := by have := HB2.out.size; rw [HZD.out] at this; exact this
  have HCL := Lib.hid (HSE.out w2 g2 n0 _ _ HS2.out hB2 HT2.out (by simpa using hcT))
  clear HSE
  rw [HC.out] at HCL
  refine wpAnyH_ready (rs := [3]) (by kernel_rfl) (by simp) ?_
  refine AllReadyH.cons rfl (fun K hK => ?_) AllReadyH.nil
  go_simp
  go_at_call 24
  refine HCL.out.mono ?_
  rintro e3 w3 ⟨rfl, D3, nm3, hs3, hk3, hn3⟩
  rw [← HC.out] at hs3
  have HS3 := Lib.hid hs3
  clear hs3 hk3 hn3
  dsimp only
  refine hK.out _ _ ?_ (fun hHeld => ?_)
  · ((try dsimp only); rw [HPT.out, ← HEC.out]; exact cell_of HS3.out.cS 0)
  clear hK K
  try simp only [Act.put, List.getElem_toArray, List.getElem_cons_zero, List.getElem_cons_succ, List.setIfInBounds_toArray, List.set_cons_zero, List.set_cons_succ]
  refine wpAnyH_take (i := 4) (v := ?_) rfl (by kernel_rfl) (by kernel_rfl) (by kernel_rfl) (fun _ _ _ h => h) (Or.inl ⟨by rfl, ?_⟩) (by assumption) ?_
  rotate_left
  · (intro w hSw; (try dsimp only at hSw); go_simp; try with_reducible rfl)
  simp only [Act.put, List.getElem_toArray, List.getElem_cons_zero, List.getElem_cons_succ, List.setIfInBounds_toArray, List.set_cons_zero, List.set_cons_succ]
  refine wpAnyH_done (by kernel_rfl) ?_ _
  refine NoPanic.normal ?_
  go_wp2_with fail
  try rw [Exit.noGoto_ret]
  go_ret
  exact ⟨rfl, HS3.out.below⟩
end Go.Proofs.YtohajfkekkelhaaDoor
