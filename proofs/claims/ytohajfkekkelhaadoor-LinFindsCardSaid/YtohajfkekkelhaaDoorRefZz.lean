import Derived.Test.YtohajfkekkelhaaDoorLinBz
import Derived.Test.YtohajfkekkelhaaDoorRefYz
import Derived.Test.YtohajfkekkelhaaDoorRefXz
import Derived.Test.YtohajfkekkelhaaDoorRefAz
import Derived.Test.YtohajfkekkelhaaDoorLinTz
import Derived.Test.YtohajfkekkelhaaDoorSpecQz
import Derived.Test.YtohajfkekkelhaaDoorRow
import Derived.Deep.QuietTactic
namespace Go.Proofs.YtohajfkekkelhaaDoor
set_option linter.unusedVariables false
set_option linter.unusedSimpArgs false
/-- An order's numbers as integers. -/
def toI (t : List Nat) : List Int := t.map Int.ofNat
theorem toI_back (t : List Nat) : (toI t).map Int.toNat = t := by
  unfold toI
  rw [List.map_map]
  have : (Int.toNat ∘ Int.ofNat) = id := by funext x; rfl
  rw [this, List.map_id]
theorem toI_len (t : List Nat) : (toI t).length = t.length := List.length_map _
theorem hasI_toI (t : List Nat) (q : Nat) : hasI (toI t) q = decide (q ∈ t) := by
  unfold hasI toI
  rw [List.any_map]
  by_cases h : q ∈ t
  · rw [decide_eq_true h]
    exact List.any_eq_true.2 ⟨q, h, by simp⟩
  · rw [decide_eq_false h]
    refine List.any_eq_false.2 fun x hx => ?_
    have : x ≠ q := fun e => h (e ▸ hx)
    simp only [Function.comp, beq_iff_eq]
    intro e
    exact this (Int.ofNat.inj e)
theorem only_len (L : List OpX) (O : List Int) : (onlyL L O).length = L.length := by unfold onlyL; rw [List.length_map, List.length_range]
theorem getX_only {L : List OpX} {t : List Nat} {j : Nat} (h : j ∈ t) (hl : j < L.length) : getX (onlyL L (toI t)) j = getX L j := by
  unfold getX onlyL
  rw [List.getElem?_map, List.getElem?_range hl, Option.map_some, Option.getD_some]
  unfold onlyX
  rw [hasI_toI, decide_eq_true h, if_pos rfl]
theorem getX_only_not {L : List OpX} {t : List Nat} {j : Nat} (h : j ∉ t) (hl : j < L.length) : (getX (onlyL L (toI t)) j) 14 = 0 := by
  unfold getX onlyL
  rw [List.getElem?_map, List.getElem?_range hl, Option.map_some, Option.getD_some]
  unfold onlyX
  rw [hasI_toI, decide_eq_false h, if_neg (by simp)]
  unfold clrX
  rw [if_pos rfl]
theorem checkG_same {L M : List OpX} : ∀ (r t : List Nat) (S : List ItemD), (∀ j, j ∈ r ∨ j ∈ t → getX L j = getX M j) → checkG L t r S = checkG M t r S
  | [], _, _, _ => rfl
  | i :: r, t, S, h => by
    have hi := h i (.inl (.head _))
    have hl : lateP L (lastG L t) i = lateP M (lastG M t) i := by
      rw [late_any_of, late_any_of, hi]
      refine Bool.eq_iff_iff.2 ?_
      rw [List.any_eq_true, List.any_eq_true]
      constructor
      · rintro ⟨q, hq, e⟩; exact ⟨q, hq, by rw [← h q (.inr hq)]; exact e⟩
      · rintro ⟨q, hq, e⟩; exact ⟨q, hq, by rw [h q (.inr hq)]; exact e⟩
    unfold checkG
    rw [hl, hi, checkG_same r (i :: t) _ fun j hj => h j (by
      rcases hj with hj | hj
      · exact .inl (.tail _ hj)
      · rcases List.mem_cons.1 hj with rfl | hj
        · exact .inl (.head _)
        · exact .inr hj)]
theorem checkG_kinds (L : List OpX) : ∀ (r t : List Nat) (S : List ItemD), checkG L t r S = (0, 0) ∨ ∃ k : Nat, k < t.length + r.length ∧ (checkG L t r S = ((k : Int), 15) ∨ checkG L t r S = ((k : Int), 2))
  | [], _, _ => .inl rfl
  | i :: r, t, S => by
    unfold checkG
    split
    · exact .inr ⟨t.length, by simp, .inl rfl⟩
    · split
      · rcases checkG_kinds L r (i :: t) (followP S (getX L i)).1 with h | ⟨k, hk, h⟩
        · exact .inl h
        · exact .inr ⟨k, by simp at hk ⊢; omega, h⟩
      · exact .inr ⟨t.length, by simp, .inr rfl⟩
/-- Is a start of an order such that each call of it comes in time and is allowed? -/
def goodO (Os : List ObjX) (Lo : List OpX) (t : List Nat) : Prop := checkG Lo [] t (startP Os) = (0, 0)
theorem seen_some (n : Nat) : ∀ (t : List Nat) (s : Nat → Bool), t.Nodup → (∀ j, j ∈ t → j < n ∧ s j = false) → ∃ s', seenG n (toI t) s = some s' ∧ ∀ j, s' j = true ↔ s j = true ∨ j ∈ t
  | [], s, _, _ => ⟨s, rfl, fun j => by simp⟩
  | i :: r, s, hn, h => by
    obtain ⟨h1, h2⟩ := List.nodup_cons.1 hn
    have hi := h i (.head _)
    obtain ⟨s', e, hs⟩ := seen_some n r (markB s i) h2 (fun j hj => ⟨(h j (.tail _ hj)).1, by
      unfold markB
      rw [if_neg (show ¬ j = i from fun e => h1 (e ▸ hj))]
      exact (h j (.tail _ hj)).2⟩)
    refine ⟨s', ?_, fun j => ?_⟩
    · show seenG n ((i : Int) :: toI r) s = some s'
      unfold seenG
      rw [if_neg (by
        rintro (h | h | h)
        · omega
        · omega
        · rw [Int.toNat_natCast, hi.2] at h; cases h), Int.toNat_natCast]
      exact e
    · rw [hs j, List.mem_cons]
      unfold markB
      by_cases e : j = i
      · simp [e]
      · simp [e]
/-- An order of numbers: none twice, all there. -/
def InO (n : Nat) (t : List Nat) : Prop := t.Nodup ∧ ∀ j, j ∈ t → j < n
theorem whole_iff (Lo : List OpX) (t : List Nat) : wholeP Lo (toI t) = true ↔ InO Lo.length t ∧ ∀ j, j < Lo.length → (getX Lo j) 14 = 1 → j ∈ t := by
  constructor
  · intro hw
    unfold wholeP at hw
    cases hs : seenG Lo.length (toI t) (fun _ => false) with
    | none => rw [hs] at hw; cases hw
    | some s' =>
      rw [hs] at hw
      obtain ⟨h1, h2, h3⟩ := seen_all _ _ _ _ hs
      rw [toI_back] at h1 h2 h3
      refine ⟨⟨h1, fun j hj => (h2 j hj).2⟩, fun j hj hd => ?_⟩
      have hw' : ((List.range Lo.length).all fun i => !(decide (((Lo[i]?).getD (fun _ => 0)) 14 = 1)) || s' i) = true := hw
      have := List.all_eq_true.1 hw' j (List.mem_range.2 hj)
      have e : decide (((Lo[j]?).getD (fun _ => 0)) 14 = 1) = true := decide_eq_true hd
      rw [e] at this
      have hs'' : s' j = true := by simpa using this
      rcases (h3 j).1 hs'' with h | h
      · cases h
      · exact h
  · rintro ⟨⟨h1, h2⟩, h3⟩
    obtain ⟨s', e, hs⟩ := seen_some Lo.length t (fun _ => false) h1 (fun j hj => ⟨h2 j hj, rfl⟩)
    unfold wholeP
    rw [e]
    show ((List.range Lo.length).all fun i => !(decide (((Lo[i]?).getD (fun _ => 0)) 14 = 1)) || s' i) = true
    rw [List.all_eq_true]
    intro i hi
    have hi' := List.mem_range.1 hi
    cases hd : decide (((Lo[i]?).getD (fun _ => 0)) 14 = 1) with
    | false => rfl
    | true =>
      rw [(hs i).2 (.inr (h3 i hi' (of_decide_eq_true hd)))]
      rfl
/-- Does the check tell an order right? -/
def OkO (Os : List ObjX) (Lo : List OpX) (t : List Nat) : Prop := checkP Os Lo (toI t) = (0, 0)
theorem ok_iff (Os : List ObjX) (Lo : List OpX) (t : List Nat) : OkO Os Lo t ↔ wholeP Lo (toI t) = true ∧ goodO Os Lo t := by
  unfold OkO checkP goodO
  rw [toI_back]
  by_cases h : wholeP Lo (toI t) = true
  · rw [if_pos h]; exact ⟨fun e => ⟨h, e⟩, fun e => e.2⟩
  · rw [if_neg h]
    exact ⟨fun e => by simp at e, fun e => absurd e.1 h⟩
theorem ok_of_two (Os : List ObjX) (Lo : List OpX) (t : List Nat) : (checkP Os Lo (toI t)).2 = 0 ↔ OkO Os Lo t := by
  unfold OkO
  constructor
  · intro h
    unfold checkP at h ⊢
    by_cases hw : wholeP Lo (toI t) = true
    · rw [if_pos hw] at h ⊢
      rcases checkG_kinds Lo ((toI t).map Int.toNat) [] (startP Os) with e | ⟨k, _, e | e⟩
      · exact e
      · rw [e] at h; simp at h
      · rw [e] at h; simp at h
    · rw [if_neg hw] at h; simp at h
  · intro h; rw [h]
/-- What does not go on. -/
def badP (Os : List ObjX) (Lo : List OpX) (t : List Nat) : Bool :=
  decide ((checkP Os (onlyL Lo (toI t)) (toI t)).2 = 2) && decide ((checkP Os (onlyL Lo (toI t)) (toI t)).1 < (t.length : Int)) || decide ((checkP Os (onlyL Lo (toI t)) (toI t)).2 = 15)
theorem check_only (Os : List ObjX) {Lo : List OpX} {t : List Nat} (h : InO Lo.length t) : checkP Os (onlyL Lo (toI t)) (toI t) = checkG Lo [] t (startP Os) := by
  unfold checkP
  have hw : wholeP (onlyL Lo (toI t)) (toI t) = true := by
    rw [whole_iff, only_len]
    refine ⟨h, fun j hj hd => ?_⟩
    by_cases e : j ∈ t
    · exact e
    · rw [getX_only_not e hj] at hd
      exact absurd hd (by omega)
  rw [if_pos hw, toI_back]
  exact checkG_same t [] _ fun j hj => by
    rcases hj with hj | hj
    · exact getX_only hj (h.2 j hj)
    · cases hj
theorem bad_iff (Os : List ObjX) {Lo : List OpX} {t : List Nat} (h : InO Lo.length t) : badP Os Lo t = false ↔ goodO Os Lo t := by
  unfold badP goodO
  rw [check_only Os h]
  rcases checkG_kinds Lo t [] (startP Os) with e | ⟨k, hk, e | e⟩
  · rw [e]; simp
  · rw [e]; simp
  · rw [e]
    have : k < t.length := by simpa using hk
    simp
    omega
theorem good_front {Lo : List OpX} : ∀ (a b t : List Nat) (S : List ItemD), checkG Lo t (a ++ b) S = (0, 0) → checkG Lo t a S = (0, 0)
  | [], _, _, _, _ => rfl
  | i :: a, b, t, S, h => by
    obtain ⟨h1, h2, h3⟩ := check_cons (r := a ++ b) h
    unfold checkG
    rw [if_neg (by rw [h1]; simp), if_pos h2]
    exact good_front a b _ _ h3
/-- All orders that begin so. -/
def ordersP (Os : List ObjX) (Lo : List OpX) : Nat → List Nat → List (List Nat)
  | 0, _ => []
  | m + 1, t => if badP Os Lo t = true then [] else (if (checkP Os Lo (toI t)).2 = 0 then [t] else []) ++ (List.range Lo.length).flatMap fun i => if i ∈ t then [] else ordersP Os Lo m (t ++ [i])
theorem nodup_len {α : Type} [DecidableEq α] : ∀ (l m : List α), l.Nodup → (∀ x, x ∈ l → x ∈ m) → l.length ≤ m.length
  | [], _, _, _ => Nat.zero_le _
  | x :: l, m, hn, h => by
    obtain ⟨h1, h2⟩ := List.nodup_cons.1 hn
    have := nodup_len l (m.erase x) h2 fun y hy => (List.mem_erase_of_ne (show y ≠ x from fun e => h1 (e ▸ hy))).2 (h y (.tail _ hy))
    have hx := h x (.head _)
    rw [List.length_erase_of_mem hx] at this
    have := List.length_pos_of_mem hx
    simp
    omega
theorem in_len {n : Nat} {t : List Nat} (h : InO n t) : t.length ≤ n := by
  have := nodup_len t (List.range n) h.1 fun x hx => List.mem_range.2 (h.2 x hx)
  rwa [List.length_range] at this
theorem in_put {n : Nat} {t : List Nat} {i : Nat} (h : InO n t) (hi : i < n) (hn : i ∉ t) : InO n (t ++ [i]) := by
  refine ⟨List.nodup_append.2 ⟨h.1, by simp, fun a ha b hb => ?_⟩, fun j hj => ?_⟩
  · rw [List.mem_singleton] at hb
    intro e
    exact hn (by rw [← hb, ← e]; exact ha)
  · rcases List.mem_append.1 hj with hj | hj
    · exact h.2 j hj
    · rw [List.mem_singleton] at hj
      rw [hj]; exact hi
theorem ok_in {Os : List ObjX} {Lo : List OpX} {t : List Nat} (h : OkO Os Lo t) : InO Lo.length t := ((whole_iff Lo t).1 ((ok_iff Os Lo t).1 h).1).1
theorem orders_front (Os : List ObjX) (Lo : List OpX) : ∀ (m : Nat) (t r : List Nat), r ∈ ordersP Os Lo m t → t <+: r
  | 0, _, _, h => by simp [ordersP] at h
  | m + 1, t, r, h => by
    unfold ordersP at h
    by_cases hb : badP Os Lo t = true
    · rw [if_pos hb] at h; cases h
    · rw [if_neg hb, List.mem_append] at h
      rcases h with h | h
      · split at h
        · rw [List.mem_singleton] at h; rw [h]; exact List.prefix_refl _
        · cases h
      · obtain ⟨i, _, h⟩ := List.mem_flatMap.1 h
        split at h
        · cases h
        · exact (List.prefix_append t [i]).trans (orders_front Os Lo m _ _ h)
theorem orders_mem (Os : List ObjX) (Lo : List OpX) : ∀ (m : Nat) (t r : List Nat), InO Lo.length t → Lo.length < m + t.length → (r ∈ ordersP Os Lo m t ↔ t <+: r ∧ OkO Os Lo r)
  | 0, t, r, ht, hm => absurd (in_len ht) (by omega)
  | m + 1, t, r, ht, hm => by
    constructor
    · intro h
      refine ⟨orders_front Os Lo _ _ _ h, ?_⟩
      unfold ordersP at h
      by_cases hb : badP Os Lo t = true
      · rw [if_pos hb] at h; cases h
      · rw [if_neg hb, List.mem_append] at h
        rcases h with h | h
        · by_cases hc : (checkP Os Lo (toI t)).2 = 0
          · rw [if_pos hc, List.mem_singleton] at h
            rw [h]; exact (ok_of_two Os Lo t).1 hc
          · rw [if_neg hc] at h; cases h
        · obtain ⟨i, hi, h⟩ := List.mem_flatMap.1 h
          by_cases hit : i ∈ t
          · rw [if_pos hit] at h; cases h
          · rw [if_neg hit] at h
            exact ((orders_mem Os Lo m _ r (in_put ht (List.mem_range.1 hi) hit) (by simp; omega)).1 h).2
    · rintro ⟨⟨s, rfl⟩, hr⟩
      have hg := ((ok_iff Os Lo _).1 hr).2
      have hb : badP Os Lo t = false := (bad_iff Os ht).2 (good_front t s [] _ hg)
      unfold ordersP
      rw [if_neg (by rw [hb]; simp), List.mem_append]
      cases s with
      | nil =>
        left
        rw [List.append_nil] at hr ⊢
        rw [if_pos ((ok_of_two Os Lo t).2 hr)]
        exact .head _
      | cons i s =>
        right
        have hin := ok_in hr
        have hi : i < Lo.length := hin.2 i (by simp)
        have hit : i ∉ t := fun e => (List.nodup_append.1 hin.1).2.2 i e i (.head _) rfl
        refine List.mem_flatMap.2 ⟨i, List.mem_range.2 hi, ?_⟩
        rw [if_neg hit]
        exact (orders_mem Os Lo m _ _ (in_put ht hi hit) (by simp; omega)).2 ⟨⟨s, by simp⟩, hr⟩
theorem lexP_refl : ∀ a : List Nat, lexP a a
  | [] => trivial
  | _ :: a => .inr ⟨rfl, lexP_refl a⟩
theorem lexP_front : ∀ (a s : List Nat), lexP a (a ++ s)
  | [], _ => trivial
  | _ :: a, s => .inr ⟨rfl, lexP_front a s⟩
theorem lexP_mid {x y : Nat} (h : x < y) : ∀ (a s r : List Nat), lexP (a ++ x :: s) (a ++ y :: r)
  | [], _, _ => .inl h
  | _ :: a, s, r => .inr ⟨rfl, lexP_mid h a s r⟩
theorem lexP_anti : ∀ (a b : List Nat), lexP a b → lexP b a → a = b
  | [], [], _, _ => rfl
  | [], _ :: _, _, h => h.elim
  | _ :: _, [], h, _ => h.elim
  | x :: a, y :: b, h, h' => by
    rcases h with h | ⟨rfl, h⟩
    · rcases h' with h' | ⟨e, _⟩ <;> omega
    · rcases h' with h' | ⟨_, h'⟩
      · omega
      · rw [lexP_anti a b h h']
theorem orders_sorted (Os : List ObjX) (Lo : List OpX) : ∀ (m : Nat) (t : List Nat), (ordersP Os Lo m t).Pairwise fun a b => lexP a b ∧ a ≠ b
  | 0, _ => List.Pairwise.nil
  | m + 1, t => by
    unfold ordersP
    by_cases hb : badP Os Lo t = true
    · rw [if_pos hb]; exact List.Pairwise.nil
    · rw [if_neg hb, List.pairwise_append]
      refine ⟨?_, ?_, ?_⟩
      · split
        · exact List.pairwise_singleton _ _
        · exact List.Pairwise.nil
      · rw [List.pairwise_flatMap]
        refine ⟨fun i _ => ?_, List.pairwise_lt_range.imp fun {i j} hij a ha b hb => ?_⟩
        · split
          · exact List.Pairwise.nil
          · exact orders_sorted Os Lo m _
        · split at ha
          · cases ha
          · split at hb
            · cases hb
            · obtain ⟨s, rfl⟩ := orders_front Os Lo m _ _ ha
              obtain ⟨r, rfl⟩ := orders_front Os Lo m _ _ hb
              rw [List.append_assoc, List.append_assoc]
              refine ⟨lexP_mid hij t s r, fun e => ?_⟩
              have := List.append_cancel_left e
              simp at this
              omega
      · intro a ha b hb
        split at ha
        · rw [List.mem_singleton] at ha
          subst ha
          obtain ⟨i, _, hb⟩ := List.mem_flatMap.1 hb
          split at hb
          · cases hb
          · obtain ⟨r, rfl⟩ := orders_front Os Lo m _ _ hb
            rw [List.append_assoc]
            refine ⟨lexP_front _ _, fun e => ?_⟩
            have := congrArg List.length e
            simp at this
        · cases ha
/-- All orders of a history. -/
def allO (Os : List ObjX) (Lo : List OpX) : List (List Nat) := ordersP Os Lo (Lo.length + 1) []
theorem all_mem (Os : List ObjX) (Lo : List OpX) (r : List Nat) : r ∈ allO Os Lo ↔ OkO Os Lo r := by
  unfold allO
  rw [orders_mem Os Lo _ [] r ⟨List.nodup_nil, (fun j hj => by cases hj)⟩ (by simp)]
  exact ⟨fun h => h.2, fun h => ⟨List.nil_prefix, h⟩⟩
theorem all_nodup (Os : List ObjX) (Lo : List OpX) : (allO Os Lo).Nodup := (orders_sorted Os Lo _ _).imp fun h => h.2
/-- What is found is the first of all orders. -/
theorem find_first {Os : List ObjX} {Lo : List OpX} (ho : ∀ p, p ∈ Os → ObjOk p) (hok : ∀ x, x ∈ Lo → OpOk x) (hn : Lo.length ≤ 24) : findP Os Lo = (allO Os Lo).head? := by
  cases ha : allO Os Lo with
  | nil =>
    show findP Os Lo = none
    cases hf : findP Os Lo with
    | none => rfl
    | some o =>
      have := (all_mem Os Lo o).2 (find_sound hf).1
      rw [ha] at this; cases this
  | cons a l =>
    show findP Os Lo = some a
    have hm : OkO Os Lo a := (all_mem Os Lo a).1 (by rw [ha]; exact .head _)
    obtain ⟨b, hb, hl⟩ := find_complete ho hok hn hm
    rw [toI_back] at hl
    rw [hb]
    congr 1
    have hbm := (all_mem Os Lo b).2 (find_sound hb).1
    rw [ha] at hbm
    rcases List.mem_cons.1 hbm with e | h
    · exact e
    · have hs := orders_sorted Os Lo (Lo.length + 1) []
      rw [show ordersP Os Lo (Lo.length + 1) [] = a :: l from ha, List.pairwise_cons] at hs
      exact lexP_anti _ _ hl (hs.1 b h).1
end Go.Proofs.YtohajfkekkelhaaDoor
namespace Go.Proofs.YtohajfkekkelhaaDoor
set_option linter.unusedVariables false
set_option linter.unusedSimpArgs false
/-- The complete orders that the search looks at. -/
def compP (Lo : List OpX) (all : Nat) : Nat → Nat → List ItemD → List (List Nat)
  | 0, _, _ => []
  | m + 1, used, L => if used = all then [[]] else (firstL Lo used).flatMap fun i => if (followP L (getX Lo i)).2 = true then (compP Lo all m (used ||| 2 ^ i) (followP L (getX Lo i)).1).map (i :: ·) else []
theorem comp_len (Lo : List OpX) (all : Nat) : ∀ (m used : Nat) (L : List ItemD), (compP Lo all m used L).length = numP Lo all m used L
  | 0, _, _ => rfl
  | m + 1, used, L => by
    unfold compP numP
    split
    · rfl
    · rw [List.length_flatMap]
      refine congrArg List.sum (List.map_congr_left fun i _ => ?_)
      split
      · rw [List.length_map, comp_len Lo all m]
      · rfl
theorem comp_nodup (Lo : List OpX) (all : Nat) : ∀ (m used : Nat) (L : List ItemD), (compP Lo all m used L).Nodup
  | 0, _, _ => List.nodup_nil
  | m + 1, used, L => by
    unfold compP
    split
    · exact List.nodup_cons.2 ⟨by simp, List.nodup_nil⟩
    · unfold List.Nodup
      rw [List.pairwise_flatMap]
      refine ⟨fun i _ => ?_, (first_sorted Lo used).imp fun {i j} hij a ha b hb => ?_⟩
      · split
        · exact List.Pairwise.map _ (fun a b hab e => hab (by simpa using e)) (comp_nodup Lo all m _ _)
        · exact List.Pairwise.nil
      · split at ha
        · split at hb
          · obtain ⟨a, _, rfl⟩ := List.mem_map.1 ha
            obtain ⟨b, _, rfl⟩ := List.mem_map.1 hb
            intro e
            have := (List.cons.inj e).1
            omega
          · cases hb
        · cases ha
theorem comp_mem (Lo : List OpX) : ∀ (m used : Nat) (L : List ItemD) (r : List Nat), (∀ j, used.testBit j = true → j < Lo.length) → (freeL Lo.length used).length < m → (r ∈ compP Lo (allN Lo.length) m used L ↔ LinR Lo (allN Lo.length) used L r)
  | 0, _, _, _, _, h => absurd h (Nat.not_lt_zero _)
  | m + 1, used, L, r, hb, hl => by
    unfold compP
    have hand : used &&& allN Lo.length = used := Nat.eq_of_testBit_eq fun j => by
      rw [Nat.testBit_and, allN_bit]
      cases e : used.testBit j with
      | false => rfl
      | true => rw [decide_eq_true (hb j e)]; rfl
    by_cases ha : used = allN Lo.length
    · rw [if_pos ha, List.mem_singleton]
      constructor
      · rintro rfl
        show used &&& allN Lo.length = allN Lo.length
        rw [hand, ha]
      · intro h
        cases r with
        | nil => rfl
        | cons i r =>
          obtain ⟨⟨h1, h2⟩, _⟩ := mem_first.1 h.1
          rw [ha, allN_bit, decide_eq_true h1] at h2
          cases h2
    · rw [if_neg ha]
      cases r with
      | nil =>
        constructor
        · intro h
          obtain ⟨i, _, h⟩ := List.mem_flatMap.1 h
          split at h
          · obtain ⟨_, _, e⟩ := List.mem_map.1 h
            cases e
          · cases h
        · intro h
          have h' : used &&& allN Lo.length = allN Lo.length := h
          rw [hand] at h'
          exact absurd h' ha
      | cons i r =>
        have hbit : ∀ i, i ∈ firstL Lo used → ∀ j, (used ||| 2 ^ i).testBit j = true → j < Lo.length := fun i hi j hj => by
          rw [bit_put, Bool.or_eq_true, decide_eq_true_eq] at hj
          rcases hj with hj | rfl
          · exact hb j hj
          · exact (mem_first.1 hi).1.1
        have hfl : ∀ i, i ∈ firstL Lo used → (freeL Lo.length (used ||| 2 ^ i)).length < m := fun i hi => by
          obtain ⟨⟨h1, h2⟩, _⟩ := mem_first.1 hi
          have := free_less h1 h2
          omega
        constructor
        · intro h
          obtain ⟨k, hk, h⟩ := List.mem_flatMap.1 h
          by_cases hf : (followP L (getX Lo k)).2 = true
          · rw [if_pos hf] at h
            obtain ⟨s, hs, e⟩ := List.mem_map.1 h
            obtain ⟨rfl, rfl⟩ := List.cons.inj e
            exact ⟨hk, hf, (comp_mem Lo m _ _ _ (hbit _ hk) (hfl _ hk)).1 hs⟩
          · rw [if_neg hf] at h; cases h
        · rintro ⟨h1, h2, h3⟩
          refine List.mem_flatMap.2 ⟨i, h1, ?_⟩
          rw [if_pos h2]
          exact List.mem_map.2 ⟨r, (comp_mem Lo m _ _ _ (hbit _ h1) (hfl _ h1)).2 h3, rfl⟩
theorem lin_has {Lo : List OpX} {ans : Nat} : ∀ (r : List Nat) (used : Nat) (L : List ItemD), LinR Lo ans used L r → ∀ j, ans.testBit j = true → used.testBit j = true ∨ j ∈ r
  | [], used, L, h, j, hj => by
    have h' : used &&& ans = ans := h
    rw [← h', Nat.testBit_and, Bool.and_eq_true] at hj
    exact .inl hj.1
  | i :: r, used, L, h, j, hj => by
    rcases lin_has r _ _ h.2.2 j hj with h1 | h1
    · rw [bit_put, Bool.or_eq_true, decide_eq_true_eq] at h1
      rcases h1 with h1 | rfl
      · exact .inl h1
      · exact .inr (.head _)
    · exact .inr (.tail _ h1)
theorem lin_to {Lo : List OpX} {ans ans' : Nat} : ∀ (r : List Nat) (used : Nat) (L : List ItemD), LinR Lo ans used L r → (∀ j, ans'.testBit j = true → used.testBit j = true ∨ j ∈ r) → LinR Lo ans' used L r
  | [], used, L, _, h => by
    show used &&& ans' = ans'
    refine Nat.eq_of_testBit_eq fun j => ?_
    rw [Nat.testBit_and]
    cases e : ans'.testBit j with
    | false => simp
    | true =>
      rcases h j e with h | h
      · rw [h]; rfl
      · cases h
  | i :: r, used, L, hr, h => ⟨hr.1, hr.2.1, lin_to r _ _ hr.2.2 fun j hj => by
    rw [bit_put, Bool.or_eq_true, decide_eq_true_eq]
    rcases h j hj with h | h
    · exact .inl (.inl h)
    · rcases List.mem_cons.1 h with rfl | h
      · exact .inl (.inr rfl)
      · exact .inr h⟩
theorem ok_lin {Os : List ObjX} {Lo : List OpX} {r : List Nat} (h : OkO Os Lo r) : LinR Lo (doneW Lo Lo.length) 0 (startP Os) r := by
  obtain ⟨hw, hg⟩ := (ok_iff Os Lo r).1 h
  obtain ⟨⟨h1, h2⟩, h3⟩ := (whole_iff Lo r).1 hw
  exact check_lin (fun j hj => by
    rw [done_bit, Bool.and_eq_true, decide_eq_true_eq, decide_eq_true_eq] at hj
    exact hj) _ _ [] _ (fun j => by simp) (fun j hj => h2 j hj) h1 (fun j _ hj => by cases hj) (fun j hj hd => .inr (h3 j hj hd)) hg
theorem lin_ok {Os : List ObjX} {Lo : List OpX} {r : List Nat} (h : LinR Lo (doneW Lo Lo.length) 0 (startP Os) r) : OkO Os Lo r := by
  obtain ⟨c1, c2⟩ := lin_check _ _ [] _ ⟨fun j => by simp, (fun j hj => by cases hj), (fun p hp => by cases hp)⟩ h
  obtain ⟨s', e, _⟩ := c2 (fun _ => false) (fun j => by simp)
  obtain ⟨h1, h2, h3⟩ := seen_all _ _ _ _ e
  have hid : (r.map Int.ofNat).map Int.toNat = r := toI_back r
  rw [hid] at h1 h2
  refine (ok_iff Os Lo r).2 ⟨(whole_iff Lo r).2 ⟨⟨h1, fun j hj => (h2 j hj).2⟩, fun j hj hd => ?_⟩, c1⟩
  have hb : (doneW Lo Lo.length).testBit j = true := by
    rw [done_bit, decide_eq_true hj, decide_eq_true hd]
    rfl
  rcases lin_has _ _ _ h j hb with h | h
  · simp at h
  · exact h
theorem in_full {n : Nat} {t : List Nat} (h : InO n t) (hl : t.length = n) : ∀ j, j < n → j ∈ t := by
  intro j hj
  by_cases e : j ∈ t
  · exact e
  · have := nodup_len t ((List.range n).erase j) h.1 fun x hx => (List.mem_erase_of_ne (show x ≠ j from fun e2 => e (e2 ▸ hx))).2 (List.mem_range.2 (h.2 x hx))
    rw [List.length_erase_of_mem (List.mem_range.2 hj), List.length_range] at this
    omega
theorem comp_iff (Os : List ObjX) (Lo : List OpX) (r : List Nat) : r ∈ compP Lo (allN Lo.length) (Lo.length + 1) 0 (startP Os) ↔ OkO Os Lo r ∧ r.length = Lo.length := by
  rw [comp_mem Lo _ _ _ _ (fun j hj => by simp at hj) (by unfold freeL; exact Nat.lt_succ_of_le (Nat.le_trans (List.length_filter_le _ _) (by simp)))]
  constructor
  · intro h
    have hall : ∀ j, j < Lo.length → j ∈ r := fun j hj => by
      rcases lin_has _ _ _ h j (by rw [allN_bit, decide_eq_true hj]) with h | h
      · simp at h
      · exact h
    have hok : OkO Os Lo r := lin_ok (lin_to _ _ _ h fun j hj => by
      rw [done_bit, Bool.and_eq_true, decide_eq_true_eq] at hj
      exact .inr (hall j hj.1))
    refine ⟨hok, ?_⟩
    have h1 := in_len (ok_in hok)
    have h2 := nodup_len (List.range Lo.length) r List.nodup_range fun x hx => hall x (List.mem_range.1 hx)
    rw [List.length_range] at h2
    omega
  · rintro ⟨h, hl⟩
    exact lin_to _ _ _ (ok_lin h) fun j hj => by
      rw [allN_bit, decide_eq_true_eq] at hj
      exact .inr (in_full (ok_in h) hl j hj)
theorem good_put {Lo : List OpX} {i : Nat} (hd : ¬ (getX Lo i) 14 = 1) : ∀ (r t : List Nat) (S : List ItemD), checkG Lo t r S = (0, 0) → checkG Lo t (r ++ [i]) S = (0, 0)
  | [], t, S, _ => by
    show checkG Lo t [i] S = (0, 0)
    unfold checkG
    have hl : lateP Lo (lastG Lo t) i = false := by
      rw [late_any_of]
      exact List.any_eq_false.2 fun q _ => by rw [not_before hd]; simp
    have hf : (followP S (getX Lo i)).2 = true := by
      unfold followP
      rw [if_neg (by rw [decide_eq_false hd]; simp)]
    rw [if_neg (by rw [hl]; simp), if_pos hf]
    rfl
  | j :: r, t, S, h => by
    obtain ⟨h1, h2, h3⟩ := check_cons h
    show checkG Lo t (j :: (r ++ [i])) S = (0, 0)
    unfold checkG
    rw [if_neg (by rw [h1]; simp), if_pos h2]
    exact good_put hd r _ _ h3
theorem begins_iff (s r : List Nat) : beginsP (toI s) (toI r) = true ↔ r.length < s.length ∧ s.take r.length = r := by
  unfold beginsP
  rw [toI_len, toI_len, Bool.and_eq_true, decide_eq_true_eq, decide_eq_true_eq]
  have : (toI s).take r.length = toI r ↔ s.take r.length = r := by
    unfold toI
    rw [← List.map_take]
    constructor
    · intro h
      have := congrArg (List.map Int.toNat) h
      rw [show (List.map Int.ofNat (List.take r.length s)).map Int.toNat = _ from toI_back _, show (List.map Int.ofNat r).map Int.toNat = _ from toI_back _] at this
      exact this
    · intro h; rw [h]
  rw [this]
theorem last_iff {Os : List ObjX} {Lo : List OpX} {r : List Nat} (h : OkO Os Lo r) : lastR ((allO Os Lo).map toI) (toI r) = decide (r.length = Lo.length) := by
  unfold lastR
  rw [List.all_map]
  by_cases hl : r.length = Lo.length
  · rw [decide_eq_true hl]
    refine List.all_eq_true.2 fun s hs => ?_
    have hs' := in_len (ok_in ((all_mem Os Lo s).1 hs))
    show (!(beginsP (toI s) (toI r))) = true
    cases hb : beginsP (toI s) (toI r) with
    | false => rfl
    | true =>
      have := ((begins_iff s r).1 hb).1
      omega
  · rw [decide_eq_false hl]
    have hin := ok_in h
    have hle := in_len hin
    obtain ⟨j, hj, hjr⟩ : ∃ j, j < Lo.length ∧ j ∉ r := Classical.byContradiction fun hn => by
      have := nodup_len (List.range Lo.length) r List.nodup_range fun x hx => Classical.byContradiction fun hx' => hn ⟨x, List.mem_range.1 hx, hx'⟩
      rw [List.length_range] at this
      omega
    obtain ⟨hw, hg⟩ := (ok_iff Os Lo r).1 h
    have hdone := ((whole_iff Lo r).1 hw).2
    have hd : ¬ (getX Lo j) 14 = 1 := fun e => hjr (hdone j hj e)
    have hok : OkO Os Lo (r ++ [j]) := (ok_iff Os Lo _).2 ⟨(whole_iff Lo _).2 ⟨in_put hin hj hjr, fun k hk hkd => List.mem_append.2 (.inl (hdone k hk hkd))⟩, good_put hd r [] _ hg⟩
    refine List.all_eq_false.2 ⟨r ++ [j], (all_mem Os Lo _).2 hok, ?_⟩
    show ¬ (!(beginsP (toI (r ++ [j])) (toI r))) = true
    rw [(begins_iff (r ++ [j]) r).2 ⟨by simp, by simp⟩]
    simp
/-- The document's count is that of all complete orders. -/
theorem last_num (Os : List ObjX) (Lo : List OpX) : numLast ((allO Os Lo).map toI) ((allO Os Lo).map toI) = numP Lo (allN Lo.length) (Lo.length + 1) 0 (startP Os) := by
  unfold numLast
  rw [List.filter_map, List.length_map, ← comp_len]
  have hc : (allO Os Lo).filter ((fun r => lastR ((allO Os Lo).map toI) r) ∘ toI) = (allO Os Lo).filter fun r => decide (r.length = Lo.length) :=
    List.filter_congr fun r hr => last_iff ((all_mem Os Lo r).1 hr)
  rw [hc]
  refine Nat.le_antisymm (nodup_len _ _ ((all_nodup Os Lo).filter _) fun r hr => ?_) (nodup_len _ _ (comp_nodup _ _ _ _ _) fun r hr => ?_)
  · obtain ⟨h1, h2⟩ := List.mem_filter.1 hr
    exact (comp_iff Os Lo r).2 ⟨(all_mem Os Lo r).1 h1, of_decide_eq_true h2⟩
  · obtain ⟨h1, h2⟩ := (comp_iff Os Lo r).1 hr
    exact List.mem_filter.2 ⟨(all_mem Os Lo r).2 h1, decide_eq_true h2⟩
end Go.Proofs.YtohajfkekkelhaaDoor
namespace Go.Proofs.YtohajfkekkelhaaDoor
open Go.ChangeShapes Go.WideShapes Go.ChangeAt Go.RowKit
set_option linter.unusedVariables false
set_option linter.unusedSimpArgs false
/-- A row of numbers: its block holds numbers. -/
structure IntRow (w : World) (a : Option Addr) (r : List Int) : Prop where
  arg : IntsArg w a r.length r
  blk : ∀ p, a = some p → ∃ cs fr, w.heap[p.block]? = some (.cells cs 3 fr)
theorem IntRow.kept {w w' : World} {a : Option Addr} {r : List Int} (h : IntRow w a r) (hs : w.heap.size ≤ w'.heap.size) (hk : ∀ (b : Nat) (cs : Array Value) (fr : Nat × Nat), w.heap[b]? = some (Obj.cells cs 3 fr) → w'.heap[b]? = w.heap[b]?) : IntRow w' a r := by
  refine ⟨⟨rfl, fun hm => ?_⟩, fun p hp => ?_⟩
  · obtain ⟨b, off, e, hl, hc⟩ := h.arg.lies hm
    obtain ⟨cs, fr, hb⟩ := h.blk _ e
    exact ⟨b, off, e, Nat.lt_of_lt_of_le hl hs, fun k x hx => (World.cell?_of_block (a := ⟨b, off + k, none⟩) (hk b cs fr hb)).trans (hc k x hx)⟩
  · obtain ⟨cs, fr, hb⟩ := h.blk p hp
    exact ⟨cs, fr, (hk _ cs fr hb).trans hb⟩
theorem IntRow.below {w w' : World} {a : Option Addr} {r : List Int} (h : IntRow w a r) (hb : Below w.heap.size w w') : IntRow w' a r :=
  h.kept hb.size fun b cs fr e => hb.block b (lt_of e)
theorem own_down {w w' : World} {B n size : Nat} {e : TypeId} {v : Value} {xs : List Value} (h : w.ownsRow B e size v n xs) (hb : Below w.heap.size w w') : w'.ownsRow B e size v n xs :=
  h.kept (row := none) ⟨hb.os, hb.tape, hb.output, hb.size, fun k hk _ => hb.block k hk⟩ (by cases e : v.ownBlock <;> simp)
theorem grown_low {w w' : World} {B n size : Nat} {e : TypeId} {v : Value} {xs : List Value} (h : w.ownsRow B e size v n xs) (hB : B ≤ w.heap.size) (hg : w.grownBy w' v.ownBlock) : Below B w w' :=
  ⟨hg.os, hg.tape, hg.output, hg.size, fun k hk => hg.block k (by omega) (fun e => by have := (h.lt k e.symm).1; omega)⟩
theorem row_of_own {w : World} {B n : Nat} {v : Value} {r : List Int} (h : w.ownsRow B 3 1 v n (r.map (Value.int .i64))) : ∃ a c, v = .slice a n c ∧ r.length = n ∧ (a = none → c = 0) ∧ IntRow w a r := by
  have hl : r.length = n := by have := h.1; simpa using this
  subst hl
  rcases h.2 with ⟨rfl, h0⟩ | ⟨g, cap, cur, rfl, hb, hc, _⟩
  · refine ⟨none, 0, by rw [h0], rfl, fun _ => rfl, ⟨⟨rfl, fun hm => by omega⟩, fun p hp => by cases hp⟩⟩
  · refine ⟨_, cap, rfl, rfl, (fun e => by cases e), ⟨⟨rfl, fun hm => ⟨g, 0, rfl, lt_of hc, fun k x hx => ?_⟩⟩, fun p hp => ?_⟩⟩
    · have := h.cells (g := g) rfl k (.int .i64 x) (by rw [List.getElem?_map, hx]; rfl)
      rwa [Addr.add_mid] at this
    · obtain rfl := Option.some.inj hp
      exact ⟨cur, _, hc⟩
/-- A row of rows of numbers of the run's own. -/
def OutR (w : World) (B : Nat) (v : Value) (A : List (List Int)) : Prop := ∃ xs, w.ownsRow B 26 1 v A.length xs ∧ (∀ u, u ∈ xs → u.oneCell' = true) ∧ ∀ (k : Nat) (r : List Int), A[k]? = some r → ∃ ra c, xs[k]? = some (.slice ra r.length c) ∧ IntRow w ra r
theorem OutR.nil (w : World) (B : Nat) : OutR w B (.slice none 0 0) [] := ⟨[], World.ownsRow_nil _ _ _ _, (fun u h => by cases h), fun k r h => by simp at h⟩
theorem OutR.down {w w' : World} {B : Nat} {v : Value} {A : List (List Int)} (h : OutR w B v A) (hb : Below w.heap.size w w') : OutR w' B v A := by
  obtain ⟨xs, h1, h2, h3⟩ := h
  refine ⟨xs, own_down h1 hb, h2, fun k r hk => ?_⟩
  obtain ⟨ra, c, e, hr⟩ := h3 k r hk
  exact ⟨ra, c, e, hr.below hb⟩
theorem outR_join {w w' : World} {B : Nat} {v v' : Value} {A A5 : List (List Int)} {xs xs5 : List Value} (h : w.ownsRow B 26 1 v A.length xs) (h3 : ∀ (k : Nat) (r : List Int), A[k]? = some r → ∃ ra c, xs[k]? = some (.slice ra r.length c) ∧ IntRow w ra r) (h2 : ∀ u, u ∈ xs → u.oneCell' = true)
    (k2 : ∀ u, u ∈ xs5 → u.oneCell' = true) (k3 : ∀ (k : Nat) (r : List Int), A5[k]? = some r → ∃ ra c, xs5[k]? = some (.slice ra r.length c) ∧ IntRow w ra r)
    (hn : w'.ownsRow B 26 1 v' (A.length + A5.length) (xs ++ xs5)) (hg : w.grownBy w' v.ownBlock) : OutR w' B v' (A ++ A5) := by
  have hk : ∀ ra r, IntRow w ra r → IntRow w' ra r := fun ra r hr => hr.kept hg.size fun b cs fr e => hg.block b (lt_of e) (fun e2 => by
    rcases h.2 with ⟨rfl, _⟩ | ⟨g, cap, cur, rfl, _, hh, _⟩
    · simp [Value.ownBlock] at e2
    · have : b = g := by simpa [Value.ownBlock] using e2
      subst this
      rw [e] at hh
      have hh2 := Option.some.inj hh
      injection hh2 with _ ht
      cases ht)
  refine ⟨xs ++ xs5, by rw [List.length_append]; exact hn, fun u hu => ?_, fun k r hkr => ?_⟩
  · rcases List.mem_append.1 hu with hu | hu
    · exact h2 u hu
    · exact k2 u hu
  · have hxl : xs.length = A.length := by have := h.1; omega
    by_cases hlt : k < A.length
    · rw [List.getElem?_append_left hlt] at hkr
      obtain ⟨ra, c, e, hr⟩ := h3 k r hkr
      exact ⟨ra, c, by rw [List.getElem?_append_left (by omega)]; exact e, hk _ _ hr⟩
    · rw [List.getElem?_append_right (by omega)] at hkr
      obtain ⟨ra, c, e, hr⟩ := k3 _ r hkr
      exact ⟨ra, c, by rw [List.getElem?_append_right (by omega), hxl]; exact e, hk _ _ hr⟩
theorem OutR.rows {w : World} {B : Nat} {v : Value} {A : List (List Int)} (h : OutR w B v A) : ∃ a c, v = .slice a A.length c ∧ (a = none → A.length = 0 ∧ c = 0) ∧ IntRows w a A.length A := by
  obtain ⟨xs, h1, _, h3⟩ := h
  rcases h1.2 with ⟨rfl, h0⟩ | ⟨g, cap, cur, rfl, hb, hc, _⟩
  · exact ⟨none, 0, by rw [h0], fun _ => ⟨h0, rfl⟩, ⟨rfl, fun hm => by omega⟩⟩
  · refine ⟨_, cap, rfl, (fun e => by cases e), ⟨rfl, fun hm => ⟨g, 0, rfl, lt_of hc, fun k r hk => ?_⟩⟩⟩
    obtain ⟨ra, c, e, hr⟩ := h3 k r hk
    have := h1.cells (g := g) rfl k _ e
    rw [Addr.add_mid] at this
    exact ⟨ra, c, this, hr.arg⟩
/-- What stands in the answer when the first q calls were tried. -/
def outP (Os : List ObjX) (Lo : List OpX) (m : Nat) (t : List Nat) (q : Nat) : List (List Nat) := (if (checkP Os Lo (toI t)).2 = 0 then [t] else []) ++ (List.range q).flatMap fun i => if i ∈ t then [] else ordersP Os Lo m (t ++ [i])
theorem outP_next (Os : List ObjX) (Lo : List OpX) (m : Nat) (t : List Nat) (q : Nat) : outP Os Lo m t (q + 1) = outP Os Lo m t q ++ (if q ∈ t then [] else ordersP Os Lo m (t ++ [q])) := by
  unfold outP
  rw [List.range_succ, List.flatMap_append, List.append_assoc]
  simp
theorem orders_out (Os : List ObjX) (Lo : List OpX) (m : Nat) (t : List Nat) (h : badP Os Lo t = false) : ordersP Os Lo (m + 1) t = outP Os Lo m t Lo.length := by
  rw [ordersP, if_neg (by rw [h]; simp)]
  rfl
def bndP : Nat → Nat
  | 0 => 0
  | m + 1 => 1 + 5 * bndP m
theorem bnd_le : ∀ (m : Nat), m ≤ 6 → bndP m ≤ 3906
  | 0, _ => by decide
  | 1, _ => by decide
  | 2, _ => by decide
  | 3, _ => by decide
  | 4, _ => by decide
  | 5, _ => by decide
  | 6, _ => by decide
  | m + 7, h => by omega
theorem out_len {Os : List ObjX} {Lo : List OpX} {m : Nat} {t : List Nat} (ih : ∀ t, (ordersP Os Lo m t).length ≤ bndP m) : ∀ q, (outP Os Lo m t q).length ≤ 1 + q * bndP m
  | 0 => by
    unfold outP
    split <;> simp
  | q + 1 => by
    rw [outP_next, List.length_append]
    have h1 := out_len (t := t) ih q
    have h2 : (if q ∈ t then [] else ordersP Os Lo m (t ++ [q])).length ≤ bndP m := by
      split
      · exact Nat.zero_le _
      · exact ih _
    rw [Nat.add_mul, Nat.one_mul]
    omega
theorem orders_len {Os : List ObjX} {Lo : List OpX} (hl : Lo.length ≤ 5) : ∀ (m : Nat) (t : List Nat), (ordersP Os Lo m t).length ≤ bndP m
  | 0, _ => Nat.zero_le _
  | m + 1, t => by
    cases h : badP Os Lo t with
    | true => rw [ordersP, if_pos h]; exact Nat.zero_le _
    | false =>
      rw [orders_out Os Lo m t h]
      have h1 := out_len (Os := Os) (t := t) (fun t => orders_len hl m t) Lo.length
      have h2 : Lo.length * bndP m ≤ 5 * bndP m := Nat.mul_le_mul_right _ hl
      show _ ≤ 1 + 5 * bndP m
      omega
theorem only_all (w : World) (a : Option Addr) (n c : Nat) (L : List OpX) (h : OpsArg w a n L) (hn : n ≤ 1000) (hc : a = none → c = 0) (a2 : Option Addr) (m c2 : Nat) (O : List Int) (h2 : IntsArg w a2 m O) (hm : m ≤ 1000) :
    Calls Tryd.prog 22 #[.slice a n c, .slice a2 m c2] w fun e w' => ∃ A cap, e = .returned (.slice A n cap) ∧ OpsArg w' A n (onlyL L O) ∧ Below w.heap.size w w' := by
  by_cases hp : 0 < n
  · refine (only_any w a n c L h hp hn a2 m c2 O h2 hm).mono ?_
    rintro e w' ⟨g, cap, h1, h2, h3⟩
    exact ⟨_, cap, h1, h2, h3⟩
  · obtain rfl : n = 0 := by omega
    refine (only_zero w a c hc a2 m c2).mono ?_
    rintro e w' ⟨A, cap, h1, _, h3, h4⟩
    refine ⟨A, cap, h1, ?_, h4⟩
    have e : onlyL L O = [] := by unfold onlyL; rw [h.len]; rfl
    rw [e]
    exact h3
theorem int_zero : (Tryd.prog.info? 3).map (fun i => (i.zero, i.size, i.bytes)) = some (some (.int .i64 0), 1, 8) := by kernel_rfl
theorem slice_zero : (Tryd.prog.info? 26).map (fun i => (i.zero, i.size, i.bytes)) = some (some (.slice none 0 0), 1, 24) := by kernel_rfl
theorem toI_put (t : List Nat) (q : Nat) : toI (t ++ [q]) = toI t ++ [(q : Int)] := by unfold toI; rw [List.map_append]; rfl
theorem ints_one (r : List Int) : ∀ u, u ∈ r.map (Value.int .i64) → u.oneCell' = true := by
  intro u hu
  obtain ⟨x, _, rfl⟩ := List.mem_map.1 hu
  rfl
theorem row_cells {w : World} {a : Option Addr} {r : List Int} (h : IntRow w a r) : ∀ ad, a = some ad → ∀ j u, (r.map (Value.int .i64))[j]? = some u → w.cell? (ad.add j) = some u := by
  intro ad had j u hu
  rw [List.getElem?_map] at hu
  obtain ⟨x, hx, rfl⟩ := Option.map_eq_some_iff.1 hu
  have hj := (List.getElem?_eq_some_iff.1 hx).1
  obtain ⟨b, off, e, _, hc⟩ := h.arg.lies (by omega)
  rw [had] at e
  obtain rfl := Option.some.inj e
  rw [Addr.add_mid]
  exact hc j x hx
set_option maxRecDepth 100000 in
set_option maxHeartbeats 16000000 in
theorem rorders_any (Os : List ObjX) (Lo : List OpX) (n0 oc n lc : Nat) (oa la : Option Addr) (l0 : n0 ≤ 1000) (l1 : n ≤ 5) (hlc : la = none → lc = 0) (hlen : Lo.length = n) : ∀ (m : Nat) (w : World) (a : Option Addr) (c : Nat) (t : List Nat), ObjsArg w oa n0 Os → OpsArg w la n Lo → IntRow w a (toI t) → (a = none → c = 0) → InO n t → n < m + t.length → m ≤ 6 →
    Calls Tryd.prog 9 #[.slice oa n0 oc, .slice la n lc, .slice a t.length c] w fun e w' => Below w.heap.size w w' ∧ ∃ v, e = .returned v ∧ OutR w' w.heap.size v ((ordersP Os Lo m t).map toI)
  | 0, w, a, c, t, _, _, _, _, hin, hm, _ => absurd (in_len hin) (by omega)
  | m + 1, w, a, c, t, h0, h1, h2, hac, hin, hm, hm6 => by
    have HREC := Lib.hid (fun w' a' c' t' k0 k1 k2 k3 k4 k5 => rorders_any Os Lo n0 oc n lc oa la l0 l1 hlc hlen m w' a' c' t' k0 k1 k2 k3 k4 k5 (by omega))
    have HH := Lib.hid (And.intro h0 (And.intro h1 h2))
    have HA := Lib.hid h2
    have HIO := Lib.hid hin
    have hin' : InO Lo.length t := by rw [hlen]; exact hin
    have HLE := Lib.hid hlen
    have HM := Lib.hid hm
    have htl : t.length ≤ 5 := Nat.le_trans (in_len hin) l1
    have HON := Lib.hid (only_all w la n lc Lo h1 (by omega) hlc a t.length c (toI t) (by have := h2.arg; rwa [toI_len] at this) (by omega))
    have HOB := Lib.hid (orders_out Os Lo m t)
    have HOBD := Lib.hid (fun (hb : badP Os Lo t = true) => show ordersP Os Lo (m + 1) t = [] by rw [ordersP, if_pos hb])
    have HCO := Lib.hid (check_only Os hin')
    have HBD := Lib.hid (show badP Os Lo t = (decide ((checkP Os (onlyL Lo (toI t)) (toI t)).2 = 2) && decide ((checkP Os (onlyL Lo (toI t)) (toI t)).1 < (t.length : Int)) || decide ((checkP Os (onlyL Lo (toI t)) (toI t)).2 = 15)) from rfl)
    have hkinds := checkG_kinds Lo t [] (startP Os)
    rw [← HCO.out] at hkinds
    have HOUT := Lib.hid (fun q => show (outP Os Lo m t q).length ≤ 1 + q * bndP m from out_len (fun t => orders_len (by omega) m t) q)
    have HORL := Lib.hid (fun t => show (ordersP Os Lo m t).length ≤ bndP m from orders_len (by omega) m t)
    have HBM := Lib.hid (bnd_le m (by omega))
    have HTLN := Lib.hid (toI_len t)
    have HPUT := Lib.hid (show t = [] → True from fun _ => trivial)
    have HO00 := Lib.hid (show outP Os Lo m t 0 = if (checkP Os Lo (toI t)).2 = 0 then [t] else [] by unfold outP; simp)
    have HCK := Lib.hid (fun W b => rcheck_any W oa n0 oc Os (h0.below b) l0)
    have HCK1 := Lib.hid (fun (W : World) (b : Below w.heap.size w W) => rcheck_any W oa n0 oc Os (h0.below b) l0 la n lc Lo (h1.below b) (by omega) a t.length c (toI t) (by have := (h2.below b).arg; rwa [toI_len] at this) (by omega))
    have HAR := Lib.hid (fun (W : World) (b : Below w.heap.size w W) => show IntsArg W a t.length (toI t) by have := (h2.below b).arg; rwa [toI_len] at this)
    obtain ⟨ii, hii, hiz0, hiz1, hiz2⟩ := info_parts int_zero
    obtain ⟨is, his, hsz0, hsz1, hsz2⟩ := info_parts slice_zero
    have HAC := Lib.hid hac
    clear h0 h1 h2 hin hin' hm hac HCO
    obtain ⟨tl, htle⟩ : ∃ tl, t.length = tl := ⟨_, rfl⟩
    rw [htle] at htl HON HBD HM HTLN HAR HCK1 hkinds ⊢
    have HTL := HTLN
    have HTE := Lib.hid htle
    have HK5 := Lib.hid htl
    have HAN := Lib.hid (show a = none → tl = 0 ∧ c = 0 from fun e => ⟨by
      by_cases h : 0 < tl
      · obtain ⟨b, off, e2, _⟩ := HA.out.arg.lies (by rw [HTL.out]; exact h)
        rw [e] at e2; cases e2
      · omega, HAC.out e⟩)
    clear htle
    go_enter Tryd.func9, Tryd.ntmps9
    go_wp2_with fail
    refine HON.out.mono ?_
    rintro e1 w1 ⟨A1, cap1, rfl, ho1, b1⟩
    have HO1 := Lib.hid ho1
    have HB1 := Lib.hid b1
    clear ho1 b1
    go_wp2_with fail
    refine (HCK.out w1 HB1.out A1 n cap1 _ HO1.out (by omega) a tl c (toI t) (HAR.out w1 HB1.out) (by omega)).mono ?_
    rintro e2 w2 ⟨rfl, b2⟩
    have HB2 := Lib.hid (HB1.out.trans (b2.mono HB1.out.size))
    clear b2
    generalize checkP Os (onlyL Lo (toI t)) (toI t) = G at *
    rcases hkinds with rfl | ⟨kk, hkk, rfl | rfl⟩
    case inr.inl =>
      have HF := Lib.hid (HOBD.out (by rw [HBD.out]; simp))
      go_wp2_with fail
      go_ret
      exact ⟨HB2.out, _, rfl, by rw [HF.out]; exact OutR.nil _ _⟩
    case inr.inr =>
      have hk2 : kk < tl := by simpa using hkk
      have d1 : decide (kk < tl) = true := decide_eq_true hk2
      have d2 : decide ((kk : Int) < (tl : Int)) = true := decide_eq_true (by omega)
      have HF := Lib.hid (HOBD.out (by rw [HBD.out, d2]; rfl))
      clear hk2 hkk
      go_wp2_with fail
      go_ret
      exact ⟨HB2.out, _, rfl, by rw [HF.out]; exact OutR.nil _ _⟩
    case inl =>
      have HORD := Lib.hid (HOB.out (by rw [HBD.out]; rfl))
      rw [HLE.out] at HORD
      clear HOB HOBD HBD
      go_wp2_with fail
      refine (HCK1.out w2 HB2.out).mono ?_
      rintro e3 w3 ⟨rfl, b3⟩
      have HB3 := Lib.hid (HB2.out.trans (b3.mono HB2.out.size))
      clear b3
      cases hz : ((checkP Os Lo (toI t)).2 == 0) with
      | true =>
        rw [if_pos (beq_iff_eq.1 hz)] at HO00
        generalize checkP Os Lo (toI t) = Z at *
        have HA3 := Lib.hid (show IntRow (w3.alloc (.cells #[.slice a tl c] 26)) a (toI t) from (HA.out.below HB3.out).below ((Below.refl _ w3).alloc (Nat.le_refl _) _))
        have HC3 := Lib.hid (show (w3.alloc (.cells #[.slice a tl c] 26)).cell? ⟨w3.heap.size, 0, none⟩ = some (.slice a tl c) from cell_of (heap_new w3 _) 0)
        have HS3 := Lib.hid (show w.heap.size ≤ (w3.alloc (.cells #[.slice a tl c] 26)).heap.size by rw [World.size_alloc]; have := HB3.out.size; omega)
        have HB3a := Lib.hid (HB3.out.alloc HB3.out.size (.cells #[.slice a tl c] 26))
        go_wp2_with (
           at_builtin
           refine wpList_app_any rfl (.tmp 45) (.tmp 47) 29 rfl w.heap.size 26 is _ 1 24 Tryd.underlying29 his hsz0 hsz1 hsz2 rfl (by decide) (.slice none 0 0) 0 [] rfl (World.ownsRow_nil _ _ _ _) (some ⟨w3.heap.size, 0, none⟩) 1 1 [.slice a tl c] rfl (fun h => absurd h (by simp)) rfl (fun ad had j u hu => by
              obtain rfl := Option.some.inj had
              rcases j with _ | j
              · rw [Addr.add_mid]
                have hu2 : Value.slice a tl c = u := by simpa using hu
                rw [← hu2]
                exact HC3.out
              · simp at hu) (fun u hu => by rw [List.mem_singleton] at hu; rw [hu]; rfl) (by unfold maxLen; omega) (by omega) HS3.out ?_
           intro v4 w4 how4 hgr4
           have hB4 := grown_low (World.ownsRow_nil _ w.heap.size 26 1) HS3.out hgr4
           have HB0 := Lib.hid (HB3a.out.trans hB4)
           have HO0 := Lib.hid (show OutR w4 w.heap.size v4 ((outP Os Lo m t 0).map toI) by
             rw [HO00.out]
             exact outR_join (A := []) (A5 := [toI t]) (xs := []) (xs5 := [.slice a tl c]) (World.ownsRow_nil _ _ _ _) (fun k r h => by simp at h) (fun u h => by cases h) (fun u hu => by rw [List.mem_singleton] at hu; rw [hu]; rfl) (fun k r h => by
               rcases k with _ | k
               · have e : toI t = r := by simpa using h
                 rw [← e]
                 exact ⟨a, c, by rw [HTL.out]; rfl, HA3.out⟩
               · simp at h) how4 hgr4)
           clear how4 hgr4 hB4)
        obtain ⟨N0, sa0, sc0, rfl⟩ : ∃ N sa sc, v4 = .slice sa N sc := by
          obtain ⟨xs, h1, _⟩ := HO0.out
          exact ⟨_, own_slice h1⟩
        go_loopw [7, 12] (fun v7 v12 wr => ∃ (q : Nat) (v : Value), q ≤ n ∧ v12 = .int .i64 (q : Int) ∧ v7 = v ∧ OutR wr w.heap.size v ((outP Os Lo m t q).map toI) ∧ Below w.heap.size w wr) (fun _ v12 _ => n - (intOf v12).toNat)
        case atStart => exact ⟨0, _, Nat.zero_le _, rfl, rfl, HO0.out, HB0.out⟩
        case round =>
          clear HO0 HB0
          obtain ⟨q, v, hq, rfl, rfl, hout, hB⟩ := hrel
          obtain ⟨A7, hA7⟩ : ∃ A7, (outP Os Lo m t q).map toI = A7 := ⟨_, rfl⟩
          rw [hA7] at hout
          have HA7 := Lib.hid hA7
          have HL7 := Lib.hid (show A7.length ≤ 1 + q * bndP m by rw [← hA7, List.length_map]; exact HOUT.out q)
          have HO := Lib.hid hout
          have HB := Lib.hid hB
          clear hout hB hA7
          by_cases hlt : q < n
          · have e1 : decide (q < n) = true := decide_eq_true hlt
            have e1' : decide ((q : Int) < (n : Int)) = true := decide_eq_true (by omega)
            have HQ := Lib.hid hlt
            obtain ⟨xs, hx1, hx2, hx3⟩ := HO.out
            obtain ⟨sa, sc, rfl⟩ := own_slice hx1
            have HX := Lib.hid (And.intro hx1 (And.intro hx2 hx3))
            clear hx1 hx2 hx3
            go_wp2_with fail
            go_loopw [13, 14] (fun v13 v14 wq => ∃ k : Nat, k ≤ tl ∧ v14 = .int .i64 (k : Int) ∧ v13 = .bool (hasI ((toI t).take k) q) ∧ Keeps (fun _ => False) wr wq) (fun _ v14 _ => tl - (intOf v14).toNat)
            case atStart => exact ⟨0, Nat.zero_le _, rfl, rfl, Keeps.refl _ _⟩
            case round =>
              rename World => W
              obtain ⟨k, hk, rfl, rfl, hKq⟩ := hrel
              have HKQ := Lib.hid hKq
              have HBW := Lib.hid (HB.out.trans (hKq.none.mono HB.out.size))
              clear hKq
              by_cases hkl : k < tl
              · obtain ⟨b2, off2, rfl, hb2, hc2⟩ := HA.out.arg.lies (by rw [HTL.out]; omega)
                obtain ⟨x, hx⟩ : ∃ x, (toI t)[k]? = some x := ⟨_, List.getElem?_eq_getElem (by rw [HTL.out]; exact hkl)⟩
                have c0 : W.cell? ⟨b2, off2 + k, none⟩ = some (.int .i64 x) := (HBW.out.cell (p := ⟨b2, off2 + k, none⟩) hb2).trans (hc2 k x hx)
                have HT := Lib.hid (has_step hx q)
                have f1 : decide (k < tl) = true := decide_eq_true hkl
                have f1' : decide ((k : Int) < (tl : Int)) = true := decide_eq_true (by omega)
                have f3 : (0 : Int) ≤ (k : Int) := by omega
                have f4 : (k : Int) < (tl : Int) := by omega
                clear hc2 hx hb2
                cases his : hasI ((toI t).take k) q with
                | true =>
                  go_wp2_with fail
                  go_roundw
                  case rel => exact ⟨k + 1, by omega, by go_num, by rw [HT.out, his]; rfl, kN HKQ.out (by first | exact Keeps.refl _ _ | exact (Keeps.refl _ _).drewN _ | exact (Keeps.refl _ _).drew _)⟩
                  case measure => simp [intOf]; omega
                | false =>
                  cases hxq : (x == (q : Int)) with
                  | true =>
                    go_wp2_with fail
                    go_roundw
                    case rel => exact ⟨k + 1, by omega, by go_num, by rw [HT.out, his, hxq]; rfl, kN HKQ.out (by first | exact Keeps.refl _ _ | exact (Keeps.refl _ _).drewN _ | exact (Keeps.refl _ _).drew _)⟩
                    case measure => simp [intOf]; omega
                  | false =>
                    go_wp2_with fail
                    go_roundw
                    case rel => exact ⟨k + 1, by omega, by go_num, by rw [HT.out, his, hxq]; rfl, kN HKQ.out (by first | exact Keeps.refl _ _ | exact (Keeps.refl _ _).drewN _ | exact (Keeps.refl _ _).drew _)⟩
                    case measure => simp [intOf]; omega
              · obtain rfl : k = tl := by omega
                have f1 : decide (k < k) = false := decide_eq_false (Nat.lt_irrefl _)
                have htk : hasI ((toI t).take k) q = decide (q ∈ t) := by rw [List.take_of_length_le (by rw [HTL.out]; exact Nat.le_refl _), hasI_toI]
                rw [htk]
                have HNX := Lib.hid (outP_next Os Lo m t q)
                clear hkl htk
                by_cases hit : q ∈ t
                · rw [decide_eq_true hit]
                  rw [if_pos hit, List.append_nil] at HNX
                  go_wp2_with fail
                  go_roundw
                  case rel => exact ⟨q + 1, _, by have := HQ.out; omega, by go_num, rfl, by rw [HNX.out, HA7.out]; exact HO.out.down HKQ.out.none, HBW.out⟩
                  case measure => simp [intOf]; have := HQ.out; omega
                · rw [decide_eq_false hit]
                  rw [if_neg hit] at HNX
                  have HIT := Lib.hid hit
                  clear hit
                  have HAW := Lib.hid (show IntRow W a (toI t) from HA.out.below (HBW.out))
                  have HSW := Lib.hid HBW.out.size
                  have HIN := Lib.hid (show W.heap.size ≤ (W.alloc (.cells #[] 3)).heap.size by simp)
                  have HA1 := Lib.hid (show IntRow (W.alloc (.cells #[] 3)) a (toI t) from HAW.out.below ((Below.refl _ W).alloc (Nat.le_refl _) _))
                  have HE0 := Lib.hid (show (W.alloc (.cells #[] 3)).ownsRow W.heap.size 3 1 (.slice (some ⟨W.heap.size, 0, none⟩) 0 0) 0 [] from W.ownsRow_made #[] 0 (Nat.le_refl _) (by unfold maxLen; omega) rfl)
                  have HBA := Lib.hid (show Below W.heap.size W (W.alloc (.cells #[] 3)) from (Below.refl _ W).alloc (Nat.le_refl _) _)
                  go_wp2_with (first
                    | (at_builtin; refine wpList_app_any rfl (.tmp 75) (.tmp 76) 26 rfl W.heap.size 3 ii _ 1 8 Tryd.underlying26 hii hiz0 hiz1 hiz2 rfl (by decide) (.slice (some ⟨W.heap.size, 0, none⟩) 0 0) 0 [] rfl HE0.out a k c ((toI t).map (Value.int .i64)) rfl HAN.out (by rw [List.length_map, HTL.out]; omega) (row_cells HA1.out) (ints_one _) (by unfold maxLen; have := HK5.out; omega) (by have := HK5.out; omega) HIN.out ?_; intro v2 w2 how2 hgr2
                       rw [Nat.zero_add, List.nil_append] at how2
                       have hB2 := grown_low HE0.out HIN.out hgr2
                       have H2 := Lib.hid (And.intro how2 (And.intro (HBA.out.trans hB2) hgr2.size))
                       obtain ⟨sa2, sc2, rfl⟩ := own_slice how2
                       have HL2 := Lib.hid (show W.heap.size ≤ w2.heap.size from Nat.le_trans HIN.out hgr2.size)
                       have H3 := Lib.hid (own_down how2 ((Below.refl _ w2).alloc (Nat.le_refl _) (.cells #[.int .i64 (q : Int)] 3)))
                       have HC3 := Lib.hid (show (w2.alloc (.cells #[.int .i64 (q : Int)] 3)).cell? ⟨w2.heap.size, 0, none⟩ = some (.int .i64 (q : Int)) from cell_of (heap_new w2 _) 0)
                       have HS3 := Lib.hid (show W.heap.size ≤ (w2.alloc (.cells #[.int .i64 (q : Int)] 3)).heap.size by rw [World.size_alloc]; have := HL2.out; omega)
                       clear how2 hgr2 hB2)
                    | (at_builtin; refine wpList_app_any rfl (.tmp 77) (.tmp 79) 26 rfl W.heap.size 3 ii _ 1 8 Tryd.underlying26 hii hiz0 hiz1 hiz2 rfl (by decide) (.slice sa2 k sc2) k ((toI t).map (Value.int .i64)) rfl H3.out (some ⟨w2.heap.size, 0, none⟩) 1 1 [.int .i64 (q : Int)] rfl (fun h => absurd h (by simp)) rfl (fun ad had j u hu => by
                          obtain rfl := Option.some.inj had
                          rcases j with _ | j
                          · rw [Addr.add_mid]
                            have hu2 : Value.int .i64 (q : Int) = u := by simpa using hu
                            rw [← hu2]
                            exact HC3.out
                          · simp at hu) (fun u hu => by rw [List.mem_singleton] at hu; rw [hu]; rfl) (by unfold maxLen; have := HK5.out; omega) (by have := HK5.out; omega) HS3.out ?_; intro v4 w4 how4 hgr4
                       have hB4 := grown_low H3.out HS3.out hgr4
                       have HB4 := Lib.hid (show Below W.heap.size W w4 from (H2.out.2.1.trans ((Below.refl _ w2).alloc HL2.out _)).trans hB4)
                       have H4 := Lib.hid how4
                       clear how4 hgr4 hB4))
                  have HWW := Lib.hid (HBW.out.trans (HB4.out.mono HBW.out.size))
                  obtain ⟨a4, c4, rfl, hl4, hac4, hr4⟩ := row_of_own (r := toI (t ++ [q])) (by rw [toI_put, List.map_append]; exact H4.out)
                  have hrec := HREC.out w4 a4 c4 (t ++ [q]) (HH.out.1.below HWW.out) (HH.out.2.1.below HWW.out) hr4 hac4 (in_put HIO.out HQ.out HIT.out) (by rw [List.length_append, HTE.out]; have := HM.out; simp; omega)
                  rw [show (t ++ [q]).length = k + 1 by rw [List.length_append, HTE.out]; rfl] at hrec
                  obtain ⟨A5, hA5⟩ : ∃ A5, (ordersP Os Lo m (t ++ [q])).map toI = A5 := ⟨_, rfl⟩
                  rw [hA5] at hrec
                  have HL5 := Lib.hid (show A5.length ≤ 3906 by rw [← hA5, List.length_map]; exact Nat.le_trans (HORL.out _) HBM.out)
                  have HL8 := Lib.hid (show A7.length ≤ 19531 by have h1 := HL7.out; have h2 := Nat.mul_le_mul (show q ≤ 5 by have := HQ.out; omega) HBM.out; omega)
                  have HA5 := Lib.hid hA5
                  clear hl4 hac4 hr4 hA5
                  refine hrec.mono ?_
                  rintro e5 w5 ⟨b5, v5, rfl, xs5, k1, k2, k3⟩
                  obtain ⟨sa5, sc5, rfl⟩ := own_slice k1
                  have HB5 := Lib.hid (show Below W.heap.size W w5 from HB4.out.trans (b5.mono HB4.out.size))
                  have HBR := Lib.hid (show Below wr.heap.size wr w5 from HKQ.out.none.trans (HB5.out.mono HKQ.out.none.size))
                  have HX7 := Lib.hid (show w5.ownsRow w.heap.size 26 1 (.slice sa A7.length sc) A7.length xs from own_down HX.out.1 HBR.out)
                  have HK := Lib.hid (And.intro k1 (And.intro k2 k3))
                  have HN5 := Lib.hid (show sa5 = none → A5.length = 0 ∧ sc5 = 0 from fun e => by
                    rcases k1.2 with ⟨h, h0⟩ | ⟨g, cap, cur, h, _⟩
                    · injection h with _ _ h2
                      exact ⟨h0, h2⟩
                    · injection h with h1 _ _
                      rw [e] at h1; cases h1)
                  have HC5 := Lib.hid (show ∀ ad, sa5 = some ad → ∀ j u, xs5[j]? = some u → w5.cell? (ad.add j) = some u from fun ad e j u hu => by
                    rcases k1.2 with ⟨h, h0⟩ | ⟨g, cap, cur, h, _⟩
                    · injection h with h1 _ _
                      rw [e] at h1; cases h1
                    · injection h with h1 h2 h3
                      rw [e] at h1
                      obtain rfl := Option.some.inj h1
                      exact k1.cells (g := g) (by rw [e]; rfl) j u hu)
                  have HS5 := Lib.hid (show w.heap.size ≤ w5.heap.size from Nat.le_trans HBW.out.size HB5.out.size)
                  clear k1 k2 k3 b5 hrec
                  go_wp2_with (
                    at_builtin
                    refine wpList_app_any rfl (.tmp 72) (.tmp 81) 29 rfl w.heap.size 26 is _ 1 24 Tryd.underlying29 his hsz0 hsz1 hsz2 rfl (by decide) (.slice sa A7.length sc) A7.length xs rfl HX7.out sa5 A5.length sc5 xs5 rfl HN5.out (by have := HK.out.1.1; omega) HC5.out HK.out.2.1 (by unfold maxLen; have := HL5.out; have := HL8.out; omega) (by have := HL5.out; have := HL8.out; omega) HS5.out ?_
                    intro v6 w6 how6 hgr6
                    have hB6 := grown_low HX7.out HS5.out hgr6
                    have HB6 := Lib.hid ((HBW.out.trans (HB5.out.mono HBW.out.size)).trans hB6)
                    have HO6 := Lib.hid (show OutR w6 w.heap.size v6 ((outP Os Lo m t (q + 1)).map toI) by
                      rw [HNX.out, List.map_append, HA7.out, HA5.out]
                      exact outR_join HX7.out (fun k r hk => by
                        obtain ⟨ra, c, e, hr⟩ := HX.out.2.2 k r hk
                        exact ⟨ra, c, e, hr.below HBR.out⟩) HX.out.2.1 HK.out.2.1 HK.out.2.2 how6 hgr6)
                    have hs6 := own_slice how6
                    clear how6 hgr6 hB6)
                  obtain ⟨sa6, sc6, rfl⟩ := hs6
                  go_wp2_with fail
                  go_roundw
                  case rel => first | exact ⟨q + 1, _, by have := HQ.out; omega, by go_num, rfl, HO6.out, HB6.out⟩ | ((repeat (refine Exists.intro _ ?_)); exact ⟨⟨q + 1, _, by have := HQ.out; omega, by go_num, rfl, HO6.out, HB6.out⟩, rfl⟩) | trace_state
                  case measure => simp [intOf]; have := HQ.out; omega
          · obtain rfl : q = n := by omega
            have e1 : decide (q < q) = false := decide_eq_false (Nat.lt_irrefl _)
            clear hlt
            go_wp2_with fail
            go_ret
            exact ⟨HB.out, _, rfl, by rw [HORD.out, HA7.out]; exact HO.out⟩
      | false =>
        rw [if_neg (beq_eq_false_iff_ne.1 hz)] at HO00
        generalize checkP Os Lo (toI t) = Z at *
        have HB0 := HB3
        have HO0 := Lib.hid (show OutR w3 w.heap.size (.slice none 0 0) ((outP Os Lo m t 0).map toI) by rw [HO00.out]; exact OutR.nil _ _)
        go_wp2_with fail
        go_loopw [7, 12] (fun v7 v12 wr => ∃ (q : Nat) (v : Value), q ≤ n ∧ v12 = .int .i64 (q : Int) ∧ v7 = v ∧ OutR wr w.heap.size v ((outP Os Lo m t q).map toI) ∧ Below w.heap.size w wr) (fun _ v12 _ => n - (intOf v12).toNat)
        case atStart => exact ⟨0, _, Nat.zero_le _, rfl, rfl, HO0.out, HB0.out⟩
        case round =>
          clear HO0 HB0
          obtain ⟨q, v, hq, rfl, rfl, hout, hB⟩ := hrel
          obtain ⟨A7, hA7⟩ : ∃ A7, (outP Os Lo m t q).map toI = A7 := ⟨_, rfl⟩
          rw [hA7] at hout
          have HA7 := Lib.hid hA7
          have HL7 := Lib.hid (show A7.length ≤ 1 + q * bndP m by rw [← hA7, List.length_map]; exact HOUT.out q)
          have HO := Lib.hid hout
          have HB := Lib.hid hB
          clear hout hB hA7
          by_cases hlt : q < n
          · have e1 : decide (q < n) = true := decide_eq_true hlt
            have e1' : decide ((q : Int) < (n : Int)) = true := decide_eq_true (by omega)
            have HQ := Lib.hid hlt
            obtain ⟨xs, hx1, hx2, hx3⟩ := HO.out
            obtain ⟨sa, sc, rfl⟩ := own_slice hx1
            have HX := Lib.hid (And.intro hx1 (And.intro hx2 hx3))
            clear hx1 hx2 hx3
            go_wp2_with fail
            go_loopw [13, 14] (fun v13 v14 wq => ∃ k : Nat, k ≤ tl ∧ v14 = .int .i64 (k : Int) ∧ v13 = .bool (hasI ((toI t).take k) q) ∧ Keeps (fun _ => False) wr wq) (fun _ v14 _ => tl - (intOf v14).toNat)
            case atStart => exact ⟨0, Nat.zero_le _, rfl, rfl, Keeps.refl _ _⟩
            case round =>
              rename World => W
              obtain ⟨k, hk, rfl, rfl, hKq⟩ := hrel
              have HKQ := Lib.hid hKq
              have HBW := Lib.hid (HB.out.trans (hKq.none.mono HB.out.size))
              clear hKq
              by_cases hkl : k < tl
              · obtain ⟨b2, off2, rfl, hb2, hc2⟩ := HA.out.arg.lies (by rw [HTL.out]; omega)
                obtain ⟨x, hx⟩ : ∃ x, (toI t)[k]? = some x := ⟨_, List.getElem?_eq_getElem (by rw [HTL.out]; exact hkl)⟩
                have c0 : W.cell? ⟨b2, off2 + k, none⟩ = some (.int .i64 x) := (HBW.out.cell (p := ⟨b2, off2 + k, none⟩) hb2).trans (hc2 k x hx)
                have HT := Lib.hid (has_step hx q)
                have f1 : decide (k < tl) = true := decide_eq_true hkl
                have f1' : decide ((k : Int) < (tl : Int)) = true := decide_eq_true (by omega)
                have f3 : (0 : Int) ≤ (k : Int) := by omega
                have f4 : (k : Int) < (tl : Int) := by omega
                clear hc2 hx hb2
                cases his : hasI ((toI t).take k) q with
                | true =>
                  go_wp2_with fail
                  go_roundw
                  case rel => exact ⟨k + 1, by omega, by go_num, by rw [HT.out, his]; rfl, kN HKQ.out (by first | exact Keeps.refl _ _ | exact (Keeps.refl _ _).drewN _ | exact (Keeps.refl _ _).drew _)⟩
                  case measure => simp [intOf]; omega
                | false =>
                  cases hxq : (x == (q : Int)) with
                  | true =>
                    go_wp2_with fail
                    go_roundw
                    case rel => exact ⟨k + 1, by omega, by go_num, by rw [HT.out, his, hxq]; rfl, kN HKQ.out (by first | exact Keeps.refl _ _ | exact (Keeps.refl _ _).drewN _ | exact (Keeps.refl _ _).drew _)⟩
                    case measure => simp [intOf]; omega
                  | false =>
                    go_wp2_with fail
                    go_roundw
                    case rel => exact ⟨k + 1, by omega, by go_num, by rw [HT.out, his, hxq]; rfl, kN HKQ.out (by first | exact Keeps.refl _ _ | exact (Keeps.refl _ _).drewN _ | exact (Keeps.refl _ _).drew _)⟩
                    case measure => simp [intOf]; omega
              · obtain rfl : k = tl := by omega
                have f1 : decide (k < k) = false := decide_eq_false (Nat.lt_irrefl _)
                have htk : hasI ((toI t).take k) q = decide (q ∈ t) := by rw [List.take_of_length_le (by rw [HTL.out]; exact Nat.le_refl _), hasI_toI]
                rw [htk]
                have HNX := Lib.hid (outP_next Os Lo m t q)
                clear hkl htk
                by_cases hit : q ∈ t
                · rw [decide_eq_true hit]
                  rw [if_pos hit, List.append_nil] at HNX
                  go_wp2_with fail
                  go_roundw
                  case rel => exact ⟨q + 1, _, by have := HQ.out; omega, by go_num, rfl, by rw [HNX.out, HA7.out]; exact HO.out.down HKQ.out.none, HBW.out⟩
                  case measure => simp [intOf]; have := HQ.out; omega
                · rw [decide_eq_false hit]
                  rw [if_neg hit] at HNX
                  have HIT := Lib.hid hit
                  clear hit
                  have HAW := Lib.hid (show IntRow W a (toI t) from HA.out.below (HBW.out))
                  have HSW := Lib.hid HBW.out.size
                  have HIN := Lib.hid (show W.heap.size ≤ (W.alloc (.cells #[] 3)).heap.size by simp)
                  have HA1 := Lib.hid (show IntRow (W.alloc (.cells #[] 3)) a (toI t) from HAW.out.below ((Below.refl _ W).alloc (Nat.le_refl _) _))
                  have HE0 := Lib.hid (show (W.alloc (.cells #[] 3)).ownsRow W.heap.size 3 1 (.slice (some ⟨W.heap.size, 0, none⟩) 0 0) 0 [] from W.ownsRow_made #[] 0 (Nat.le_refl _) (by unfold maxLen; omega) rfl)
                  have HBA := Lib.hid (show Below W.heap.size W (W.alloc (.cells #[] 3)) from (Below.refl _ W).alloc (Nat.le_refl _) _)
                  go_wp2_with (first
                    | (at_builtin; refine wpList_app_any rfl (.tmp 75) (.tmp 76) 26 rfl W.heap.size 3 ii _ 1 8 Tryd.underlying26 hii hiz0 hiz1 hiz2 rfl (by decide) (.slice (some ⟨W.heap.size, 0, none⟩) 0 0) 0 [] rfl HE0.out a k c ((toI t).map (Value.int .i64)) rfl HAN.out (by rw [List.length_map, HTL.out]; omega) (row_cells HA1.out) (ints_one _) (by unfold maxLen; have := HK5.out; omega) (by have := HK5.out; omega) HIN.out ?_; intro v2 w2 how2 hgr2
                       rw [Nat.zero_add, List.nil_append] at how2
                       have hB2 := grown_low HE0.out HIN.out hgr2
                       have H2 := Lib.hid (And.intro how2 (And.intro (HBA.out.trans hB2) hgr2.size))
                       obtain ⟨sa2, sc2, rfl⟩ := own_slice how2
                       have HL2 := Lib.hid (show W.heap.size ≤ w2.heap.size from Nat.le_trans HIN.out hgr2.size)
                       have H3 := Lib.hid (own_down how2 ((Below.refl _ w2).alloc (Nat.le_refl _) (.cells #[.int .i64 (q : Int)] 3)))
                       have HC3 := Lib.hid (show (w2.alloc (.cells #[.int .i64 (q : Int)] 3)).cell? ⟨w2.heap.size, 0, none⟩ = some (.int .i64 (q : Int)) from cell_of (heap_new w2 _) 0)
                       have HS3 := Lib.hid (show W.heap.size ≤ (w2.alloc (.cells #[.int .i64 (q : Int)] 3)).heap.size by rw [World.size_alloc]; have := HL2.out; omega)
                       clear how2 hgr2 hB2)
                    | (at_builtin; refine wpList_app_any rfl (.tmp 77) (.tmp 79) 26 rfl W.heap.size 3 ii _ 1 8 Tryd.underlying26 hii hiz0 hiz1 hiz2 rfl (by decide) (.slice sa2 k sc2) k ((toI t).map (Value.int .i64)) rfl H3.out (some ⟨w2.heap.size, 0, none⟩) 1 1 [.int .i64 (q : Int)] rfl (fun h => absurd h (by simp)) rfl (fun ad had j u hu => by
                          obtain rfl := Option.some.inj had
                          rcases j with _ | j
                          · rw [Addr.add_mid]
                            have hu2 : Value.int .i64 (q : Int) = u := by simpa using hu
                            rw [← hu2]
                            exact HC3.out
                          · simp at hu) (fun u hu => by rw [List.mem_singleton] at hu; rw [hu]; rfl) (by unfold maxLen; have := HK5.out; omega) (by have := HK5.out; omega) HS3.out ?_; intro v4 w4 how4 hgr4
                       have hB4 := grown_low H3.out HS3.out hgr4
                       have HB4 := Lib.hid (show Below W.heap.size W w4 from (H2.out.2.1.trans ((Below.refl _ w2).alloc HL2.out _)).trans hB4)
                       have H4 := Lib.hid how4
                       clear how4 hgr4 hB4))
                  have HWW := Lib.hid (HBW.out.trans (HB4.out.mono HBW.out.size))
                  obtain ⟨a4, c4, rfl, hl4, hac4, hr4⟩ := row_of_own (r := toI (t ++ [q])) (by rw [toI_put, List.map_append]; exact H4.out)
                  have hrec := HREC.out w4 a4 c4 (t ++ [q]) (HH.out.1.below HWW.out) (HH.out.2.1.below HWW.out) hr4 hac4 (in_put HIO.out HQ.out HIT.out) (by rw [List.length_append, HTE.out]; have := HM.out; simp; omega)
                  rw [show (t ++ [q]).length = k + 1 by rw [List.length_append, HTE.out]; rfl] at hrec
                  obtain ⟨A5, hA5⟩ : ∃ A5, (ordersP Os Lo m (t ++ [q])).map toI = A5 := ⟨_, rfl⟩
                  rw [hA5] at hrec
                  have HL5 := Lib.hid (show A5.length ≤ 3906 by rw [← hA5, List.length_map]; exact Nat.le_trans (HORL.out _) HBM.out)
                  have HL8 := Lib.hid (show A7.length ≤ 19531 by have h1 := HL7.out; have h2 := Nat.mul_le_mul (show q ≤ 5 by have := HQ.out; omega) HBM.out; omega)
                  have HA5 := Lib.hid hA5
                  clear hl4 hac4 hr4 hA5
                  refine hrec.mono ?_
                  rintro e5 w5 ⟨b5, v5, rfl, xs5, k1, k2, k3⟩
                  obtain ⟨sa5, sc5, rfl⟩ := own_slice k1
                  have HB5 := Lib.hid (show Below W.heap.size W w5 from HB4.out.trans (b5.mono HB4.out.size))
                  have HBR := Lib.hid (show Below wr.heap.size wr w5 from HKQ.out.none.trans (HB5.out.mono HKQ.out.none.size))
                  have HX7 := Lib.hid (show w5.ownsRow w.heap.size 26 1 (.slice sa A7.length sc) A7.length xs from own_down HX.out.1 HBR.out)
                  have HK := Lib.hid (And.intro k1 (And.intro k2 k3))
                  have HN5 := Lib.hid (show sa5 = none → A5.length = 0 ∧ sc5 = 0 from fun e => by
                    rcases k1.2 with ⟨h, h0⟩ | ⟨g, cap, cur, h, _⟩
                    · injection h with _ _ h2
                      exact ⟨h0, h2⟩
                    · injection h with h1 _ _
                      rw [e] at h1; cases h1)
                  have HC5 := Lib.hid (show ∀ ad, sa5 = some ad → ∀ j u, xs5[j]? = some u → w5.cell? (ad.add j) = some u from fun ad e j u hu => by
                    rcases k1.2 with ⟨h, h0⟩ | ⟨g, cap, cur, h, _⟩
                    · injection h with h1 _ _
                      rw [e] at h1; cases h1
                    · injection h with h1 h2 h3
                      rw [e] at h1
                      obtain rfl := Option.some.inj h1
                      exact k1.cells (g := g) (by rw [e]; rfl) j u hu)
                  have HS5 := Lib.hid (show w.heap.size ≤ w5.heap.size from Nat.le_trans HBW.out.size HB5.out.size)
                  clear k1 k2 k3 b5 hrec
                  go_wp2_with (
                    at_builtin
                    refine wpList_app_any rfl (.tmp 72) (.tmp 81) 29 rfl w.heap.size 26 is _ 1 24 Tryd.underlying29 his hsz0 hsz1 hsz2 rfl (by decide) (.slice sa A7.length sc) A7.length xs rfl HX7.out sa5 A5.length sc5 xs5 rfl HN5.out (by have := HK.out.1.1; omega) HC5.out HK.out.2.1 (by unfold maxLen; have := HL5.out; have := HL8.out; omega) (by have := HL5.out; have := HL8.out; omega) HS5.out ?_
                    intro v6 w6 how6 hgr6
                    have hB6 := grown_low HX7.out HS5.out hgr6
                    have HB6 := Lib.hid ((HBW.out.trans (HB5.out.mono HBW.out.size)).trans hB6)
                    have HO6 := Lib.hid (show OutR w6 w.heap.size v6 ((outP Os Lo m t (q + 1)).map toI) by
                      rw [HNX.out, List.map_append, HA7.out, HA5.out]
                      exact outR_join HX7.out (fun k r hk => by
                        obtain ⟨ra, c, e, hr⟩ := HX.out.2.2 k r hk
                        exact ⟨ra, c, e, hr.below HBR.out⟩) HX.out.2.1 HK.out.2.1 HK.out.2.2 how6 hgr6)
                    have hs6 := own_slice how6
                    clear how6 hgr6 hB6)
                  obtain ⟨sa6, sc6, rfl⟩ := hs6
                  go_wp2_with fail
                  go_roundw
                  case rel => first | exact ⟨q + 1, _, by have := HQ.out; omega, by go_num, rfl, HO6.out, HB6.out⟩ | ((repeat (refine Exists.intro _ ?_)); exact ⟨⟨q + 1, _, by have := HQ.out; omega, by go_num, rfl, HO6.out, HB6.out⟩, rfl⟩) | trace_state
                  case measure => simp [intOf]; have := HQ.out; omega
          · obtain rfl : q = n := by omega
            have e1 : decide (q < q) = false := decide_eq_false (Nat.lt_irrefl _)
            clear hlt
            go_wp2_with fail
            go_ret
            exact ⟨HB.out, _, rfl, by rw [HORD.out, HA7.out]; exact HO.out⟩
end Go.Proofs.YtohajfkekkelhaaDoor
namespace Go.Proofs.YtohajfkekkelhaaDoor
open Go.ChangeShapes Go.WideShapes Go.ChangeAt Go.RowKit
set_option linter.unusedVariables false
set_option linter.unusedSimpArgs false
theorem alive_at2 {w X : World} (hal : Hid (∀ W, Below w.heap.size w W → Calls Tryd.prog 7 #[] W fun e w' => e = .returned (.bool true) ∧ Below W.heap.size W w')) (hb : Below w.heap.size w X) :
    Calls Tryd.prog 7 #[] X fun e w' => e = .returned (.bool true) ∧ Below w.heap.size w w' :=
  (hal.out X hb).mono fun e w' h => ⟨h.1, hb.trans (h.2.mono hb.size)⟩
/-- Two rows of the same numbers are told equal. -/
theorem rsame_ints {w : World} {a b : Option Addr} {n : Nat} {O : List Int} (h0 : IntsArg w a n O) (h1 : IntsArg w b n O) (hn : n ≤ maxLen) (c0 c1 : Nat) :
    Calls Tryd.prog 10 #[.slice a n c0, .slice b n c1] w fun e w' => e = .returned (.bool true) ∧ Keeps (fun _ => False) w w' := by
  by_cases hp : 0 < n
  · obtain ⟨b0, o0, rfl, _, hc0⟩ := h0.lies hp
    obtain ⟨b1, o1, rfl, _, hc1⟩ := h1.lies hp
    have hx : ∀ i, i < n → O[i]? = some ((O[i]?).getD 0) := fun i hi => by rw [List.getElem?_eq_getElem (by rw [h0.len]; exact hi)]; rfl
    exact rsame_some b0 o0 b1 o1 n c0 c1 (fun i => (O[i]?).getD 0) w hn (fun i hi => hc0 i _ (hx i hi)) (fun i hi => hc1 i _ (hx i hi))
  · obtain rfl : n = 0 := by omega
    exact rsame_zero a b c0 c1 w
set_option maxRecDepth 100000 in
set_option maxHeartbeats 4000000 in
theorem lcount_low (w : World) (oa : Option Addr) (n0 oc : Nat) (la : Option Addr) (n lc : Nat) (hn : n ≤ 9) (most : Int) (hm : most < 1) :
    Calls Tryd.prog 11 #[.slice oa n0 oc, .slice la n lc, .int .i64 most] w fun e w' => e = .returned (.int .i64 0) ∧ Below w.heap.size w w' := by
  have d1 : decide (24 < n) = false := decide_eq_false (by omega)
  have d2 : decide ((24 : Int) < (n : Int)) = false := decide_eq_false (by omega)
  have d3 : decide (most < 1) = true := decide_eq_true hm
  go_enter Tryd.func11, Tryd.ntmps11
  go_wp2_with fail
  refine bodyPost_ret (v := .int .i64 0) (by simp [results, Tryd.results11, go_sem]) rfl ?_
  exact ⟨rfl, ((Below.refl _ w).alloc (Nat.le_refl _) _).alloc (by simp) _⟩
theorem count_doc {Os : List ObjX} {Lo : List OpX} (ho : ∀ p, p ∈ Os → ObjOk p) (hok : ∀ x, x ∈ Lo → OpOk x) {m : Nat} (hm : 0 < m) : ((countP Lo (allN Lo.length) m (Lo.length + 1) 0 (startP Os) []).1 : Int) = rcountP ((allO Os Lo).map toI) (m : Int) := by
  have h := (count_told hok (all := allN Lo.length) hm (sh := shapeP (startP Os)) (Lo.length + 1) 0 (startP Os) [] (startP_ok ho) rfl (by unfold freeL; exact Nat.lt_succ_of_le (Nat.le_trans (List.length_filter_le _ _) (by simp))) (fun u k n hu => by cases hu)).2
  rw [h]
  unfold rcountP
  rw [last_num]
  omega
/-- The program's count is the document's. -/
theorem lcount_doc (w : World) (oa : Option Addr) (n0 oc : Nat) (Os : List ObjX) (h0 : ObjsArg w oa n0 Os) (l0 : n0 ≤ 1000) (la : Option Addr) (n lc : Nat) (Lo : List OpX) (h : OpsArg w la n Lo) (hn : n ≤ 9) (most : Int) (hmo : i64B most) (hT : TabAt 0 Lib.deBruijn32tab w) (hg : 0 < w.heap.size) :
    Calls Tryd.prog 11 #[.slice oa n0 oc, .slice la n lc, .int .i64 most] w fun e w' => e = .returned (.int .i64 (rcountP ((allO Os Lo).map toI) most)) ∧ Below w.heap.size w w' := by
  by_cases hm : most < 1
  · refine (lcount_low w oa n0 oc la n lc hn most hm).mono ?_
    rintro e w' ⟨rfl, hb⟩
    refine ⟨?_, hb⟩
    have : rcountP ((allO Os Lo).map toI) most = 0 := by unfold rcountP; omega
    rw [this]
  · obtain ⟨m, rfl⟩ : ∃ m : Nat, most = (m : Int) := ⟨most.toNat, by omega⟩
    refine (lcount_any w oa n0 oc Os h0 l0 la n lc Lo h hn m (by omega) (by have := hmo.2; omega) hT hg).mono ?_
    rintro e w' ⟨rfl, hb⟩
    refine ⟨?_, hb⟩
    rw [count_doc h0.ok h.ok (by omega)]
theorem light21_any (w : World) (oa : Option Addr) (n0 oc : Nat) (la : Option Addr) (n lc : Nat) (h0 : n0 ≤ 9223372036854775807) (h1 : n ≤ 9223372036854775807) :
    Calls Tryd.prog 6 #[.slice oa n0 oc, .slice la n lc] w fun e w' => e = .returned (.bool (decide (n0 ≤ 6) && decide (n ≤ 5))) ∧ Below w.heap.size w w' := by
  by_cases d : n0 ≤ 6
  · have e1 : decide (n0 ≤ 6) = true := decide_eq_true d
    have e2 : decide ((n0 : Int) ≤ 6) = true := decide_eq_true (by omega)
    rw [e1]
    by_cases d' : n ≤ 5
    · have e3 : decide (n ≤ 5) = true := decide_eq_true d'
      have e4 : decide ((n : Int) ≤ 5) = true := decide_eq_true (by omega)
      rw [e3]
      go_enter Tryd.func6, Tryd.ntmps6
      go_wp2_with fail
      go_ret
      exact ⟨rfl, Below.refl _ _⟩
    · have e3 : decide (n ≤ 5) = false := decide_eq_false d'
      have e4 : decide ((n : Int) ≤ 5) = false := decide_eq_false (by omega)
      rw [e3]
      go_enter Tryd.func6, Tryd.ntmps6
      go_wp2_with fail
      go_ret
      exact ⟨rfl, Below.refl _ _⟩
  · have e1 : decide (n0 ≤ 6) = false := decide_eq_false d
    have e2 : decide ((n0 : Int) ≤ 6) = false := decide_eq_false (by omega)
    rw [e1]
    go_enter Tryd.func6, Tryd.ntmps6
    go_wp2_with fail
    go_ret
    exact ⟨rfl, Below.refl _ _⟩
set_option maxRecDepth 100000 in
set_option maxHeartbeats 4000000 in
theorem linf_a (w : World) (oa : Option Addr) (n0 oc : Nat) (la : Option Addr) (n lc : Nat) (most : Int) (l0 : n0 ≤ 9223372036854775807) (l1 : n ≤ 9223372036854775807) (h : 6 < n0 ∨ 5 < n) (hT : TabAt 0 Lib.deBruijn32tab w) (hg : 0 < w.heap.size) :
    Calls Tryd.prog 3 #[.slice oa n0 oc, .slice la n lc, .int .i64 most] w fun e w' => e = .returned (.bool true) ∧ Below w.heap.size w w' := by
  have HAL := Lib.hid (fun W (hb : Below w.heap.size w W) => alive21_any W (tabAt_below hT hb hg) (Nat.lt_of_lt_of_le hg hb.size))
  have hli := light21_any w oa n0 oc la n lc l0 l1
  rw [show (decide (n0 ≤ 6) && decide (n ≤ 5)) = false by
    rcases h with h | h
    · rw [decide_eq_false (show ¬ n0 ≤ 6 by omega)]; rfl
    · rw [decide_eq_false (show ¬ n ≤ 5 by omega), Bool.and_false]] at hli
  have HLI := Lib.hid hli
  clear hT hg h hli
  go_enter Tryd.func3, Tryd.ntmps3
  go_wp2_with fail
  refine HLI.out.mono ?_
  rintro e1 w1 ⟨rfl, b1⟩
  have HB1 := Lib.hid b1
  clear b1
  go_wp2_with fail
  refine (alive_at2 HAL (HB1.out)).mono ?_
  rintro ea wa ⟨rfl, ba⟩
  have HBA := Lib.hid ba
  clear ba
  go_wp2_with fail
  go_ret
  exact ⟨rfl, HBA.out⟩
set_option maxRecDepth 100000 in
set_option maxHeartbeats 8000000 in
theorem linf_b (w : World) (oa : Option Addr) (n0 oc : Nat) (la : Option Addr) (n lc : Nat) (most : Int) (hmo : i64B most) (Os : List ObjX) (h0 : ObjsArg w oa n0 Os) (l0 : n0 ≤ 6) (Lo : List OpX) (h : OpsArg w la n Lo) (l1 : n ≤ 5) (hlc : la = none → lc = 0) (hT : TabAt 0 Lib.deBruijn32tab w) (hg : 0 < w.heap.size) :
    Calls Tryd.prog 3 #[.slice oa n0 oc, .slice la n lc, .int .i64 most] w fun e w' => e = .returned (.bool true) ∧ Below w.heap.size w w' := by
  have HAL := Lib.hid (fun W (hb : Below w.heap.size w W) => alive21_any W (tabAt_below hT hb hg) (Nat.lt_of_lt_of_le hg hb.size))
  have hli := light21_any w oa n0 oc la n lc (by omega) (by omega)
  rw [decide_eq_true l0, decide_eq_true l1] at hli
  have HLI := Lib.hid hli
  have hlo := h.len
  have HF := Lib.hid (fun W (hb : Below w.heap.size w W) => find_any W oa n0 oc Os (h0.below hb) (by omega) la n lc Lo (h.below hb) (by omega) (tabAt_below hT hb hg) (Nat.lt_of_lt_of_le hg hb.size))
  have HCT := Lib.hid (fun W (hb : Below w.heap.size w W) => lcount_doc W oa n0 oc Os (h0.below hb) (by omega) la n lc Lo (h.below hb) (by omega) most hmo (tabAt_below hT hb hg) (Nat.lt_of_lt_of_le hg hb.size))
  have HOR := Lib.hid (fun W (hb : Below w.heap.size w W) => show Calls Tryd.prog 9 #[.slice oa n0 oc, .slice la n lc, .slice none 0 0] W fun e w' => Below W.heap.size W w' ∧ ∃ v, e = .returned v ∧ OutR w' W.heap.size v ((allO Os Lo).map toI) from by
    have := rorders_any Os Lo n0 oc n lc oa la (by omega) l1 hlc hlo (n + 1) W none 0 [] (h0.below hb) (h.below hb) ⟨⟨rfl, fun h => absurd h (by simp [toI])⟩, fun p hp => by cases hp⟩ (fun _ => rfl) ⟨List.nodup_nil, (fun j hj => by cases hj)⟩ (by simp) (by omega)
    unfold allO
    rw [hlo]
    exact this)
  have HFF := Lib.hid (find_first (Os := Os) (Lo := Lo) h0.ok h.ok (by omega))
  have HRL := Lib.hid (show ∀ r, r ∈ (allO Os Lo).map toI → r.length ≤ 1000 from fun r hr => by
    obtain ⟨s, hs, rfl⟩ := List.mem_map.1 hr
    rw [toI_len]
    have := in_len (ok_in ((all_mem Os Lo s).1 hs))
    omega)
  have HAN := Lib.hid (show ((allO Os Lo).map toI).length ≤ 3906 by
    rw [List.length_map]
    exact Nat.le_trans (orders_len (Os := Os) (by omega) _ _) (bnd_le _ (by omega)))
  clear hT hg h0 h hli l0 l1 hlc hmo
  obtain ⟨AI, hAI⟩ : ∃ AI, (allO Os Lo).map toI = AI := ⟨_, rfl⟩
  rw [hAI] at HCT HOR HRL HAN
  have HAI := Lib.hid hAI
  clear hAI
  go_enter Tryd.func3, Tryd.ntmps3
  go_wp2_with fail
  refine HLI.out.mono ?_
  rintro e1 w1 ⟨rfl, b1⟩
  have HB1 := Lib.hid b1
  clear b1
  go_wp2_with fail
  refine (HF.out w1 HB1.out).mono ?_
  rintro e2 w2 ⟨b2, v, rfl, hown⟩
  obtain ⟨aa, ac, rfl, hia⟩ := own_arg hown
  have HB2 := Lib.hid (HB1.out.trans (b2.mono HB1.out.size))
  have HIA := Lib.hid hia
  clear b2 HF hown hia
  rw [HFF.out] at HIA ⊢
  go_wp2_with fail
  refine (HOR.out w2 HB2.out).mono ?_
  rintro e3 w3 ⟨b3, v3, rfl, hor⟩
  have HIA3 := Lib.hid (HIA.out.below b3)
  have HB3 := Lib.hid (HB2.out.trans (b3.mono HB2.out.size))
  clear b3 HOR HIA
  obtain ⟨sa, sc, rfl, _, hrows⟩ := hor.rows
  have HRW := Lib.hid hrows
  have HRC := Lib.hid (fun W (hb : Below w3.heap.size w3 W) => rcount_any W sa _ sc _ (hrows.below hb) (by have := HAN.out; omega) HRL.out most)
  clear hor hrows
  generalize hrc : rcountP AI most = rc at HCT HRC
  have q0 : (rc == rc) = true := beq_iff_eq.2 rfl
  clear hrc
  cases hA : allO Os Lo with
  | nil =>
    have HR0 := Lib.hid (show AI = [] by rw [← HAI.out, hA]; rfl)
    rw [hA] at HIA3
    obtain rfl := HR0.out
    have HB5 := HB3
    have HC5 := Lib.hid (Below.refl w3.heap.size w3)
    go_wp2_with fail
    refine (HCT.out w3 HB5.out).mono ?_
    rintro e6 w6 ⟨rfl, b6⟩
    have HB6 := Lib.hid (HB5.out.trans (b6.mono HB5.out.size))
    have HC6 := Lib.hid (HC5.out.trans (b6.mono HC5.out.size))
    clear b6
    go_wp2_with fail
    refine (HRC.out w6 HC6.out).mono ?_
    rintro e7 w7 ⟨rfl, b7⟩
    have HB7 := Lib.hid (HB6.out.trans (b7.mono HB6.out.size))
    clear b7
    go_wp2_with fail
    refine (alive_at2 HAL HB7.out).mono ?_
    rintro ea wa ⟨rfl, ba⟩
    have HBA := Lib.hid ba
    clear ba
    go_wp2_with fail
    go_ret
    exact ⟨rfl, HBA.out⟩
  | cons r0 rest =>
    have HR0 := Lib.hid (show AI[0]? = some (toI r0) by rw [← HAI.out, hA]; rfl)
    have hlt : 0 < AI.length := (List.getElem?_eq_some_iff.1 HR0.out).1
    rw [hA] at HIA3
    have HIB := Lib.hid (show IntsArg w3 aa r0.length (toI r0) from HIA3.out)
    obtain ⟨gb, goff, rfl, hgb, hgc⟩ := HRW.out.lies hlt
    obtain ⟨ra, rac, hrc, hra⟩ := hgc 0 _ HR0.out
    rw [toI_len] at hrc hra
    have c0 : w3.cell? ⟨gb, goff, none⟩ = some (.slice ra r0.length rac) := hrc
    have HSM := Lib.hid (rsame_ints HIB.out hra (by
      have h1 := HRL.out (toI r0) (List.mem_of_getElem? HR0.out)
      rw [toI_len] at h1
      unfold maxLen; omega) ac rac)
    have d0 : decide (0 < AI.length) = true := decide_eq_true hlt
    have d1 : decide ((0 : Int) < (AI.length : Int)) = true := decide_eq_true (by omega)
    have d2 : (0 : Int) < (AI.length : Int) := by omega
    have HLT := Lib.hid hlt
    clear hrc hra hgc hgb HIA3 HIB hlt
    go_wp2_with fail
    refine HSM.out.mono ?_
    rintro e5 w5 ⟨rfl, k5⟩
    have HB5 := Lib.hid (HB3.out.trans (k5.none.mono HB3.out.size))
    have HC5 := Lib.hid k5.none
    clear k5
    go_wp2_with fail
    refine (HCT.out w5 HB5.out).mono ?_
    rintro e6 w6 ⟨rfl, b6⟩
    have HB6 := Lib.hid (HB5.out.trans (b6.mono HB5.out.size))
    have HC6 := Lib.hid (HC5.out.trans (b6.mono HC5.out.size))
    clear b6
    go_wp2_with fail
    refine (HRC.out w6 HC6.out).mono ?_
    rintro e7 w7 ⟨rfl, b7⟩
    have HB7 := Lib.hid (HB6.out.trans (b7.mono HB6.out.size))
    clear b7
    go_wp2_with fail
    refine (alive_at2 HAL HB7.out).mono ?_
    rintro ea wa ⟨rfl, ba⟩
    have HBA := Lib.hid ba
    clear ba
    go_wp2_with fail
    go_ret
    exact ⟨rfl, HBA.out⟩
set_option maxRecDepth 100000 in
theorem none_cap {w : World} {t e : TypeId} {a : Option Addr} {n c : Nat} (h : Reads Tryd.prog w t [.slice a n c]) (ht : Tryd.prog.underlying t = some (.slice e)) : a = none → c = 0 := by
  obtain ⟨H, enc, fuel, x, hf⟩ := h
  rcases Deep.open_slice ht hf with ⟨h, _⟩ | ⟨a', len, cap, m, n', D, Pl, h, _⟩
  · intro _
    have := List.cons.inj h
    have h2 := this.1
    injection h2
  · intro e
    have h2 := (List.cons.inj h).1
    injection h2 with h3 _ _
    rw [e] at h3; cases h3
def linFindsLaid : List (String × DataW Unit) := tabLaid
set_option maxRecDepth 100000 in
set_option maxHeartbeats 4000000 in
theorem linFinds_walk {H : Type} {enc : TypeId × Value → H} (W : World) (base : Nat) {v0 v1 v2 : Value} {d0 d1 d2 : DataW H} {p0 p1 p2 : List MemPlace}
    (k0 : Value.okWide Tryd.prog W .any base 22 v0) (h0 : DataW.Trod enc Tryd.prog W 0 (fun _ => true) true 22 v0 d0 p0)
    (k1 : Value.okWide Tryd.prog W .any base 23 v1) (h1 : DataW.Trod enc Tryd.prog W 0 (fun _ => true) true 23 v1 d1 p1)
    (k2 : Value.okWide Tryd.prog W .any base 3 v2) (h2 : DataW.Trod enc Tryd.prog W 0 (fun _ => true) true 3 v2 d2 p2)
    (hL : laidMetH Tryd.prog linFindsLaid W) :
    Calls Tryd.prog 3 #[v0, v1, v2] W fun e w' => e = .returned (.bool true) ∧ Below W.heap.size W w' := by
  obtain ⟨hT, hg⟩ := tab_of hL
  obtain ⟨a0, n0, c0, Os, hcs, _, harg0⟩ := objs_open (reads_of h0)
  obtain ⟨b0, m0, q0, rfl⟩ := okWide_slice Tryd.underlying22 k0
  simp [Value.cells] at hcs
  obtain ⟨rfl, rfl, rfl⟩ := hcs
  have hr1 := reads_of h1
  obtain ⟨a1, n1, c1, Lo, hcs, hm1, harg1⟩ := hist_open hr1
  obtain ⟨b1, m1, q1, rfl⟩ := okWide_slice Tryd.underlying23 k1
  simp [Value.cells] at hcs
  obtain ⟨rfl, rfl, rfl⟩ := hcs
  have hnc := none_cap (by simpa [Value.cells] using hr1) Tryd.underlying23
  obtain ⟨z, rfl⟩ := okWide_int Tryd.underlying3 k2
  obtain ⟨z', hz, hzw⟩ := (reads_of h2).int Tryd.underlying3
  simp [Value.cells] at hz
  subst hz
  have hzb : i64B z := by
    unfold i64B
    simpa [Lit.wf, IntKind.min, IntKind.max, IntKind.signed, IntKind.bits] using hzw
  have hs0 : m0 ≤ maxLen := by assumption
  unfold maxLen at hs0 hm1
  by_cases e : 6 < m0 ∨ 5 < m1
  · exact linf_a W b0 m0 q0 b1 m1 q1 z (by omega) (by omega) e hT hg
  · exact linf_b W b0 m0 q0 b1 m1 q1 z hzb Os harg0 (by omega) Lo harg1 (by omega) hnc hT hg
end Go.Proofs.YtohajfkekkelhaaDoor
