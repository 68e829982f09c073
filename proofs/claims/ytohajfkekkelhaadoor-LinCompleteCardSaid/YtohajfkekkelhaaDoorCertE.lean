import Derived.Test.YtohajfkekkelhaaDoorCertD
import Derived.Test.YtohajfkekkelhaaDoorGhost
namespace Go.Proofs.YtohajfkekkelhaaDoor
open Go.ChangeShapes Go.WideShapes Go.ChangeAt Go.RowKit
set_option linter.unusedVariables false
set_option linter.unusedSimpArgs false
/-- An order checked: t is done (told backwards). -/
def checkG (Lo : List OpX) : List Nat → List Nat → List ItemD → Int × Int
  | _, [], _ => (0, 0)
  | t, i :: r, s => if lateP Lo (lastG Lo t) i = true then ((t.length : Int), 15) else if (followP s (getX Lo i)).2 = true then checkG Lo (i :: t) r (followP s (getX Lo i)).1 else ((t.length : Int), 2)
def checkP (Os : List ObjX) (Lo : List OpX) (O : List Int) : Int × Int :=
  if wholeP Lo O = true then checkG Lo [] (O.map Int.toNat) (startP Os) else (0, 1)
theorem seen_in (n : Nat) : ∀ (O : List Int) (s : Nat → Bool) (s' : Nat → Bool), seenG n O s = some s' → ∀ x, x ∈ O → 0 ≤ x ∧ x < (n : Int)
  | [], _, _, _, x, hx => by cases hx
  | y :: t, s, s', h, x, hx => by
    unfold seenG at h
    by_cases hb : y < 0 ∨ (n : Int) ≤ y ∨ s y.toNat = true
    · rw [if_pos hb] at h; cases h
    · rw [if_neg hb] at h
      rcases List.mem_cons.1 hx with rfl | hx
      · constructor
        · exact Int.not_lt.1 fun h => hb (.inl h)
        · exact Int.not_le.1 fun h => hb (.inr (.inl h))
      · exact seen_in n t _ s' h x hx
theorem whole_in {Lo : List OpX} {O : List Int} (h : wholeP Lo O = true) : ∀ x, x ∈ O → 0 ≤ x ∧ x < (Lo.length : Int) := by
  unfold wholeP at h
  cases hs : seenG Lo.length O (fun _ => false) with
  | none => rw [hs] at h; cases h
  | some s => exact seen_in _ _ _ _ hs
/-- A box with one number is no part of a state. -/
theorem StateAt.put {w w' : World} {g P : Nat} {L : List ItemD} {z : Int} {T : TypeId} (h : StateAt w g L) (hP : w.heap[P]? = some (.cells #[.int .i64 z] T (0, 0))) (hk : Keeps (fun j => j = P) w w') : StateAt w' g L := by
  refine ⟨Nat.lt_of_lt_of_le h.lt hk.size, fun k x hx => ?_⟩
  obtain ⟨a, c, h1, h2, h3, h4, h5⟩ := h.at' k x hx
  have hg : g ≠ P := by
    rintro rfl
    have := h1 1 _ rfl
    rw [cell_of hP] at this
    simp at this
  refine ⟨a, c, fun j u hu => ?_, h2, h3, h4, fun hn => ?_⟩
  · rw [World.cell?_of_block (a := ⟨g, k * 15 + j, Option.none⟩) (hk.block g h.lt hg)]
    exact h1 j u hu
  · obtain ⟨b, off, e, hl, hr⟩ := h5 hn
    have hb : b ≠ P := by
      rintro rfl
      have := hr 0 _ (List.getElem?_eq_getElem hn) 1 _ rfl
      rw [cell_of hP] at this
      simp at this
    refine ⟨b, off, e, Nat.lt_of_lt_of_le hl hk.size, fun q v hv j u hu => ?_⟩
    rw [World.cell?_of_block (a := ⟨b, off + q * 4 + j, Option.none⟩) (hk.block b hl hb)]
    exact hr q v hv j u hu
theorem lateness_any (w : World) (a : Option Addr) (n c : Nat) : Calls Tryd.prog 27 #[.slice a n c] w fun e w' => ∃ P Q, e = .returned (.func (.func 43) #[] #[.pointer (some ⟨P, 0, none⟩), .pointer (some ⟨Q, 0, none⟩)]) ∧ w.heap.size ≤ P ∧ w.heap.size ≤ Q ∧ P ≠ Q ∧
    w'.heap[P]? = some (.cells #[.int .i64 (-1)] 3 (0, 0)) ∧ w'.heap[Q]? = some (.cells #[.slice a n c] 23 (0, 0)) ∧ Keeps (fun _ => False) w w' := by
  have HB := Lib.hid ((((Has.start w).alloc (.cells #[.slice a n c] 23)).alloc (.cells #[.int .i64 (-1)] 3)).eq (M := [(w.heap.size + 1, .cells #[.int .i64 (-1)] 3 (0, 0)), (w.heap.size, .cells #[.slice a n c] 23 (0, 0))]) (by simp))
  go_enter Tryd.func27, Tryd.ntmps27
  go_wp2_with fail
  go_ret
  exact ⟨w.heap.size + 1, w.heap.size, rfl, by omega, by omega, by omega, HB.out.at 0 rfl, HB.out.at 1 rfl, HB.out.keeps⟩
theorem op_info17 : (Tryd.prog.info? 47).map (·.size) = some 17 := op_info
set_option maxRecDepth 100000 in
set_option maxHeartbeats 16000000 in
theorem check_any (w : World) (oa : Option Addr) (n0 oc : Nat) (Os : List ObjX) (h0 : ObjsArg w oa n0 Os) (l0 : n0 ≤ 1000) (la : Option Addr) (n1 lc : Nat) (Lo : List OpX) (h1 : OpsArg w la n1 Lo) (l1 : n1 ≤ 1000) (qa : Option Addr) (n2 qc : Nat) (O : List Int) (h2 : IntsArg w qa n2 O) (l2 : n2 ≤ 1000) :
    Calls Tryd.prog 13 #[.slice oa n0 oc, .slice la n1 lc, .slice qa n2 qc] w fun e w' => e = .returned (.tuple #[.int .i64 (checkP Os Lo O).1, .int .i64 (checkP Os Lo O).2]) ∧ Below w.heap.size w w' := by
  have HW := Lib.hid (whole_any w la n1 lc Lo h1 l1 qa n2 qc O h2 l2)
  have HH := Lib.hid (And.intro h0 (And.intro h1 h2))
  have HF := Lib.hid (show checkP Os Lo O = if wholeP Lo O = true then checkG Lo [] (O.map Int.toNat) (startP Os) else (0, 1) from rfl)
  have HI := Lib.hid (fun h => whole_in (Lo := Lo) (O := O) h)
  have HL := Lib.hid (And.intro h0.len (And.intro h1.len h2.len))
  have HSO := Lib.hid (startP_ok h0.ok)
  clear h0 h1 h2
  cases hw : wholeP Lo O with
  | false =>
    rw [hw] at HW
    rw [hw, if_neg (by simp)] at HF
    clear hw HI
    go_enter Tryd.func13, Tryd.ntmps13
    go_wp2_with fail
    try (refine wp_scope_again 0 (fun _ _ => False) (fun _ _ => 0) rfl (fun _ _ h => h.elim) ?_; intro _; go_wp2_with fail)
    try go_step3
    try go_wp2_with fail
    refine HW.out.mono ?_
    rintro e1 w1 ⟨rfl, b1⟩
    go_wp2_with fail
    try rw [Exit.noGoto_ret]
    try simp only [Exit.jump]
    refine bodyPost_ret (v := .tuple #[.int .i64 0, .int .i64 1]) (by simp [results, Tryd.results13, go_sem]) rfl ⟨by rw [HF.out], b1⟩
  | true =>
    rw [hw] at HW HI
    rw [hw, if_pos rfl] at HF
    clear hw
    have HI2 := Lib.hid (HI.out rfl)
    generalize checkP Os Lo O = R at *
    go_enter Tryd.func13, Tryd.ntmps13
    go_wp2_with fail
    refine wp_scope_ghost 0 (fun m a' w' => ∃ (P Q g cap : Nat) (z : Int) (t r : List Nat) (L : List ItemD) (u11 u12 u13 u14 u15 u16 u17 u18 u19 u20 u21 u22 u23 u24 u25 u26 u27 u28 u29 u30 u31 u32 u33 u34 u35 u36 u37 u38 u39 u40 u41 u42 u43 u44 u45 u46 u47 u48 u49 u50 u51 : Value), a' = { tmps := #[.slice oa n0 oc, .slice la n1 lc, .slice qa n2 qc, undef, undef, undef, .int .i64 0, .int .i64 0, .func (.func 43) #[] #[.pointer (some ⟨P, 0, none⟩), .pointer (some ⟨Q, 0, none⟩)], .slice (some ⟨g, 0, none⟩) n0 cap, .int .i64 z, u11, u12, u13, u14, u15, u16, u17, u18, u19, u20, u21, u22, u23, u24, u25, u26, u27, u28, u29, u30, u31, u32, u33, u34, u35, u36, u37, u38, u39, u40, u41, u42, u43, u44, u45, u46, u47, u48, u49, u50, u51], defers := [] } ∧ z = (t.length : Int) ∧ r.length = m ∧ O.map Int.toNat = t.reverse ++ r ∧ (∀ q, q ∈ t → q < n1) ∧ R = checkG Lo t r L ∧ w.heap.size ≤ P ∧ w.heap.size ≤ Q ∧ P ≠ Q ∧
      w'.heap[P]? = some (.cells #[.int .i64 (lastG Lo t)] 3 (0, 0)) ∧ w'.heap[Q]? = some (.cells #[.slice la n1 lc] 23 (0, 0)) ∧ StateAt w' g L ∧ (∀ y, y ∈ L → y.Ok) ∧ L.length = n0 ∧ Below w.heap.size w w') rfl ?_ ?_
    · rintro m a' w' ⟨P, Q, g, cap, z, t, r, L, u11, u12, u13, u14, u15, u16, u17, u18, u19, u20, u21, u22, u23, u24, u25, u26, u27, u28, u29, u30, u31, u32, u33, u34, u35, u36, u37, u38, u39, u40, u41, u42, u43, u44, u45, u46, u47, u48, u49, u50, u51, rfl, rfl, hm, hsplit, ht, hR, hP0, hQ0, hPQ, hP, hQ, hst, hok, hlen, hB⟩
      have HT := Lib.hid (And.intro hsplit (And.intro ht hR))
      have HS := Lib.hid (And.intro hP (And.intro hQ (And.intro hst (And.intro hok (And.intro hlen hB)))))
      have htm : t.length + m = n2 := by
        have := congrArg List.length hsplit
        simp at this
        rw [← HL.out.2.2]
        omega
      clear hsplit ht hR hP hQ hst hok hlen
      cases r with
      | nil =>
        have hm0 : m = 0 := by simpa using hm.symm
        subst hm0
        obtain ⟨k, hk⟩ : ∃ k, t.length = k := ⟨_, rfl⟩
        rw [hk] at htm ⊢
        have hkn : k = n2 := by omega
        subst hkn
        clear hk
        go_wp2_with fail
        try rw [Exit.noGoto_ret]
        try simp only [Exit.jump]
        refine bodyPost_ret (v := .tuple #[.int .i64 0, .int .i64 0]) (by simp [results, Tryd.results13, go_sem]) rfl ⟨by rw [HT.out.2.2]; rfl, HS.out.2.2.2.2.2⟩
      | cons i r =>
        have hki : (O.map Int.toNat)[t.length]? = some i := by rw [HT.out.1, List.getElem?_append_right (by simp)]; simp
        rw [List.getElem?_map] at hki
        obtain ⟨y, hy, hyi⟩ := Option.map_eq_some_iff.1 hki
        have hyb := HI2.out y (List.mem_of_getElem? hy)
        have hl1 := HL.out.2.1
        obtain rfl : y = (i : Int) := by omega
        have hin : i < n1 := by omega
        obtain ⟨k, hk⟩ : ∃ k, t.length = k := ⟨_, rfl⟩
        rw [hk] at htm hy ⊢
        have HK := Lib.hid hk
        have hkn : k < n2 := by have : (i :: r).length = r.length + 1 := rfl; omega
        obtain ⟨qb, qoff, rfl, hqb, hqc⟩ := HH.out.2.2.lies (by omega)
        obtain ⟨lb, loff, rfl, hlb, hlc⟩ := HH.out.2.1.lies (by omega)
        obtain ⟨x, hx⟩ : ∃ x, Lo[i]? = some x := ⟨_, List.getElem?_eq_getElem (by omega)⟩
        have gx : getX Lo i = x := by unfold getX; rw [hx]; rfl
        have hB := HS.out.2.2.2.2.2
        have cq : w'.cell? ⟨qb, qoff + k, none⟩ = some (.int .i64 (i : Int)) := (hB.cell (p := ⟨qb, qoff + k, none⟩) hqb).trans (hqc k _ hy)
        have hqs : qb < w'.heap.size := Nat.lt_of_lt_of_le hqb hB.size
        have HRA := Lib.hid (range_below (hlc i x hx) hB hlb)
        have HRB := Lib.hid (range_new w' x)
        have HA1 := Lib.hid (show Below w'.heap.size w' (w'.alloc (.cells #[.int .i64 (x 0), .int .i64 (x 1), .int .i64 (x 2), .int .i64 (x 3), .int .u32 (x 4), .int .u32 (x 5), .int .u32 (x 6), .int .u32 (x 7), .int .u32 (x 8), .int .i64 (x 9), .int .u32 (x 10), .int .u32 (x 11), .int .u32 (x 12), .int .u32 (x 13), .bool (decide (x 14 = 1)), .int .i64 (x 15), .int .i64 (x 16)] 47)) from (Below.refl _ w').alloc (Nat.le_refl _) _)
        have hP1 := heap_old HS.out.1 (.cells #[.int .i64 (x 0), .int .i64 (x 1), .int .i64 (x 2), .int .i64 (x 3), .int .u32 (x 4), .int .u32 (x 5), .int .u32 (x 6), .int .u32 (x 7), .int .u32 (x 8), .int .i64 (x 9), .int .u32 (x 10), .int .u32 (x 11), .int .u32 (x 12), .int .u32 (x 13), .bool (decide (x 14 = 1)), .int .i64 (x 15), .int .i64 (x 16)] 47)
        have hQ1 := heap_old HS.out.2.1 (.cells #[.int .i64 (x 0), .int .i64 (x 1), .int .i64 (x 2), .int .i64 (x 3), .int .u32 (x 4), .int .u32 (x 5), .int .u32 (x 6), .int .u32 (x 7), .int .u32 (x 8), .int .i64 (x 9), .int .u32 (x 10), .int .u32 (x 11), .int .u32 (x 12), .int .u32 (x 13), .bool (decide (x 14 = 1)), .int .i64 (x 15), .int .i64 (x 16)] 47)
        have hPl := lt_of HS.out.1
        have hQl := lt_of HS.out.2.1
        have HLT := Lib.hid (late_any (w'.alloc (.cells #[.int .i64 (x 0), .int .i64 (x 1), .int .i64 (x 2), .int .i64 (x 3), .int .u32 (x 4), .int .u32 (x 5), .int .u32 (x 6), .int .u32 (x 7), .int .u32 (x 8), .int .i64 (x 9), .int .u32 (x 10), .int .u32 (x 11), .int .u32 (x 12), .int .u32 (x 13), .bool (decide (x 14 = 1)), .int .i64 (x 15), .int .i64 (x 16)] 47)) P Q (some ⟨lb, loff, none⟩) n1 lc Lo ((HH.out.2.1.below hB).below HA1.out) l1 (lastG Lo t) (lastG_in Lo t n1 HT.out.2.1) i hin hP1 hQ1)
        have HS1 := Lib.hid (And.intro hP1 (And.intro hQ1 (HS.out.2.2.1.below HA1.out)))
        have HX := Lib.hid (And.intro gx (HH.out.2.1.ok x (List.mem_of_getElem? hx)))
        have e0 : ((k : Int) == (n2 : Int)) = false := by rw [beq_eq_false_iff_ne]; omega
        have e0' : (k == n2) = false := by rw [beq_eq_false_iff_ne]; omega
        have e1 : decide (k < n2) = true := decide_eq_true hkn
        have e2 : decide (i < n1) = true := decide_eq_true hin
        have hR := HT.out.2.2
        rw [checkG, gx] at hR
        have HRR := Lib.hid hR
        clear hki hy hyi hyb hk hqc hlc hx gx hB hP1 hQ1 hR
        go_wp2_with (refine wpList_load_mid rfl 47 (.tmp 31) rfl lb (loff + i * 17) rfl [.int .i64 (x 0), .int .i64 (x 1), .int .i64 (x 2), .int .i64 (x 3), .int .u32 (x 4), .int .u32 (x 5), .int .u32 (x 6), .int .u32 (x 7), .int .u32 (x 8), .int .i64 (x 9), .int .u32 (x 10), .int .u32 (x 11), .int .u32 (x 12), .int .u32 (x 13), .bool (decide (x 14 = 1)), .int .i64 (x 15), .int .i64 (x 16)] _ HRA.out Tryd.underlying47 rfl op_info ?_)
        refine HLT.out.mono ?_
        rintro e3 w4 ⟨rfl, hP4, k4⟩
        have hWs : w'.heap.size < (w'.alloc (.cells #[.int .i64 (x 0), .int .i64 (x 1), .int .i64 (x 2), .int .i64 (x 3), .int .u32 (x 4), .int .u32 (x 5), .int .u32 (x 6), .int .u32 (x 7), .int .u32 (x 8), .int .i64 (x 9), .int .u32 (x 10), .int .u32 (x 11), .int .u32 (x 12), .int .u32 (x 13), .bool (decide (x 14 = 1)), .int .i64 (x 15), .int .i64 (x 16)] 47)).heap.size := by simp
        have HQ4 := Lib.hid (show w4.heap[Q]? = some (.cells #[.slice (some ⟨lb, loff, none⟩) n1 lc] 23 (0, 0)) from k4.at HS1.out.2.1 fun e => hPQ e.symm)
        have HST4 := Lib.hid (show StateAt w4 g L from HS1.out.2.2.put HS1.out.1 k4)
        have HB4 := Lib.hid (show Below w.heap.size w w4 from (HS.out.2.2.2.2.2.trans (HA1.out.mono HS.out.2.2.2.2.2.size)).trans (k4.below (by have := HS.out.2.2.2.2.2.size; omega) fun j _ e => by rw [e]; exact hP0))
        have HR4 := Lib.hid (show w4.rangeAt w'.heap.size 0 (opL x) from fun j v hv => (World.cell?_of_block (a := ⟨w'.heap.size, 0 + j, none⟩) (k4.block w'.heap.size hWs (by show ¬ w'.heap.size = P; omega))).trans (HRB.out j v hv))
        have HP4 := Lib.hid hP4
        clear hP4 k4 hWs HS1 HRB HRA cq
        generalize lateP Lo (lastG Lo t) i = q at *
        cases q with
        | true =>
          have HR5 := Lib.hid (HRR.out.trans (if_pos rfl))
          clear HRR
          go_wp2_with fail
          try rw [Exit.noGoto_ret]
          try simp only [Exit.jump]
          refine bodyPost_ret (v := .tuple #[.int .i64 (k : Int), .int .i64 15]) (by simp [results, Tryd.results13, go_sem]) rfl ⟨by rw [HR5.out, HK.out], HB4.out⟩
        | false =>
          have HR5 := Lib.hid (HRR.out.trans (if_neg (by simp)))
          have hfo := follow_any w4 g cap L HST4.out HS.out.2.2.2.1 (by rw [HS.out.2.2.2.2.1]; exact l0) x HX.out.2
          rw [HS.out.2.2.2.2.1] at hfo
          have HFO := Lib.hid hfo
          have HLN := Lib.hid ((followP_len L x).trans HS.out.2.2.2.2.1)
          have HOK := Lib.hid (followP_ok HS.out.2.2.2.1 HX.out.2)
          clear hfo HRR
          generalize followP L x = fp at *
          obtain ⟨L5, m5⟩ := fp
          go_wp2_with (refine wpList_load_mid rfl 47 (.tmp 11) rfl w'.heap.size 0 rfl [.int .i64 (x 0), .int .i64 (x 1), .int .i64 (x 2), .int .i64 (x 3), .int .u32 (x 4), .int .u32 (x 5), .int .u32 (x 6), .int .u32 (x 7), .int .u32 (x 8), .int .i64 (x 9), .int .u32 (x 10), .int .u32 (x 11), .int .u32 (x 12), .int .u32 (x 13), .bool (decide (x 14 = 1)), .int .i64 (x 15), .int .i64 (x 16)] _ HR4.out Tryd.underlying47 rfl op_info ?_)
          refine HFO.out.mono ?_
          rintro e5 w5 ⟨b5, g5, c5, rfl, hs5⟩
          have HB5 := Lib.hid (HB4.out.trans (b5.mono HB4.out.size))
          have HP5 := Lib.hid (Below.at b5 HP4.out (lt_of HP4.out))
          have HQ5 := Lib.hid (Below.at b5 HQ4.out (lt_of HQ4.out))
          have HS5 := Lib.hid hs5
          clear b5 hs5
          cases m5 with
          | false =>
            have HR6 := Lib.hid (HR5.out.trans (if_neg (by simp)))
            clear HR5
            go_wp2_with fail
            try rw [Exit.noGoto_ret]
            try simp only [Exit.jump]
            refine bodyPost_ret (v := .tuple #[.int .i64 (k : Int), .int .i64 2]) (by simp [results, Tryd.results13, go_sem]) rfl ⟨by rw [HR6.out, HK.out], HB5.out⟩
          | true =>
            have HR6 := Lib.hid (HR5.out.trans (if_pos rfl))
            clear HR5
            go_wp2_with fail
            go_step3
            refine ⟨rfl, m - 1, by have : (i :: r).length = r.length + 1 := rfl; omega, ⟨P, Q, g5, c5, _, i :: t, r, L5, _, _, _, _, _, _, _, _, _, _, _, _, _, _, _, _, _, _, _, _, _, _, _, _, _, _, _, _, _, _, _, _, _, _, _, _, _, _, _, _, _, rfl, ?_, by have : (i :: r).length = r.length + 1 := rfl; omega, by rw [HT.out.1, List.reverse_cons, List.append_assoc]; rfl, ?_, HR6.out, hP0, hQ0, hPQ, HP5.out, HQ5.out, HS5.out, HOK.out, HLN.out, HB5.out⟩⟩
            · rw [List.length_cons, HK.out]
              first | omega | go_num
            · intro q hq
              rcases List.mem_cons.1 hq with rfl | hq
              · exact hin
              · exact HT.out.2.1 q hq
    · intro hpass
      have HPS := Lib.hid hpass
      clear hpass
      go_wp2_with fail
      refine HW.out.mono ?_
      rintro e1 w1 ⟨rfl, b1⟩
      go_wp2_with fail
      refine (lateness_any _ _ _ _).mono ?_
      rintro e2 w2 ⟨P, Q, rfl, hP0, hQ0, hPQ, hP, hQ, k2⟩
      go_wp2_with fail
      refine (start_any w2 oa n0 oc Os ((HH.out.1.below b1).below k2.none) l0).mono ?_
      rintro e3 w3 ⟨b3, g3, rfl, hs3⟩
      have HZ := Lib.hid (And.intro hP0 (And.intro hQ0 (And.intro hPQ (And.intro hP (And.intro hQ (And.intro b1 (And.intro k2 (And.intro b3 hs3))))))))
      have HB12 := Lib.hid (b1.trans (k2.none.mono b1.size))
      have HB13 := Lib.hid (HB12.out.trans (b3.mono HB12.out.size))
      clear hP0 hQ0 hPQ hP hQ b1 k2 b3 hs3
      go_wp2_with fail
      go_step3
      rename_i K hK
      refine hK _ _ (HPS.out n2 _ _ ⟨P, Q, g3, n0, 0, [], O.map Int.toNat, startP Os, _, _, _, _, _, _, _, _, _, _, _, _, _, _, _, _, _, _, _, _, _, _, _, _, _, _, _, _, _, _, _, _, _, _, _, _, _, _, _, _, _, rfl, rfl, by rw [List.length_map]; exact HL.out.2.2, rfl, (fun q hq => by cases hq), HF.out, Nat.le_trans HZ.out.2.2.2.2.2.1.size HZ.out.1, Nat.le_trans HZ.out.2.2.2.2.2.1.size HZ.out.2.1, HZ.out.2.2.1, Below.at HZ.out.2.2.2.2.2.2.2.1 HZ.out.2.2.2.1 (lt_of HZ.out.2.2.2.1), Below.at HZ.out.2.2.2.2.2.2.2.1 HZ.out.2.2.2.2.1 (lt_of HZ.out.2.2.2.2.1), HZ.out.2.2.2.2.2.2.2.2, HSO.out, by unfold startP; rw [List.length_map]; exact HL.out.1, HB13.out⟩)
end Go.Proofs.YtohajfkekkelhaaDoor
