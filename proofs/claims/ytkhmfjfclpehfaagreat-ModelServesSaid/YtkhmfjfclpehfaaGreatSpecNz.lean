import Derived.Test.YtkhmfjfclpehfaaGreatSpecKz
namespace Go.Proofs.YtkhmfjfclpehfaaGreat
open Go.ChangeShapes Go.WideShapes Go.ChangeAt Go.RowKit
set_option linter.unusedVariables false
set_option linter.unusedSimpArgs false
set_option maxRecDepth 20000 in
set_option maxHeartbeats 8000000 in
theorem do_none (w : World) (g c : Nat) (L : List ItemD) (h : StateAt w g L) (ok : ∀ x, x ∈ L → x.Ok) (hn : L.length ≤ 1000) (k N : Int) (v : W4) (hv : v.Ok) (i : Nat) (x : ItemD) (hi : L[i]? = some x) (hkn : knownP (plainP k) = true) (hK : kindP x.o = 0) (hst : True) :
    Calls Tryz.prog 68 #[.slice (some ⟨g, 0, none⟩) L.length c, .agg #[.int .i64 k, .int .i64 (i : Int), .int .u32 v.a, .int .u32 v.b, .int .u32 v.c, .int .u32 v.d, .int .u32 N]] w (DoesIn w L.length (L, res0 12)) := by
  have hil := (List.getElem?_eq_some_iff.1 hi).1
  have okx := ok x (List.mem_of_getElem? hi)
  have HB0 := Lib.hid (show Below w.heap.size w ((w.alloc (.cells #[.int .i64 k, .int .i64 (i : Int), .int .u32 v.a, .int .u32 v.b, .int .u32 v.c, .int .u32 v.d, .int .u32 N] 38)).alloc (.cells #[.int .i64 0, .int .u32 0, .int .u32 0, .int .u32 0, .int .u32 0] 41)) from ((Below.refl _ w).alloc (Nat.le_refl _) _).alloc (by simp) _)
  have HS0 := Lib.hid (show Has w ((w.alloc (.cells #[.int .i64 k, .int .i64 (i : Int), .int .u32 v.a, .int .u32 v.b, .int .u32 v.c, .int .u32 v.d, .int .u32 N] 38)).alloc (.cells #[.int .i64 0, .int .u32 0, .int .u32 0, .int .u32 0, .int .u32 0] 41)) [(w.heap.size + 1, .cells #[.int .i64 0, .int .u32 0, .int .u32 0, .int .u32 0, .int .u32 0] 41 (0, 0)), (w.heap.size, .cells #[.int .i64 k, .int .i64 (i : Int), .int .u32 v.a, .int .u32 v.b, .int .u32 v.c, .int .u32 v.d, .int .u32 N] 38 (0, 0))] from (((Has.start w).alloc (.cells #[.int .i64 k, .int .i64 (i : Int), .int .u32 v.a, .int .u32 v.b, .int .u32 v.c, .int .u32 v.d, .int .u32 N] 38)).alloc (.cells #[.int .i64 0, .int .u32 0, .int .u32 0, .int .u32 0, .int .u32 0] 41)).eq (by simp))
  have HCL := Lib.hid (clone_any ((w.alloc (.cells #[.int .i64 k, .int .i64 (i : Int), .int .u32 v.a, .int .u32 v.b, .int .u32 v.c, .int .u32 v.d, .int .u32 N] 38)).alloc (.cells #[.int .i64 0, .int .u32 0, .int .u32 0, .int .u32 0, .int .u32 0] 41)) g c L (h.below HB0.out) hn)
  have HP := Lib.hid (fun w => plain_any w k)
  have HK := Lib.hid (fun w => known_any w (plainP k))
  have HOK := Lib.hid ok
  have HST := Lib.hid h
  have hgl := h.lt
  obtain ⟨n, hne⟩ : ∃ n, L.length = n := ⟨_, rfl⟩
  have HN := Lib.hid hne
  rw [hne] at HCL hn ⊢
  rw [hkn] at HK
  rw [hne] at hil
  have HI := Lib.hid hi
  have d0 : decide ((i : Int) < 0) = false := decide_eq_false (by omega)
  have d1 : decide ((n : Int) ≤ (i : Int)) = false := decide_eq_false (by omega)
  have d2 : decide (n ≤ i) = false := decide_eq_false (by omega)
  have d3 : decide (i < n) = true := decide_eq_true hil
  have HSt := Lib.hid hst
  have HKO := Lib.hid (fun w => kindOf_any w x.o x.oi (okx.o 1 (by omega)))
  rw [hK] at HKO
  clear hst
  clear h ok hne hi hkn
  go_enter Tryz.func68, Tryz.ntmps68
  go_wp2_with fail
  refine HCL.out.mono ?_
  rintro e1 w1 ⟨b1, g1, cap1, cur, rfl, hg1, hcur, hsz, hall⟩
  have hg2 : w.heap.size + 2 ≤ g1 := by simpa using hg1
  have hg3 := lt_of hcur
  have HB1 := Lib.hid (HB0.out.trans (b1.mono HB0.out.size))
  have HS1 := Lib.hid (HS0.out.none (Keeps.ofBelow b1))
  have HALL := Lib.hid (And.intro (show ∀ k y, L[k]? = some y → ∃ a c, ItemW w1 g1 (k * 15) cur y a c ∧ (0 < y.row.length → ∀ b off, a = some ⟨b, off, none⟩ → b < w.heap.size) from fun k y hy => by obtain ⟨a, c, h1, h2⟩ := hall k y hy; exact ⟨a, c, h1, fun hp b off e => state_bound HST.out HB0.out hy h2 hp e⟩) hcur)
  have hr1 : w1.heap[w.heap.size + 1]? = some (.cells #[.int .i64 0, .int .u32 0, .int .u32 0, .int .u32 0, .int .u32 0] 41 (0, 0)) := HS1.out.at 0 rfl
  have hc1 : w1.heap[w.heap.size]? = some (.cells #[.int .i64 k, .int .i64 (i : Int), .int .u32 v.a, .int .u32 v.b, .int .u32 v.c, .int .u32 v.d, .int .u32 N] 38 (0, 0)) := HS1.out.at 1 rfl
  have hne5 : w.heap.size + 1 ≠ g1 := by omega
  have k0 := cell_of hc1 0
  have k1 := cell_of hc1 1
  have k2 := cell_of hc1 2
  have k3 := cell_of hc1 3
  have k4 := cell_of hc1 4
  have k5 := cell_of hc1 5
  have k6 := cell_of hc1 6
  have q0 := cell_of hr1 0
  have q1 := cell_of hr1 1
  have q2 := cell_of hr1 2
  have q3 := cell_of hr1 3
  have q4 := cell_of hr1 4
  have fq0 := free_of hr1 0
  have fq1 := free_of hr1 1
  have fq2 := free_of hr1 2
  have fq3 := free_of hr1 3
  have fq4 := free_of hr1 4
  simp only [List.getElem?_toArray, List.getElem?_cons_zero, List.getElem?_cons_succ] at q0 q1 q2 q3 q4 k0 k1 k2 k3 k4 k5 k6
  clear b1 hg1 hall hr1 hc1 HCL HB0 HS0 hcur
  go_wp2_with fail
  refine (HP.out _).mono ?_
  rintro e2 w2 ⟨rfl, hw2⟩
  obtain rfl := hw2.symm
  go_wp2_with fail
  refine (HK.out _).mono ?_
  rintro e3 w3 ⟨rfl, hw3⟩
  obtain rfl := hw3.symm
  obtain ⟨ax, cx, hix, hixb⟩ := HALL.out.1 i x HI.out
  have HRO := Lib.hid (show w1.rangeAt g1 (i * 15) [.int .i64 (x.o 0), .int .i64 (x.o 1), .int .i64 (x.o 2), .int .i64 (x.o 3), .int .i64 (x.o 4), .int .i64 (x.o 5), .int .u32 (x.oi 0), .int .u32 (x.oi 1), .int .u32 (x.oi 2), .int .u32 (x.oi 3)] from fun j u hu => hix.fifteen HALL.out.2 j u (obj_part x ax x.row.length cx j u hu))
  have HIX := Lib.hid (And.intro hix hixb)
  clear hix hixb
  go_wp2_with (refine wpList_load_mid rfl 87 _ rfl g1 (i * 15) rfl [.int .i64 (x.o 0), .int .i64 (x.o 1), .int .i64 (x.o 2), .int .i64 (x.o 3), .int .i64 (x.o 4), .int .i64 (x.o 5), .int .u32 (x.oi 0), .int .u32 (x.oi 1), .int .u32 (x.oi 2), .int .u32 (x.oi 3)] _ HRO.out Tryz.underlying87 rfl obj_info ?_)
  refine (HKO.out _).mono ?_
  rintro e4 w4 ⟨rfl, k4⟩
  have HS4 := Lib.hid (HS1.out.none k4)
  have HB4 := Lib.hid (HB1.out.trans ((k4.none).mono HB1.out.size))
  have HG4 := Lib.hid (show w4.heap[g1]? = some (.cells cur 106 (0, 0)) from k4.at HALL.out.2 fun h => h)
  have HA4 := Lib.hid (all_none HALL.out.1 k4)
  have HI4 := Lib.hid (HIX.out.1.none k4)
  have hc4 : w4.heap[w.heap.size]? = some (.cells #[.int .i64 k, .int .i64 (i : Int), .int .u32 v.a, .int .u32 v.b, .int .u32 v.c, .int .u32 v.d, .int .u32 N] 38 (0, 0)) := HS4.out.at 1 rfl
  have l4 := lt_of HG4.out
  clear q0 q1 q2 q3 q4 fq0 fq1 fq2 fq3 fq4 k0 k1 k2 k3 k4 k5 k6
  have k0 := cell_of hc4 0
  have k1 := cell_of hc4 1
  have k2 := cell_of hc4 2
  have k3 := cell_of hc4 3
  have k4 := cell_of hc4 4
  have k5 := cell_of hc4 5
  have k6 := cell_of hc4 6
  simp only [List.getElem?_toArray, List.getElem?_cons_zero, List.getElem?_cons_succ] at k0 k1 k2 k3 k4 k5 k6
  clear hc4
  have hr5 : w4.heap[w.heap.size + 1]? = some (.cells #[.int .i64 0, .int .u32 0, .int .u32 0, .int .u32 0, .int .u32 0] 41 (0, 0)) := HS4.out.at 0 rfl
  have q0 := cell_of hr5 0
  have q1 := cell_of hr5 1
  have q2 := cell_of hr5 2
  have q3 := cell_of hr5 3
  have q4 := cell_of hr5 4
  have fq0 := free_of hr5 0
  have fq1 := free_of hr5 1
  have fq2 := free_of hr5 2
  have fq3 := free_of hr5 3
  have fq4 := free_of hr5 4
  simp only [List.getElem?_toArray, List.getElem?_cons_zero, List.getElem?_cons_succ] at q0 q1 q2 q3 q4
  clear hr5
  go_wp2_with fail
  refine bodyPost_ret (v := .tuple #[.slice (some ⟨g1, 0, none⟩) n cap1, .agg (res0 12).cells]) (by simp [results, Tryz.results68, go_sem, q0, q1, q2, q3, q4, res0, W4.zero]) rfl ?_
  exact ⟨(((((HB4.out.setCell (p := ⟨w.heap.size + 1, 0, none⟩) (by show w.heap.size ≤ w.heap.size + 1; omega) _).setCell (p := ⟨w.heap.size + 1, 1, none⟩) (by show w.heap.size ≤ w.heap.size + 1; omega) _).setCell (p := ⟨w.heap.size + 1, 2, none⟩) (by show w.heap.size ≤ w.heap.size + 1; omega) _).setCell (p := ⟨w.heap.size + 1, 3, none⟩) (by show w.heap.size ≤ w.heap.size + 1; omega) _).setCell (p := ⟨w.heap.size + 1, 4, none⟩) (by show w.heap.size ≤ w.heap.size + 1; omega) _), g1, cap1, rfl, state_kept HA4.out HG4.out ((((((Keeps.refl (fun j => j = w.heap.size + 1) w4).setCell (p := ⟨w.heap.size + 1, 0, none⟩) (.inl rfl) _).setCell (p := ⟨w.heap.size + 1, 1, none⟩) (.inl rfl) _).setCell (p := ⟨w.heap.size + 1, 2, none⟩) (.inl rfl) _).setCell (p := ⟨w.heap.size + 1, 3, none⟩) (.inl rfl) _).setCell (p := ⟨w.heap.size + 1, 4, none⟩) (.inl rfl) _) (by omega) hne5⟩
theorem kind_cases (o : Nat → Int) : kindP o = 0 ∨ kindP o = 1 ∨ kindP o = 2 ∨ kindP o = 3 ∨ kindP o = 4 := by
  by_cases h : kindP o = 0
  · exact .inl h
  · obtain ⟨h1, h2⟩ := kind_right h
    unfold rightS at h1
    simp only [Bool.and_eq_true, decide_eq_true_eq] at h1
    omega
theorem set_same {α : Type} : ∀ (L : List α) (i : Nat) (x : α), L[i]? = some x → L.set i x = L
  | [], _, _, _ => rfl
  | y :: t, 0, x, h => by cases h; rfl
  | y :: t, i + 1, x, h => by
    show y :: t.set i x = y :: t
    rw [set_same t i x h]
/-- A call done at once, on a state in memory. -/
theorem do_any (w : World) (g c : Nat) (L : List ItemD) (h : StateAt w g L) (ok : ∀ x, x ∈ L → x.Ok) (hn : L.length ≤ 1000) (k obj N : Int) (v : W4) (hv : v.Ok) :
    Calls Tryz.prog 68 #[.slice (some ⟨g, 0, none⟩) L.length c, .agg #[.int .i64 k, .int .i64 obj, .int .u32 v.a, .int .u32 v.b, .int .u32 v.c, .int .u32 v.d, .int .u32 N]] w (DoesIn w L.length (doP L k obj v)) := by
  unfold doP
  by_cases hk : knownP (plainP k) = false
  · rw [if_pos hk]
    exact do_not w g c L h ok hn k obj N v hv 1 (.inl ⟨hk, rfl⟩)
  · rw [if_neg hk]
    have hk1 : knownP (plainP k) = true := by simpa using hk
    by_cases ho : obj < 0 ∨ (L.length : Int) ≤ obj
    · rw [if_pos ho]
      exact do_not w g c L h ok hn k obj N v hv 4 (.inr ⟨hk1, ho, rfl⟩)
    · rw [if_neg ho]
      obtain ⟨i, rfl⟩ : ∃ i : Nat, obj = (i : Int) := ⟨obj.toNat, by omega⟩
      have hi : i < L.length := by omega
      obtain ⟨x, hx⟩ : ∃ x, L[i]? = some x := ⟨_, List.getElem?_eq_getElem hi⟩
      simp only [Int.toNat_natCast, hx]
      rcases kind_cases x.o with hK | hK | hK | hK | hK
      · rw [show stepP x (plainP k) v = (x, res0 12) by unfold stepP; rw [if_neg (by omega), if_neg (by omega), if_neg (by omega)]]
        show Calls _ _ _ _ (DoesIn w L.length (L.set i x, res0 12))
        rw [set_same L i x hx]
        exact do_none w g c L h ok hn k N v hv i x hx hk1 hK trivial
      · exact do_ring w g c L h ok hn k N v hv i x hx hk1 hK _ _ rfl
      · exact do_value2 w g c L h ok hn k N v hv i x hx hk1 hK _ _ rfl
      · exact do_value3 w g c L h ok hn k N v hv i x hx hk1 hK _ _ rfl
      · exact do_flags w g c L h ok hn k N v hv i x hx hk1 hK _ _ rfl
end Go.Proofs.YtkhmfjfclpehfaaGreat
namespace Go.Proofs.YtkhmfjfclpehfaaGreat
open Go.ChangeShapes Go.WideShapes Go.ChangeAt Go.RowKit
set_option linter.unusedVariables false
set_option linter.unusedSimpArgs false
/-- May a call, done at once as d, be answered r? -/
def mayP (k : Int) (d r : ResD) : Bool :=
  if k = 5 ∨ k = 6 then (r.f == 8) && (d.f == 0)
  else if k = 14 ∨ k = 15 ∨ k = 16 ∨ k = 17 then (r.f == 9) && ((d.f == 6) || (d.f == 7))
  else false
def allowsP (L : List ItemD) (k obj : Int) (v : W4) (r : ResD) : List ItemD × Bool :=
  if (doP L k obj v).2.eq r = true then ((doP L k obj v).1, true)
  else if r.v.eq W4.zero = true then (L, mayP k (doP L k obj v).2 r) else (L, false)
def AllowsIn (w : World) (n : Nat) (p : List ItemD × Bool) (e : Ending) (w' : World) : Prop :=
  Below w.heap.size w w' ∧ ∃ g' c', e = .returned (.tuple #[.slice (some ⟨g', 0, none⟩) n c', .bool p.2]) ∧ StateAt w' g' p.1
theorem all_at {w : World} {g : Nat} {T : TypeId} {cur : Array Value} {L : List ItemD} (hb : w.heap[g]? = some (.cells cur T (0, 0))) (h : ∀ k y, L[k]? = some y → ∃ a c, ItemW w g (k * 15) cur y a c) : StateAt w g L :=
  ⟨lt_of hb, fun k y hy => by obtain ⟨a, c, h1⟩ := h k y hy; exact h1.at' hb⟩
set_option maxRecDepth 20000 in
set_option maxHeartbeats 16000000 in
theorem allows_any (w : World) (g c : Nat) (L : List ItemD) (h : StateAt w g L) (ok : ∀ x, x ∈ L → x.Ok) (hn : L.length ≤ 1000) (k obj N : Int) (v : W4) (hv : v.Ok) (r : ResD) :
    Calls Tryz.prog 42 #[.slice (some ⟨g, 0, none⟩) L.length c, .agg #[.int .i64 k, .int .i64 obj, .int .u32 v.a, .int .u32 v.b, .int .u32 v.c, .int .u32 v.d, .int .u32 N], .agg r.cells] w (AllowsIn w L.length (allowsP L k obj v r)) := by
  have HB0 := Lib.hid (show Below w.heap.size w ((w.alloc (.cells #[.int .i64 k, .int .i64 obj, .int .u32 v.a, .int .u32 v.b, .int .u32 v.c, .int .u32 v.d, .int .u32 N] 38)).alloc (.cells #[.int .i64 r.f, .int .u32 r.v.a, .int .u32 r.v.b, .int .u32 r.v.c, .int .u32 r.v.d] 41)) from ((Below.refl _ w).alloc (Nat.le_refl _) _).alloc (by simp) _)
  have HS0 := Lib.hid (show Has w ((w.alloc (.cells #[.int .i64 k, .int .i64 obj, .int .u32 v.a, .int .u32 v.b, .int .u32 v.c, .int .u32 v.d, .int .u32 N] 38)).alloc (.cells #[.int .i64 r.f, .int .u32 r.v.a, .int .u32 r.v.b, .int .u32 r.v.c, .int .u32 r.v.d] 41)) [(w.heap.size + 1, .cells #[.int .i64 r.f, .int .u32 r.v.a, .int .u32 r.v.b, .int .u32 r.v.c, .int .u32 r.v.d] 41 (0, 0)), (w.heap.size, .cells #[.int .i64 k, .int .i64 obj, .int .u32 v.a, .int .u32 v.b, .int .u32 v.c, .int .u32 v.d, .int .u32 N] 38 (0, 0))] from (((Has.start w).alloc (.cells #[.int .i64 k, .int .i64 obj, .int .u32 v.a, .int .u32 v.b, .int .u32 v.c, .int .u32 v.d, .int .u32 N] 38)).alloc (.cells #[.int .i64 r.f, .int .u32 r.v.a, .int .u32 r.v.b, .int .u32 r.v.c, .int .u32 r.v.d] 41)).eq (by simp))
  have HD := Lib.hid (do_any ((w.alloc (.cells #[.int .i64 k, .int .i64 obj, .int .u32 v.a, .int .u32 v.b, .int .u32 v.c, .int .u32 v.d, .int .u32 N] 38)).alloc (.cells #[.int .i64 r.f, .int .u32 r.v.a, .int .u32 r.v.b, .int .u32 r.v.c, .int .u32 r.v.d] 41)) g c L (h.below HB0.out) ok hn k obj N v hv)
  have HCL := Lib.hid (fun W (hW : StateAt W g L) => clone_any W g c L hW hn)
  have HST := Lib.hid h
  obtain ⟨P, hP⟩ : ∃ P, doP L k obj v = P := ⟨_, rfl⟩
  obtain ⟨L', d⟩ := P
  have HF := Lib.hid (show allowsP L k obj v r = if d.eq r = true then (L', true) else if r.v.eq W4.zero = true then (L, mayP k d r) else (L, false) by unfold allowsP; rw [hP])
  rw [hP] at HD
  have hef : ∀ w, (Op.equalIn 10000 41 (.agg #[.int .i64 d.f, .int .u32 d.v.a, .int .u32 d.v.b, .int .u32 d.v.c, .int .u32 d.v.d]) (.agg #[.int .i64 r.f, .int .u32 r.v.a, .int .u32 r.v.b, .int .u32 r.v.c, .int .u32 r.v.d])).run Tryz.prog w = .ok (d.eq r) w := fun w => eq_res d.f d.v.a d.v.b d.v.c d.v.d r.f r.v.a r.v.b r.v.c r.v.d w
  have hev : ∀ w, (Op.equalIn 10000 36 (.agg #[.int .u32 r.v.a, .int .u32 r.v.b, .int .u32 r.v.c, .int .u32 r.v.d]) (.agg #[.int .u32 0, .int .u32 0, .int .u32 0, .int .u32 0])).run Tryz.prog w = .ok (r.v.eq W4.zero) w := fun w => eq_val 9998 r.v.a r.v.b r.v.c r.v.d 0 0 0 0 w
  obtain ⟨n, hne⟩ : ∃ n, L.length = n := ⟨_, rfl⟩
  rw [hne] at HD HCL ⊢
  generalize allowsP L k obj v r = Z at *
  obtain ⟨z1, z2⟩ := Z
  generalize d.eq r = b1 at *
  generalize r.v.eq W4.zero = b2 at *
  clear h ok hn hv hP hne
  go_enter Tryz.func42, Tryz.ntmps42
  go_wp2_with fail
  refine HD.out.mono ?_
  rintro e1 w1 ⟨hb1, g1, c1, rfl, hs1⟩
  have HB1 := Lib.hid (HB0.out.trans (hb1.mono HB0.out.size))
  have HS1 := Lib.hid (HS0.out.none (Keeps.ofBelow hb1) |>.alloc (.cells #[.int .i64 d.f, .int .u32 d.v.a, .int .u32 d.v.b, .int .u32 d.v.c, .int .u32 d.v.d] 41))
  have HS2 := Lib.hid (hs1.below ((Below.refl _ w1).alloc (Nat.le_refl _) (.cells #[.int .i64 d.f, .int .u32 d.v.a, .int .u32 d.v.b, .int .u32 d.v.c, .int .u32 d.v.d] 41)))
  have HB2 := Lib.hid (HB1.out.alloc HB1.out.size (.cells #[.int .i64 d.f, .int .u32 d.v.a, .int .u32 d.v.b, .int .u32 d.v.c, .int .u32 d.v.d] 41))
  have hr1 : (w1.alloc (.cells #[.int .i64 d.f, .int .u32 d.v.a, .int .u32 d.v.b, .int .u32 d.v.c, .int .u32 d.v.d] 41)).heap[w.heap.size + 1]? = some (.cells #[.int .i64 r.f, .int .u32 r.v.a, .int .u32 r.v.b, .int .u32 r.v.c, .int .u32 r.v.d] 41 (0, 0)) := HS1.out.at 1 rfl
  have hc1 : (w1.alloc (.cells #[.int .i64 d.f, .int .u32 d.v.a, .int .u32 d.v.b, .int .u32 d.v.c, .int .u32 d.v.d] 41)).heap[w.heap.size]? = some (.cells #[.int .i64 k, .int .i64 obj, .int .u32 v.a, .int .u32 v.b, .int .u32 v.c, .int .u32 v.d, .int .u32 N] 38 (0, 0)) := HS1.out.at 2 rfl
  have hl1 : w.heap.size + 1 < w1.heap.size := Nat.lt_of_lt_of_le (by simp) hb1.size
  have k0 := cell_of hc1 0
  have k1 := cell_of hc1 1
  have k2 := cell_of hc1 2
  have k3 := cell_of hc1 3
  have k4 := cell_of hc1 4
  have k5 := cell_of hc1 5
  have k6 := cell_of hc1 6
  have q0 := cell_of hr1 0
  have q1 := cell_of hr1 1
  have q2 := cell_of hr1 2
  have q3 := cell_of hr1 3
  have q4 := cell_of hr1 4
  simp only [List.getElem?_toArray, List.getElem?_cons_zero, List.getElem?_cons_succ] at q0 q1 q2 q3 q4 k0 k1 k2 k3 k4 k5 k6
  have HW := Lib.hid (HST.out.below HB2.out)
  clear hb1 hs1 hr1 hc1 HD HB0 HS0
  cases b1 with
  | true =>
    rw [if_pos rfl] at HF
    go_wp2_with fail
    refine bodyPost_ret (v := .tuple #[.slice (some ⟨g1, 0, none⟩) n c1, .bool true]) (by simp [results, Tryz.results42, go_sem]) rfl ?_
    obtain ⟨e6, e7⟩ := Prod.mk.inj HF.out
    exact ⟨HB2.out, g1, c1, by rw [e7], by rw [e6]; exact HS2.out⟩
  | false =>
    rw [if_neg (by simp)] at HF
    cases b2 with
    | false =>
      rw [if_neg (by simp)] at HF
      go_wp2_with fail
      refine (HCL.out _ HW.out).mono ?_
      rintro e5 w5 ⟨b5, g5, cap5, cur5, rfl, hg5, hcur5, hsz5, hall5⟩
      have HB5 := Lib.hid (HB2.out.trans (b5.mono HB2.out.size))
      have HS5 := Lib.hid (all_at hcur5 fun k y hy => by obtain ⟨a, c, h1, _⟩ := hall5 k y hy; exact ⟨a, c, h1⟩)
      clear b5 hg5 hcur5 hsz5 hall5
      go_wp2_with fail
      refine bodyPost_ret (v := .tuple #[.slice (some ⟨g5, 0, none⟩) n cap5, .bool false]) (by simp [results, Tryz.results42, go_sem]) rfl ?_
      obtain ⟨e6, e7⟩ := Prod.mk.inj HF.out
      exact ⟨HB5.out, g5, cap5, by rw [e7] <;> rfl, by rw [e6]; exact HS5.out⟩
    | true =>
      rw [if_pos rfl] at HF
      have HM := Lib.hid (show mayP k d r = if k = 5 ∨ k = 6 then (r.f == 8) && (d.f == 0) else if k = 14 ∨ k = 15 ∨ k = 16 ∨ k = 17 then (r.f == 9) && ((d.f == 6) || (d.f == 7)) else false from rfl)
      generalize mayP k d r = mm at *
      generalize h8 : (r.f == 8) = b8 at *
      generalize h9 : (r.f == 9) = b9 at *
      generalize h0 : (d.f == 0) = d0 at *
      generalize h6 : (d.f == 6) = d6 at *
      generalize h7 : (d.f == 7) = d7 at *
      by_cases h5k : k = 5
      · subst h5k
        rw [if_pos (by omega)] at HM
        cases b8
        · go_wp2_with fail
          refine (HCL.out _ HW.out).mono ?_
          rintro e5 w5 ⟨b5, g5, cap5, cur5, rfl, hg5, hcur5, hsz5, hall5⟩
          have HB5 := Lib.hid (HB2.out.trans (b5.mono HB2.out.size))
          have HS5 := Lib.hid (all_at hcur5 fun k y hy => by obtain ⟨a, c, h1, _⟩ := hall5 k y hy; exact ⟨a, c, h1⟩)
          clear b5 hg5 hcur5 hsz5 hall5
          go_wp2_with fail
          refine bodyPost_ret (v := .tuple #[.slice (some ⟨g5, 0, none⟩) n cap5, .bool false]) (by simp [results, Tryz.results42, go_sem]) rfl ?_
          obtain ⟨e6, e7⟩ := Prod.mk.inj HF.out
          exact ⟨HB5.out, g5, cap5, by rw [e7, HM.out] <;> rfl, by rw [e6]; exact HS5.out⟩
        · go_wp2_with fail
          refine (HCL.out _ HW.out).mono ?_
          rintro e5 w5 ⟨b5, g5, cap5, cur5, rfl, hg5, hcur5, hsz5, hall5⟩
          have HB5 := Lib.hid (HB2.out.trans (b5.mono HB2.out.size))
          have HS5 := Lib.hid (all_at hcur5 fun k y hy => by obtain ⟨a, c, h1, _⟩ := hall5 k y hy; exact ⟨a, c, h1⟩)
          clear b5 hg5 hcur5 hsz5 hall5
          go_wp2_with fail
          refine bodyPost_ret (v := .tuple #[.slice (some ⟨g5, 0, none⟩) n cap5, .bool d0]) (by simp [results, Tryz.results42, go_sem]) rfl ?_
          obtain ⟨e6, e7⟩ := Prod.mk.inj HF.out
          exact ⟨HB5.out, g5, cap5, by rw [e7, HM.out] <;> rfl, by rw [e6]; exact HS5.out⟩
      have n5 : (k == 5) = false := by simpa using h5k
      by_cases h6k : k = 6
      · subst h6k
        rw [if_pos (by omega)] at HM
        cases b8
        · go_wp2_with fail
          refine (HCL.out _ HW.out).mono ?_
          rintro e5 w5 ⟨b5, g5, cap5, cur5, rfl, hg5, hcur5, hsz5, hall5⟩
          have HB5 := Lib.hid (HB2.out.trans (b5.mono HB2.out.size))
          have HS5 := Lib.hid (all_at hcur5 fun k y hy => by obtain ⟨a, c, h1, _⟩ := hall5 k y hy; exact ⟨a, c, h1⟩)
          clear b5 hg5 hcur5 hsz5 hall5
          go_wp2_with fail
          refine bodyPost_ret (v := .tuple #[.slice (some ⟨g5, 0, none⟩) n cap5, .bool false]) (by simp [results, Tryz.results42, go_sem]) rfl ?_
          obtain ⟨e6, e7⟩ := Prod.mk.inj HF.out
          exact ⟨HB5.out, g5, cap5, by rw [e7, HM.out] <;> rfl, by rw [e6]; exact HS5.out⟩
        · go_wp2_with fail
          refine (HCL.out _ HW.out).mono ?_
          rintro e5 w5 ⟨b5, g5, cap5, cur5, rfl, hg5, hcur5, hsz5, hall5⟩
          have HB5 := Lib.hid (HB2.out.trans (b5.mono HB2.out.size))
          have HS5 := Lib.hid (all_at hcur5 fun k y hy => by obtain ⟨a, c, h1, _⟩ := hall5 k y hy; exact ⟨a, c, h1⟩)
          clear b5 hg5 hcur5 hsz5 hall5
          go_wp2_with fail
          refine bodyPost_ret (v := .tuple #[.slice (some ⟨g5, 0, none⟩) n cap5, .bool d0]) (by simp [results, Tryz.results42, go_sem]) rfl ?_
          obtain ⟨e6, e7⟩ := Prod.mk.inj HF.out
          exact ⟨HB5.out, g5, cap5, by rw [e7, HM.out] <;> rfl, by rw [e6]; exact HS5.out⟩
      have n6 : (k == 6) = false := by simpa using h6k
      by_cases h14k : k = 14
      · subst h14k
        rw [if_neg (by omega), if_pos (by omega)] at HM
        cases b9
        · go_wp2_with fail
          refine (HCL.out _ HW.out).mono ?_
          rintro e5 w5 ⟨b5, g5, cap5, cur5, rfl, hg5, hcur5, hsz5, hall5⟩
          have HB5 := Lib.hid (HB2.out.trans (b5.mono HB2.out.size))
          have HS5 := Lib.hid (all_at hcur5 fun k y hy => by obtain ⟨a, c, h1, _⟩ := hall5 k y hy; exact ⟨a, c, h1⟩)
          clear b5 hg5 hcur5 hsz5 hall5
          go_wp2_with fail
          refine bodyPost_ret (v := .tuple #[.slice (some ⟨g5, 0, none⟩) n cap5, .bool false]) (by simp [results, Tryz.results42, go_sem]) rfl ?_
          obtain ⟨e6, e7⟩ := Prod.mk.inj HF.out
          exact ⟨HB5.out, g5, cap5, by rw [e7, HM.out] <;> rfl, by rw [e6]; exact HS5.out⟩
        · cases d6
          · go_wp2_with fail
            refine (HCL.out _ HW.out).mono ?_
            rintro e5 w5 ⟨b5, g5, cap5, cur5, rfl, hg5, hcur5, hsz5, hall5⟩
            have HB5 := Lib.hid (HB2.out.trans (b5.mono HB2.out.size))
            have HS5 := Lib.hid (all_at hcur5 fun k y hy => by obtain ⟨a, c, h1, _⟩ := hall5 k y hy; exact ⟨a, c, h1⟩)
            clear b5 hg5 hcur5 hsz5 hall5
            go_wp2_with fail
            refine bodyPost_ret (v := .tuple #[.slice (some ⟨g5, 0, none⟩) n cap5, .bool d7]) (by simp [results, Tryz.results42, go_sem]) rfl ?_
            obtain ⟨e6, e7⟩ := Prod.mk.inj HF.out
            exact ⟨HB5.out, g5, cap5, by rw [e7, HM.out] <;> rfl, by rw [e6]; exact HS5.out⟩
          · go_wp2_with fail
            refine (HCL.out _ HW.out).mono ?_
            rintro e5 w5 ⟨b5, g5, cap5, cur5, rfl, hg5, hcur5, hsz5, hall5⟩
            have HB5 := Lib.hid (HB2.out.trans (b5.mono HB2.out.size))
            have HS5 := Lib.hid (all_at hcur5 fun k y hy => by obtain ⟨a, c, h1, _⟩ := hall5 k y hy; exact ⟨a, c, h1⟩)
            clear b5 hg5 hcur5 hsz5 hall5
            go_wp2_with fail
            refine bodyPost_ret (v := .tuple #[.slice (some ⟨g5, 0, none⟩) n cap5, .bool true]) (by simp [results, Tryz.results42, go_sem]) rfl ?_
            obtain ⟨e6, e7⟩ := Prod.mk.inj HF.out
            exact ⟨HB5.out, g5, cap5, by rw [e7, HM.out] <;> rfl, by rw [e6]; exact HS5.out⟩
      have n14 : (k == 14) = false := by simpa using h14k
      by_cases h15k : k = 15
      · subst h15k
        rw [if_neg (by omega), if_pos (by omega)] at HM
        cases b9
        · go_wp2_with fail
          refine (HCL.out _ HW.out).mono ?_
          rintro e5 w5 ⟨b5, g5, cap5, cur5, rfl, hg5, hcur5, hsz5, hall5⟩
          have HB5 := Lib.hid (HB2.out.trans (b5.mono HB2.out.size))
          have HS5 := Lib.hid (all_at hcur5 fun k y hy => by obtain ⟨a, c, h1, _⟩ := hall5 k y hy; exact ⟨a, c, h1⟩)
          clear b5 hg5 hcur5 hsz5 hall5
          go_wp2_with fail
          refine bodyPost_ret (v := .tuple #[.slice (some ⟨g5, 0, none⟩) n cap5, .bool false]) (by simp [results, Tryz.results42, go_sem]) rfl ?_
          obtain ⟨e6, e7⟩ := Prod.mk.inj HF.out
          exact ⟨HB5.out, g5, cap5, by rw [e7, HM.out] <;> rfl, by rw [e6]; exact HS5.out⟩
        · cases d6
          · go_wp2_with fail
            refine (HCL.out _ HW.out).mono ?_
            rintro e5 w5 ⟨b5, g5, cap5, cur5, rfl, hg5, hcur5, hsz5, hall5⟩
            have HB5 := Lib.hid (HB2.out.trans (b5.mono HB2.out.size))
            have HS5 := Lib.hid (all_at hcur5 fun k y hy => by obtain ⟨a, c, h1, _⟩ := hall5 k y hy; exact ⟨a, c, h1⟩)
            clear b5 hg5 hcur5 hsz5 hall5
            go_wp2_with fail
            refine bodyPost_ret (v := .tuple #[.slice (some ⟨g5, 0, none⟩) n cap5, .bool d7]) (by simp [results, Tryz.results42, go_sem]) rfl ?_
            obtain ⟨e6, e7⟩ := Prod.mk.inj HF.out
            exact ⟨HB5.out, g5, cap5, by rw [e7, HM.out] <;> rfl, by rw [e6]; exact HS5.out⟩
          · go_wp2_with fail
            refine (HCL.out _ HW.out).mono ?_
            rintro e5 w5 ⟨b5, g5, cap5, cur5, rfl, hg5, hcur5, hsz5, hall5⟩
            have HB5 := Lib.hid (HB2.out.trans (b5.mono HB2.out.size))
            have HS5 := Lib.hid (all_at hcur5 fun k y hy => by obtain ⟨a, c, h1, _⟩ := hall5 k y hy; exact ⟨a, c, h1⟩)
            clear b5 hg5 hcur5 hsz5 hall5
            go_wp2_with fail
            refine bodyPost_ret (v := .tuple #[.slice (some ⟨g5, 0, none⟩) n cap5, .bool true]) (by simp [results, Tryz.results42, go_sem]) rfl ?_
            obtain ⟨e6, e7⟩ := Prod.mk.inj HF.out
            exact ⟨HB5.out, g5, cap5, by rw [e7, HM.out] <;> rfl, by rw [e6]; exact HS5.out⟩
      have n15 : (k == 15) = false := by simpa using h15k
      by_cases h16k : k = 16
      · subst h16k
        rw [if_neg (by omega), if_pos (by omega)] at HM
        cases b9
        · go_wp2_with fail
          refine (HCL.out _ HW.out).mono ?_
          rintro e5 w5 ⟨b5, g5, cap5, cur5, rfl, hg5, hcur5, hsz5, hall5⟩
          have HB5 := Lib.hid (HB2.out.trans (b5.mono HB2.out.size))
          have HS5 := Lib.hid (all_at hcur5 fun k y hy => by obtain ⟨a, c, h1, _⟩ := hall5 k y hy; exact ⟨a, c, h1⟩)
          clear b5 hg5 hcur5 hsz5 hall5
          go_wp2_with fail
          refine bodyPost_ret (v := .tuple #[.slice (some ⟨g5, 0, none⟩) n cap5, .bool false]) (by simp [results, Tryz.results42, go_sem]) rfl ?_
          obtain ⟨e6, e7⟩ := Prod.mk.inj HF.out
          exact ⟨HB5.out, g5, cap5, by rw [e7, HM.out] <;> rfl, by rw [e6]; exact HS5.out⟩
        · cases d6
          · go_wp2_with fail
            refine (HCL.out _ HW.out).mono ?_
            rintro e5 w5 ⟨b5, g5, cap5, cur5, rfl, hg5, hcur5, hsz5, hall5⟩
            have HB5 := Lib.hid (HB2.out.trans (b5.mono HB2.out.size))
            have HS5 := Lib.hid (all_at hcur5 fun k y hy => by obtain ⟨a, c, h1, _⟩ := hall5 k y hy; exact ⟨a, c, h1⟩)
            clear b5 hg5 hcur5 hsz5 hall5
            go_wp2_with fail
            refine bodyPost_ret (v := .tuple #[.slice (some ⟨g5, 0, none⟩) n cap5, .bool d7]) (by simp [results, Tryz.results42, go_sem]) rfl ?_
            obtain ⟨e6, e7⟩ := Prod.mk.inj HF.out
            exact ⟨HB5.out, g5, cap5, by rw [e7, HM.out] <;> rfl, by rw [e6]; exact HS5.out⟩
          · go_wp2_with fail
            refine (HCL.out _ HW.out).mono ?_
            rintro e5 w5 ⟨b5, g5, cap5, cur5, rfl, hg5, hcur5, hsz5, hall5⟩
            have HB5 := Lib.hid (HB2.out.trans (b5.mono HB2.out.size))
            have HS5 := Lib.hid (all_at hcur5 fun k y hy => by obtain ⟨a, c, h1, _⟩ := hall5 k y hy; exact ⟨a, c, h1⟩)
            clear b5 hg5 hcur5 hsz5 hall5
            go_wp2_with fail
            refine bodyPost_ret (v := .tuple #[.slice (some ⟨g5, 0, none⟩) n cap5, .bool true]) (by simp [results, Tryz.results42, go_sem]) rfl ?_
            obtain ⟨e6, e7⟩ := Prod.mk.inj HF.out
            exact ⟨HB5.out, g5, cap5, by rw [e7, HM.out] <;> rfl, by rw [e6]; exact HS5.out⟩
      have n16 : (k == 16) = false := by simpa using h16k
      by_cases h17k : k = 17
      · subst h17k
        rw [if_neg (by omega), if_pos (by omega)] at HM
        cases b9
        · go_wp2_with fail
          refine (HCL.out _ HW.out).mono ?_
          rintro e5 w5 ⟨b5, g5, cap5, cur5, rfl, hg5, hcur5, hsz5, hall5⟩
          have HB5 := Lib.hid (HB2.out.trans (b5.mono HB2.out.size))
          have HS5 := Lib.hid (all_at hcur5 fun k y hy => by obtain ⟨a, c, h1, _⟩ := hall5 k y hy; exact ⟨a, c, h1⟩)
          clear b5 hg5 hcur5 hsz5 hall5
          go_wp2_with fail
          refine bodyPost_ret (v := .tuple #[.slice (some ⟨g5, 0, none⟩) n cap5, .bool false]) (by simp [results, Tryz.results42, go_sem]) rfl ?_
          obtain ⟨e6, e7⟩ := Prod.mk.inj HF.out
          exact ⟨HB5.out, g5, cap5, by rw [e7, HM.out] <;> rfl, by rw [e6]; exact HS5.out⟩
        · cases d6
          · go_wp2_with fail
            refine (HCL.out _ HW.out).mono ?_
            rintro e5 w5 ⟨b5, g5, cap5, cur5, rfl, hg5, hcur5, hsz5, hall5⟩
            have HB5 := Lib.hid (HB2.out.trans (b5.mono HB2.out.size))
            have HS5 := Lib.hid (all_at hcur5 fun k y hy => by obtain ⟨a, c, h1, _⟩ := hall5 k y hy; exact ⟨a, c, h1⟩)
            clear b5 hg5 hcur5 hsz5 hall5
            go_wp2_with fail
            refine bodyPost_ret (v := .tuple #[.slice (some ⟨g5, 0, none⟩) n cap5, .bool d7]) (by simp [results, Tryz.results42, go_sem]) rfl ?_
            obtain ⟨e6, e7⟩ := Prod.mk.inj HF.out
            exact ⟨HB5.out, g5, cap5, by rw [e7, HM.out] <;> rfl, by rw [e6]; exact HS5.out⟩
          · go_wp2_with fail
            refine (HCL.out _ HW.out).mono ?_
            rintro e5 w5 ⟨b5, g5, cap5, cur5, rfl, hg5, hcur5, hsz5, hall5⟩
            have HB5 := Lib.hid (HB2.out.trans (b5.mono HB2.out.size))
            have HS5 := Lib.hid (all_at hcur5 fun k y hy => by obtain ⟨a, c, h1, _⟩ := hall5 k y hy; exact ⟨a, c, h1⟩)
            clear b5 hg5 hcur5 hsz5 hall5
            go_wp2_with fail
            refine bodyPost_ret (v := .tuple #[.slice (some ⟨g5, 0, none⟩) n cap5, .bool true]) (by simp [results, Tryz.results42, go_sem]) rfl ?_
            obtain ⟨e6, e7⟩ := Prod.mk.inj HF.out
            exact ⟨HB5.out, g5, cap5, by rw [e7, HM.out] <;> rfl, by rw [e6]; exact HS5.out⟩
      have n17 : (k == 17) = false := by simpa using h17k
      rw [if_neg (by omega), if_neg (by omega)] at HM
      go_wp2_with fail
      refine (HCL.out _ HW.out).mono ?_
      rintro e5 w5 ⟨b5, g5, cap5, cur5, rfl, hg5, hcur5, hsz5, hall5⟩
      have HB5 := Lib.hid (HB2.out.trans (b5.mono HB2.out.size))
      have HS5 := Lib.hid (all_at hcur5 fun k y hy => by obtain ⟨a, c, h1, _⟩ := hall5 k y hy; exact ⟨a, c, h1⟩)
      clear b5 hg5 hcur5 hsz5 hall5
      go_wp2_with fail
      refine bodyPost_ret (v := .tuple #[.slice (some ⟨g5, 0, none⟩) n cap5, .bool false]) (by simp [results, Tryz.results42, go_sem]) rfl ?_
      obtain ⟨e6, e7⟩ := Prod.mk.inj HF.out
      exact ⟨HB5.out, g5, cap5, by rw [e7, HM.out] <;> rfl, by rw [e6]; exact HS5.out⟩
end Go.Proofs.YtkhmfjfclpehfaaGreat
