import Derived.Test.YtkhmfjfclpehfaaGreatSpecMz
import Derived.Laws.BitsAllLaws
import Derived.Laws.MakeOwn
namespace Go.Proofs.YtkhmfjfclpehfaaGreat
open Go.ChangeShapes Go.WideShapes Go.ChangeAt Go.RowKit
set_option linter.unusedVariables false
set_option linter.unusedSimpArgs false
def mayP (k : Int) (d r : ResD) : Bool :=
  if k = 5 ∨ k = 6 then (r.f == 8) && (d.f == 0)
  else if k = 14 ∨ k = 15 ∨ k = 16 ∨ k = 17 then (r.f == 9) && ((d.f == 6) || (d.f == 7))
  else false
def allowsP (L : List ItemD) (k obj : Int) (v : W4) (r : ResD) : List ItemD × Bool :=
  if (doP L k obj v).2.eq r = true then ((doP L k obj v).1, true)
  else if r.v.eq W4.zero = true then (L, mayP k (doP L k obj v).2 r) else (L, false)
def AllowsIn (w : World) (n : Nat) (p : List ItemD × Bool) (e : Ending) (w' : World) : Prop :=
  Below w.heap.size w w' ∧ ∃ g' c', e = .returned (.tuple #[.slice (some ⟨g', 0, none⟩) n c', .bool p.2]) ∧ StateAt w' g' p.1
theorem all_at {w : World} {g : Nat} {cur : Array Value} {L : List ItemD} (hb : w.heap[g]? = some (.cells cur 106 (0, 0))) (h : ∀ k y, L[k]? = some y → ∃ a c, ItemW w g (k * 15) cur y a c) : StateAt w g L :=
  ⟨lt_of hb, fun k y hy => by obtain ⟨a, c, h1⟩ := h k y hy; exact h1.at' hb, ⟨_, _, hb⟩⟩
set_option maxRecDepth 20000 in
set_option maxHeartbeats 16000000 in
theorem allows_any (w : World) (g c : Nat) (L : List ItemD) (h : StateAt w g L) (ok : ∀ x, x ∈ L → x.Ok) (hn : L.length ≤ 1000) (k obj N : Int) (v : W4) (hv : v.Ok) (r : ResD) :
    Calls Tryz.prog 42 #[.slice (some ⟨g, 0, none⟩) L.length c, .agg #[.int .i64 k, .int .i64 obj, .int .u32 v.a, .int .u32 v.b, .int .u32 v.c, .int .u32 v.d, .int .u32 N], .agg r.cells] w (AllowsIn w L.length (allowsP L k obj v r)) := by
  have HB0 := Lib.hid (show Below w.heap.size w ((w.alloc (.cells #[.int .i64 k, .int .i64 obj, .int .u32 v.a, .int .u32 v.b, .int .u32 v.c, .int .u32 v.d, .int .u32 N] 38)).alloc (.cells #[.int .i64 r.f, .int .u32 r.v.a, .int .u32 r.v.b, .int .u32 r.v.c, .int .u32 r.v.d] 41)) from ((Below.refl _ w).alloc (Nat.le_refl _) _).alloc (by simp) _)
  have HS0 := Lib.hid (show Has w ((w.alloc (.cells #[.int .i64 k, .int .i64 obj, .int .u32 v.a, .int .u32 v.b, .int .u32 v.c, .int .u32 v.d, .int .u32 N] 38)).alloc (.cells #[.int .i64 r.f, .int .u32 r.v.a, .int .u32 r.v.b, .int .u32 r.v.c, .int .u32 r.v.d] 41)) [(w.heap.size + 1, .cells #[.int .i64 r.f, .int .u32 r.v.a, .int .u32 r.v.b, .int .u32 r.v.c, .int .u32 r.v.d] 41 (0, 0)), (w.heap.size, .cells #[.int .i64 k, .int .i64 obj, .int .u32 v.a, .int .u32 v.b, .int .u32 v.c, .int .u32 v.d, .int .u32 N] 38 (0, 0))] from (((Has.start w).alloc (.cells #[.int .i64 k, .int .i64 obj, .int .u32 v.a, .int .u32 v.b, .int .u32 v.c, .int .u32 v.d, .int .u32 N] 38)).alloc (.cells #[.int .i64 r.f, .int .u32 r.v.a, .int .u32 r.v.b, .int .u32 r.v.c, .int .u32 r.v.d] 41)).eq (by simp))
  have HD := Lib.hid (do_any ((w.alloc (.cells #[.int .i64 k, .int .i64 obj, .int .u32 v.a, .int .u32 v.b, .int .u32 v.c, .int .u32 v.d, .int .u32 N] 38)).alloc (.cells #[.int .i64 r.f, .int .u32 r.v.a, .int .u32 r.v.b, .int .u32 r.v.c, .int .u32 r.v.d] 41)) g c L (h.below HB0.out) ok hn k obj N v hv)
  have HCL := Lib.hid (fun W (hW : StateAt W g L) => clone_any W g c L hW hn)
  have HST := Lib.hid h
  obtain ⟨P, hP⟩ : ∃ P, doP L k obj v = P := ⟨_, rfl⟩
  obtain ⟨L', d⟩ := P
  have HF := Lib.hid (show allowsP L k obj v r = if d.eq r = true then (L', true) else if r.v.eq W4.zero = true then (L, mayP k d r) else (L, false) by unfold allowsP; rw [hP])
  rw [hP] at HD
  have hef : ∀ w, (Op.equalIn 10000 41 (.agg #[.int .i64 d.f, .int .u32 d.v.a, .int .u32 d.v.b, .int .u32 d.v.c, .int .u32 d.v.d]) (.agg #[.int .i64 r.f, .int .u32 r.v.a, .int .u32 r.v.b, .int .u32 r.v.c, .int .u32 r.v.d])).run Tryz.prog w = .ok (d.eq r) w := fun w => eq_res d.f d.v.a d.v.b d.v.c d.v.d r.f r.v.a r.v.b r.v.c r.v.d w
  have hev : ∀ w, (Op.equalIn 10000 36 (.agg #[.int .u32 r.v.a, .int .u32 r.v.b, .int .u32 r.v.c, .int .u32 r.v.d]) (.agg #[.int .u32 0, .int .u32 0, .int .u32 0, .int .u32 0])).run Tryz.prog w = .ok (r.v.eq W4.zero) w := fun w => eq_val 9998 r.v.a r.v.b r.v.c r.v.d 0 0 0 0 w
  obtain ⟨n, hne⟩ : ∃ n, L.length = n := ⟨_, rfl⟩
  rw [hne] at HD HCL ⊢
  generalize allowsP L k obj v r = Z at *
  obtain ⟨z1, z2⟩ := Z
  generalize d.eq r = b1 at *
  generalize r.v.eq W4.zero = b2 at *
  clear h ok hn hv hP hne
  go_enter Tryz.func42, Tryz.ntmps42
  go_wp2_with fail
  refine HD.out.mono ?_
  rintro e1 w1 ⟨hb1, g1, c1, rfl, hs1⟩
  have HB1 := Lib.hid (HB0.out.trans (hb1.mono HB0.out.size))
  have HS1 := Lib.hid (HS0.out.none (Keeps.ofBelow hb1) |>.alloc (.cells #[.int .i64 d.f, .int .u32 d.v.a, .int .u32 d.v.b, .int .u32 d.v.c, .int .u32 d.v.d] 41))
  have HS2 := Lib.hid (hs1.below ((Below.refl _ w1).alloc (Nat.le_refl _) (.cells #[.int .i64 d.f, .int .u32 d.v.a, .int .u32 d.v.b, .int .u32 d.v.c, .int .u32 d.v.d] 41)))
  have HB2 := Lib.hid (HB1.out.alloc HB1.out.size (.cells #[.int .i64 d.f, .int .u32 d.v.a, .int .u32 d.v.b, .int .u32 d.v.c, .int .u32 d.v.d] 41))
  have hr1 : (w1.alloc (.cells #[.int .i64 d.f, .int .u32 d.v.a, .int .u32 d.v.b, .int .u32 d.v.c, .int .u32 d.v.d] 41)).heap[w.heap.size + 1]? = some (.cells #[.int .i64 r.f, .int .u32 r.v.a, .int .u32 r.v.b, .int .u32 r.v.c, .int .u32 r.v.d] 41 (0, 0)) := HS1.out.at 1 rfl
  have hc1 : (w1.alloc (.cells #[.int .i64 d.f, .int .u32 d.v.a, .int .u32 d.v.b, .int .u32 d.v.c, .int .u32 d.v.d] 41)).heap[w.heap.size]? = some (.cells #[.int .i64 k, .int .i64 obj, .int .u32 v.a, .int .u32 v.b, .int .u32 v.c, .int .u32 v.d, .int .u32 N] 38 (0, 0)) := HS1.out.at 2 rfl
  have hl1 : w.heap.size + 1 < w1.heap.size := Nat.lt_of_lt_of_le (by simp) hb1.size
  have k0 := cell_of hc1 0
  have k1 := cell_of hc1 1
  have k2 := cell_of hc1 2
  have k3 := cell_of hc1 3
  have k4 := cell_of hc1 4
  have k5 := cell_of hc1 5
  have k6 := cell_of hc1 6
  have q0 := cell_of hr1 0
  have q1 := cell_of hr1 1
  have q2 := cell_of hr1 2
  have q3 := cell_of hr1 3
  have q4 := cell_of hr1 4
  simp only [List.getElem?_toArray, List.getElem?_cons_zero, List.getElem?_cons_succ] at q0 q1 q2 q3 q4 k0 k1 k2 k3 k4 k5 k6
  have HW := Lib.hid (HST.out.below HB2.out)
  clear hb1 hs1 hr1 hc1 HD HB0 HS0
  cases b1 with
  | true =>
    rw [if_pos rfl] at HF
    go_wp2_with fail
    refine bodyPost_ret (v := .tuple #[.slice (some ⟨g1, 0, none⟩) n c1, .bool true]) (by simp [results, Tryz.results42, go_sem]) rfl ?_
    obtain ⟨e6, e7⟩ := Prod.mk.inj HF.out
    exact ⟨HB2.out, g1, c1, by rw [e7], by rw [e6]; exact HS2.out⟩
  | false =>
    rw [if_neg (by simp)] at HF
    cases b2 with
    | false =>
      rw [if_neg (by simp)] at HF
      go_wp2_with fail
      refine (HCL.out _ HW.out).mono ?_
      rintro e5 w5 ⟨b5, g5, cap5, cur5, rfl, hg5, hcur5, hsz5, hall5⟩
      have HB5 := Lib.hid (HB2.out.trans (b5.mono HB2.out.size))
      have HS5 := Lib.hid (all_at hcur5 fun k y hy => by obtain ⟨a, c, h1, _⟩ := hall5 k y hy; exact ⟨a, c, h1⟩)
      clear b5 hg5 hcur5 hsz5 hall5
      go_wp2_with fail
      refine bodyPost_ret (v := .tuple #[.slice (some ⟨g5, 0, none⟩) n cap5, .bool false]) (by simp [results, Tryz.results42, go_sem]) rfl ?_
      obtain ⟨e6, e7⟩ := Prod.mk.inj HF.out
      exact ⟨HB5.out, g5, cap5, by rw [e7] <;> rfl, by rw [e6]; exact HS5.out⟩
    | true =>
      rw [if_pos rfl] at HF
      have HM := Lib.hid (show mayP k d r = if k = 5 ∨ k = 6 then (r.f == 8) && (d.f == 0) else if k = 14 ∨ k = 15 ∨ k = 16 ∨ k = 17 then (r.f == 9) && ((d.f == 6) || (d.f == 7)) else false from rfl)
      generalize mayP k d r = mm at *
      generalize h8 : (r.f == 8) = b8 at *
      generalize h9 : (r.f == 9) = b9 at *
      generalize h0 : (d.f == 0) = d0 at *
      generalize h6 : (d.f == 6) = d6 at *
      generalize h7 : (d.f == 7) = d7 at *
      by_cases h5k : k = 5
      · subst h5k
        rw [if_pos (by omega)] at HM
        cases b8
        · go_wp2_with fail
          refine (HCL.out _ HW.out).mono ?_
          rintro e5 w5 ⟨b5, g5, cap5, cur5, rfl, hg5, hcur5, hsz5, hall5⟩
          have HB5 := Lib.hid (HB2.out.trans (b5.mono HB2.out.size))
          have HS5 := Lib.hid (all_at hcur5 fun k y hy => by obtain ⟨a, c, h1, _⟩ := hall5 k y hy; exact ⟨a, c, h1⟩)
          clear b5 hg5 hcur5 hsz5 hall5
          go_wp2_with fail
          refine bodyPost_ret (v := .tuple #[.slice (some ⟨g5, 0, none⟩) n cap5, .bool false]) (by simp [results, Tryz.results42, go_sem]) rfl ?_
          obtain ⟨e6, e7⟩ := Prod.mk.inj HF.out
          exact ⟨HB5.out, g5, cap5, by rw [e7, HM.out] <;> rfl, by rw [e6]; exact HS5.out⟩
        · go_wp2_with fail
          refine (HCL.out _ HW.out).mono ?_
          rintro e5 w5 ⟨b5, g5, cap5, cur5, rfl, hg5, hcur5, hsz5, hall5⟩
          have HB5 := Lib.hid (HB2.out.trans (b5.mono HB2.out.size))
          have HS5 := Lib.hid (all_at hcur5 fun k y hy => by obtain ⟨a, c, h1, _⟩ := hall5 k y hy; exact ⟨a, c, h1⟩)
          clear b5 hg5 hcur5 hsz5 hall5
          go_wp2_with fail
          refine bodyPost_ret (v := .tuple #[.slice (some ⟨g5, 0, none⟩) n cap5, .bool d0]) (by simp [results, Tryz.results42, go_sem]) rfl ?_
          obtain ⟨e6, e7⟩ := Prod.mk.inj HF.out
          exact ⟨HB5.out, g5, cap5, by rw [e7, HM.out] <;> rfl, by rw [e6]; exact HS5.out⟩
      have n5 : (k == 5) = false := by simpa using h5k
      by_cases h6k : k = 6
      · subst h6k
        rw [if_pos (by omega)] at HM
        cases b8
        · go_wp2_with fail
          refine (HCL.out _ HW.out).mono ?_
          rintro e5 w5 ⟨b5, g5, cap5, cur5, rfl, hg5, hcur5, hsz5, hall5⟩
          have HB5 := Lib.hid (HB2.out.trans (b5.mono HB2.out.size))
          have HS5 := Lib.hid (all_at hcur5 fun k y hy => by obtain ⟨a, c, h1, _⟩ := hall5 k y hy; exact ⟨a, c, h1⟩)
          clear b5 hg5 hcur5 hsz5 hall5
          go_wp2_with fail
          refine bodyPost_ret (v := .tuple #[.slice (some ⟨g5, 0, none⟩) n cap5, .bool false]) (by simp [results, Tryz.results42, go_sem]) rfl ?_
          obtain ⟨e6, e7⟩ := Prod.mk.inj HF.out
          exact ⟨HB5.out, g5, cap5, by rw [e7, HM.out] <;> rfl, by rw [e6]; exact HS5.out⟩
        · go_wp2_with fail
          refine (HCL.out _ HW.out).mono ?_
          rintro e5 w5 ⟨b5, g5, cap5, cur5, rfl, hg5, hcur5, hsz5, hall5⟩
          have HB5 := Lib.hid (HB2.out.trans (b5.mono HB2.out.size))
          have HS5 := Lib.hid (all_at hcur5 fun k y hy => by obtain ⟨a, c, h1, _⟩ := hall5 k y hy; exact ⟨a, c, h1⟩)
          clear b5 hg5 hcur5 hsz5 hall5
          go_wp2_with fail
          refine bodyPost_ret (v := .tuple #[.slice (some ⟨g5, 0, none⟩) n cap5, .bool d0]) (by simp [results, Tryz.results42, go_sem]) rfl ?_
          obtain ⟨e6, e7⟩ := Prod.mk.inj HF.out
          exact ⟨HB5.out, g5, cap5, by rw [e7, HM.out] <;> rfl, by rw [e6]; exact HS5.out⟩
      have n6 : (k == 6) = false := by simpa using h6k
      by_cases h14k : k = 14
      · subst h14k
        rw [if_neg (by omega), if_pos (by omega)] at HM
        cases b9
        · go_wp2_with fail
          refine (HCL.out _ HW.out).mono ?_
          rintro e5 w5 ⟨b5, g5, cap5, cur5, rfl, hg5, hcur5, hsz5, hall5⟩
          have HB5 := Lib.hid (HB2.out.trans (b5.mono HB2.out.size))
          have HS5 := Lib.hid (all_at hcur5 fun k y hy => by obtain ⟨a, c, h1, _⟩ := hall5 k y hy; exact ⟨a, c, h1⟩)
          clear b5 hg5 hcur5 hsz5 hall5
          go_wp2_with fail
          refine bodyPost_ret (v := .tuple #[.slice (some ⟨g5, 0, none⟩) n cap5, .bool false]) (by simp [results, Tryz.results42, go_sem]) rfl ?_
          obtain ⟨e6, e7⟩ := Prod.mk.inj HF.out
          exact ⟨HB5.out, g5, cap5, by rw [e7, HM.out] <;> rfl, by rw [e6]; exact HS5.out⟩
        · cases d6
          · go_wp2_with fail
            refine (HCL.out _ HW.out).mono ?_
            rintro e5 w5 ⟨b5, g5, cap5, cur5, rfl, hg5, hcur5, hsz5, hall5⟩
            have HB5 := Lib.hid (HB2.out.trans (b5.mono HB2.out.size))
            have HS5 := Lib.hid (all_at hcur5 fun k y hy => by obtain ⟨a, c, h1, _⟩ := hall5 k y hy; exact ⟨a, c, h1⟩)
            clear b5 hg5 hcur5 hsz5 hall5
            go_wp2_with fail
            refine bodyPost_ret (v := .tuple #[.slice (some ⟨g5, 0, none⟩) n cap5, .bool d7]) (by simp [results, Tryz.results42, go_sem]) rfl ?_
            obtain ⟨e6, e7⟩ := Prod.mk.inj HF.out
            exact ⟨HB5.out, g5, cap5, by rw [e7, HM.out] <;> rfl, by rw [e6]; exact HS5.out⟩
          · go_wp2_with fail
            refine (HCL.out _ HW.out).mono ?_
            rintro e5 w5 ⟨b5, g5, cap5, cur5, rfl, hg5, hcur5, hsz5, hall5⟩
            have HB5 := Lib.hid (HB2.out.trans (b5.mono HB2.out.size))
            have HS5 := Lib.hid (all_at hcur5 fun k y hy => by obtain ⟨a, c, h1, _⟩ := hall5 k y hy; exact ⟨a, c, h1⟩)
            clear b5 hg5 hcur5 hsz5 hall5
            go_wp2_with fail
            refine bodyPost_ret (v := .tuple #[.slice (some ⟨g5, 0, none⟩) n cap5, .bool true]) (by simp [results, Tryz.results42, go_sem]) rfl ?_
            obtain ⟨e6, e7⟩ := Prod.mk.inj HF.out
            exact ⟨HB5.out, g5, cap5, by rw [e7, HM.out] <;> rfl, by rw [e6]; exact HS5.out⟩
      have n14 : (k == 14) = false := by simpa using h14k
      by_cases h15k : k = 15
      · subst h15k
        rw [if_neg (by omega), if_pos (by omega)] at HM
        cases b9
        · go_wp2_with fail
          refine (HCL.out _ HW.out).mono ?_
          rintro e5 w5 ⟨b5, g5, cap5, cur5, rfl, hg5, hcur5, hsz5, hall5⟩
          have HB5 := Lib.hid (HB2.out.trans (b5.mono HB2.out.size))
          have HS5 := Lib.hid (all_at hcur5 fun k y hy => by obtain ⟨a, c, h1, _⟩ := hall5 k y hy; exact ⟨a, c, h1⟩)
          clear b5 hg5 hcur5 hsz5 hall5
          go_wp2_with fail
          refine bodyPost_ret (v := .tuple #[.slice (some ⟨g5, 0, none⟩) n cap5, .bool false]) (by simp [results, Tryz.results42, go_sem]) rfl ?_
          obtain ⟨e6, e7⟩ := Prod.mk.inj HF.out
          exact ⟨HB5.out, g5, cap5, by rw [e7, HM.out] <;> rfl, by rw [e6]; exact HS5.out⟩
        · cases d6
          · go_wp2_with fail
            refine (HCL.out _ HW.out).mono ?_
            rintro e5 w5 ⟨b5, g5, cap5, cur5, rfl, hg5, hcur5, hsz5, hall5⟩
            have HB5 := Lib.hid (HB2.out.trans (b5.mono HB2.out.size))
            have HS5 := Lib.hid (all_at hcur5 fun k y hy => by obtain ⟨a, c, h1, _⟩ := hall5 k y hy; exact ⟨a, c, h1⟩)
            clear b5 hg5 hcur5 hsz5 hall5
            go_wp2_with fail
            refine bodyPost_ret (v := .tuple #[.slice (some ⟨g5, 0, none⟩) n cap5, .bool d7]) (by simp [results, Tryz.results42, go_sem]) rfl ?_
            obtain ⟨e6, e7⟩ := Prod.mk.inj HF.out
            exact ⟨HB5.out, g5, cap5, by rw [e7, HM.out] <;> rfl, by rw [e6]; exact HS5.out⟩
          · go_wp2_with fail
            refine (HCL.out _ HW.out).mono ?_
            rintro e5 w5 ⟨b5, g5, cap5, cur5, rfl, hg5, hcur5, hsz5, hall5⟩
            have HB5 := Lib.hid (HB2.out.trans (b5.mono HB2.out.size))
            have HS5 := Lib.hid (all_at hcur5 fun k y hy => by obtain ⟨a, c, h1, _⟩ := hall5 k y hy; exact ⟨a, c, h1⟩)
            clear b5 hg5 hcur5 hsz5 hall5
            go_wp2_with fail
            refine bodyPost_ret (v := .tuple #[.slice (some ⟨g5, 0, none⟩) n cap5, .bool true]) (by simp [results, Tryz.results42, go_sem]) rfl ?_
            obtain ⟨e6, e7⟩ := Prod.mk.inj HF.out
            exact ⟨HB5.out, g5, cap5, by rw [e7, HM.out] <;> rfl, by rw [e6]; exact HS5.out⟩
      have n15 : (k == 15) = false := by simpa using h15k
      by_cases h16k : k = 16
      · subst h16k
        rw [if_neg (by omega), if_pos (by omega)] at HM
        cases b9
        · go_wp2_with fail
          refine (HCL.out _ HW.out).mono ?_
          rintro e5 w5 ⟨b5, g5, cap5, cur5, rfl, hg5, hcur5, hsz5, hall5⟩
          have HB5 := Lib.hid (HB2.out.trans (b5.mono HB2.out.size))
          have HS5 := Lib.hid (all_at hcur5 fun k y hy => by obtain ⟨a, c, h1, _⟩ := hall5 k y hy; exact ⟨a, c, h1⟩)
          clear b5 hg5 hcur5 hsz5 hall5
          go_wp2_with fail
          refine bodyPost_ret (v := .tuple #[.slice (some ⟨g5, 0, none⟩) n cap5, .bool false]) (by simp [results, Tryz.results42, go_sem]) rfl ?_
          obtain ⟨e6, e7⟩ := Prod.mk.inj HF.out
          exact ⟨HB5.out, g5, cap5, by rw [e7, HM.out] <;> rfl, by rw [e6]; exact HS5.out⟩
        · cases d6
          · go_wp2_with fail
            refine (HCL.out _ HW.out).mono ?_
            rintro e5 w5 ⟨b5, g5, cap5, cur5, rfl, hg5, hcur5, hsz5, hall5⟩
            have HB5 := Lib.hid (HB2.out.trans (b5.mono HB2.out.size))
            have HS5 := Lib.hid (all_at hcur5 fun k y hy => by obtain ⟨a, c, h1, _⟩ := hall5 k y hy; exact ⟨a, c, h1⟩)
            clear b5 hg5 hcur5 hsz5 hall5
            go_wp2_with fail
            refine bodyPost_ret (v := .tuple #[.slice (some ⟨g5, 0, none⟩) n cap5, .bool d7]) (by simp [results, Tryz.results42, go_sem]) rfl ?_
            obtain ⟨e6, e7⟩ := Prod.mk.inj HF.out
            exact ⟨HB5.out, g5, cap5, by rw [e7, HM.out] <;> rfl, by rw [e6]; exact HS5.out⟩
          · go_wp2_with fail
            refine (HCL.out _ HW.out).mono ?_
            rintro e5 w5 ⟨b5, g5, cap5, cur5, rfl, hg5, hcur5, hsz5, hall5⟩
            have HB5 := Lib.hid (HB2.out.trans (b5.mono HB2.out.size))
            have HS5 := Lib.hid (all_at hcur5 fun k y hy => by obtain ⟨a, c, h1, _⟩ := hall5 k y hy; exact ⟨a, c, h1⟩)
            clear b5 hg5 hcur5 hsz5 hall5
            go_wp2_with fail
            refine bodyPost_ret (v := .tuple #[.slice (some ⟨g5, 0, none⟩) n cap5, .bool true]) (by simp [results, Tryz.results42, go_sem]) rfl ?_
            obtain ⟨e6, e7⟩ := Prod.mk.inj HF.out
            exact ⟨HB5.out, g5, cap5, by rw [e7, HM.out] <;> rfl, by rw [e6]; exact HS5.out⟩
      have n16 : (k == 16) = false := by simpa using h16k
      by_cases h17k : k = 17
      · subst h17k
        rw [if_neg (by omega), if_pos (by omega)] at HM
        cases b9
        · go_wp2_with fail
          refine (HCL.out _ HW.out).mono ?_
          rintro e5 w5 ⟨b5, g5, cap5, cur5, rfl, hg5, hcur5, hsz5, hall5⟩
          have HB5 := Lib.hid (HB2.out.trans (b5.mono HB2.out.size))
          have HS5 := Lib.hid (all_at hcur5 fun k y hy => by obtain ⟨a, c, h1, _⟩ := hall5 k y hy; exact ⟨a, c, h1⟩)
          clear b5 hg5 hcur5 hsz5 hall5
          go_wp2_with fail
          refine bodyPost_ret (v := .tuple #[.slice (some ⟨g5, 0, none⟩) n cap5, .bool false]) (by simp [results, Tryz.results42, go_sem]) rfl ?_
          obtain ⟨e6, e7⟩ := Prod.mk.inj HF.out
          exact ⟨HB5.out, g5, cap5, by rw [e7, HM.out] <;> rfl, by rw [e6]; exact HS5.out⟩
        · cases d6
          · go_wp2_with fail
            refine (HCL.out _ HW.out).mono ?_
            rintro e5 w5 ⟨b5, g5, cap5, cur5, rfl, hg5, hcur5, hsz5, hall5⟩
            have HB5 := Lib.hid (HB2.out.trans (b5.mono HB2.out.size))
            have HS5 := Lib.hid (all_at hcur5 fun k y hy => by obtain ⟨a, c, h1, _⟩ := hall5 k y hy; exact ⟨a, c, h1⟩)
            clear b5 hg5 hcur5 hsz5 hall5
            go_wp2_with fail
            refine bodyPost_ret (v := .tuple #[.slice (some ⟨g5, 0, none⟩) n cap5, .bool d7]) (by simp [results, Tryz.results42, go_sem]) rfl ?_
            obtain ⟨e6, e7⟩ := Prod.mk.inj HF.out
            exact ⟨HB5.out, g5, cap5, by rw [e7, HM.out] <;> rfl, by rw [e6]; exact HS5.out⟩
          · go_wp2_with fail
            refine (HCL.out _ HW.out).mono ?_
            rintro e5 w5 ⟨b5, g5, cap5, cur5, rfl, hg5, hcur5, hsz5, hall5⟩
            have HB5 := Lib.hid (HB2.out.trans (b5.mono HB2.out.size))
            have HS5 := Lib.hid (all_at hcur5 fun k y hy => by obtain ⟨a, c, h1, _⟩ := hall5 k y hy; exact ⟨a, c, h1⟩)
            clear b5 hg5 hcur5 hsz5 hall5
            go_wp2_with fail
            refine bodyPost_ret (v := .tuple #[.slice (some ⟨g5, 0, none⟩) n cap5, .bool true]) (by simp [results, Tryz.results42, go_sem]) rfl ?_
            obtain ⟨e6, e7⟩ := Prod.mk.inj HF.out
            exact ⟨HB5.out, g5, cap5, by rw [e7, HM.out] <;> rfl, by rw [e6]; exact HS5.out⟩
      have n17 : (k == 17) = false := by simpa using h17k
      rw [if_neg (by omega), if_neg (by omega)] at HM
      go_wp2_with fail
      refine (HCL.out _ HW.out).mono ?_
      rintro e5 w5 ⟨b5, g5, cap5, cur5, rfl, hg5, hcur5, hsz5, hall5⟩
      have HB5 := Lib.hid (HB2.out.trans (b5.mono HB2.out.size))
      have HS5 := Lib.hid (all_at hcur5 fun k y hy => by obtain ⟨a, c, h1, _⟩ := hall5 k y hy; exact ⟨a, c, h1⟩)
      clear b5 hg5 hcur5 hsz5 hall5
      go_wp2_with fail
      refine bodyPost_ret (v := .tuple #[.slice (some ⟨g5, 0, none⟩) n cap5, .bool false]) (by simp [results, Tryz.results42, go_sem]) rfl ?_
      obtain ⟨e6, e7⟩ := Prod.mk.inj HF.out
      exact ⟨HB5.out, g5, cap5, by rw [e7, HM.out] <;> rfl, by rw [e6]; exact HS5.out⟩
end Go.Proofs.YtkhmfjfclpehfaaGreat
namespace Go.Proofs.YtkhmfjfclpehfaaGreat
open Go.ChangeShapes Go.WideShapes Go.ChangeAt Go.RowKit
set_option linter.unusedVariables false
set_option linter.unusedSimpArgs false
theorem orW_ok (x y : Nat) (hx : x < 4294967296) (hy : y < 4294967296) : u32B (orW x y) := by
  unfold orW u32B
  rw [u32_or_nat x y hx hy]
  have := Nat.or_lt_two_pow (n := 32) hx hy
  omega
theorem nandW_ok (x y : Nat) (hx : x < 4294967296) (hy : y < 4294967296) : u32B (nandW x y) := by
  unfold nandW u32B
  rw [u32_andNot_nat x y hx hy]
  have : x &&& (4294967295 - y) ≤ x := Nat.and_le_left
  omega
theorem kind_cap {o : Nat → Int} (h : kindP o = 1) : o 1 ≤ 64 := by
  obtain ⟨h1, h2⟩ := kind_right (o := o) (by omega)
  rw [h2] at h
  unfold rightS at h1
  simp only [Bool.and_eq_true] at h1
  have h3 := h1.2.1
  rw [if_pos h] at h3
  simp at h3
  omega
theorem stepP_ok {x : ItemD} {v : W4} (k : Int) (hx : x.Ok) (hv : v.Ok) : (stepP x k v).1.Ok := by
  unfold stepP
  by_cases h1 : kindP x.o = 1
  · rw [if_pos h1]
    unfold ringP
    by_cases k1 : (k == 1) = true
    · rw [if_pos k1]
      by_cases c1 : x.o 1 ≤ (x.row.length : Int)
      · rw [if_pos c1]; exact hx
      · rw [if_neg c1]
        refine ⟨hx.o, hx.oi, fun u hu => ?_, hx.v, ?_⟩
        · rcases List.mem_append.1 hu with hu | hu
          · exact hx.row u hu
          · rw [List.mem_singleton.1 hu]; exact hv.clip _
        · have := kind_cap h1
          show (x.row ++ [v.clip (x.o 2).toNat]).length ≤ 64
          rw [List.length_append]
          simp
          omega
    · rw [if_neg k1]
      by_cases k2 : (k == 2) = true
      · rw [if_pos k2]
        cases hr : x.row with
        | nil => exact hx
        | cons y t =>
          have hl := hx.len
          rw [hr] at hl
          exact ⟨hx.o, hx.oi, fun u hu => hx.row u (by rw [hr]; exact List.mem_cons_of_mem _ hu), hx.v, by simp at hl; show t.length ≤ 64; omega⟩
      · rw [if_neg k2]; exact hx
  · rw [if_neg h1]
    by_cases h2 : kindP x.o = 2 ∨ kindP x.o = 3
    · rw [if_pos h2]
      unfold valueP
      by_cases k3 : (k == 3) = true
      · rw [if_pos k3]; exact ⟨hx.o, hx.oi, hx.row, hv.clip _, hx.len⟩
      · rw [if_neg k3]
        split <;> exact hx
    · rw [if_neg h2]
      by_cases h4 : kindP x.o = 4
      · rw [if_pos h4]
        have hpb := hx.v.a
        have hmb := hv.a
        unfold u32B at hpb hmb
        unfold flagsP
        by_cases k7 : k = 7
        · rw [if_pos k7]; exact ⟨hx.o, hx.oi, hx.row, ⟨orW_ok _ _ (by omega) (by omega), hx.v.b, hx.v.c, hx.v.d⟩, hx.len⟩
        rw [if_neg k7]
        by_cases k8 : k = 8
        · rw [if_pos k8]; exact ⟨hx.o, hx.oi, hx.row, ⟨nandW_ok _ _ (by omega) (by omega), hx.v.b, hx.v.c, hx.v.d⟩, hx.len⟩
        rw [if_neg k8]
        repeat (split; exact hx)
        exact hx
      · rw [if_neg h4]; exact hx
theorem doP_len (L : List ItemD) (k obj : Int) (v : W4) : (doP L k obj v).1.length = L.length := by
  unfold doP
  split
  · rfl
  · split
    · rfl
    · split
      · rfl
      · simp
theorem doP_ok {L : List ItemD} (k obj : Int) {v : W4} (h : ∀ x, x ∈ L → x.Ok) (hv : v.Ok) : ∀ x, x ∈ (doP L k obj v).1 → x.Ok := by
  unfold doP
  split
  · exact h
  · split
    · exact h
    · split
      · exact h
      · rename_i y hy
        intro x hx
        rcases List.mem_or_eq_of_mem_set hx with hx | rfl
        · exact h x hx
        · exact stepP_ok _ (h y (List.mem_of_getElem? hy)) hv
theorem allowsP_len (L : List ItemD) (k obj : Int) (v : W4) (r : ResD) : (allowsP L k obj v r).1.length = L.length := by
  unfold allowsP
  split
  · exact doP_len L k obj v
  · split <;> rfl
theorem allowsP_ok {L : List ItemD} (k obj : Int) {v : W4} (r : ResD) (h : ∀ x, x ∈ L → x.Ok) (hv : v.Ok) : ∀ x, x ∈ (allowsP L k obj v r).1 → x.Ok := by
  unfold allowsP
  split
  · exact doP_ok k obj h hv
  · split <;> exact h
def startI (o oi : Nat → Int) : ItemD := ⟨o, oi, [], if kindP o = 2 ∨ kindP o = 3 then (W4.mk (oi 0) (oi 1) (oi 2) (oi 3)).clip (o 2).toNat else if kindP o = 4 then ⟨oi 0, 0, 0, 0⟩ else W4.zero⟩
structure ObjOk (p : (Nat → Int) × (Nat → Int)) : Prop where
  o : ∀ j, j < 6 → i64B (p.1 j)
  i : ∀ j, j < 4 → u32B (p.2 j)
theorem startI_ok {p : (Nat → Int) × (Nat → Int)} (h : ObjOk p) : (startI p.1 p.2).Ok := by
  refine ⟨h.o, h.i, (fun v hv => by cases hv), ?_, (by show (0 : Nat) ≤ 64; omega)⟩
  unfold startI
  have h0 := h.i 0 (by omega)
  have h1 := h.i 1 (by omega)
  have h2 := h.i 2 (by omega)
  have h3 := h.i 3 (by omega)
  show (if _ then _ else _ : W4).Ok
  split
  · exact W4.Ok.clip ⟨h0, h1, h2, h3⟩ _
  · split
    · exact ⟨h0, W4.zero_ok.b, W4.zero_ok.c, W4.zero_ok.d⟩
    · exact W4.zero_ok
def startP (Os : List ((Nat → Int) × (Nat → Int))) : List ItemD := Os.map fun p => startI p.1 p.2
theorem startP_ok {Os : List ((Nat → Int) × (Nat → Int))} (h : ∀ p, p ∈ Os → ObjOk p) : ∀ x, x ∈ startP Os → x.Ok := by
  intro x hx
  obtain ⟨p, hp, rfl⟩ := List.mem_map.1 hx
  exact startI_ok (h p hp)
end Go.Proofs.YtkhmfjfclpehfaaGreat
namespace Go.Proofs.YtkhmfjfclpehfaaGreat
open Go.ChangeShapes Go.WideShapes Go.ChangeAt Go.RowKit
set_option linter.unusedVariables false
set_option linter.unusedSimpArgs false
abbrev ObjX := (Nat → Int) × (Nat → Int)
@[reducible] def objL (p : ObjX) : List Value := [.int .i64 (p.1 0), .int .i64 (p.1 1), .int .i64 (p.1 2), .int .i64 (p.1 3), .int .i64 (p.1 4), .int .i64 (p.1 5), .int .u32 (p.2 0), .int .u32 (p.2 1), .int .u32 (p.2 2), .int .u32 (p.2 3)]
structure ObjsArg (w : World) (a : Option Addr) (n : Nat) (O : List ObjX) : Prop where
  len : O.length = n
  ok : ∀ p, p ∈ O → ObjOk p
  lies : 0 < n → ∃ b off, a = some ⟨b, off, none⟩ ∧ b < w.heap.size ∧ ∀ k p, O[k]? = some p → w.rangeAt b (off + k * 10) (objL p)
theorem ObjsArg.below {w w' : World} {a : Option Addr} {n : Nat} {O : List ObjX} (h : ObjsArg w a n O) (hb : Below w.heap.size w w') : ObjsArg w' a n O :=
  ⟨h.len, h.ok, fun hn => by
    obtain ⟨b, off, e, hl, hc⟩ := h.lies hn
    exact ⟨b, off, e, Nat.lt_of_lt_of_le hl hb.size, fun k x hk => range_below (hc k x hk) hb hl⟩⟩
def setsA (cur : Array Value) (o : Nat) : List Value → Array Value
  | [] => cur
  | v :: t => setsA (cur.setIfInBounds o v) (o + 1) t
theorem setsA_size : ∀ (vs : List Value) (cur : Array Value) (o : Nat), (setsA cur o vs).size = cur.size
  | [], _, _ => rfl
  | v :: t, cur, o => by
    show (setsA (cur.setIfInBounds o v) (o + 1) t).size = _
    rw [setsA_size t, Array.size_setIfInBounds]
theorem setsA_out : ∀ (vs : List Value) (cur : Array Value) (o j : Nat), j < o ∨ o + vs.length ≤ j → (setsA cur o vs)[j]? = cur[j]?
  | [], _, _, _, _ => rfl
  | v :: t, cur, o, j, h => by
    show (setsA (cur.setIfInBounds o v) (o + 1) t)[j]? = _
    simp at h
    rw [setsA_out t _ _ _ (by omega), Array.getElem?_setIfInBounds_ne (by omega)]
theorem setsA_in : ∀ (vs : List Value) (cur : Array Value) (o j : Nat) (v : Value), o + vs.length ≤ cur.size → vs[j]? = some v → (setsA cur o vs)[o + j]? = some v
  | [], _, _, j, _, _, h => by cases j <;> cases h
  | x :: t, cur, o, 0, v, hs, h => by
    cases h
    show (setsA (cur.setIfInBounds o x) (o + 1) t)[o + 0]? = _
    simp at hs
    rw [setsA_out t _ _ _ (by omega)]
    exact Array.getElem?_setIfInBounds_self_of_lt (by omega)
  | x :: t, cur, o, j + 1, v, hs, h => by
    show (setsA (cur.setIfInBounds o x) (o + 1) t)[o + (j + 1)]? = _
    simp at hs
    rw [show o + (j + 1) = o + 1 + j by omega]
    exact setsA_in t _ _ j v (by rw [Array.size_setIfInBounds]; omega) h
theorem heap_sets : ∀ (vs : List Value) (o : Nat) (w : World) (b : Nat) (cur : Array Value) (T : TypeId) (fr : Nat × Nat), w.heap[b]? = some (.cells cur T fr) → (w.setCells b o vs).heap[b]? = some (.cells (setsA cur o vs) T fr)
  | [], _, _, _, _, _, _, h => h
  | v :: t, o, w, b, cur, T, fr, h => by
    rw [World.setCells]
    exact heap_sets t (o + 1) _ b _ T fr (heap_set h o v)
theorem Keeps.sets {S : Nat → Prop} {w0 : World} {b : Nat} (hs : S b ∨ w0.heap.size ≤ b) : ∀ (vs : List Value) (o : Nat) (w : World), Keeps S w0 w → Keeps S w0 (w.setCells b o vs)
  | [], _, _, h => h
  | v :: t, o, w, h => by
    rw [World.setCells]
    exact Keeps.sets hs t (o + 1) _ (h.setCell (p := ⟨b, o, Option.none⟩) hs v)
theorem there_of {w : World} {b : Nat} {cur : Array Value} {T : TypeId} (h : w.heap[b]? = some (.cells cur T (0, 0))) (o n : Nat) (hn : o + n ≤ cur.size) : w.there b o n := fun j hj =>
  ⟨by rw [cell_of h (o + j), Array.getElem?_eq_getElem (by omega)]; rfl, free_of h (o + j)⟩
end Go.Proofs.YtkhmfjfclpehfaaGreat
