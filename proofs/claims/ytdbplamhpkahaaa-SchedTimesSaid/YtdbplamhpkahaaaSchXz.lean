import Derived.Test.YtdbplamhpkahaaaRows
import Derived.Test.YtdbplamhpkahaaaKeep
import Derived.WalkKit
import Derived.ProofKit
import Derived.OpenShut
import Derived.WalkLawsBesides
import Derived.WalkSpells
import Derived.Lib.Hide
import Derived.Deep.QuietTactic
import Derived.BigQuiet
import Derived.Test.YtdbplamhpkahaaaSchMz
import Derived.Test.YtdbplamhpkahaaaSchT
import Derived.Test.YtdbplamhpkahaaaSchVz
import Derived.Test.YtdbplamhpkahaaaOpen
namespace Go.Proofs.Ytdbplamhpkahaaa
open Go.ChangeShapes Go.WideShapes Go.ChangeAt Go.RowKit
set_option linter.unusedVariables false
theorem rsame_zero (a b : Option Addr) (c0 c1 : Nat) (w : World) : Calls Try.prog 20 #[.slice a 0 c0, .slice b 0 c1] w fun e w' => e = .returned (.bool true) ∧ Keeps (fun _ => False) w w' := by
  go_enter Try.func20, Try.ntmps20
  go_wp2_with fail
  obtain ⟨wo, rfl⟩ : ∃ wo : World, wo = w := ⟨_, rfl⟩
  go_loopw [5] (fun i wr => i = .int .i64 0 ∧ wr = wo) (fun _ _ => 0)
  case atStart => exact ⟨rfl, rfl⟩
  case round =>
    obtain ⟨rfl, rfl⟩ := hrel
    go_wp2
    go_ret
    exact ⟨rfl, Keeps.refl _ _⟩
theorem rsame_some (g0 o0 g1 o1 n c0 c1 : Nat) (F : Nat → Int) (w : World) (hn : n ≤ maxLen) (h0 : ∀ i, i < n → w.cell? ⟨g0, o0 + i, none⟩ = some (.int .i64 (F i))) (h1 : ∀ i, i < n → w.cell? ⟨g1, o1 + i, none⟩ = some (.int .i64 (F i))) :
    Calls Try.prog 20 #[.slice (some ⟨g0, o0, none⟩) n c0, .slice (some ⟨g1, o1, none⟩) n c1] w fun e w' => e = .returned (.bool true) ∧ Keeps (fun _ => False) w w' := by
  unfold maxLen at hn
  have H0 := Lib.hid h0
  have H1 := Lib.hid h1
  clear h0 h1
  go_enter Try.func20, Try.ntmps20
  go_wp2_with fail
  obtain ⟨wo, rfl⟩ : ∃ wo : World, wo = w := ⟨_, rfl⟩
  go_loopw [5] (fun i wr => ∃ k m : Nat, k ≤ n ∧ i = .int .i64 k ∧ wr = wo.drewN m) (fun i _ => n - (intOf i).toNat)
  case atStart => exact ⟨0, 0, by omega, rfl, rfl⟩
  case round =>
    obtain ⟨k, m, hk, rfl, rfl⟩ := hrel
    by_cases hlt : k < n
    · have c0 : wo.cell? ⟨g0, o0 + k, none⟩ = some (.int .i64 (F k)) := H0.out k hlt
      have c1 : wo.cell? ⟨g1, o1 + k, none⟩ = some (.int .i64 (F k)) := H1.out k hlt
      go_wp2_with fail
      go_quiet (fail)
      go_wp2
      go_roundw
      case rel => exact ⟨k + 1, m + nq, by omega, by go_num, rfl⟩
      case measure => simp [intOf]; omega
    · obtain rfl : k = n := by omega
      go_wp2
      go_ret
      exact ⟨rfl, (Keeps.refl _ _).drewN m⟩
end Go.Proofs.Ytdbplamhpkahaaa
namespace Go.Proofs.Ytdbplamhpkahaaa
open Go.ChangeShapes Go.WideShapes Go.ChangeAt Go.RowKit
set_option linter.unusedVariables false
set_option linter.unusedSimpArgs false
theorem prios_two {W : World} {b : Nat} {x y : Int} (h : W.heap[b]? = some (.cells #[.int .i64 x, .bool false, .slice none 0 0, .int .i64 y, .bool false, .slice none 0 0] 105 (0, 0))) : PriosAt W (some ⟨b, 0, none⟩) 2 [x, y] :=
  ⟨rfl, fun _ => ⟨b, 0, rfl, lt_of h, fun k p hk => by
    have hk0 : k = 0 ∨ k = 1 := by have := (List.getElem?_eq_some_iff.1 hk).1; simp at this; omega
    rcases hk0 with rfl | rfl
    · rw [← Option.some.inj (show some x = some p from hk)]; exact cell_of h 0
    · rw [← Option.some.inj (show some y = some p from hk)]; exact cell_of h 3⟩⟩
theorem told_nil {T : Int → Nat} {l : List Int} (h : ToldN T l) (h0 : ∀ t, T t ≠ 1) : l = [] := List.eq_nil_iff_forall_not_mem.2 fun t ht => h0 t ((h.one t).1 ht)
theorem told_one {T : Int → Nat} {l : List Int} (h : ToldN T l) (a : Int) (h0 : ∀ t, T t = 1 ↔ t = a) : l = [a] := by
  have hm : a ∈ l := (h.one a).2 ((h0 a).2 rfl)
  have hall : ∀ t, t ∈ l → t = a := fun t ht => (h0 t).1 ((h.one t).1 ht)
  have hnd := h.nd
  match l, hm, hall, hnd with
  | [], hm, _, _ => cases hm
  | [x], _, hall, _ => rw [hall x (.head _)]
  | x :: y :: r, _, hall, hnd =>
    have h1 := hall x (.head _)
    have h2 := hall y (.tail _ (.head _))
    exact absurd (List.nodup_cons.1 hnd).1 (by rw [h1, h2]; simp)
def xM1 : ScM := dispM (newM [1, 2])
def xM2 : ScM := dispM (sleepM xM1 1 2)
def xM3 : ScM := tickM xM2 []
def xM4 : ScM := tickM xM3 [1]
theorem xM1_cur : xM1.cur = 1 := by kernel_rfl
theorem xM1_serve : serveM xM1 13 0 0 2 0 = (sleepM xM1 1 2, 0) := by kernel_rfl
theorem xM1_first : firstM (sleepM xM1 1 2) = 0 := by kernel_rfl
theorem xM1_first2 : (firstM (sleepM xM1 1 2) != (sleepM xM1 1 2).cur) = true := by kernel_rfl
theorem xM2_T : xM2.T = fun z => if z = 1 then 2 else 0 := by kernel_rfl
theorem xM4_first : firstM xM4 = 1 := by kernel_rfl
theorem xM4_first2 : (firstM xM4 != xM4.cur) = true := by kernel_rfl
theorem xM2_told {l : List Int} (h : ToldN xM2.T l) : l = [] := told_nil h fun t => by rw [xM2_T]; show (if t = 1 then 2 else 0) ≠ 1; split <;> omega
theorem xM3_told {l : List Int} (h : ToldN xM3.T l) : l = [1] := told_one h 1 fun t => by
  show xM2.T t - 1 = 1 ↔ t = 1
  rw [xM2_T]
  show (if t = 1 then 2 else 0) - 1 = 1 ↔ t = 1
  split <;> omega
end Go.Proofs.Ytdbplamhpkahaaa
namespace Go.Proofs.Ytdbplamhpkahaaa
open Go.ChangeShapes Go.WideShapes Go.ChangeAt Go.RowKit
set_option linter.unusedVariables false
set_option linter.unusedSimpArgs false
set_option maxRecDepth 100000 in
set_option maxHeartbeats 8000000 in
theorem alive27_any (w : World) : Calls Try.prog 50 #[] w fun e w' => e = .returned (.bool true) ∧ Keeps (fun _ => False) w w' := by
  obtain ⟨W0, hW0⟩ : ∃ W0, W0 = w.alloc (.cells #[.int .i64 1, .bool false, .slice none 0 0, .int .i64 2, .bool false, .slice none 0 0] 105) := ⟨_, rfl⟩
  have hk0 : Keeps (fun _ => False) w W0 := by rw [hW0]; exact (Keeps.refl _ w).alloc _
  have hp : PriosAt W0 (some ⟨w.heap.size, 0, none⟩) 2 [1, 2] := prios_two (by rw [hW0]; exact heap_new w _)
  have HN := Lib.hid (snew_any W0 _ 2 2 _ hp (by omega))
  have HK0 := Lib.hid hk0
  rw [hW0] at HN
  clear hk0 hp
  go_enter Try.func50, Try.ntmps50
  go_wp2_with fail
  refine HN.out.mono ?_
  rw [← hW0]
  clear HN hW0
  rintro e w1 ⟨a, rfl, hn, h1, k1⟩
  have H1 := Lib.hid (show ScW w1 (fun k => W0.heap.size ≤ k) a xM1 from h1)
  have HK1 := Lib.hid k1
  have HN := Lib.hid hn
  clear hn h1 k1
  go_wp2_with fail
  refine (current_any w1 _ a _ H1.out).mono ?_
  rw [xM1_cur]
  rintro e w1 ⟨rfl, rfl⟩
  go_wp2_with fail
  refine (serve_any w1 _ a _ H1.out HN.out 13 0 0 2 0 (by omega) (by omega)).mono ?_
  rw [xM1_serve]
  rintro e w2 ⟨rfl, h2, k2⟩
  have H2 := Lib.hid (show ScW w2 (fun k => W0.heap.size ≤ k) a (sleepM xM1 1 2) from h2)
  have HK2 := Lib.hid (keepsF HK1.out k2)
  clear h2 k2 H1 HK1
  go_wp2_with fail
  refine (disp_any w2 _ a _ H2.out).mono ?_
  rw [xM1_first2, xM1_first]
  rintro e w3 ⟨rfl, h3, k3⟩
  have H3 := Lib.hid (show ScW w3 (fun k => W0.heap.size ≤ k) a xM2 from h3)
  have HK3 := Lib.hid (keepsF HK2.out k3)
  clear h3 k3 H2 HK2
  go_wp2_with fail
  refine (stick_any w3 _ a _ H3.out HN.out).mono ?_
  rintro e w4 ⟨v4, l4, rfl, ht4, ho4, h4, k4⟩
  obtain rfl := xM2_told ht4
  obtain ⟨a4, c4, rfl⟩ := owns_slice ho4
  have H4 := Lib.hid (show ScW w4 (fun k => W0.heap.size ≤ k) a xM3 from h4)
  have HK4 := Lib.hid (keepsF HK3.out k4)
  clear h4 k4 H3 HK3 ho4 ht4
  go_wp2_with fail
  refine (stick_any w4 _ a _ H4.out HN.out).mono ?_
  rintro e w5 ⟨v5, l5, rfl, ht5, ho5, h5, k5⟩
  obtain rfl := xM3_told ht5
  obtain ⟨a5, c5, rfl, hcs⟩ := over_cells ho5
  obtain ⟨b5, rfl, hb5, hty5, hc5⟩ := hcs 0 1 rfl
  have H5 := Lib.hid (show ScW w5 (fun k => W0.heap.size ≤ k) a xM4 from h5)
  have HK5 := Lib.hid (keepsF HK4.out k5)
  clear h5 k5 H4 HK4 ho5 ht5 hcs
  go_wp2_with fail
  refine (disp_any w5 _ a _ H5.out).mono ?_
  rw [xM4_first2, xM4_first]
  rintro e w6 ⟨rfl, h6, k6⟩
  have hc6 : w6.cell? ⟨b5, 0, none⟩ = some (.int .i64 1) := (World.cell?_of_block (a := ⟨b5, 0, none⟩) (k6.block b5 hb5 fun e => KeepsTy.apart hty5 (by decide) e.2)).trans hc5
  have hb6 : b5 < w6.heap.size := Nat.lt_of_lt_of_le hb5 k6.size
  have HK6 := Lib.hid (HK0.out.trans (keepsF HK5.out k6))
  clear h6 k6 H5 HK5 hc5 hty5
  go_wp2_with fail
  refine (rsame_some b5 0 w6.heap.size 0 1 c5 1 (fun _ => 1) _ (by unfold maxLen; omega) (fun i hi => ?_) (fun i hi => ?_)).mono ?_
  · obtain rfl : i = 0 := by omega
    exact (World.cell?_of_block (a := ⟨b5, 0, none⟩) (Below.heap_alloc _ _ _ hb6)).trans hc6
  · obtain rfl : i = 0 := by omega
    exact cell_of (heap_new w6 _) 0
  rintro e w7 ⟨rfl, k7⟩
  have HK7 := Lib.hid ((HK6.out.alloc _).trans k7)
  clear k7 HK6
  go_wp2_with fail
  go_ret
  exact ⟨rfl, HK7.out⟩
end Go.Proofs.Ytdbplamhpkahaaa
namespace Go.Proofs.Ytdbplamhpkahaaa
open Go.ChangeShapes Go.WideShapes Go.ChangeAt Go.RowKit
set_option linter.unusedVariables false
set_option linter.unusedSimpArgs false
def yM1 : ScM := dispM (newM [5, 3])
def SM (B : ScM) (s : Int) (m : Nat) (W : List WaitT) (c : Int) : ScM := { leaveM B 0 s with T := fun z => if z = 0 then m else 0, W := W, cur := c }
theorem sm_of {B : ScM} {s : Int} {n : Nat} {W : List WaitT} (hT : (leaveM B 0 s).T = fun _ => 0) (hc : (leaveM B 0 s).cur = 0) (hn : 0 < n) (hb : n ≤ 100) : limitM { leaveM B 0 s with W := W } 0 n = SM B s n W 0 := by
  unfold limitM
  rw [if_neg (by omega)]
  unfold addD
  rw [if_pos ⟨by show (leaveM B 0 s).T _ = 0; rw [hT], hn⟩]
  unfold SM
  have e : (fun z : Int => if z = ((0 : Nat) : Int) then n else (leaveM B 0 s).T z) = fun z => if z = 0 then n else 0 := by
    funext z
    rw [hT]
    rfl
  show ({ leaveM B 0 s with W := W, T := fun z : Int => if z = ((0 : Nat) : Int) then n else (leaveM B 0 s).T z } : ScM) = _
  rw [e, ← hc]
theorem y_cur : yM1.cur = 0 := by kernel_rfl
theorem y_sleep (n : Nat) (hn : 0 < n) (hb : n ≤ 100) : serveM yM1 13 0 0 n 0 = (SM yM1 3 n [] 0, 0) := by
  unfold serveM
  rw [y_cur, if_neg (by decide), if_neg (by decide), if_neg (by decide), if_pos rfl, if_pos hn]
  show (sleepM yM1 0 n, (0 : Int)) = _
  unfold sleepM
  rw [if_pos (show leftM yM1 0 = true by kernel_rfl)]
  have := sm_of (B := yM1) (s := 3) (W := []) (by kernel_rfl) (by kernel_rfl) hn hb
  rw [← this]
  rfl
theorem y_wait {B : ScM} (K : Int) (hl : leftM B 0 = true) (hT : (leaveM B 0 2).T = fun _ => 0) (hc : (leaveM B 0 2).cur = 0) (hW : B.W = []) (n : Nat) (hn : 0 < n) (hb : n ≤ 100) : waitM B 0 K 0 0 n = SM B 2 n [(0, K, 0, 0)] 0 := by
  unfold waitM
  rw [if_pos hl, hW]
  exact sm_of (W := [(0, K, 0, 0)]) hT hc hn hb
theorem y_serve (K : Int) (hK : 14 ≤ K ∧ K ≤ 17) (n : Nat) (hn : 0 < n) (hb : n ≤ 100) : serveM yM1 K 0 0 n 0 = (SM yM1 2 n [(0, K, 0, 0)] 0, 0) := by
  unfold serveM
  rw [y_cur, if_neg (by decide), if_neg (by omega), if_neg (by omega), if_neg (by omega), if_neg (by omega), if_neg (by omega), if_pos (by omega), if_neg (by omega)]
  show (waitM yM1 0 K 0 0 n, (0 : Int)) = _
  rw [y_wait K (by kernel_rfl) (by kernel_rfl) (by kernel_rfl) (by kernel_rfl) n hn hb]
def yB : ScM := clearM yM1 0
theorem y_await (n : Nat) (hn : 0 < n) (hb : n ≤ 100) : serveM yM1 18 0 0 n 0 = (SM yB 2 n [(0, 18, 0, 0)] 0, 0) := by
  unfold serveM
  rw [y_cur, if_neg (by decide), if_neg (by decide), if_neg (by decide), if_neg (by decide), if_neg (by decide), if_pos rfl]
  show (awaitM yM1 0 n, (0 : Int)) = _
  unfold awaitM
  rw [if_neg (show ¬ yM1.bits 0 ≠ 0 from fun h => h (by kernel_rfl)), if_neg (by omega)]
  show (waitM yB 0 18 0 0 n, (0 : Int)) = _
  rw [y_wait 18 (by kernel_rfl) (by kernel_rfl) (by kernel_rfl) (by kernel_rfl) n hn hb]
/-- What the law wants of a state. -/
structure Fit (B : ScM) (s : Int) (W : List WaitT) : Prop where
  many : ∀ m c, (SM B s m W c).many = 2
  st : ∀ m c, (SM B s m W c).st 0 = s
  ans : ∀ m c, (SM B s m W c).ans 0 = none
  first : ∀ m c, firstM (SM B s m W c) = 1
  two : s = 2 ∨ s = 3
  wait : s = 2 → ∃ v, v ∈ W ∧ v.1 = ((0 : Nat) : Int)
  fans : (tickM (SM B s 1 W 1) [0]).ans 0 = some (decide (s = 3), 0, 0)
  ffirst : firstM { tickM (SM B s 1 W 1) [0] with ans := upd (tickM (SM B s 1 W 1) [0]).ans 0 none } = 0
  fmany : (tickM (SM B s 1 W 1) [0]).many = 2
theorem fit3 : Fit yM1 3 [] := ⟨fun m c => by kernel_rfl, fun m c => by kernel_rfl, fun m c => by kernel_rfl, fun m c => by kernel_rfl, .inr rfl, fun h => by omega, by kernel_rfl, by kernel_rfl, by kernel_rfl⟩
theorem fit2 (K : Int) : Fit yM1 2 [(0, K, 0, 0)] := ⟨fun m c => by kernel_rfl, fun m c => by kernel_rfl, fun m c => by kernel_rfl, fun m c => by kernel_rfl, .inl rfl, fun h => ⟨_, .head _, rfl⟩, by kernel_rfl, by kernel_rfl, by kernel_rfl⟩
theorem fitB : Fit yB 2 [(0, 18, 0, 0)] := ⟨fun m c => by kernel_rfl, fun m c => by kernel_rfl, fun m c => by kernel_rfl, fun m c => by kernel_rfl, .inl rfl, fun h => ⟨_, .head _, rfl⟩, by kernel_rfl, by kernel_rfl, by kernel_rfl⟩
theorem sm_tick (B : ScM) (s : Int) (m : Nat) (W : List WaitT) (c : Int) : tickM (SM B s m W c) [] = SM B s (m - 1) W c := by
  have e : (fun t : Int => (if t = 0 then m else 0) - 1) = fun t => if t = 0 then m - 1 else 0 := by
    funext t
    split <;> rfl
  show ({ SM B s m W c with T := fun t : Int => (if t = 0 then m else 0) - 1 } : ScM) = _
  rw [e]
  rfl
theorem sm_told_one {B : ScM} {s : Int} {W : List WaitT} {c : Int} {l : List Int} (h : ToldN (SM B s 1 W c).T l) : l = [0] := told_one h 0 fun t => by
  show (if t = 0 then 1 else 0) = 1 ↔ t = 0
  split <;> omega
theorem sm_told_no {B : ScM} {s : Int} {m : Nat} {W : List WaitT} {c : Int} {l : List Int} (h : ToldN (SM B s m W c).T l) (hm : m ≠ 1) : l = [] := told_nil h fun t => by
  show (if t = 0 then m else 0) ≠ 1
  split <;> omega
theorem wakeS_is {M : ScM} {t : Nat} (hs : M.st t = 2) : (wakeS M t).ans t = some (wokenX M t) ∧ (wakeS M t).st t = 1 ∧ (wakeS M t).many = M.many := by
  unfold wakeS
  have e : ({ endM M t with T := fun z => if z = (t : Int) then 0 else M.T z, W := remW M.W (t : Int) } : ScM).st t = 2 ∧ ({ endM M t with T := fun z => if z = (t : Int) then 0 else M.T z, W := remW M.W (t : Int) } : ScM).many = M.many := by
    unfold endM
    split <;> exact ⟨hs, rfl⟩
  generalize ({ endM M t with T := fun z => if z = (t : Int) then 0 else M.T z, W := remW M.W (t : Int) } : ScM) = M' at e
  unfold resumeM wakeM
  rw [if_pos (.inl e.1), if_pos (.inl e.1)]
  exact ⟨upd_at _ _ _, upd_at _ _ _, e.2⟩
theorem sm_woken (B : ScM) (s : Int) (m : Nat) (W : List WaitT) (c : Int) (hm : m ≠ 0) : ∃ z, wokenX (SM B s m W c) 0 = (true, z, (m : Int)) := by
  have e : (wokenX (SM B s m W c) 0).2.2 = (m : Int) := by
    have e0 : (SM B s m W c).T ((0 : Nat) : Int) = m := rfl
    show (if (SM B s m W c).T ((0 : Nat) : Int) ≠ 0 then (((SM B s m W c).T ((0 : Nat) : Int) : Nat) : Int) else 4294967295) = _
    rw [e0, if_pos hm]
  exact ⟨(wokenX (SM B s m W c) 0).2.1, Prod.ext rfl (Prod.ext rfl e)⟩
theorem cleared {M : ScM} {t : Nat} (h : M.ans t = none) : ({ M with ans := upd M.ans t none } : ScM) = M := by
  rw [← h, upd_same]
theorem u32_in {x : Int} (h0 : 0 ≤ x) (h1 : x ≤ 1000) : IntKind.u32.wrap x = x := by simp [IntKind.wrap, IntKind.signed, IntKind.bits]; omega
end Go.Proofs.Ytdbplamhpkahaaa
namespace Go.Proofs.Ytdbplamhpkahaaa
open Go.ChangeShapes Go.WideShapes Go.ChangeAt Go.RowKit
set_option linter.unusedVariables false
set_option linter.unusedSimpArgs false
set_option maxRecDepth 100000 in
set_option maxHeartbeats 16000000 in
theorem stimes_out (w : World) (k wake : Int) (n : Nat) (h : k < 13 ∨ 18 < k ∨ n < 1 ∨ 100 < n) :
    Calls Try.prog 10 #[.int .i64 k, .int .u32 (n : Int), .int .i64 wake] w fun e w' => e = .returned (.bool true) ∧ Below w.heap.size w w' := by
  have HAL := Lib.hid (alive27_any w)
  have fin : ∀ (e : Ending) (w' : World), (e = .returned (.bool true) ∧ Keeps (fun _ => False) w w') → (e = .returned (.bool true) ∧ Below w.heap.size w w') := fun e w' h => ⟨h.1, h.2.none⟩
  have HFIN := Lib.hid fin
  clear fin
  by_cases c0 : k < 13
  · have d0 : decide (k < 13) = true := decide_eq_true c0
    clear h
    go_enter Try.func10, Try.ntmps10
    go_wp2_with fail
    refine HAL.out.mono ?_
    rintro e w1 ⟨rfl, k1⟩
    go_wp2_with fail
    go_ret
    exact ⟨rfl, k1.none⟩
  have d0 : decide (k < 13) = false := decide_eq_false c0
  by_cases c1 : 18 < k
  · have d1 : decide (18 < k) = true := decide_eq_true c1
    clear h
    go_enter Try.func10, Try.ntmps10
    go_wp2_with fail
    refine HAL.out.mono ?_
    rintro e w1 ⟨rfl, k1⟩
    go_wp2_with fail
    go_ret
    exact ⟨rfl, k1.none⟩
  have d1 : decide (18 < k) = false := decide_eq_false c1
  by_cases c2 : n < 1
  · have d2 : decide (n < 1) = true := decide_eq_true c2
    have d2' : decide ((n : Int) < 1) = true := decide_eq_true (by omega)
    clear h
    go_enter Try.func10, Try.ntmps10
    go_wp2_with fail
    refine HAL.out.mono ?_
    rintro e w1 ⟨rfl, k1⟩
    go_wp2_with fail
    go_ret
    exact ⟨rfl, k1.none⟩
  have d2 : decide (n < 1) = false := decide_eq_false c2
  have d2' : decide ((n : Int) < 1) = false := decide_eq_false (by omega)
  have c3 : 100 < n := by omega
  have d3 : decide (100 < n) = true := decide_eq_true c3
  have d3' : decide ((100 : Int) < (n : Int)) = true := decide_eq_true (by omega)
  clear h
  go_enter Try.func10, Try.ntmps10
  go_wp2_with fail
  refine HAL.out.mono ?_
  rintro e w1 ⟨rfl, k1⟩
  go_wp2_with fail
  go_ret
  exact ⟨rfl, k1.none⟩
set_option maxRecDepth 100000 in
set_option maxHeartbeats 16000000 in
theorem stimes_sleep (w : World) (k wake : Int) (hK : k = 13) (n : Nat) (hn1 : 1 ≤ n) (hn2 : n ≤ 100) (B : ScM) (s : Int) (hs : s = 3) (W : List WaitT) (hf : Fit B s W) (hser : serveM yM1 k 0 0 n 0 = (SM B s n W 0, 0)) :
    Calls Try.prog 10 #[.int .i64 k, .int .u32 (n : Int), .int .i64 wake] w fun e w' => e = .returned (.bool true) ∧ Below w.heap.size w w' := by
  obtain ⟨W0, hW0⟩ : ∃ W0, W0 = w.alloc (.cells #[.int .i64 5, .bool false, .slice none 0 0, .int .i64 3, .bool false, .slice none 0 0] 105) := ⟨_, rfl⟩
  have hk0 : Keeps (fun _ => False) w W0 := by rw [hW0]; exact (Keeps.refl _ w).alloc _
  have hp : PriosAt W0 (some ⟨w.heap.size, 0, none⟩) 2 [5, 3] := prios_two (by rw [hW0]; exact heap_new w _)
  have HNW := Lib.hid (snew_any W0 _ 2 2 _ hp (by omega))
  have HK0 := Lib.hid hk0
  have HW0 := Lib.hid hW0
  have HF := Lib.hid hf
  have HSV := Lib.hid hser
  have HSS := Lib.hid hs
  rw [hW0] at HNW
  have d0 : decide (k < 13) = false := decide_eq_false (by omega)
  have d1 : decide (18 < k) = false := decide_eq_false (by omega)
  have d2 : decide (n < 1) = false := decide_eq_false (by omega)
  have d2' : decide ((n : Int) < 1) = false := decide_eq_false (by omega)
  have d3 : decide (100 < n) = false := decide_eq_false (by omega)
  have d3' : decide ((100 : Int) < (n : Int)) = false := decide_eq_false (by omega)
  have ks : (s == 1) = false := beq_eq_false_iff_ne.2 (by omega)
  have kn : (k != 13) = false := by rw [hK]; rfl
  have kn' : (k == 13) = true := by rw [hK]; rfl
  clear hk0 hp hf hser hs hW0 hK
  go_enter Try.func10, Try.ntmps10
  go_wp2_with fail
  refine HNW.out.mono ?_
  rw [← HW0.out]
  clear HNW
  rintro e w1 ⟨a, rfl, hn, h1, k1⟩
  have H1 := Lib.hid (show ScW w1 (fun k => W0.heap.size ≤ k) a yM1 from h1)
  have HK1 := Lib.hid k1
  have HN2 := Lib.hid (show a.n = 2 from hn.trans (by kernel_rfl))
  clear hn h1 k1
  go_wp2_with fail
  refine (serve_any w1 _ a _ H1.out (HN2.out.trans (by kernel_rfl)) k 0 0 n 0 (by omega) (by omega)).mono ?_
  rw [HSV.out]
  rintro e w2 ⟨rfl, h2, k2⟩
  have H2 := Lib.hid h2
  have HK2 := Lib.hid (keepsF HK1.out k2)
  clear h2 k2 H1 HK1
  have hst := state_has w2 _ a _ H2.out (HN2.out.trans (HF.out.many _ _).symm) 0 (by rw [HF.out.many]; omega)
  rw [HF.out.st] at hst
  have HST := Lib.hid hst
  clear hst
  go_wp2_with fail
  refine HST.out.mono ?_
  rintro e w2' ⟨rfl, rfl⟩
  clear HST
  go_wp2_with fail
  refine (disp_any w2 _ a _ H2.out).mono ?_
  rw [HF.out.first]
  rintro e w3 ⟨rfl, h3, k3⟩
  have H3 := Lib.hid (show ScW w3 (fun k => W0.heap.size ≤ k) a (SM B s n W 1) from h3.same (by unfold dispM; rw [HF.out.first]; rfl))
  have HK3 := Lib.hid (keepsF HK2.out k3)
  rw [show (SM B s n W 0).cur = 0 from rfl, show ((1 : Int) != 0) = true from rfl]
  clear h3 k3 H2 HK2
  go_wp2_with fail
  go_loopw [10] (fun v wr => ∃ i : Nat, 1 ≤ i ∧ i ≤ n + 1 ∧ v = .int .i64 (i : Int) ∧ (i ≤ n → ScW wr (fun k => W0.heap.size ≤ k) a (SM B s (n + 1 - i) W 1)) ∧ (i = n + 1 → ScW wr (fun k => W0.heap.size ≤ k) a (tickM (SM B s 1 W 1) [0])) ∧ Keeps (fun _ => False) W0 wr) (fun v _ => n + 1 - (intOf v).toNat)
  case atStart => exact ⟨1, by omega, by omega, rfl, fun _ => H3.out, fun h => by omega, HK3.out⟩
  case round =>
    obtain ⟨i, hi1, hi2, rfl, hS, hE, hK⟩ := hrel
    by_cases hin : i ≤ n
    · have hS' := hS hin
      have HX := Lib.hid hS'
      have HKX := Lib.hid hK
      have HN := Lib.hid (show a.n = (SM B s (n + 1 - i) W 1).many from HN2.out.trans (HF.out.many _ _).symm)
      have c1 : decide ((i : Int) ≤ (n : Int)) = true := decide_eq_true (by omega)
      have c1' : decide (i ≤ n) = true := decide_eq_true hin
      clear hS hE hK hS'
      by_cases hwk : wake = (i : Int)
      · obtain rfl := hwk
        have HM0 := Lib.hid (show 0 < (SM B s (n + 1 - i) W 1).many by rw [HF.out.many]; omega)
        have HWK := Lib.hid (swake_no wr _ a _ HX.out HN.out 0 HM0.out (by rw [HF.out.st, HSS.out]; omega))
        go_wp2_with fail
        refine HWK.out.mono ?_
        rintro e wr' ⟨rfl, rfl⟩
        go_wp2_with fail
        refine (staken_none wr _ a _ HX.out HN.out 0 HM0.out (HF.out.ans _ _)).mono ?_
        rintro e w4 ⟨rfl, h4, k4⟩
        have hA : Keeps (fun _ => False) w4 (w4.alloc (.cells #[.bool false, .int .u32 0, .int .u32 0] 75)) := (Keeps.refl _ w4).alloc _
        have hX4 := (h4.same (cleared (HF.out.ans _ _))).quiet hA
        have hKX4 := (keepsF HKX.out k4).trans hA
        clear HX HKX HWK h4 k4
        have HX := Lib.hid hX4
        have HKX := Lib.hid hKX4
        clear hX4 hKX4 hA
        go_wp2_with fail
        refine (stick_any _ _ a _ HX.out HN.out).mono ?_
        rintro e w5 ⟨v5, l5, rfl, ht5, ho5, h5, k5⟩
        have HK5 := Lib.hid (keepsF HKX.out k5)
        clear k5 HX HKX
        rcases (by omega : i = n ∨ i < n) with hin | hin
        · have hm1 : n + 1 - i = 1 := by omega
          rw [hm1] at ht5 h5
          obtain rfl := sm_told_one ht5
          obtain ⟨a5, c5, rfl⟩ := owns_slice ho5
          have H5 := Lib.hid h5
          have b1 : ((i : Int) == (n : Int)) = true := beq_iff_eq.2 (by omega)
          have b1' : (i == n) = true := beq_iff_eq.2 hin
          have HI := Lib.hid hin
          clear h5 ht5 ho5 hin hm1
          go_wp2_with fail
          go_roundw
          case rel => exact ⟨i + 1, by omega, by have := HI.out; omega, by go_num, (fun h => by have := HI.out; omega), (fun _ => H5.out), HK5.out⟩
          case measure => simp [intOf]; omega
        · have hm1 : n + 1 - i ≠ 1 := by omega
          obtain rfl := sm_told_no ht5 hm1
          rw [sm_tick] at h5
          obtain ⟨a5, c5, rfl⟩ := owns_slice ho5
          have H5 := Lib.hid (show ScW w5 (fun k => W0.heap.size ≤ k) a (SM B s (n + 1 - (i + 1)) W 1) from h5.same (by rw [show n + 1 - i - 1 = n + 1 - (i + 1) by omega]))
          have b1 : ((i : Int) == (n : Int)) = false := beq_eq_false_iff_ne.2 (by omega)
          have b1' : (i == n) = false := beq_eq_false_iff_ne.2 (by omega)
          have HI := Lib.hid hin
          clear h5 ht5 ho5 hin hm1
          go_wp2_with fail
          go_roundw
          case rel => exact ⟨i + 1, by omega, by have := HI.out; omega, by go_num, (fun _ => H5.out), (fun h => by have := HI.out; omega), HK5.out⟩
          case measure => simp [intOf]; omega
      · have w1b : (wake == (i : Int)) = false := beq_eq_false_iff_ne.2 hwk
        have w1c : (wake = (i : Int)) = False := eq_false hwk
        go_wp2_with fail
        refine (stick_any _ _ a _ HX.out HN.out).mono ?_
        rintro e w5 ⟨v5, l5, rfl, ht5, ho5, h5, k5⟩
        have HK5 := Lib.hid (keepsF HKX.out k5)
        clear k5 HX HKX
        rcases (by omega : i = n ∨ i < n) with hin | hin
        · have hm1 : n + 1 - i = 1 := by omega
          rw [hm1] at ht5 h5
          obtain rfl := sm_told_one ht5
          obtain ⟨a5, c5, rfl⟩ := owns_slice ho5
          have H5 := Lib.hid h5
          have b1 : ((i : Int) == (n : Int)) = true := beq_iff_eq.2 (by omega)
          have b1' : (i == n) = true := beq_iff_eq.2 hin
          have HI := Lib.hid hin
          clear h5 ht5 ho5 hin hm1
          go_wp2_with fail
          go_roundw
          case rel => exact ⟨i + 1, by omega, by have := HI.out; omega, by go_num, (fun h => by have := HI.out; omega), (fun _ => H5.out), HK5.out⟩
          case measure => simp [intOf]; omega
        · have hm1 : n + 1 - i ≠ 1 := by omega
          obtain rfl := sm_told_no ht5 hm1
          rw [sm_tick] at h5
          obtain ⟨a5, c5, rfl⟩ := owns_slice ho5
          have H5 := Lib.hid (show ScW w5 (fun k => W0.heap.size ≤ k) a (SM B s (n + 1 - (i + 1)) W 1) from h5.same (by rw [show n + 1 - i - 1 = n + 1 - (i + 1) by omega]))
          have b1 : ((i : Int) == (n : Int)) = false := beq_eq_false_iff_ne.2 (by omega)
          have b1' : (i == n) = false := beq_eq_false_iff_ne.2 (by omega)
          have HI := Lib.hid hin
          clear h5 ht5 ho5 hin hm1
          go_wp2_with fail
          go_roundw
          case rel => exact ⟨i + 1, by omega, by have := HI.out; omega, by go_num, (fun _ => H5.out), (fun h => by have := HI.out; omega), HK5.out⟩
          case measure => simp [intOf]; omega

    · obtain rfl : i = n + 1 := by omega
      have HX := Lib.hid (hE rfl)
      have HKX := Lib.hid hK
      have c1 : decide (((n + 1 : Nat) : Int) ≤ (n : Int)) = false := decide_eq_false (by omega)
      have c1' : decide (n + 1 ≤ n) = false := decide_eq_false (by omega)
      have c1'' : decide ((n : Int) + 1 ≤ (n : Int)) = false := decide_eq_false (by omega)
      have HNF := Lib.hid (show a.n = (tickM (SM B s 1 W 1) [0]).many from HN2.out.trans HF.out.fmany.symm)
      have hd : decide (s = 3) = true := decide_eq_true HSS.out
      have hfa := HF.out.fans
      rw [hd] at hfa
      have HFA := Lib.hid hfa
      clear hS hE hK hd hfa
      go_wp2_with fail
      refine (staken_some wr _ a _ HX.out HNF.out 0 (by rw [HF.out.fmany]; omega) true 0 0 HFA.out).mono ?_
      rintro e w5 ⟨rfl, h5, k5⟩
      have hA : Keeps (fun _ => False) w5 (w5.alloc (.cells #[.bool true, .int .u32 0, .int .u32 0] 75)) := (Keeps.refl _ w5).alloc _
      have hdi := disp_any _ _ a _ (h5.quiet hA)
      rw [HF.out.ffirst] at hdi
      have HDI := Lib.hid hdi
      have HNO := Lib.hid (fun W' (k : KeepsS (fun k => W0.heap.size ≤ k) (w5.alloc (.cells #[.bool true, .int .u32 0, .int .u32 0] 75)) W') => k.at (heap_new w5 _) (by decide))
      have HK6 := Lib.hid ((keepsF HKX.out k5).trans hA)
      clear h5 k5 hA hdi HX HKX
      go_wp2_with fail
      refine HDI.out.mono ?_
      rintro e w7 ⟨rfl, h7, k7⟩
      have b7 := HNO.out w7 k7
      have y0 := cell_of b7 0
      simp only [List.getElem?_toArray, List.getElem?_cons_zero, List.getElem?_cons_succ] at y0
      have HK7 := Lib.hid (keepsF HK6.out k7)
      clear h7 k7 HDI HNO b7
      go_wp2_with fail
      refine (alive27_any _).mono ?_
      rintro e w8 ⟨rfl, k8⟩
      have HK8 := Lib.hid (HK7.out.trans k8)
      clear k8
      go_wp2_with fail
      go_ret
      exact ⟨rfl, (HK0.out.trans HK8.out).none⟩
set_option maxRecDepth 100000 in
set_option maxHeartbeats 16000000 in
theorem stimes_wait (w : World) (k wake : Int) (hK : 14 ≤ k ∧ k ≤ 18) (n : Nat) (hn1 : 1 ≤ n) (hn2 : n ≤ 100) (B : ScM) (s : Int) (hs : s = 2) (W : List WaitT) (hf : Fit B s W) (hser : serveM yM1 k 0 0 n 0 = (SM B s n W 0, 0)) :
    Calls Try.prog 10 #[.int .i64 k, .int .u32 (n : Int), .int .i64 wake] w fun e w' => e = .returned (.bool true) ∧ Below w.heap.size w w' := by
  obtain ⟨W0, hW0⟩ : ∃ W0, W0 = w.alloc (.cells #[.int .i64 5, .bool false, .slice none 0 0, .int .i64 3, .bool false, .slice none 0 0] 105) := ⟨_, rfl⟩
  have hk0 : Keeps (fun _ => False) w W0 := by rw [hW0]; exact (Keeps.refl _ w).alloc _
  have hp : PriosAt W0 (some ⟨w.heap.size, 0, none⟩) 2 [5, 3] := prios_two (by rw [hW0]; exact heap_new w _)
  have HNW := Lib.hid (snew_any W0 _ 2 2 _ hp (by omega))
  have HK0 := Lib.hid hk0
  have HW0 := Lib.hid hW0
  have HF := Lib.hid hf
  have HSV := Lib.hid hser
  have HSS := Lib.hid hs
  rw [hW0] at HNW
  have d0 : decide (k < 13) = false := decide_eq_false (by omega)
  have d1 : decide (18 < k) = false := decide_eq_false (by omega)
  have d2 : decide (n < 1) = false := decide_eq_false (by omega)
  have d2' : decide ((n : Int) < 1) = false := decide_eq_false (by omega)
  have d3 : decide (100 < n) = false := decide_eq_false (by omega)
  have d3' : decide ((100 : Int) < (n : Int)) = false := decide_eq_false (by omega)
  have ks : (s == 1) = false := beq_eq_false_iff_ne.2 (by omega)
  have kn : (k != 13) = true := bne_iff_ne.2 (by omega)
  have kn' : (k == 13) = false := beq_eq_false_iff_ne.2 (by omega)
  clear hk0 hp hf hser hs hW0 hK
  go_enter Try.func10, Try.ntmps10
  go_wp2_with fail
  refine HNW.out.mono ?_
  rw [← HW0.out]
  clear HNW
  rintro e w1 ⟨a, rfl, hn, h1, k1⟩
  have H1 := Lib.hid (show ScW w1 (fun k => W0.heap.size ≤ k) a yM1 from h1)
  have HK1 := Lib.hid k1
  have HN2 := Lib.hid (show a.n = 2 from hn.trans (by kernel_rfl))
  clear hn h1 k1
  go_wp2_with fail
  refine (serve_any w1 _ a _ H1.out (HN2.out.trans (by kernel_rfl)) k 0 0 n 0 (by omega) (by omega)).mono ?_
  rw [HSV.out]
  rintro e w2 ⟨rfl, h2, k2⟩
  have H2 := Lib.hid h2
  have HK2 := Lib.hid (keepsF HK1.out k2)
  clear h2 k2 H1 HK1
  have hst := state_has w2 _ a _ H2.out (HN2.out.trans (HF.out.many _ _).symm) 0 (by rw [HF.out.many]; omega)
  rw [HF.out.st] at hst
  have HST := Lib.hid hst
  clear hst
  go_wp2_with fail
  refine HST.out.mono ?_
  rintro e w2' ⟨rfl, rfl⟩
  clear HST
  go_wp2_with fail
  refine (disp_any w2 _ a _ H2.out).mono ?_
  rw [HF.out.first]
  rintro e w3 ⟨rfl, h3, k3⟩
  have H3 := Lib.hid (show ScW w3 (fun k => W0.heap.size ≤ k) a (SM B s n W 1) from h3.same (by unfold dispM; rw [HF.out.first]; rfl))
  have HK3 := Lib.hid (keepsF HK2.out k3)
  rw [show (SM B s n W 0).cur = 0 from rfl, show ((1 : Int) != 0) = true from rfl]
  clear h3 k3 H2 HK2
  go_wp2_with fail
  go_loopw [10] (fun v wr => ∃ i : Nat, 1 ≤ i ∧ i ≤ n + 1 ∧ v = .int .i64 (i : Int) ∧ (i ≤ n → ScW wr (fun k => W0.heap.size ≤ k) a (SM B s (n + 1 - i) W 1)) ∧ (i = n + 1 → ScW wr (fun k => W0.heap.size ≤ k) a (tickM (SM B s 1 W 1) [0])) ∧ Keeps (fun _ => False) W0 wr) (fun v _ => n + 1 - (intOf v).toNat)
  case atStart => exact ⟨1, by omega, by omega, rfl, fun _ => H3.out, fun h => by omega, HK3.out⟩
  case round =>
    obtain ⟨i, hi1, hi2, rfl, hS, hE, hK⟩ := hrel
    by_cases hin : i ≤ n
    · have hS' := hS hin
      have HX := Lib.hid hS'
      have HKX := Lib.hid hK
      have HN := Lib.hid (show a.n = (SM B s (n + 1 - i) W 1).many from HN2.out.trans (HF.out.many _ _).symm)
      have c1 : decide ((i : Int) ≤ (n : Int)) = true := decide_eq_true (by omega)
      have c1' : decide (i ≤ n) = true := decide_eq_true hin
      clear hS hE hK hS'
      by_cases hwk : wake = (i : Int)
      · obtain rfl := hwk
        have HM0 := Lib.hid (show 0 < (SM B s (n + 1 - i) W 1).many by rw [HF.out.many]; omega)
        have hsw := wakeS_is (M := SM B s (n + 1 - i) W 1) (t := 0) (by rw [HF.out.st, HSS.out])
        obtain ⟨z, hz⟩ := sm_woken B s (n + 1 - i) W 1 (by omega)
        rw [hz] at hsw
        have HSW := Lib.hid hsw
        have HWK := Lib.hid (swake_yes wr _ a _ HX.out HN.out 0 HM0.out (by rw [HF.out.st, HSS.out]) (HF.out.wait HSS.out))
        have u1 : IntKind.u32.wrap (i : Int) = (i : Int) := u32_in (by omega) (by omega)
        have u2 : IntKind.u32.wrap ((n : Int) - (i : Int)) = (n : Int) - (i : Int) := u32_in (by omega) (by omega)
        have u3 : IntKind.u32.wrap ((n : Int) - (i : Int) + 1) = ((n + 1 - i : Nat) : Int) := by rw [u32_in (by omega) (by omega)]; omega
        clear hsw hz
        go_wp2_with fail
        refine HWK.out.mono ?_
        rintro e w4 ⟨rfl, h4, k4⟩
        have H4 := Lib.hid h4
        have HK4 := Lib.hid (keepsF HKX.out k4)
        clear h4 k4 HWK HX HKX
        go_wp2_with fail
        refine (staken_some w4 _ a _ H4.out (HN.out.trans HSW.out.2.2.symm) 0 (by rw [HSW.out.2.2]; exact HM0.out) true z _ HSW.out.1).mono ?_
        rintro e w5 ⟨rfl, h5, k5⟩
        have hA : Keeps (fun _ => False) w5 (w5.alloc (.cells #[.bool true, .int .u32 z, .int .u32 ((n + 1 - i : Nat) : Int)] 75)) := (Keeps.refl _ w5).alloc _
        have hst6 := state_has _ _ a _ (h5.quiet hA) (HN.out.trans HSW.out.2.2.symm) 0 (by show 0 < (wakeS (SM B s (n + 1 - i) W 1) 0).many; rw [HSW.out.2.2]; exact HM0.out)
        rw [show ({ wakeS (SM B s (n + 1 - i) W 1) 0 with ans := upd (wakeS (SM B s (n + 1 - i) W 1) 0).ans 0 none } : ScM).st 0 = 1 from HSW.out.2.1] at hst6
        have HST6 := Lib.hid hst6
        have HK6 := Lib.hid ((keepsF HK4.out k5).trans hA)
        clear h5 k5 hA hst6 H4 HK4
        go_wp2_with fail
        refine HST6.out.mono ?_
        rintro e w6' ⟨rfl, rfl⟩
        go_wp2_with fail
        refine (alive27_any _).mono ?_
        rintro e w7 ⟨rfl, k7⟩
        have HK7 := Lib.hid (HK6.out.trans k7)
        clear k7 HK6 HST6
        go_wp2_with fail
        try simp only [Exit.jump]
        go_ret
        exact ⟨rfl, (HK0.out.trans HK7.out).none⟩
      · have w1b : (wake == (i : Int)) = false := beq_eq_false_iff_ne.2 hwk
        have w1c : (wake = (i : Int)) = False := eq_false hwk
        go_wp2_with fail
        refine (stick_any _ _ a _ HX.out HN.out).mono ?_
        rintro e w5 ⟨v5, l5, rfl, ht5, ho5, h5, k5⟩
        have HK5 := Lib.hid (keepsF HKX.out k5)
        clear k5 HX HKX
        rcases (by omega : i = n ∨ i < n) with hin | hin
        · have hm1 : n + 1 - i = 1 := by omega
          rw [hm1] at ht5 h5
          obtain rfl := sm_told_one ht5
          obtain ⟨a5, c5, rfl⟩ := owns_slice ho5
          have H5 := Lib.hid h5
          have b1 : ((i : Int) == (n : Int)) = true := beq_iff_eq.2 (by omega)
          have b1' : (i == n) = true := beq_iff_eq.2 hin
          have HI := Lib.hid hin
          clear h5 ht5 ho5 hin hm1
          go_wp2_with fail
          go_roundw
          case rel => exact ⟨i + 1, by omega, by have := HI.out; omega, by go_num, (fun h => by have := HI.out; omega), (fun _ => H5.out), HK5.out⟩
          case measure => simp [intOf]; omega
        · have hm1 : n + 1 - i ≠ 1 := by omega
          obtain rfl := sm_told_no ht5 hm1
          rw [sm_tick] at h5
          obtain ⟨a5, c5, rfl⟩ := owns_slice ho5
          have H5 := Lib.hid (show ScW w5 (fun k => W0.heap.size ≤ k) a (SM B s (n + 1 - (i + 1)) W 1) from h5.same (by rw [show n + 1 - i - 1 = n + 1 - (i + 1) by omega]))
          have b1 : ((i : Int) == (n : Int)) = false := beq_eq_false_iff_ne.2 (by omega)
          have b1' : (i == n) = false := beq_eq_false_iff_ne.2 (by omega)
          have HI := Lib.hid hin
          clear h5 ht5 ho5 hin hm1
          go_wp2_with fail
          go_roundw
          case rel => exact ⟨i + 1, by omega, by have := HI.out; omega, by go_num, (fun _ => H5.out), (fun h => by have := HI.out; omega), HK5.out⟩
          case measure => simp [intOf]; omega

    · obtain rfl : i = n + 1 := by omega
      have HX := Lib.hid (hE rfl)
      have HKX := Lib.hid hK
      have c1 : decide (((n + 1 : Nat) : Int) ≤ (n : Int)) = false := decide_eq_false (by omega)
      have c1' : decide (n + 1 ≤ n) = false := decide_eq_false (by omega)
      have c1'' : decide ((n : Int) + 1 ≤ (n : Int)) = false := decide_eq_false (by omega)
      have HNF := Lib.hid (show a.n = (tickM (SM B s 1 W 1) [0]).many from HN2.out.trans HF.out.fmany.symm)
      have hd : decide (s = 3) = false := decide_eq_false (by rw [HSS.out]; decide)
      have hfa := HF.out.fans
      rw [hd] at hfa
      have HFA := Lib.hid hfa
      clear hS hE hK hd hfa
      go_wp2_with fail
      refine (staken_some wr _ a _ HX.out HNF.out 0 (by rw [HF.out.fmany]; omega) false 0 0 HFA.out).mono ?_
      rintro e w5 ⟨rfl, h5, k5⟩
      have hA : Keeps (fun _ => False) w5 (w5.alloc (.cells #[.bool false, .int .u32 0, .int .u32 0] 75)) := (Keeps.refl _ w5).alloc _
      have hdi := disp_any _ _ a _ (h5.quiet hA)
      rw [HF.out.ffirst] at hdi
      have HDI := Lib.hid hdi
      have HNO := Lib.hid (fun W' (k : KeepsS (fun k => W0.heap.size ≤ k) (w5.alloc (.cells #[.bool false, .int .u32 0, .int .u32 0] 75)) W') => k.at (heap_new w5 _) (by decide))
      have HK6 := Lib.hid ((keepsF HKX.out k5).trans hA)
      clear h5 k5 hA hdi HX HKX
      go_wp2_with fail
      refine HDI.out.mono ?_
      rintro e w7 ⟨rfl, h7, k7⟩
      have b7 := HNO.out w7 k7
      have y0 := cell_of b7 0
      simp only [List.getElem?_toArray, List.getElem?_cons_zero, List.getElem?_cons_succ] at y0
      have HK7 := Lib.hid (keepsF HK6.out k7)
      clear h7 k7 HDI HNO b7
      go_wp2_with fail
      refine (alive27_any _).mono ?_
      rintro e w8 ⟨rfl, k8⟩
      have HK8 := Lib.hid (HK7.out.trans k8)
      clear k8
      go_wp2_with fail
      go_ret
      exact ⟨rfl, (HK0.out.trans HK8.out).none⟩
set_option maxRecDepth 100000 in
theorem schedTimes_walk {H : Type} {enc : TypeId × Value → H} (W : World) (base : Nat) {v0 v1 v2 : Value} {d0 d1 d2 : DataW H} {p0 p1 p2 : List MemPlace}
    (k0 : Value.okWide Try.prog W .any base 3 v0) (h0 : DataW.Trod enc Try.prog W 0 (fun _ => true) true 3 v0 d0 p0)
    (k1 : Value.okWide Try.prog W .any base 30 v1) (h1 : DataW.Trod enc Try.prog W 0 (fun _ => true) true 30 v1 d1 p1)
    (k2 : Value.okWide Try.prog W .any base 3 v2) (h2 : DataW.Trod enc Try.prog W 0 (fun _ => true) true 3 v2 d2 p2) :
    Calls Try.prog 10 #[v0, v1, v2] W fun e w' => e = .returned (.bool true) ∧ Below W.heap.size W w' := by
  obtain ⟨k, rfl⟩ := okWide_int Try.underlying3 k0
  obtain ⟨vv, rfl⟩ := okWide_int Try.underlying30 k1
  obtain ⟨wake, rfl⟩ := okWide_int Try.underlying3 k2
  obtain ⟨x, hx, hxw⟩ := (reads_of h1).int Try.underlying30
  simp [Value.cells] at hx
  subst hx
  have hvb := bounds_u32 hxw
  obtain ⟨n, rfl⟩ := Int.eq_ofNat_of_zero_le hvb.1
  by_cases ho : k < 13 ∨ 18 < k ∨ n < 1 ∨ 100 < n
  · exact stimes_out W k wake n ho
  · rcases (by omega : k = 13 ∨ (14 ≤ k ∧ k ≤ 17) ∨ k = 18) with hk | hk | hk
    · exact stimes_sleep W k wake hk n (by omega) (by omega) yM1 3 rfl [] fit3 (by rw [hk]; exact y_sleep n (by omega) (by omega))
    · exact stimes_wait W k wake (by omega) n (by omega) (by omega) yM1 2 rfl _ (fit2 k) (y_serve k hk n (by omega) (by omega))
    · exact stimes_wait W k wake (by omega) n (by omega) (by omega) yB 2 rfl _ fitB (by rw [hk]; exact y_await n (by omega) (by omega))
end Go.Proofs.Ytdbplamhpkahaaa
