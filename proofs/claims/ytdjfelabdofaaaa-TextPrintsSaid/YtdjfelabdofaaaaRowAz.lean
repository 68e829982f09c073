import Derived.Test.YtdjfelabdofaaaaNumAz
import Derived.Test.YtdjfelabdofaaaaShelf
import Derived.Test.YtdjfelabdofaaaaNumHa
import Derived.Test.YtdjfelabdofaaaaScopeIn
import Derived.Test.YtdjfelabdofaaaaAppRun
import Derived.Maps.AppendAt
import Derived.Handy
import Derived.Deep.Onto
namespace Go.Proofs.Ytdjfelabdofaaaa
open Go.ChangeShapes Go.WideShapes Go.ChangeAt Go.RowKit
set_option linter.unusedVariables false
set_option linter.unusedSimpArgs false
/-- A text cut at the first byte c: what is ahead of it, what is behind it. -/
def cutAt (c : UInt8) : List UInt8 → List UInt8 × List UInt8
  | [] => ([], [])
  | x :: t => if x = c then ([], t) else (x :: (cutAt c t).1, (cutAt c t).2)
theorem cutAt_cases (c : UInt8) : ∀ l : List UInt8, (Lib.indexByte l c = -1 ∧ cutAt c l = (l, []) ∧ c ∉ l) ∨ (∃ p q, l = p ++ c :: q ∧ Lib.indexByte l c = (p.length : Int) ∧ cutAt c l = (p, q) ∧ c ∉ p)
  | [] => .inl ⟨rfl, rfl, by simp⟩
  | x :: t => by
    by_cases h : x = c
    · subst h
      refine .inr ⟨[], t, rfl, ?_, ?_, by simp⟩
      · unfold Lib.indexByte; simp
      · unfold cutAt; simp
    · have hb : (x == c) = false := by simpa using h
      rcases cutAt_cases c t with ⟨h1, h2, h3⟩ | ⟨p, q, h1, h2, h3, h4⟩
      · refine .inl ⟨?_, ?_, ?_⟩
        · unfold Lib.indexByte; rw [hb, h1]; rfl
        · unfold cutAt; rw [if_neg h, h2]
        · intro hm
          rcases List.mem_cons.1 hm with hm | hm
          · exact h hm.symm
          · exact h3 hm
      · refine .inr ⟨x :: p, q, by rw [h1]; rfl, ?_, ?_, ?_⟩
        · unfold Lib.indexByte
          rw [hb, h2]
          have : ((p.length : Int) == -1) = false := by rw [beq_eq_false_iff_ne]; omega
          simp [this]
        · unfold cutAt; rw [if_neg h, h3]
        · intro hm
          rcases List.mem_cons.1 hm with hm | hm
          · exact h hm.symm
          · exact h4 hm
theorem str_to_n (w : World) (p t : List UInt8) :
    (Instr.slice 9 (.string ⟨(p ++ t).toArray⟩) none (some (.int .i64 (p.length : Int))) none).run Try.prog w = .ok (.string ⟨p.toArray⟩) w := by
  rw [run_slice_string_to_if w 9 _ .i64 _ (by kernel_rfl), if_pos ⟨by omega, by rw [str_size, List.length_append]; omega⟩, ByteArray.extract_mk]
  congr 4
  simp
theorem str_from_n (w : World) (p t : List UInt8) (c : UInt8) :
    (Instr.slice 9 (.string ⟨(p ++ c :: t).toArray⟩) (some (.int .i64 ((p.length : Int) + 1))) none none).run Try.prog w = .ok (.string ⟨t.toArray⟩) w := by
  rw [run_slice_string_from_if w 9 _ .i64 _ (by kernel_rfl), if_pos ⟨by omega, by rw [str_size, List.length_append, List.length_cons]; omega⟩, ByteArray.extract_mk, str_size]
  congr 4
  rw [show ((p.length : Int) + 1).toNat = (p ++ [c]).length by rw [List.length_append]; simp, show p ++ c :: t = (p ++ [c]) ++ t by simp, List.drop_left, List.take_of_length_le]
  simp only [List.length_append]
  omega
set_option maxRecDepth 20000 in
theorem cuts_any (w : World) (l : List UInt8) (c : UInt8) (hl : l.length < 9223372036854775807) :
    Calls Try.prog 59 #[.string ⟨l.toArray⟩, .string ⟨#[c]⟩] w fun e w' => ∃ b, e = .returned (.tuple #[.string ⟨(cutAt c l).1.toArray⟩, .string ⟨(cutAt c l).2.toArray⟩, .bool b]) ∧ ∃ n, w' = w.drewN n := by
  have HI := Lib.hid (Try.stringslite_Index_one ⟨l.toArray⟩ c w)
  have hBs := str_size l
  have hTz : (ByteArray.mk #[c]).size = 1 := rfl
  rcases cutAt_cases c l with ⟨h1, h2, _⟩ | ⟨p, q, h1, h2, h3, _⟩
  · rw [h2]
    rw [show (ByteArray.mk l.toArray).data.toList = l from rfl, h1] at HI
    clear h1 h2
    generalize (⟨l.toArray⟩ : ByteArray) = B at *
    generalize (⟨#[c]⟩ : ByteArray) = T at *
    go_enter Try.func59, Try.ntmps59
    go_wp2_with fail
    refine HI.out.mono ?_
    rintro e1 w1 ⟨rfl, rfl⟩
    go_wp2_with fail
    refine bodyPost_ret (v := .tuple #[.string B, .string ⟨#[]⟩, .bool false]) (by simp [results, Try.results59, go_sem]) rfl ?_
    exact ⟨_, rfl, 0, rfl⟩
  · rw [h3]
    rw [show (ByteArray.mk l.toArray).data.toList = l from rfl, h2] at HI
    subst h1
    have hs1 := fun w => str_to_n w p (c :: q)
    have hs2 := fun w => str_from_n w p q c
    have hpl : p.length < 9223372036854775806 := by simp at hl; omega
    rw [show (p ++ c :: q).length = p.length + (q.length + 1) by simp] at hBs
    clear h2 h3
    generalize (⟨(p ++ c :: q).toArray⟩ : ByteArray) = B at *
    generalize (⟨#[c]⟩ : ByteArray) = T at *
    generalize (⟨p.toArray⟩ : ByteArray) = X at *
    generalize (⟨q.toArray⟩ : ByteArray) = Y at *
    have hwr : IntKind.i64.wrap ((p.length : Int) + 1) = (p.length : Int) + 1 := by rw [IntKind.wrap_i64]; omega
    go_enter Try.func59, Try.ntmps59
    go_wp2_with fail
    refine HI.out.mono ?_
    rintro e1 w1 ⟨rfl, rfl⟩
    go_wp2_with fail
    go_quiet (fail)
    go_wp2_with fail
    refine bodyPost_ret (v := .tuple #[.string X, .string Y, .bool true]) (by simp [results, Try.results59, go_sem]) rfl ?_
    exact ⟨_, rfl, _, rfl⟩
set_option maxRecDepth 20000 in
theorem cut_any (w : World) (l : List UInt8) (c : UInt8) (hl : l.length < 9223372036854775807) :
    Calls Try.prog 51 #[.string ⟨l.toArray⟩, .string ⟨#[c]⟩] w fun e w' => ∃ b, e = .returned (.tuple #[.string ⟨(cutAt c l).1.toArray⟩, .string ⟨(cutAt c l).2.toArray⟩, .bool b]) ∧ ∃ n, w' = w.drewN n := by
  have HI := Lib.hid (cuts_any w l c hl)
  generalize (⟨l.toArray⟩ : ByteArray) = B at *
  generalize (⟨(cutAt c l).1.toArray⟩ : ByteArray) = X at *
  generalize (⟨(cutAt c l).2.toArray⟩ : ByteArray) = Y at *
  generalize (⟨#[c]⟩ : ByteArray) = T at *
  go_enter Try.func51, Try.ntmps51
  go_wp2_with fail
  refine HI.out.mono ?_
  rintro e1 w1 ⟨b, rfl, n, rfl⟩
  go_wp2_with fail
  refine bodyPost_ret (v := .tuple #[.string X, .string Y, .bool b]) (by simp [results, Try.results51, go_sem]) rfl ?_
  exact ⟨b, rfl, n, rfl⟩
theorem cutAt_len (c : UInt8) (l : List UInt8) : (cutAt c l).1.length ≤ l.length ∧ (cutAt c l).2.length ≤ l.length ∧ (l ≠ [] → (cutAt c l).2.length < l.length) := by
  rcases cutAt_cases c l with ⟨_, h2, _⟩ | ⟨p, q, h1, _, h3, _⟩
  · rw [h2]
    exact ⟨Nat.le_refl _, Nat.zero_le _, fun h => List.length_pos_iff.2 h⟩
  · rw [h3, h1]
    simp only [List.length_append, List.length_cons]
    exact ⟨by omega, by omega, fun _ => by omega⟩
end Go.Proofs.Ytdjfelabdofaaaa
namespace Go.Proofs.Ytdjfelabdofaaaa
open Go.RowKit Go.Shelf
set_option linter.unusedVariables false
attribute [local go_sem] Oper.semAt_some
/-- The lines of a text, with their numbers from n on. -/
def LinesOf : Nat → List (Nat × List UInt8) → List UInt8 → Prop
  | _, [], r => r = []
  | n, x :: t, r => x.1 = n ∧ r ≠ [] ∧ x.2 = (cutAt 10 r).1 ∧ LinesOf (n + 1) t (cutAt 10 r).2
theorem lines_ex : ∀ (f : Nat) (r : List UInt8) (n : Nat), r.length ≤ f → ∃ L, LinesOf n L r ∧ L.length ≤ r.length ∧ ∀ x, x ∈ L → x.2.length ≤ r.length ∧ n ≤ x.1 ∧ x.1 < n + r.length
  | f, [], n, _ => ⟨[], rfl, Nat.le_refl _, fun x hx => by cases hx⟩
  | 0, x :: t, n, h => by simp at h
  | f + 1, x :: t, n, h => by
    obtain ⟨h1, h2, h3⟩ := cutAt_len 10 (x :: t)
    have h3 := h3 (by simp)
    obtain ⟨L, hL, hl, hm⟩ := lines_ex f (cutAt 10 (x :: t)).2 (n + 1) (by omega)
    refine ⟨(n, (cutAt 10 (x :: t)).1) :: L, ⟨rfl, by simp, rfl, hL⟩, by rw [List.length_cons]; omega, fun y hy => ?_⟩
    rcases List.mem_cons.1 hy with rfl | hy
    · exact ⟨h1, Nat.le_refl _, by simp⟩
    · have := hm y hy; omega
set_option maxRecDepth 100000 in
set_option maxHeartbeats 1000000 in
/-- **lines' closure.** -/
theorem lines1_in (n : Nat) (hn : 1 ≤ n) (l Bs n₀ : Nat) (s : List UInt8) (hs : s.length ≤ 1000000) (L : List (Nat × List UInt8)) (hL : LinesOf 1 L s) (hLl : L.length ≤ 1000000)
    (J Jx : List {x : Nat × List UInt8 // x ∈ L} → World → Prop) (hA : ∀ pre W k, J pre W → J pre (W.drewN k))
    (hY : ∀ pre x W, J pre W → pre.length < L.attach.length → YieldAt Fence.wide (n - 1) Try.prog l #[.int .i64 (x.1.1 : Int), .string ⟨x.1.2.toArray⟩] W fun e W' =>
      (e = .returned (.bool true) ∧ J (pre ++ [x]) W' ∧ Below n₀ W W') ∨ (e = .returned (.bool false) ∧ Jx (pre ++ [x]) W'))
    (W : World) (hBs : Boxed W Bs 9 (.string ⟨s.toArray⟩)) (h0 : J [] W) :
    CallsIn Fence.wide n Try.prog 50 #[.func (.yield l) #[] #[], .pointer (some ⟨Bs, 0, none⟩)] W fun e W' => (∃ v, e = .returned v) ∧
      ((∃ ys, ys = L.attach ∧ J ys W') ∨ (∃ pre, pre <+: L.attach ∧ Jx pre W')) := by
  have c0 := hBs.cell
  have l0 := hBs.lt
  have HL := Lib.hid hL
  have HLl := Lib.hid hLl
  have hf : Fence.wide.fn 51 := trivial
  have e3 : (ByteArray.mk #[]).toList = [] := ByteArray.toList_mk []
  clear hL hLl
  refine callsIn_of_wp Try.func50 rfl trivial ?_ rfl
  simp only [Try.ntmps50, List.size_toArray, List.length_cons, List.length_nil, Nat.reduceAdd, Nat.reduceSub, Array.replicate_succ, Array.replicate_zero, List.push_toArray, List.append_toArray, List.nil_append, List.cons_append]
  gi_wp2
  gi_loopw [3, 4] (fun v3 v4 wr => ∃ (pre ps : List {x : Nat × List UInt8 // x ∈ L}) (r : List UInt8) (k : Nat), v3 = .string ⟨r.toArray⟩ ∧ v4 = .int .i64 (k : Int) ∧ L.attach = pre ++ ps ∧ k = pre.length + 1 ∧ LinesOf k (ps.map (fun x => x.1)) r ∧ r.length ≤ 1000000 ∧ J pre wr) (fun v3 _ _ => strLen v3)
  case atStart => exact ⟨[], L.attach, s, 1, rfl, rfl, rfl, rfl, (by rw [List.attach_map_subtype_val]; exact HL.out), hs, h0⟩
  case round =>
    obtain ⟨pre, ps, r, k, rfl, rfl, hps, hk, hcut, hrM, hJ⟩ := hrel
    rename_i wr
    have hkl : k ≤ 1000001 := by
      have h := congrArg List.length hps
      rw [List.length_append, List.length_attach] at h
      have := HLl.out
      omega
    match ps, hps, hcut with
    | [], hps, hcut =>
      have hr : r = [] := hcut
      subst hr
      have HPS := Lib.hid hps
      have HJ := Lib.hid hJ
      clear hps hcut hJ hk hkl
      gi_wp2
      exact bodyPost_end (results_none rfl _ _ _) rfl ⟨⟨_, rfl⟩, .inl ⟨_, (by rw [HPS.out, List.append_nil]), HJ.out⟩⟩
    | ⟨⟨kx, p⟩, hpm⟩ :: ps, hps, hcut =>
      obtain ⟨hkx, hr0, hp, hc⟩ : kx = k ∧ r ≠ [] ∧ p = (cutAt 10 r).1 ∧ LinesOf (k + 1) (ps.map (fun x : {x : Nat × List UInt8 // x ∈ L} => x.1)) (cutAt 10 r).2 := hcut
      have hkx' := hkx.symm
      subst hkx'
      obtain ⟨q1, q2, q3⟩ := cutAt_len 10 r
      have q3 := q3 hr0
      have HI := Lib.hid (cut_any wr r 10 (by omega))
      rw [← hp] at HI
      have hne : ((ByteArray.mk r.toArray).toList != ([] : List UInt8)) = true := by
        rw [ByteArray.toList_mk]
        cases r with
        | nil => exact absurd rfl hr0
        | cons x t => rfl
      have hBz := str_size r
      have hRz := str_size (cutAt 10 r).2
      have hps2 : L.attach = (pre ++ [⟨(k, p), hpm⟩]) ++ ps := by rw [hps, List.append_assoc]; rfl
      have hlt : pre.length < L.attach.length := by rw [hps]; simp
      have HPS := Lib.hid (And.intro hps2 (And.intro hk (And.intro hc (And.intro hJ hlt))))
      have hrl : r.length ≤ 1000000 := hrM
      have hne2 : (!(ByteArray.mk r.toArray).toList.isEmpty) = true := by
        rw [ByteArray.toList_mk]
        cases r with
        | nil => exact absurd rfl hr0
        | cons x t => rfl
      clear hps hps2 hk hc hJ hp hrM hr0 hlt hkx
      generalize hR0 : (cutAt 10 r).2 = r' at HI HPS hRz q2 q3
      generalize (⟨r.toArray⟩ : ByteArray) = B at HI hne hBz hne2 ⊢
      have HR0 := Lib.hid hRz
      clear hR0 hRz
      gi_wp2_with (gi_at_call 51; refine (callsIn_wide.2 HI.out).mono ?_; rintro e w' ⟨b, rfl, nd, rfl⟩; obtain ⟨fn, tmps, assign, body, hy, hR⟩ := hY pre ⟨(k, p), hpm⟩ (wr.drewN nd) (hA _ _ _ HPS.out.2.2.2.1) HPS.out.2.2.2.2; dsimp only at hy)
      refine hR.mono ?_
      rintro e W3 (⟨rfl, hJ3, hk3⟩ | ⟨rfl, hJx3⟩)
      · have HJ3 := Lib.hid hJ3
        clear hJ3 hk3
        gi_wp2
        go_roundw
        case rel => exact ⟨pre ++ [⟨(k, p), hpm⟩], ps, r', k + 1, rfl, by go_num, HPS.out.1, by have := HPS.out.2.1; rw [List.length_append, List.length_singleton]; omega, HPS.out.2.2.1, by omega, HJ3.out⟩
        case measure => show (ByteArray.mk r'.toArray).size < B.size; rw [str_size]; omega
      · gi_wp2
        exact bodyPost_ret (results_none rfl _ _ _) rfl ⟨⟨_, rfl⟩, .inr ⟨_, by rw [HPS.out.1]; exact ⟨ps, rfl⟩, hJx3⟩⟩
end Go.Proofs.Ytdjfelabdofaaaa
namespace Go.Proofs.Ytdjfelabdofaaaa
open Go.RowKit Go.Shelf
set_option linter.unusedVariables false
attribute [local go_sem] Oper.semAt_some
set_option maxHeartbeats 1000000 in
theorem lines_in (n : Nat) (S : ByteArray) (w : World) :
    CallsIn Fence.wide n Try.prog 40 #[.string S] w fun e w' => e = .returned (.func (.func 50) #[] #[.pointer (some ⟨w.heap.size, 0, none⟩)]) ∧ w' = w.alloc (.cells #[.string S] 9) := by
  refine callsIn_of_wp Try.func40 rfl trivial ?_ rfl
  simp only [Try.ntmps40, List.size_toArray, List.length_cons, List.length_nil, Nat.reduceAdd, Nat.reduceSub, Array.replicate_succ, Array.replicate_zero, List.push_toArray, List.append_toArray, List.nil_append, List.cons_append]
  gi_wp2
  go_ret
  exact ⟨rfl, rfl⟩
theorem lines_stops (n : Nat) (hn : 1 ≤ n) (Bs n₀ : Nat) (w : World) (hn₀ : n₀ ≤ w.heap.size) (s : List UInt8) (hs : s.length ≤ 1000000) (L : List (Nat × List UInt8)) (hL : LinesOf 1 L s) (hLl : L.length ≤ 1000000)
    (hc : Boxed w Bs 9 (.string ⟨s.toArray⟩)) :
    SeqStopsK Fence.wide n Try.prog 50 #[.pointer (some ⟨Bs, 0, none⟩)] (fun x : {x : Nat × List UInt8 // x ∈ L} => #[Value.int .i64 (x.1.1 : Int), Value.string ⟨x.1.2.toArray⟩]) (Below n₀) (fun ys => ys = L.attach) (fun pre => pre <+: L.attach) L.attach.length w := fun l J Jx W hW hA _ hY h0 =>
  lines1_in n hn l Bs n₀ s hs L hL hLl J Jx (fun pre W k h => hA pre W _ none h ⟨rfl, rfl, rfl, Nat.le_refl _, fun _ _ _ => rfl⟩ (fun r e => by cases e)) hY W ((hW.block Bs hc.lt).trans hc) h0
/-- Blank or tab. -/
def isWs (r : Nat) : Bool := r == 32 || r == 9
/-- The words of a line. -/
def wordsL (l : List UInt8) : List ByteArray := Lib.goFieldsP isWs ⟨(cutAt 35 l).1.toArray⟩
theorem ws_pred (w : World) : PredAt Try.prog 53 #[] encR isWs w := fun W r _ => by
  unfold FnGives
  have h1 : ((r : Int) == 32) = (r == 32) := by rw [Bool.eq_iff_iff, beq_iff_eq, beq_iff_eq]; omega
  have h2 : ((r : Int) == 9) = (r == 9) := by rw [Bool.eq_iff_iff, beq_iff_eq, beq_iff_eq]; omega
  have HW := Lib.hid (show isWs r = ((r == 32) || (r == 9)) from rfl)
  generalize hb1 : (r == 32) = b1 at h1 HW
  generalize hb2 : (r == 9) = b2 at h2 HW
  clear hb1 hb2
  show Calls Try.prog 53 #[.int .i32 (r : Int)] W _
  generalize isWs r = b at *
  generalize (r : Int) = x at *
  cases b1
  all_goals
    go_enter Try.func53, Try.ntmps53
    go_wp2_with fail
    go_ret
    exact ⟨by rw [HW.out]; rfl, 0, rfl⟩
set_option maxHeartbeats 1000000 in
theorem wordsOf_any (w : World) (l : List UInt8) (hl : l.length ≤ 1000000) :
    Calls Try.prog 41 #[.string ⟨l.toArray⟩] w fun e w' => ∃ A, e = .returned (.slice (some ⟨A, 0, none⟩) (wordsL l).length (wordsL l).length) ∧ w.heap.size ≤ A ∧
      w'.ownsRow w.heap.size 9 1 (.slice (some ⟨A, 0, none⟩) (wordsL l).length (wordsL l).length) (wordsL l).length ((wordsL l).map Value.string) ∧ Below w.heap.size w w' := by
  have HC := Lib.hid (cut_any w l 35 (by omega))
  have hq := (cutAt_len 35 l).1
  have HF := Lib.hid (fun w => Try.strings_FieldsFunc 53 #[] (enters_of Try.func53 (by kernel_rfl) rfl) isWs ⟨(cutAt 35 l).1.toArray⟩ w (by rw [str_size]; omega) (ws_pred w))
  have HW := Lib.hid (show wordsL l = Lib.goFieldsP isWs ⟨(cutAt 35 l).1.toArray⟩ from rfl)
  rw [← HW.out] at HF
  clear HW
  generalize (⟨l.toArray⟩ : ByteArray) = B at *
  generalize (⟨(cutAt 35 l).1.toArray⟩ : ByteArray) = X at *
  generalize (⟨(cutAt 35 l).2.toArray⟩ : ByteArray) = Y at *
  generalize wordsL l = R at *
  go_enter Try.func41, Try.ntmps41
  go_wp2_with fail
  refine HC.out.mono ?_
  rintro e1 w1 ⟨b, rfl, nd, rfl⟩
  go_wp2_with fail
  refine (HF.out _).mono ?_
  rintro e2 w2 ⟨A, rfl, hA, hown, hB⟩
  have HR := Lib.hid (And.intro hA (And.intro hown (((Keeps.refl (fun _ => False) w).drewN nd).none.trans hB)))
  clear hA hown hB
  go_wp2_with fail
  go_ret
  exact ⟨A, rfl, HR.out.1, HR.out.2.1, HR.out.2.2⟩
end Go.Proofs.Ytdjfelabdofaaaa
namespace Go.Proofs.Ytdjfelabdofaaaa
open Go.RowKit Go.Shelf
set_option linter.unusedVariables false
attribute [local go_sem] Oper.semAt_some
attribute [local go_sem ↓ 2000] app_pre
attribute [local go_sem] app_run
/-- A row of words: its number, where its words lie, the words. -/
structure RowD where
  n : Nat
  A : Nat
  ws : List ByteArray
def flatR (R : List RowD) : List Value := R.flatMap fun r => [.int .i64 (r.n : Int), .slice (some ⟨r.A, 0, none⟩) r.ws.length r.ws.length]
theorem flatR_snoc (R : List RowD) (r : RowD) : flatR (R ++ [r]) = flatR R ++ [.int .i64 (r.n : Int), .slice (some ⟨r.A, 0, none⟩) r.ws.length r.ws.length] := by simp [flatR]
def WordsAt (w : World) (A : Nat) (ws : List ByteArray) : Prop := ∃ cur, w.heap[A]? = some (.cells cur 9 (0, 0)) ∧ cur.toList.take ws.length = ws.map Value.string
theorem WordsAt.cell {w : World} {A : Nat} {ws : List ByteArray} (h : WordsAt w A ws) (i : Nat) (s : ByteArray) (hi : ws[i]? = some s) : w.cell? ⟨A, i, none⟩ = some (.string s) := by
  obtain ⟨cur, hb, ht⟩ := h
  have hl : i < ws.length := by
    rcases Nat.lt_or_ge i ws.length with h | h
    · exact h
    · rw [List.getElem?_eq_none h] at hi; cases hi
  have h2 : (cur.toList.take ws.length)[i]? = some (.string s) := by rw [ht, List.getElem?_map, hi]; rfl
  rw [List.getElem?_take, if_pos hl] at h2
  rw [cell_of hb i]
  simpa using h2
theorem WordsAt.lt {w : World} {A : Nat} {ws : List ByteArray} (h : WordsAt w A ws) : A < w.heap.size := by
  obtain ⟨cur, hb, _⟩ := h
  exact lt_of hb
theorem WordsAt.of {w w' : World} {A : Nat} {ws : List ByteArray} (h : WordsAt w A ws) (hb : ∀ o, w.heap[A]? = some o → w'.heap[A]? = some o) : WordsAt w' A ws := by
  obtain ⟨cur, h1, h2⟩ := h
  exact ⟨cur, hb _ h1, h2⟩
theorem WordsAt.below {w w' : World} {A B : Nat} {ws : List ByteArray} (h : WordsAt w A ws) (hb : Below B w w') (hA : A < B) : WordsAt w' A ws := h.of fun o ho => (hb.block A hA).trans ho
theorem WordsAt.grown {w w' : World} {A : Nat} {ws : List ByteArray} {row : Option Nat} (h : WordsAt w A ws) (hg : w.grownBy w' row) (hr : row ≠ some A) : WordsAt w' A ws :=
  h.of fun o ho => by rw [hg.block A (lt_of ho) (fun e => hr e.symm)]; exact ho
theorem WordsAt.own {w : World} {B A : Nat} {ws : List ByteArray} (h : w.ownsRow B 9 1 (.slice (some ⟨A, 0, none⟩) ws.length ws.length) ws.length (ws.map Value.string)) : WordsAt w A ws := by
  rcases h.2 with ⟨h, _⟩ | ⟨g, cap, cur, h, _, hb, _, _, _, ht⟩
  · cases h
  · cases h
    rw [Nat.mul_one] at ht
    exact ⟨cur, hb, ht⟩
/-- The words of all rows. -/
def RowsAt (w : World) (R : List RowD) : Prop := ∀ r, r ∈ R → WordsAt w r.A r.ws
theorem info_row : (Try.prog.info? 78).map (fun i => (i.zero, i.size, i.bytes)) = some (some (.agg #[.int .i64 0, .slice none 0 0]), 2, 32) := by kernel_rfl
theorem cell_two_new (w : World) (x y : Value) (t : TypeId) : ∀ (j : Nat) u, [x, y][j]? = some u → (w.alloc (.cells #[x, y] t)).cell? ((⟨w.heap.size, 0, none⟩ : Addr).add j) = some u := by
  intro j u hj
  match j, hj with
  | 0, hj => cases hj; rw [show ((⟨w.heap.size, 0, none⟩ : Addr).add 0) = ⟨w.heap.size, 0, none⟩ from rfl, cell_of (heap_new w _) 0]; rfl
  | 1, hj => cases hj; rw [show ((⟨w.heap.size, 0, none⟩ : Addr).add 1) = ⟨w.heap.size, 1, none⟩ from rfl, cell_of (heap_new w _) 1]; rfl
  | j + 2, hj => simp at hj
theorem own_not_words {W : World} {base : Nat} {v : Value} {n : Nat} {xs : List Value} (h : W.ownsRow base 78 2 v n xs) {A : Nat} {ws : List ByteArray} (hw : WordsAt W A ws) : v.ownBlock ≠ some A := by
  obtain ⟨cur', hb, _⟩ := hw
  rcases h.2 with ⟨rfl, _⟩ | ⟨g, cap, cur, rfl, _, hgb, _⟩
  · simp [Value.ownBlock]
  · intro e
    obtain rfl : g = A := by simpa [Value.ownBlock] using e
    rw [hgb] at hb
    simp at hb
theorem app_row {W : World} {z n₀ B : Nat} {v : Value} {R : List RowD} (r : RowD) (hv : Boxed W B 74 v) (hrow : W.ownsRow n₀ 78 2 v R.length (flatR R)) (hn₀ : n₀ ≤ W.heap.size) (hz : z ≤ n₀) (hB : z ≤ B) (hm : R.length < 1000000) :
    ∃ g cap w1, appRun Try.prog #[74, 74] 74 #[v, .slice (some ⟨W.heap.size, 0, none⟩) 1 1] (W.alloc (.cells #[.int .i64 (r.n : Int), .slice (some ⟨r.A, 0, none⟩) r.ws.length r.ws.length] 78)) = .ok (.slice (some ⟨g, 0, none⟩) (R.length + 1) cap) w1 ∧
      Boxed w1 B 74 v ∧ Boxed (w1.setCell ⟨B, 0, none⟩ (.slice (some ⟨g, 0, none⟩) (R.length + 1) cap)) B 74 (.slice (some ⟨g, 0, none⟩) (R.length + 1) cap) ∧
      (w1.setCell ⟨B, 0, none⟩ (.slice (some ⟨g, 0, none⟩) (R.length + 1) cap)).ownsRow n₀ 78 2 (.slice (some ⟨g, 0, none⟩) (R.length + 1) cap) (R ++ [r]).length (flatR (R ++ [r])) ∧
      KeepsOthers W (w1.setCell ⟨B, 0, none⟩ (.slice (some ⟨g, 0, none⟩) (R.length + 1) cap)) ∧ Below z W (w1.setCell ⟨B, 0, none⟩ (.slice (some ⟨g, 0, none⟩) (R.length + 1) cap)) ∧
      ∀ A ws, WordsAt W A ws → WordsAt (w1.setCell ⟨B, 0, none⟩ (.slice (some ⟨g, 0, none⟩) (R.length + 1) cap)) A ws := by
  obtain ⟨i0, hi, hz0, hz1, hz2⟩ := info_parts info_row
  obtain ⟨v', w1, hrun, hown, hgrow, _⟩ := run_append_own (P := Try.prog) (W.alloc (.cells #[.int .i64 (r.n : Int), .slice (some ⟨r.A, 0, none⟩) r.ws.length r.ws.length] 78)) n₀ 74 74 78 i0 _ 2 32 Try.underlying74 hi hz0 hz1 hz2 rfl (by decide) v R.length (flatR R) (hrow.alloc _) ⟨W.heap.size, 0, none⟩ 1 1 [.int .i64 (r.n : Int), .slice (some ⟨r.A, 0, none⟩) r.ws.length r.ws.length] rfl (cell_two_new W _ _ _) (by simp [Value.oneCell']) (by unfold maxLen; omega) (by omega) (by rw [World.size_alloc]; exact Nat.le_succ_of_le hn₀)
  obtain ⟨g, cap, rfl⟩ := ownsRow_succ hown
  obtain ⟨h1, h2, h3, h4, h5⟩ := hv.appended (by decide) (hrow.mono hz) (Nat.le_trans hz hn₀) hB (hown.mono hz) hgrow
  have h6 := hown.kept (grownBy_setCell' w1 B (.slice (some ⟨g, 0, none⟩) (R.length + 1) cap)) (.inr (h1.not_row (by decide) hown).symm)
  refine ⟨g, cap, w1, hrun, h1, h2, by rw [flatR_snoc, List.length_append]; exact h6, h4, h5, fun A ws hA => ?_⟩
  have a1 : WordsAt (W.alloc (.cells #[.int .i64 (r.n : Int), .slice (some ⟨r.A, 0, none⟩) r.ws.length r.ws.length] 78)) A ws := hA.of fun o ho => heap_old ho _
  have a2 : WordsAt w1 A ws := a1.grown hgrow (own_not_words hrow hA)
  refine a2.of fun o ho => heap_other ho ?_ _
  intro e
  obtain ⟨cur, hb, _⟩ := a2
  rw [show A = B from e, show w1.heap[B]? = _ from h1] at hb
  simp at hb
/-- What All gives of lines. -/
def rowsOf (L : List (Nat × List UInt8)) : List (Nat × List ByteArray) := L.flatMap fun x => if (wordsL x.2).length = 0 then [] else [(x.1, wordsL x.2)]
theorem rowsOf_snoc (L : List (Nat × List UInt8)) (x : Nat × List UInt8) : rowsOf (L ++ [x]) = rowsOf L ++ (if (wordsL x.2).length = 0 then [] else [(x.1, wordsL x.2)]) := by simp [rowsOf]
theorem rowsOf_len (L : List (Nat × List UInt8)) : (rowsOf L).length ≤ L.length := by
  induction L with
  | nil => simp [rowsOf]
  | cons x t ih =>
    have e : rowsOf (x :: t) = (if (wordsL x.2).length = 0 then [] else [(x.1, wordsL x.2)]) ++ rowsOf t := by simp [rowsOf]
    rw [e, List.length_append, List.length_cons]
    split <;> simp <;> omega
def keyR (r : RowD) : Nat × List ByteArray := (r.n, r.ws)
end Go.Proofs.Ytdjfelabdofaaaa
namespace Go.Proofs.Ytdjfelabdofaaaa
open Go.RowKit Go.Shelf
set_option linter.unusedVariables false
attribute [local go_sem] Oper.semAt_some
attribute [local go_sem ↓ 2000] app_pre
attribute [local go_sem] app_run
theorem row_on {W W' : World} {B e size n : Nat} {v : Value} {xs : List Value} (h : W.ownsRow B e size v n xs) (hb : Below W.heap.size W W') : W'.ownsRow B e size v n xs :=
  h.kept (row := none) ⟨hb.os, hb.tape, hb.output, hb.size, fun j hj _ => hb.block j hj⟩ (by cases hv : v.ownBlock <;> simp)
set_option maxRecDepth 100000 in
set_option maxHeartbeats 2000000 in
/-- **All: the rows of a text.** -/
theorem all_any (w : World) (s : List UInt8) (hs : s.length ≤ 1000000) (L : List (Nat × List UInt8)) (hL : LinesOf 1 L s) (hLl : L.length < 1000000) (hLx : ∀ x, x ∈ L → x.2.length ≤ 1000000) :
    Calls Try.prog 27 #[.string ⟨s.toArray⟩] w fun e w' => ∃ (v : Value) (R : List RowD), e = .returned v ∧ R.map keyR = rowsOf L ∧ w'.ownsRow w.heap.size 78 2 v R.length (flatR R) ∧ RowsAt w' R ∧ Below w.heap.size w w' := by
  have hf : Fence.wide.fn 40 := trivial
  have HS := Lib.hid (fun (n : Nat) (hn : 1 ≤ n) (Bs n₀ : Nat) (w : World) (hn₀ : n₀ ≤ w.heap.size) (hc : Boxed w Bs 9 (.string ⟨s.toArray⟩)) => lines_stops n hn Bs n₀ w hn₀ s hs L hL (by omega) hc)
  clear hL
  generalize (⟨s.toArray⟩ : ByteArray) = S at HS ⊢
  refine (callsIn_wide (n := 9)).1 ?_
  refine callsIn_of_wp_marks Try.func27 rfl trivial ?_ rfl
  simp only [Try.ntmps27, List.size_toArray, List.length_cons, List.length_nil, Nat.reduceAdd, Nat.reduceSub, Array.replicate_succ, Array.replicate_zero, List.push_toArray, List.append_toArray, List.nil_append, List.cons_append]
  gi_wp2_with (gi_at_call 40; refine (lines_in _ _ _).mono ?_; rintro e w' ⟨rfl, rfl⟩)
  have b0 := (Boxed.new w 74 (.slice none 0 0)).alloc (.cells #[.string S] 9)
  have b1 := Boxed.new (w.alloc (.cells #[.slice none 0 0] 74)) 9 (.string S)
  have hB0 : Below w.heap.size w ((w.alloc (.cells #[.slice none 0 0] 74)).alloc (.cells #[.string S] 9)) := ((Below.refl _ w).alloc (Nat.le_refl _) _).alloc (by simp) _
  simp only [World.size_alloc] at b1
  have hsz : ((w.alloc (.cells #[.slice none 0 0] 74)).alloc (.cells #[.string S] 9)).heap.size = w.heap.size + 2 := by simp only [World.size_alloc]
  generalize (w.alloc (.cells #[.slice none 0 0] 74)).alloc (.cells #[.string S] 9) = W1 at b0 b1 hB0 hsz ⊢
  refine wpIn_rangeFunc_ownG (n := 9) (F := Fence.wide) rfl (by decide) (gf := 50) (lb := #[.pointer (some ⟨w.heap.size + 1, 0, none⟩)]) rfl trivial (enters_of Try.func50 (by kernel_rfl) rfl)
    (HS.out (9 - 1) (by decide) (w.heap.size + 1) w.heap.size W1 (by omega) b1) belowK_t (belowK_b (by omega)) (Below.refl _ _) (fun _ => rfl)
    (fun pre W => (∃ (R : List RowD), R.map keyR = rowsOf (pre.map (fun x => x.1)) ∧ (∃ v, Boxed W w.heap.size 74 v ∧ W.ownsRow (w.heap.size + 2) 78 2 v R.length (flatR R)) ∧ RowsAt W R) ∧ Below w.heap.size w W ∧ w.heap.size + 2 ≤ W.heap.size)
    (fun c pre W => False)
    (OwnFrom.and (Own.from (fun s A B row hs hg hr => by
      obtain ⟨R, h1, ⟨v, h2, h3⟩, h4⟩ := hs
      obtain ⟨v', a1, a2, _⟩ := holdsRow_own (β := Unit) (w.heap.size + 2) w.heap.size 74 78 2 (fun _ => R.length) (fun _ => flatR R) (fun _ _ => True) () A B row ⟨v, h2, h3, trivial⟩ hg hr
      refine ⟨R, h1, ⟨v', a1, a2⟩, fun r hr' => (h4 r hr').grown hg ?_⟩
      intro e
      obtain ⟨o, ho, hc⟩ := hr r.A e
      obtain ⟨cur, hb, _⟩ := h4 r hr'
      rw [hb] at ho; cases ho; cases hc) _) (OwnFrom.and (ownFrom_below (Nat.le_refl _) (by omega)) (fun s A B row hs hg hr => Nat.le_trans hs hg.size)))
    (fun _ _ _ _ _ hs _ _ => hs)
    ⟨⟨[], rfl, ⟨_, b0, World.ownsRow_nil _ _ _ _⟩, fun r hr => (by cases hr)⟩, hB0, by omega⟩
    (fun x => { tmps := #[.string S, undef, .slice none 0 0, .pointer (some ⟨w.heap.size, 0, none⟩), .int .i64 (x.1.1 : Int), .string ⟨x.1.2.toArray⟩, undef, .string S, .func (.func 50) #[] #[.pointer (some ⟨w.heap.size + 1, 0, none⟩)], .int .i64 (x.1.1 : Int), .string ⟨x.1.2.toArray⟩, undef, undef, undef, undef, undef, undef, undef, undef, undef, undef, undef, undef], defers := [] }) ?assign ?body ?done ?stop
  case assign =>
    intro l x W K hK
    gi_wp2
    exact hK
  case body =>
    rintro l pre x W ⟨⟨R, hR, ⟨v, hv, hrow⟩, hws⟩, hB, hWz⟩ hpl
    have HP := Lib.hid (wordsOf_any W x.1.2 (hLx x.1 x.2))
    have hRl : R.length < 1000000 := by
      have h1 := congrArg List.length hR
      rw [List.length_map] at h1
      have h2 := rowsOf_len (pre.map (fun x : {x : Nat × List UInt8 // x ∈ L} => x.1))
      rw [List.length_map] at h2
      rw [List.length_attach] at hpl
      omega
    have HJ := Lib.hid (And.intro hR (And.intro hv (And.intro hrow (And.intro hws (And.intro hB (And.intro hWz hRl))))))
    clear hv hrow hws hB hRl hR hWz
    gi_wp2
    refine ⟨trivial, ?_⟩
    refine (CallsIn.inRound l (callsIn_wide.2 HP.out)).mono ?_
    rintro e W2 ⟨A, rfl, hA, hown, hB2⟩
    have hv1 : Boxed W2 w.heap.size 74 v := (hB2.block _ HJ.out.2.1.lt).trans HJ.out.2.1
    have hrow1 := row_on HJ.out.2.2.1 hB2
    have hws1 : RowsAt W2 R := fun r hr => (HJ.out.2.2.2.1 r hr).below hB2 (HJ.out.2.2.2.1 r hr).lt
    have hwa : WordsAt W2 A (wordsL x.1.2) := WordsAt.own hown
    have hko : KeepsOthers W W2 := ⟨hB2.size, fun k o hk _ => (hB2.block k (lt_of hk)).trans hk⟩
    have hsW := HJ.out.2.2.2.2.2.1
    have hBW := HJ.out.2.2.2.2.1.size
    have hsW2 := hB2.size
    have HW := Lib.hid (⟨_, rfl⟩ : ∃ ws, ws = wordsL x.1.2)
    have HSn := Lib.hid (rowsOf_snoc (pre.map (fun x : {x : Nat × List UInt8 // x ∈ L} => x.1)) x.1)
    generalize hws' : wordsL x.1.2 = ws at hwa hown HSn ⊢
    clear hws' HW hown
    by_cases h0 : ws.length = 0
    · have HK := Lib.hid (And.intro hko (And.intro hv1 (And.intro hrow1 (And.intro hws1 (hB2.mono hBW)))))
      rw [if_pos h0, List.append_nil] at HSn
      clear hko hv1 hrow1 hws1 hwa hB2
      gi_wp2
      refine ⟨HK.out.1.from _, HK.out.2.2.2.2, ⟨R, ?_, ⟨v, HK.out.2.1, HK.out.2.2.1⟩, HK.out.2.2.2.1⟩, HJ.out.2.2.2.2.1.trans HK.out.2.2.2.2, by omega⟩
      rw [List.map_append, HJ.out.1]
      exact HSn.out.symm
    · rw [if_neg h0] at HSn
      obtain ⟨g, cap, w1, hrun, h1, h2, h3, h4, h5, h6⟩ := app_row (z := w.heap.size) ⟨x.1.1, A, ws⟩ hv1 hrow1 (by omega) (by omega) (by omega) HJ.out.2.2.2.2.2.2
      dsimp only at hrun
      have c2 := hv1.cell
      have l2 := hv1.lt
      have c2a := (hv1.alloc (.cells #[.int .i64 (x.1.1 : Int), .slice (some ⟨A, 0, none⟩) ws.length ws.length] 78)).cell
      have d1 := h1.cell
      have f1 := h1.frozen
      have m1 := h1.lt
      have d0 : decide (0 < ws.length) = true := decide_eq_true (by omega)
      have d0' : decide ((0 : Int) < (ws.length : Int)) = true := decide_eq_true (by omega)
      have HR := Lib.hid (And.intro h2 (And.intro h3 (And.intro (hko.trans h4) (And.intro ((hB2.mono hBW).trans h5) (And.intro (fun r hr => h6 _ _ (hws1 r hr)) (h6 _ _ hwa))))))
      clear hko hv1 hrow1 hws1 hwa hB2 h1 h2 h3 h4 h5 h6
      gi_wp2
      obtain ⟨h2, h3, h4, h5, h6, h7⟩ := HR.out
      refine ⟨h4.from _, h5, ⟨R ++ [⟨x.1.1, A, ws⟩], ?_, ⟨_, h2, h3⟩, fun r hr => ?_⟩, HJ.out.2.2.2.2.1.trans h5, Nat.le_trans hsW h5.size⟩
      · rw [List.map_append, List.map_append, HJ.out.1]
        exact HSn.out.symm
      · rcases List.mem_append.1 hr with hr | hr
        · exact h6 r hr
        · simp at hr; subst hr; exact h7
  case done =>
    rintro D ys W hD rfl ⟨⟨R, hR, ⟨v, hv, hrow⟩, hws⟩, hB, hWz⟩ hK
    have hc := hv.cell
    have lc := hv.lt
    have hmx : Try.prog.follows .mixedOrders = true := by kernel_rfl
    gi_wp2
    try simp only [Exit.jump]
    refine ⟨by simp, .inl ⟨_, _, rfl, run_takeDeferred hK, ?_⟩⟩
    refine ⟨v, by simp [results, Try.results27, go_sem], v, R, rfl, by rw [hR]; congr 1; exact List.attach_map_subtype_val L, (ownsRow_putObj (hrow.mono (Nat.le_add_right _ 2)) _ hK rfl), fun r hr => (hws r hr).grown (grownBy_putObj' W D _) ?_, hB.trans (belowK_b (w := w) (Nat.le_refl _) W D _ _ (by omega) hK rfl rfl)⟩
    intro e
    obtain ⟨cur, hb, _⟩ := hws r hr
    cases e
    rw [hb] at hK; cases hK
  case stop =>
    rintro D c pre W hD hpre h hK
    exact h.elim
end Go.Proofs.Ytdjfelabdofaaaa
