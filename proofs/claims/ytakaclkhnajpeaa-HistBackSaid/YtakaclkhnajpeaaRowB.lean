import Derived.Test.YtakaclkhnajpeaaRowA
import Derived.Test.YtakaclkhnajpeaaNumHa
namespace Go.Proofs.Ytakaclkhnajpeaa
open Go.RowKit Go.Shelf
set_option linter.unusedVariables false
attribute [local go_sem] Oper.semAt_some
/-- The lines of a text, with their numbers from n on. -/
def LinesOf : Nat → List (Nat × List UInt8) → List UInt8 → Prop
  | _, [], r => r = []
  | n, x :: t, r => x.1 = n ∧ r ≠ [] ∧ x.2 = (cutAt 10 r).1 ∧ LinesOf (n + 1) t (cutAt 10 r).2
theorem lines_ex : ∀ (f : Nat) (r : List UInt8) (n : Nat), r.length ≤ f → ∃ L, LinesOf n L r ∧ L.length ≤ r.length ∧ ∀ x, x ∈ L → x.2.length ≤ r.length ∧ n ≤ x.1 ∧ x.1 < n + r.length
  | f, [], n, _ => ⟨[], rfl, Nat.le_refl _, fun x hx => by cases hx⟩
  | 0, x :: t, n, h => by simp at h
  | f + 1, x :: t, n, h => by
    obtain ⟨h1, h2, h3⟩ := cutAt_len 10 (x :: t)
    have h3 := h3 (by simp)
    obtain ⟨L, hL, hl, hm⟩ := lines_ex f (cutAt 10 (x :: t)).2 (n + 1) (by omega)
    refine ⟨(n, (cutAt 10 (x :: t)).1) :: L, ⟨rfl, by simp, rfl, hL⟩, by rw [List.length_cons]; omega, fun y hy => ?_⟩
    rcases List.mem_cons.1 hy with rfl | hy
    · exact ⟨h1, Nat.le_refl _, by simp⟩
    · have := hm y hy; omega
set_option maxRecDepth 100000 in
set_option maxHeartbeats 1000000 in
/-- **lines' closure.** -/
theorem lines1_in (n : Nat) (hn : 1 ≤ n) (l Bs n₀ : Nat) (s : List UInt8) (hs : s.length ≤ 1000000) (L : List (Nat × List UInt8)) (hL : LinesOf 1 L s) (hLl : L.length ≤ 1000000)
    (J Jx : List {x : Nat × List UInt8 // x ∈ L} → World → Prop) (hA : ∀ pre W k, J pre W → J pre (W.drewN k))
    (hY : ∀ pre x W, J pre W → pre.length < L.attach.length → YieldAt Fence.wide (n - 1) Try.prog l #[.int .i64 (x.1.1 : Int), .string ⟨x.1.2.toArray⟩] W fun e W' =>
      (e = .returned (.bool true) ∧ J (pre ++ [x]) W' ∧ Below n₀ W W') ∨ (e = .returned (.bool false) ∧ Jx (pre ++ [x]) W'))
    (W : World) (hBs : Boxed W Bs 9 (.string ⟨s.toArray⟩)) (h0 : J [] W) :
    CallsIn Fence.wide n Try.prog 27 #[.func (.yield l) #[] #[], .pointer (some ⟨Bs, 0, none⟩)] W fun e W' => (∃ v, e = .returned v) ∧
      ((∃ ys, ys = L.attach ∧ J ys W') ∨ (∃ pre, pre <+: L.attach ∧ Jx pre W')) := by
  have c0 := hBs.cell
  have l0 := hBs.lt
  have HL := Lib.hid hL
  have HLl := Lib.hid hLl
  have hf : Fence.wide.fn 28 := trivial
  have e3 : (ByteArray.mk #[]).toList = [] := ByteArray.toList_mk []
  clear hL hLl
  refine callsIn_of_wp Try.func27 rfl trivial ?_ rfl
  simp only [Try.ntmps27, List.size_toArray, List.length_cons, List.length_nil, Nat.reduceAdd, Nat.reduceSub, Array.replicate_succ, Array.replicate_zero, List.push_toArray, List.append_toArray, List.nil_append, List.cons_append]
  gi_wp2
  gi_loopw [3, 4] (fun v3 v4 wr => ∃ (pre ps : List {x : Nat × List UInt8 // x ∈ L}) (r : List UInt8) (k : Nat), v3 = .string ⟨r.toArray⟩ ∧ v4 = .int .i64 (k : Int) ∧ L.attach = pre ++ ps ∧ k = pre.length + 1 ∧ LinesOf k (ps.map (fun x => x.1)) r ∧ r.length ≤ 1000000 ∧ J pre wr) (fun v3 _ _ => strLen v3)
  case atStart => exact ⟨[], L.attach, s, 1, rfl, rfl, rfl, rfl, (by rw [List.attach_map_subtype_val]; exact HL.out), hs, h0⟩
  case round =>
    obtain ⟨pre, ps, r, k, rfl, rfl, hps, hk, hcut, hrM, hJ⟩ := hrel
    rename_i wr
    have hkl : k ≤ 1000001 := by
      have h := congrArg List.length hps
      rw [List.length_append, List.length_attach] at h
      have := HLl.out
      omega
    match ps, hps, hcut with
    | [], hps, hcut =>
      have hr : r = [] := hcut
      subst hr
      have HPS := Lib.hid hps
      have HJ := Lib.hid hJ
      clear hps hcut hJ hk hkl
      gi_wp2
      exact bodyPost_end (results_none rfl _ _ _) rfl ⟨⟨_, rfl⟩, .inl ⟨_, (by rw [HPS.out, List.append_nil]), HJ.out⟩⟩
    | ⟨⟨kx, p⟩, hpm⟩ :: ps, hps, hcut =>
      obtain ⟨hkx, hr0, hp, hc⟩ : kx = k ∧ r ≠ [] ∧ p = (cutAt 10 r).1 ∧ LinesOf (k + 1) (ps.map (fun x : {x : Nat × List UInt8 // x ∈ L} => x.1)) (cutAt 10 r).2 := hcut
      have hkx' := hkx.symm
      subst hkx'
      obtain ⟨q1, q2, q3⟩ := cutAt_len 10 r
      have q3 := q3 hr0
      have HI := Lib.hid (cut_any wr r 10 (by omega))
      rw [← hp] at HI
      have hne : ((ByteArray.mk r.toArray).toList != ([] : List UInt8)) = true := by
        rw [ByteArray.toList_mk]
        cases r with
        | nil => exact absurd rfl hr0
        | cons x t => rfl
      have hBz := str_size r
      have hRz := str_size (cutAt 10 r).2
      have hps2 : L.attach = (pre ++ [⟨(k, p), hpm⟩]) ++ ps := by rw [hps, List.append_assoc]; rfl
      have hlt : pre.length < L.attach.length := by rw [hps]; simp
      have HPS := Lib.hid (And.intro hps2 (And.intro hk (And.intro hc (And.intro hJ hlt))))
      have hrl : r.length ≤ 1000000 := hrM
      have hne2 : (!(ByteArray.mk r.toArray).toList.isEmpty) = true := by
        rw [ByteArray.toList_mk]
        cases r with
        | nil => exact absurd rfl hr0
        | cons x t => rfl
      clear hps hps2 hk hc hJ hp hrM hr0 hlt hkx
      generalize hR0 : (cutAt 10 r).2 = r' at HI HPS hRz q2 q3
      generalize (⟨r.toArray⟩ : ByteArray) = B at HI hne hBz hne2 ⊢
      have HR0 := Lib.hid hRz
      clear hR0 hRz
      gi_wp2_with (gi_at_call 28; refine (callsIn_wide.2 HI.out).mono ?_; rintro e w' ⟨b, rfl, nd, rfl⟩; obtain ⟨fn, tmps, assign, body, hy, hR⟩ := hY pre ⟨(k, p), hpm⟩ (wr.drewN nd) (hA _ _ _ HPS.out.2.2.2.1) HPS.out.2.2.2.2; dsimp only at hy)
      refine hR.mono ?_
      rintro e W3 (⟨rfl, hJ3, hk3⟩ | ⟨rfl, hJx3⟩)
      · have HJ3 := Lib.hid hJ3
        clear hJ3 hk3
        gi_wp2
        go_roundw
        case rel => exact ⟨pre ++ [⟨(k, p), hpm⟩], ps, r', k + 1, rfl, by go_num, HPS.out.1, by have := HPS.out.2.1; rw [List.length_append, List.length_singleton]; omega, HPS.out.2.2.1, by omega, HJ3.out⟩
        case measure => show (ByteArray.mk r'.toArray).size < B.size; rw [str_size]; omega
      · gi_wp2
        exact bodyPost_ret (results_none rfl _ _ _) rfl ⟨⟨_, rfl⟩, .inr ⟨_, by rw [HPS.out.1]; exact ⟨ps, rfl⟩, hJx3⟩⟩
end Go.Proofs.Ytakaclkhnajpeaa
