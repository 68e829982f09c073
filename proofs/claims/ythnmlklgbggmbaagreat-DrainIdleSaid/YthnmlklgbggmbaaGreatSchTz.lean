import Derived.Test.YthnmlklgbggmbaaGreatSchDz
import Derived.Deep.RegionHeld3
import Derived.Deep.LoopGhost
namespace Go.Proofs.YthnmlklgbggmbaaGreat
open Go.ChangeShapes Go.WideShapes Go.ChangeAt Go.RowKit
set_option linter.unusedVariables false
set_option linter.unusedSimpArgs false
attribute [local go_sem ↓ 2000] app_pre
attribute [local go_sem] app_run
theorem kS_new {P Q : Nat → Prop} {w1 w2 w3 : World} (h : KeepsS P w1 w2) (k : Keeps Q w2 w3) (hq : ∀ i, Q i → w1.heap.size ≤ i) : KeepsS P w1 w3 :=
  ⟨k.os.trans h.os, k.tape.trans h.tape, k.output.trans h.output, Nat.le_trans h.size k.size, fun i hi hs => by
    rw [k.block i (Nat.lt_of_lt_of_le hi h.size) (fun e => by have := hq i e; omega), h.block i hi hs]⟩
theorem over_cells {w1 : World} {B : Nat} {v : Value} {l : List Int} (h : w1.ownsRow B 3 1 v l.length (l.map (Value.int .i64))) : ∃ a c, v = .slice a l.length c ∧ ∀ (q : Nat) (t : Int), l[q]? = some t → ∃ b, a = some ⟨b, 0, none⟩ ∧ b < w1.heap.size ∧ Ty w1 b 3 ∧ w1.cell? ⟨b, q, none⟩ = some (.int .i64 t) := by
  obtain ⟨a, c, rfl⟩ := owns_slice h
  refine ⟨a, c, rfl, fun q t hq => ?_⟩
  have hl := (List.getElem?_eq_some_iff.1 hq).1
  obtain ⟨b, e1, e2, e3⟩ := owns_cell h (q := q) hl
  refine ⟨b, e1, e2, ?_, e3.trans (by rw [List.getElem?_map, hq]; rfl)⟩
  obtain ⟨_, h | ⟨g, cap, cur, e, _, hb, _⟩⟩ := h
  · omega
  · rw [e1] at e
    injection e with e _ _
    injection e with e
    injection e with e _ _
    exact ⟨_, _, by rw [e]; exact hb⟩
theorem overs_many (M : ScM) : ∀ (l : List Int) (M : ScM), (l.foldl overM M).many = M.many
  | [], _ => rfl
  | t :: l, M => (overs_many M l (overM M t)).trans (over_many t)
theorem overs_take {M : ScM} {l : List Int} {q : Nat} {t : Int} (h : l[q]? = some t) : (l.take (q + 1)).foldl overM M = overM ((l.take q).foldl overM M) t := by
  rw [List.take_add_one, h]
  simp
set_option maxRecDepth 20000 in
set_option maxHeartbeats 8000000 in
theorem stick_any (w : World) (P : Nat → Prop) (a : ScA) (M : ScM) (h : ScW w P a M) (hn : a.n = M.many) :
    Calls Tryz.prog 83 #[.pointer (some ⟨a.s, 0, none⟩)] w fun e w' => ∃ v l, e = .returned v ∧ ToldN M.T l ∧ w'.ownsRow w.heap.size 3 1 v l.length (l.map (Value.int .i64)) ∧ ScW w' P a (tickM M l) ∧ KeepsS P w w' := by
  have hmf : ∀ (fn : Fn) (first cap : Array Value) (w : World), (Instr.makeFunc fn first cap).run Tryz.prog w = .ok (.func fn first cap) w := fun _ _ _ _ => rfl
  have le := h.le
  have c35 := h.cD
  have HT := Lib.hid (sc_dtick w P a M h)
  have HIN := Lib.hid h.tin
  clear h
  go_enter Tryz.func83, Tryz.ntmps83
  go_wp2_with fail
  go_step3
  go_wp2_with fail
  refine HT.out.mono ?_
  rintro e w1 ⟨v, l, rfl, htold, hlen, hown, h1, k1⟩
  obtain ⟨ao, co, rfl, hcells⟩ := over_cells hown
  have HO := Lib.hid hcells
  have H1 := Lib.hid (And.intro htold (And.intro h1 k1))
  have hl16 : l.length ≤ 16 := hlen
  clear hown hcells htold h1 k1 HT c35
  go_wp2_with fail
  go_step3
  go_wp2_with fail
  go_loopg [3, 5] l.length (fun g v3 v5 wr => ∃ q : Nat, q + g = l.length ∧ wr.ownsRow w1.heap.size 3 1 v3 q ((l.take q).map (Value.int .i64)) ∧ ScW wr P a ((l.take q).foldl overM { M with T := fun t => M.T t - 1 }) ∧ KeepsS P w1 wr)
  case atStart => exact ⟨0, by omega, World.ownsRow_nil _ _ _ _, H1.out.2.1, Keeps.refl _ _⟩
  case round =>
    obtain ⟨q, hqg, hown, hS, hK⟩ := hrel
    obtain ⟨a3, c3, rfl⟩ := owns_slice hown
    have HZ := Lib.hid (And.intro hown (And.intro hS hK))
    clear hown hS hK
    by_cases hlt : q < l.length
    · obtain ⟨g, rfl⟩ : ∃ g, gk = g + 1 := ⟨gk - 1, by omega⟩
      obtain ⟨t', ht'⟩ : ∃ t', l[q]? = some t' := ⟨_, List.getElem?_eq_getElem hlt⟩
      have hone := (H1.out.1.one t').1 (List.mem_of_getElem? ht')
      obtain ⟨t1, t2⟩ := HIN.out t' (by omega)
      obtain ⟨t, rfl⟩ := Int.eq_ofNat_of_zero_le t1
      have htm : t < M.many := by omega
      obtain ⟨bo, rfl, hbl, hbt, hbc⟩ := HO.out q _ ht'
      have hK := HZ.out.2.2
      have cb : wr.cell? ⟨bo, q, none⟩ = some (.int .i64 (t : Int)) := (World.cell?_of_block (a := ⟨bo, q, none⟩) (hK.block bo hbl fun e => KeepsTy.apart hbt (by decide) e.2)).trans hbc
      have e0 : ((q : Int) == (l.length : Int)) = false := beq_eq_false_iff_ne.2 (by omega)
      have e0' : (q == l.length) = false := beq_eq_false_iff_ne.2 (by omega)
      have e1 : decide (q < l.length) = true := decide_eq_true hlt
      have e2 : decide ((q : Int) < (l.length : Int)) = true := decide_eq_true (by omega)
      have e3 : (0 : Int) ≤ (q : Int) := by omega
      have e4 : (q : Int) < (l.length : Int) := by omega
      have hbl' : bo < wr.heap.size := Nat.lt_of_lt_of_le hbl hK.size
      have c36 := HZ.out.2.1.cQ
      have HQR := Lib.hid (sc_qrem wr P a _ HZ.out.2.1 (t : Int))
      have HTK := Lib.hid (overs_take (M := { M with T := fun t => M.T t - 1 }) ht')
      have HTL := Lib.hid ht'
      have HMM := Lib.hid (show t < ((l.take q).foldl overM { M with T := fun t => M.T t - 1 }).many by rw [overs_many M]; exact htm)
      generalize (l.take q).foldl overM { M with T := fun t => M.T t - 1 } = Mq at *
      have HQ16 := Lib.hid (show q < 1000000 by omega)
      have d1 : decide ((t : Int) < 16) = true := decide_eq_true (by omega)
      have d2 : t < 16 := by omega
      have d3 : (0 : Int) ≤ (t : Int) := by omega
      have d4 : (t : Int) < 16 := by omega
      clear ht' hone t1 t2 hbl hbt hbc hK
      go_wp2_with fail
      refine HQR.out.mono ?_
      rintro e w2 ⟨rfl, h2, k2⟩
      have ct := h2.cTask t HMM.out
      have HST := Lib.hid (fun W (hk : Keeps (fun _ => False) w2 W) => sc_state W P a _ (h2.quiet hk) t HMM.out)
      have HRS := Lib.hid (fun W (hk : Keeps (fun _ => False) w2 W) => resume_any W P a _ (h2.quiet hk) t HMM.out (Mq.st t == 3) 0 0)
      have K2 := Lib.hid k2
      clear h2 k2 HQR cb hbl'
      go_wp2_with fail
      go_region_held3 (fun w' => w'.cell? ⟨a.s, t, none⟩ = some (.pointer (some ⟨a.tb t, 0, none⟩)))
        (first
          | go_keep
          | exact ct
          | exact y0)
        (first
          | (go_at_call 77; refine (HST.out _ (by first | exact (Keeps.refl _ _).drew | exact (Keeps.refl _ _).drewN _ | exact Keeps.refl _ _)).mono ?_; rintro e w3 ⟨rfl, rfl⟩)
          | (go_at_call 139; refine (HRS.out _ (by first | exact (Keeps.refl _ _).drew | exact (Keeps.refl _ _).drewN _ | exact Keeps.refl _ _)).mono ?_; rintro e w4 ⟨rfl, h4, k4⟩; have H4 := Lib.hid h4; have K4 := Lib.hid (kS K2.out (kS (by first | exact (Keeps.refl _ _).drew | exact (Keeps.refl _ _).drewN _ | exact Keeps.refl _ _) k4)); have y0 := h4.cTask t (by unfold resumeM wakeM; split <;> (try split) <;> exact HMM.out); clear h4 k4 HRS HST))
      have hrow4 := owns_keeps HZ.out.1 K4.out (fun k hk cs hc => KeepsTy.apart ⟨_, _, hc⟩ (by decide) hk.2)
      obtain ⟨v3, hv3⟩ : ∃ v3, v3 = Value.slice a3 q c3 := ⟨_, rfl⟩
      rw [← hv3] at hrow4 ⊢
      clear hv3
      obtain ⟨g1, cap1, w5, hrun, hown5, hk5⟩ := app_int (t : Int) hrow4 (Nat.le_trans HZ.out.2.2.size K4.out.size) HQ16.out
      have HY := Lib.hid (And.intro hown5 hk5)
      clear hrow4 hown5 hk5 ct
      go_wp2
      go_roundg g
      case measure => omega
      case rel =>
        refine ⟨q + 1, by omega, ?_, ?_, kS_new (kS HZ.out.2.2 K4.out) HY.out.2 fun i e => e.1⟩
        · rw [List.take_add_one, HTL.out, List.map_append]
          exact HY.out.1
        · refine (H4.out.keepTy (HY.out.2.mono (T := fun k => ∃ T, T ∈ [3] ∧ Ty _ k T) fun k _ e => ⟨_, .head _, e.2.choose, _, e.2.choose_spec⟩) (by decide)).same ?_
          rw [HTK.out]
          rfl
    · obtain rfl : q = l.length := by omega
      have e0 : (l.length == l.length) = true := beq_self_eq_true _
      clear hlt
      go_wp2_with fail
      try rw [Exit.noGoto_ret]
      go_ret
      refine ⟨_, l, rfl, H1.out.1, owns_base (B := w1.heap.size) ?_ H1.out.2.2.size, HZ.out.2.1.same ?_, kS H1.out.2.2 HZ.out.2.2⟩
      · have := HZ.out.1
        rw [List.take_length] at this
        exact this
      · rw [List.take_length]
        rfl
end Go.Proofs.YthnmlklgbggmbaaGreat
