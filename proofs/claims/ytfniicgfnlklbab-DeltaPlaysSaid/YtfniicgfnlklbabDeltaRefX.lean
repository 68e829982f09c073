import Derived.Test.YtfniicgfnlklbabDeltaRefW
import Derived.Deep.RegionLawGrows
namespace Go.Proofs.Ytfniicgfnlklbab
open Go.ChangeShapes Go.WideShapes Go.ChangeAt Go.RowKit
set_option linter.unusedVariables false
set_option linter.unusedSimpArgs false
/-- The document's row, in memory, at the head of a block of its own. -/
structure LP (w : World) (A : Option Addr) (c : Nat) (R : List (Int × Nat)) : Prop where
  nil : A = none → R = [] ∧ c = 0
  le : R.length ≤ c
  lies : ∀ ad, A = some ad → ∃ b, ad = ⟨b, 0, none⟩ ∧ b < w.heap.size ∧ ∀ j u, (flatP R)[j]? = some u → w.cell? ⟨b, j, none⟩ = some u
theorem LP.none {w w' : World} {A : Option Addr} {c : Nat} {R : List (Int × Nat)} (h : LP w A c R) (hk : Keeps (fun _ => False) w w') : LP w' A c R :=
  ⟨h.nil, h.le, fun ad e => by
    obtain ⟨b, rfl, hb, hc⟩ := h.lies ad e
    exact ⟨b, rfl, Nat.lt_of_lt_of_le hb hk.size, fun j u hu => (World.cell?_of_block (w := w) (hk.block b hb fun h => h)).trans (hc j u hu)⟩⟩
theorem LP.get {w : World} {A : Option Addr} {c : Nat} {R : List (Int × Nat)} (h : LP w A c R) (i : Nat) (a : Int × Nat) (hi : R[i]? = some a) : ∃ b, A = some ⟨b, 0, Option.none⟩ ∧ b < w.heap.size ∧ w.cell? ⟨b, i * 2, Option.none⟩ = some (.int .i64 a.1) ∧ w.cell? ⟨b, i * 2 + 1, Option.none⟩ = some (.int .u64 (a.2 : Int)) := by
  cases hA : A with
  | none =>
    rw [(h.nil hA).1] at hi
    simp at hi
  | some ad =>
    obtain ⟨b, rfl, hb, hc⟩ := h.lies ad hA
    have := flatP_at R i a hi
    exact ⟨b, rfl, hb, hc _ _ this.1, hc _ _ this.2⟩
theorem LP.empty (w : World) : LP w Option.none 0 [] := ⟨fun _ => ⟨rfl, rfl⟩, Nat.le_refl _, fun ad e => by cases e⟩
theorem LP.ofOwn {w : World} {B n : Nat} {E : TypeId} {v : Value} {R : List (Int × Nat)} (h : w.ownsRow B E 2 v n (flatP R)) : ∃ A c, v = .slice A R.length c ∧ LP w A c R := by
  have hn : n = R.length := by have := h.1; rw [flatP_len] at this; omega
  subst hn
  rcases h.2 with ⟨rfl, h0⟩ | ⟨g, cap, cur, rfl, hg, hb, hc1, hc2, hs, ht⟩
  · have hR : R = [] := List.eq_nil_of_length_eq_zero h0
    subst hR
    exact ⟨Option.none, 0, rfl, LP.empty w⟩
  · refine ⟨_, cap, rfl, ⟨(fun e => by cases e), hc1, fun ad e => ⟨g, (by injection e with e; exact e.symm), lt_of hb, fun j u hu => ?_⟩⟩⟩
    rw [← ht] at hu
    have e1 : w.cell? ⟨g, j, Option.none⟩ = cur[j]? := by simp [World.cell?, hb]
    rw [e1]
    rw [List.getElem?_take] at hu
    split at hu
    · simpa using hu
    · cases hu
theorem Try.infoL : (Try.prog.info? 3).map (fun i => (i.zero, i.size, i.bytes)) = some (some (.int .i64 0), 1, 8) := by kernel_rfl
theorem own_low {w : World} {B B' n s : Nat} {E : TypeId} {v : Value} {xs : List Value} (h : w.ownsRow B E s v n xs) (hb : B' ≤ B) : w.ownsRow B' E s v n xs := by
  refine ⟨h.1, ?_⟩
  rcases h.2 with h0 | ⟨g, cap, cur, h1, h2, h3⟩
  · exact .inl h0
  · exact .inr ⟨g, cap, cur, h1, Nat.le_trans hb h2, h3⟩
theorem own_some {w : World} {B s m : Nat} {E : TypeId} {v : Value} {xs : List Value} (h : w.ownsRow B E s v (1 + m) xs) : ∃ g cap, v = .slice (some ⟨g, 0, none⟩) (1 + m) cap ∧ ∀ j u, xs[j]? = some u → w.cell? ((⟨g, 0, none⟩ : Addr).add j) = some u := by
  rcases h.2 with ⟨_, h0⟩ | ⟨g, cap, cur, rfl, hg, hb, hc1, hc2, hs, ht⟩
  · omega
  · refine ⟨g, cap, rfl, fun j u hu => ?_⟩
    rw [← ht] at hu
    rw [show ((⟨g, 0, none⟩ : Addr).add j) = ⟨g, j, none⟩ by unfold Addr.add; split <;> simp_all]
    have e1 : w.cell? ⟨g, j, none⟩ = cur[j]? := by simp [World.cell?, hb]
    rw [e1]
    rw [List.getElem?_take] at hu
    split at hu
    · simpa using hu
    · cases hu
theorem ins_one (x : Int) (y : Nat) (l : List (Int × Nat)) : ∀ u ∈ [Value.int .i64 x, Value.int .u64 (y : Int)] ++ flatP l, u.oneCell' = true := by
  intro u hu
  rcases List.mem_append.1 hu with hu | hu
  · simp at hu
    rcases hu with rfl | rfl <;> rfl
  · exact flatP_one _ u hu
theorem LP.news {w : World} {A : Option Addr} {c : Nat} {R : List (Int × Nat)} (h : LP w A c R) (k : Nat) : ∀ ad, A = some ad → ∀ j u, (flatP (R.take k))[j]? = some u → w.cell? (ad.add j) = some u := by
  intro ad e j u hu
  obtain ⟨b, rfl, _, hc⟩ := h.lies ad e
  rw [show ((⟨b, 0, Option.none⟩ : Addr).add j) = ⟨b, j, Option.none⟩ by unfold Addr.add; split <;> simp_all]
  exact hc j u (flatP_take R k j u hu)
theorem LP.newsD {w : World} {b c : Nat} {R : List (Int × Nat)} (h : LP w (some ⟨b, 0, Option.none⟩) c R) (k : Nat) (hk : k ≤ R.length) : ∀ ad : Addr, (if c = k then some (⟨b, 0, Option.none⟩ : Addr) else some ⟨b, k * 2, Option.none⟩) = some ad → ∀ (j : Nat) (u : Value), (flatP (R.drop k))[j]? = some u → w.cell? (ad.add j) = some u := by
  intro ad e j u hu
  have hle := h.le
  by_cases hc : c = k
  · rw [List.drop_eq_nil_of_le (by omega)] at hu
    simp [flatP] at hu
  · rw [if_neg hc] at e
    injection e with e
    subst e
    obtain ⟨b', e', hb, hcl⟩ := h.lies _ rfl
    injection e' with e1
    subst e1
    have := hcl _ u (flatP_drop R k j hk u hu)
    rw [show ((⟨b, k * 2, Option.none⟩ : Addr).add j) = ⟨b, k * 2 + j, Option.none⟩ by unfold Addr.add; split <;> simp_all]
    exact this
theorem keep_grown {a wa w2 : World} {row : Option Nat} (hk : Keeps (fun _ => False) a wa) (hg : wa.grownBy w2 row) (hr : ∀ k, row = some k → a.heap.size ≤ k) : Keeps (fun _ => False) a w2 :=
  ⟨hg.os.trans hk.os, hg.tape.trans hk.tape, hg.output.trans hk.output, Nat.le_trans hk.size hg.size, fun k h1 _ => (hg.block k (Nat.lt_of_lt_of_le h1 hk.size) fun e => by have := hr k e.symm; omega).trans (hk.block k h1 fun h => h)⟩
theorem own_one2 (w : World) (B : Nat) (E : TypeId) (x y : Value) (hB : B ≤ w.heap.size) : (w.alloc (.cells #[x, y] E)).ownsRow B E 2 (.slice (some ⟨w.heap.size, 0, none⟩) 1 1) 1 [x, y] :=
  ⟨rfl, .inr ⟨w.heap.size, 1, #[x, y], rfl, hB, heap_new _ _, Nat.le_refl _, by unfold maxLen; omega, rfl, rfl⟩⟩
set_option maxRecDepth 20000 in
set_option maxHeartbeats 4000000 in
theorem rlist (A : Option Addr) (n c : Nat) (P : Nat → Int) (X : Nat → Nat) (w : World) (hn : n ≤ 100) (h : RRow w A n P X) :
    Calls Try.prog 18 #[.agg #[.slice A n c]] w fun e w' => ∃ v, e = .returned v ∧ w'.ownsRow w.heap.size 3 1 v n ((sortS ((List.range n).map fun i => (P i, X i))).map fun a => .int .i64 a.1) ∧ Keeps (fun _ => False) w w' := by
  obtain ⟨D, hD⟩ : ∃ D, (List.range n).map (fun i => (P i, X i)) = D := ⟨_, rfl⟩
  rw [hD]
  have hDi : ∀ i, i < n → D[i]? = some (P i, X i) := fun i hi => by rw [← hD]; simp [hi]
  have hDl : D.length = n := by rw [← hD]; simp
  obtain ⟨SF, hSF⟩ : ∃ SF, sortS D = SF := ⟨_, rfl⟩
  rw [hSF]
  have HD := Lib.hid (And.intro hDi (And.intro hDl hSF))
  have HR := Lib.hid h
  clear h hD hDi hDl hSF
  go_enter Try.func18, Try.ntmps18
  go_wp2_with fail
  obtain ⟨wo, rfl⟩ : ∃ wo : World, wo = w := ⟨_, rfl⟩
  go_loopw [3, 4] (fun v i wr => ∃ (k : Nat) (B : Option Addr) (cb : Nat), k ≤ n ∧ i = .int .i64 (k : Int) ∧ v = .slice B k cb ∧ LP wr B cb (sortS (D.take k)) ∧ wr.heap[wo.heap.size]? = some (.cells #[.slice A n c] 30 (0, 0)) ∧ Keeps (fun _ => False) wo wr) (fun _ i _ => n - (intOf i).toNat)
  case atStart => exact ⟨0, none, 0, by omega, rfl, rfl, LP.empty _, heap_new _ _, (Keeps.refl _ _).alloc _⟩
  case round =>
  obtain ⟨i, B, cb, hi, rfl, rfl, hlp, hbx, hK⟩ := hrel
  have q0 : wr.cell? ⟨wo.heap.size, 0, none⟩ = some (.slice A n c) := cell_of hbx 0
  have lb := lt_of hbx
  by_cases hlt : i < n
  · have hll : (sortS (D.take i)).length = i := by rw [sortS_len, List.length_take, HD.out.2.1]; omega
    have hst : sortS (D.take (i + 1)) = insS (sortS (D.take i)) (P i, X i) := by
      rw [List.take_add_one, HD.out.1 i hlt]
      exact sortS_snoc _ _
    have hsd := sortS_sorted (D.take i)
    obtain ⟨l, hle⟩ : ∃ l, sortS (D.take i) = l := ⟨_, rfl⟩
    rw [hle] at hlp hll hst hsd
    obtain ⟨db, doff, rfl, hdb, hdc⟩ := (HR.out.none hK) (by omega)
    obtain ⟨d0, d1⟩ := hdc i hlt
    have HW := Lib.hid (And.intro hlp (And.intro hbx hK))
    have HS := Lib.hid (And.intro hll (And.intro hst hsd))
    clear hlp hbx hK hll hst hsd hle hdc
    obtain ⟨wr0, rfl⟩ : ∃ x : World, x = wr := ⟨_, rfl⟩
    go_wp2_with fail
    go_loopw [5] (fun t w2 => ∃ k : Nat, k ≤ i ∧ t = .int .i64 (k : Int) ∧ (∀ j a, k ≤ j → l[j]? = some a → X i < a.2) ∧ Keeps (fun _ => False) wr0 w2) (fun t _ => (intOf t).toNat)
    case atStart => exact ⟨i, by omega, rfl, (fun j a hj ha => by rw [List.getElem?_eq_none (by rw [HS.out.1]; exact hj)] at ha; cases ha), Keeps.refl _ _⟩
    case round =>
    obtain ⟨k, hk, rfl, hhi, hK2⟩ := hrel
    have q1 : wr.cell? ⟨wo.heap.size, 0, none⟩ = some (.slice (some ⟨db, doff, none⟩) n c) := cell_of (hK2.at HW.out.2.1 fun h => h) 0
    obtain ⟨z0, z1⟩ := rrow_at (HR.out.none (HW.out.2.2.trans hK2)) i hlt
    have lb2 : wo.heap.size < wr.heap.size := Nat.lt_of_lt_of_le lb hK2.size
    have ldb : db < wr.heap.size := Nat.lt_of_lt_of_le hdb hK2.size
    rcases k with _ | j
    · have f1 : decide ((0 : Int) < ((0 : Nat) : Int)) = false := rfl
      have HHI := Lib.hid hhi
      have HK2 := Lib.hid hK2
      clear hhi hK2
      have hlo : ∀ a, 0 < 0 → l[0 - 1]? = some a → a.2 ≤ X i := fun a h => absurd h (by omega)
      rcases B with _ | ad
      · obtain ⟨rfl, rfl⟩ := HW.out.1.nil rfl
        obtain rfl : i = 0 := by rw [← HS.out.1]; rfl
        rw [Nat.zero_mul, Nat.add_zero] at z0 z1
        go_wp2_with fail
        go_quiet (fail)
        go_wp2_with fail
        have hnb : ∀ w' : World, Keeps (fun _ => False) wr w' → ∀ ad : Addr, (none : Option Addr) = some ad → ∀ (j' : Nat) (u : Value), (flatP (([] : List (Int × Nat)).drop 0))[j']? = some u → w'.cell? (ad.add j') = some u := fun w' hk ad e => by cases e
        have HIN := Lib.hid (insS_at [] (P 0, X 0) (0) (by rw [HS.out.1]; omega) HS.out.2.2 HHI.out hlo)
        have HKA := Lib.hid (show Keeps (fun _ => False) wr (((wr.drewN (nq + 1)).alloc (.cells #[.int .i64 (P 0), .int .u64 (X 0 : Int)] 58))) from ((Keeps.refl _ _).drewN (nq + 1)).alloc _)
        have HOW := Lib.hid (show (((wr.drewN (nq + 1)).alloc (.cells #[.int .i64 (P 0), .int .u64 (X 0 : Int)] 58))).ownsRow wo.heap.size 58 2 (.slice (some ⟨wr.heap.size, 0, none⟩) 1 1) 1 [.int .i64 (P 0), .int .u64 (X 0 : Int)] from own_one2 (wr.drewN (nq + 1)) wo.heap.size 58 _ _ (Nat.le_of_lt lb2))
        have HLP := Lib.hid (HW.out.1.none HK2.out)
        have hld : (flatP (([] : List (Int × Nat)).drop (0))).length = (0 - (0)) * 2 := by rw [flatP_len, List.length_drop, HS.out.1]
        have hlt2 : (flatP (([] : List (Int × Nat)).take (0))).length = (0) * 2 := by rw [flatP_len, List.length_take, HS.out.1, Nat.min_eq_left (by omega)]
        have HLL := Lib.hid (And.intro hld hlt2)
        have HNB := Lib.hid hnb
        obtain ⟨i0, hi0, hz0, hz1, hz2⟩ := info_parts Try.infoW
        clear hld hlt2 hlo hnb
        go_region_held3 (fun w' => w'.cell? ⟨wo.heap.size, 0, none⟩ = some (.slice (some ⟨db, doff, none⟩) n c) ∧ w'.cell? ⟨db, doff, none⟩ = some (.int .i64 (P 0)) ∧ w'.cell? ⟨db, doff + 1, none⟩ = some (.int .u64 (X 0 : Int)))
          (first
            | exact ⟨s1, s2, s3⟩
            | exact ⟨r1, r2, r3⟩
            | exact ⟨q1, z0, z1⟩
            | go_keep)
          ((first
            | (refine step_app_any rfl (.tmp 45) (.tmp 48) 28 rfl wo.heap.size 58 i0 (.agg #[.int .i64 0, .int .u64 0]) 2 16 Try.underlying28 hi0 hz0 hz1 hz2 rfl (by decide) (.slice (some ⟨wr.heap.size, 0, none⟩) 1 1) 1 [.int .i64 (P 0), .int .u64 (X 0 : Int)] rfl HOW.out none (0) (0) (flatP (([] : List (Int × Nat)).drop (0))) rfl (fun _ => ⟨rfl, rfl⟩) HLL.out.1 (HNB.out _ HKA.out) (flatP_one _) (by unfold maxLen; omega) (by omega) (by have := HKA.out.size; omega) ?_; intro v2 w2 hown2 hgrow; have hkk := keep_grown HKA.out hgrow (fun k e => by have e2 : wr.heap.size = k := Option.some.inj e; omega); obtain ⟨gg, cc, rfl, hnn⟩ := own_some hown2; have HNN := Lib.hid (And.intro hnn (And.intro hown2.1 hkk)); have r1 := cell_of ((HW.out.2.1 |> (HK2.out.at · fun h => h)) |> (hkk.at · fun h => h)) 0; have rz := rrow_at (HR.out.none ((HW.out.2.2.trans HK2.out).trans hkk)) 0 hlt; rw [Nat.zero_mul, Nat.add_zero] at rz; have r2 := rz.1; have r3 := rz.2; clear hown2 hgrow hkk hnn rz)
            | (refine step_append_grows rfl (.tmp 39) (.tmp 49) 28 rfl 58 i0 (.agg #[.int .i64 0, .int .u64 0]) 2 16 Try.underlying28 hi0 hz0 hz1 hz2 rfl (by decide) none (0) (0) (flatP (([] : List (Int × Nat)).take (0))) rfl (fun e => by first | exact ⟨rfl, rfl⟩ | cases e) HLL.out.2 ((HLP.out.none HNN.out.2.2).news (0)) ⟨gg, 0, none⟩ (1 + (0)) cc ([.int .i64 (P 0), .int .u64 (X 0 : Int)] ++ flatP (([] : List (Int × Nat)).drop (0))) rfl HNN.out.2.1 HNN.out.1 (ins_one _ _ _) (by omega) (by unfold maxLen; omega) (by omega) ?_; intro v3 w3 hown3 hgrow; have hkk := keep_grown HNN.out.2.2 hgrow (fun k e => by cases e); obtain ⟨B3, c3, rfl, hlp3⟩ := LP.ofOwn (R := insS [] (P 0, X 0)) (by rw [HIN.out, flatP_app, flatP_app, List.append_assoc]; exact hown3); rw [insS_len, HS.out.1]; have H3 := Lib.hid (And.intro hlp3 hkk); have s1 := cell_of ((HW.out.2.1 |> (HK2.out.at · fun h => h)) |> (hkk.at · fun h => h)) 0; have rz := rrow_at (HR.out.none ((HW.out.2.2.trans HK2.out).trans hkk)) 0 hlt; rw [Nat.zero_mul, Nat.add_zero] at rz; have s2 := rz.1; have s3 := rz.2; clear hown3 hgrow hkk hlp3 rz)
            | fail))
        go_wp2_with fail
        exact ⟨⟨0 + 1, B3, c3, by omega, by go_num, rfl, by rw [HS.out.2.1]; exact H3.out.1, H3.out.2.at (HK2.out.at HW.out.2.1 fun h => h) fun h => h, (HW.out.2.2.trans HK2.out).trans H3.out.2⟩, by simp [intOf]; omega⟩
      · obtain ⟨b, rfl, hb, _⟩ := HW.out.1.lies ad rfl
        have g6 : (i : Int) ≤ (cb : Int) := by have := HW.out.1.le; rw [HS.out.1] at this; omega
        have g7 : (0 : Int) ≤ (cb : Int) := by omega
        have g8 : (0 : Int) ≤ (i : Int) := by omega
        go_wp2_with fail
        go_quiet (fail)
        go_wp2_with fail
        have hnb : ∀ w', Keeps (fun _ => False) wr w' → ∀ ad : Addr, some (⟨b, 0, none⟩ : Addr) = some ad → ∀ (j' : Nat) (u : Value), (flatP (l.drop 0))[j']? = some u → w'.cell? (ad.add j') = some u := fun w' hk ad e j' u hu => ((HW.out.1.none HK2.out).none hk).news i ad e j' u (by rw [List.take_of_length_le (by rw [HS.out.1]; exact Nat.le_refl _)]; simpa using hu)
        have HIN := Lib.hid (insS_at l (P i, X i) (0) (by rw [HS.out.1]; omega) HS.out.2.2 HHI.out hlo)
        have HKA := Lib.hid (show Keeps (fun _ => False) wr (((wr.drewN (nq + 1)).alloc (.cells #[.int .i64 (P i), .int .u64 (X i : Int)] 58))) from ((Keeps.refl _ _).drewN (nq + 1)).alloc _)
        have HOW := Lib.hid (show (((wr.drewN (nq + 1)).alloc (.cells #[.int .i64 (P i), .int .u64 (X i : Int)] 58))).ownsRow wo.heap.size 58 2 (.slice (some ⟨wr.heap.size, 0, none⟩) 1 1) 1 [.int .i64 (P i), .int .u64 (X i : Int)] from own_one2 (wr.drewN (nq + 1)) wo.heap.size 58 _ _ (Nat.le_of_lt lb2))
        have HLP := Lib.hid (HW.out.1.none HK2.out)
        have hld : (flatP (l.drop (0))).length = (i - (0)) * 2 := by rw [flatP_len, List.length_drop, HS.out.1]
        have hlt2 : (flatP (l.take (0))).length = (0) * 2 := by rw [flatP_len, List.length_take, HS.out.1, Nat.min_eq_left (by omega)]
        have HLL := Lib.hid (And.intro hld hlt2)
        have HNB := Lib.hid hnb
        obtain ⟨i0, hi0, hz0, hz1, hz2⟩ := info_parts Try.infoW
        clear hld hlt2 hlo hnb
        go_region_held3 (fun w' => w'.cell? ⟨wo.heap.size, 0, none⟩ = some (.slice (some ⟨db, doff, none⟩) n c) ∧ w'.cell? ⟨db, doff + i * 2, none⟩ = some (.int .i64 (P i)) ∧ w'.cell? ⟨db, doff + i * 2 + 1, none⟩ = some (.int .u64 (X i : Int)))
          (first
            | exact ⟨s1, s2, s3⟩
            | exact ⟨r1, r2, r3⟩
            | exact ⟨q1, z0, z1⟩
            | go_keep)
          ((first
            | (refine step_app_any rfl (.tmp 45) (.tmp 48) 28 rfl wo.heap.size 58 i0 (.agg #[.int .i64 0, .int .u64 0]) 2 16 Try.underlying28 hi0 hz0 hz1 hz2 rfl (by decide) (.slice (some ⟨wr.heap.size, 0, none⟩) 1 1) 1 [.int .i64 (P i), .int .u64 (X i : Int)] rfl HOW.out (some ⟨b, 0, none⟩) (i) (cb) (flatP (l.drop (0))) rfl (fun e => by cases e) HLL.out.1 (HNB.out _ HKA.out) (flatP_one _) (by unfold maxLen; omega) (by omega) (by have := HKA.out.size; omega) ?_; intro v2 w2 hown2 hgrow; have hkk := keep_grown HKA.out hgrow (fun k e => by have e2 : wr.heap.size = k := Option.some.inj e; omega); obtain ⟨gg, cc, rfl, hnn⟩ := own_some hown2; have HNN := Lib.hid (And.intro hnn (And.intro hown2.1 hkk)); have r1 := cell_of ((HW.out.2.1 |> (HK2.out.at · fun h => h)) |> (hkk.at · fun h => h)) 0; have rz := rrow_at (HR.out.none ((HW.out.2.2.trans HK2.out).trans hkk)) i hlt; have r2 := rz.1; have r3 := rz.2; clear hown2 hgrow hkk hnn rz)
            | (refine step_append_grows rfl (.tmp 39) (.tmp 49) 28 rfl 58 i0 (.agg #[.int .i64 0, .int .u64 0]) 2 16 Try.underlying28 hi0 hz0 hz1 hz2 rfl (by decide) (some ⟨b, 0, none⟩) (0) (0) (flatP (l.take (0))) rfl (fun e => by first | exact ⟨rfl, rfl⟩ | cases e) HLL.out.2 ((HLP.out.none HNN.out.2.2).news (0)) ⟨gg, 0, none⟩ (1 + (i)) cc ([.int .i64 (P i), .int .u64 (X i : Int)] ++ flatP (l.drop (0))) rfl HNN.out.2.1 HNN.out.1 (ins_one _ _ _) (by omega) (by unfold maxLen; omega) (by omega) ?_; intro v3 w3 hown3 hgrow; have hkk := keep_grown HNN.out.2.2 hgrow (fun k e => by cases e); obtain ⟨B3, c3, rfl, hlp3⟩ := LP.ofOwn (R := insS l (P i, X i)) (by rw [HIN.out, flatP_app, flatP_app, List.append_assoc]; exact hown3); rw [insS_len, HS.out.1]; have H3 := Lib.hid (And.intro hlp3 hkk); have s1 := cell_of ((HW.out.2.1 |> (HK2.out.at · fun h => h)) |> (hkk.at · fun h => h)) 0; have rz := rrow_at (HR.out.none ((HW.out.2.2.trans HK2.out).trans hkk)) i hlt; have s2 := rz.1; have s3 := rz.2; clear hown3 hgrow hkk hlp3 rz)
            | fail))
        go_wp2_with fail
        exact ⟨⟨i + 1, B3, c3, by omega, by go_num, rfl, by rw [HS.out.2.1]; exact H3.out.1, H3.out.2.at (HK2.out.at HW.out.2.1 fun h => h) fun h => h, (HW.out.2.2.trans HK2.out).trans H3.out.2⟩, by simp [intOf]; omega⟩
    · obtain ⟨x, hx⟩ : ∃ x, l[j]? = some x := ⟨_, List.getElem?_eq_getElem (by rw [HS.out.1]; omega)⟩
      obtain ⟨b, rfl, hb, y0, y1⟩ := (HW.out.1.none hK2).get j x hx
      have f1 : decide ((0 : Int) < (j : Int) + 1) = true := decide_eq_true (by omega)
      have f2 : decide (0 < j + 1) = true := decide_eq_true (by omega)
      have f3 : IntKind.i64.wrap ((j : Int) + 1 - 1) = (j : Int) := (IntWalk.i64_in _ ⟨by omega, by omega⟩).trans (by omega)
      have hji : j < i := by omega
      by_cases hgt : X i < x.2
      · have f4 : decide ((X i : Int) < (x.2 : Int)) = true := decide_eq_true (by omega)
        have f5 : decide (X i < x.2) = true := decide_eq_true hgt
        have HHI := Lib.hid (show ∀ j' a, j ≤ j' → l[j']? = some a → X i < a.2 from fun j' a h1 h2 => by
          rcases Nat.lt_or_ge j j' with h3 | h3
          · exact hhi j' a h3 h2
          · have e : j' = j := by omega
            rw [e, hx] at h2
            injection h2 with h2
            rw [← h2]
            exact hgt)
        have HK2 := Lib.hid hK2
        clear hhi hK2 hx hgt
        go_wp2_with fail
        go_quiet (fail)
        go_wp2_with fail
        go_roundw
        case rel => exact ⟨j, by omega, by go_num, HHI.out, HK2.out.drewN nq⟩
        case measure => simp [intOf]
      · have f4 : decide ((X i : Int) < (x.2 : Int)) = false := decide_eq_false (by omega)
        have f5 : decide (X i < x.2) = false := decide_eq_false hgt
        have HHI := Lib.hid hhi
        have HK2 := Lib.hid hK2
        clear hhi hK2
        go_wp2_with fail
        go_quiet (fail)
        go_wp2_with fail
        have hlo : ∀ a, 0 < j + 1 → l[j + 1 - 1]? = some a → a.2 ≤ X i := fun a _ h => by
          rw [Nat.add_sub_cancel, hx] at h
          injection h with h
          rw [← h]
          omega
        have g1 : (j : Int) + 1 ≤ (cb : Int) := by have := HW.out.1.le; rw [HS.out.1] at this; omega
        have g2 : (j : Int) + 1 ≤ (i : Int) := by omega
        have g3 : (0 : Int) ≤ (j : Int) + 1 := by omega
        have g4 : ((j : Int) + 1).toNat = j + 1 := by omega
        have g5 : j + 1 ≤ cb := by omega
        have g6 : (i : Int) ≤ (cb : Int) := by have := HW.out.1.le; rw [HS.out.1] at this; omega
        have hnb : ∀ w', Keeps (fun _ => False) wr w' → ∀ ad : Addr, (if cb = j + 1 then some (⟨b, 0, none⟩ : Addr) else some ⟨b, (j + 1) * 2, none⟩) = some ad → ∀ (j' : Nat) (u : Value), (flatP (l.drop (j + 1)))[j']? = some u → w'.cell? (ad.add j') = some u := fun w' hk => ((HW.out.1.none HK2.out).none hk).newsD (j + 1) (by rw [HS.out.1]; omega)
        clear f1 f2 f3 f4 f5 y0 y1 hx
        have HIN := Lib.hid (insS_at l (P i, X i) (j + 1) (by rw [HS.out.1]; omega) HS.out.2.2 HHI.out hlo)
        have HKA := Lib.hid (show Keeps (fun _ => False) wr (((wr.drewN (nq + 1)).alloc (.cells #[.int .i64 (P i), .int .u64 (X i : Int)] 58))) from ((Keeps.refl _ _).drewN (nq + 1)).alloc _)
        have HOW := Lib.hid (show (((wr.drewN (nq + 1)).alloc (.cells #[.int .i64 (P i), .int .u64 (X i : Int)] 58))).ownsRow wo.heap.size 58 2 (.slice (some ⟨wr.heap.size, 0, none⟩) 1 1) 1 [.int .i64 (P i), .int .u64 (X i : Int)] from own_one2 (wr.drewN (nq + 1)) wo.heap.size 58 _ _ (Nat.le_of_lt lb2))
        have HLP := Lib.hid (HW.out.1.none HK2.out)
        have hld : (flatP (l.drop (j + 1))).length = (i - (j + 1)) * 2 := by rw [flatP_len, List.length_drop, HS.out.1]
        have hlt2 : (flatP (l.take (j + 1))).length = (j + 1) * 2 := by rw [flatP_len, List.length_take, HS.out.1, Nat.min_eq_left (by omega)]
        have HLL := Lib.hid (And.intro hld hlt2)
        have HNB := Lib.hid hnb
        obtain ⟨i0, hi0, hz0, hz1, hz2⟩ := info_parts Try.infoW
        clear hld hlt2 hlo hnb
        go_region_held3 (fun w' => w'.cell? ⟨wo.heap.size, 0, none⟩ = some (.slice (some ⟨db, doff, none⟩) n c) ∧ w'.cell? ⟨db, doff + i * 2, none⟩ = some (.int .i64 (P i)) ∧ w'.cell? ⟨db, doff + i * 2 + 1, none⟩ = some (.int .u64 (X i : Int)))
          (first
            | exact ⟨s1, s2, s3⟩
            | exact ⟨r1, r2, r3⟩
            | exact ⟨q1, z0, z1⟩
            | go_keep)
          ((first
            | (refine step_app_any rfl (.tmp 45) (.tmp 48) 28 rfl wo.heap.size 58 i0 (.agg #[.int .i64 0, .int .u64 0]) 2 16 Try.underlying28 hi0 hz0 hz1 hz2 rfl (by decide) (.slice (some ⟨wr.heap.size, 0, none⟩) 1 1) 1 [.int .i64 (P i), .int .u64 (X i : Int)] rfl HOW.out (if cb = j + 1 then some ⟨b, 0, none⟩ else some ⟨b, (j + 1) * 2, none⟩) (i - (j + 1)) (cb - (j + 1)) (flatP (l.drop (j + 1))) rfl (fun e => by split at e <;> cases e) HLL.out.1 (HNB.out _ HKA.out) (flatP_one _) (by unfold maxLen; omega) (by omega) (by have := HKA.out.size; omega) ?_; intro v2 w2 hown2 hgrow; have hkk := keep_grown HKA.out hgrow (fun k e => by have e2 : wr.heap.size = k := Option.some.inj e; omega); obtain ⟨gg, cc, rfl, hnn⟩ := own_some hown2; have HNN := Lib.hid (And.intro hnn (And.intro hown2.1 hkk)); have r1 := cell_of ((HW.out.2.1 |> (HK2.out.at · fun h => h)) |> (hkk.at · fun h => h)) 0; have rz := rrow_at (HR.out.none ((HW.out.2.2.trans HK2.out).trans hkk)) i hlt; have r2 := rz.1; have r3 := rz.2; clear hown2 hgrow hkk hnn rz)
            | (refine step_append_grows rfl (.tmp 39) (.tmp 49) 28 rfl 58 i0 (.agg #[.int .i64 0, .int .u64 0]) 2 16 Try.underlying28 hi0 hz0 hz1 hz2 rfl (by decide) (some ⟨b, 0, none⟩) (j + 1) (j + 1) (flatP (l.take (j + 1))) rfl (fun e => by first | exact ⟨rfl, rfl⟩ | cases e) HLL.out.2 ((HLP.out.none HNN.out.2.2).news (j + 1)) ⟨gg, 0, none⟩ (1 + (i - (j + 1))) cc ([.int .i64 (P i), .int .u64 (X i : Int)] ++ flatP (l.drop (j + 1))) rfl HNN.out.2.1 HNN.out.1 (ins_one _ _ _) (by omega) (by unfold maxLen; omega) (by omega) ?_; intro v3 w3 hown3 hgrow; have hkk := keep_grown HNN.out.2.2 hgrow (fun k e => by cases e); obtain ⟨B3, c3, rfl, hlp3⟩ := LP.ofOwn (R := insS l (P i, X i)) (by rw [HIN.out, flatP_app, flatP_app, List.append_assoc]; exact hown3); rw [insS_len, HS.out.1]; have H3 := Lib.hid (And.intro hlp3 hkk); have s1 := cell_of ((HW.out.2.1 |> (HK2.out.at · fun h => h)) |> (hkk.at · fun h => h)) 0; have rz := rrow_at (HR.out.none ((HW.out.2.2.trans HK2.out).trans hkk)) i hlt; have s2 := rz.1; have s3 := rz.2; clear hown3 hgrow hkk hlp3 rz)
            | fail))
        go_wp2_with fail
        exact ⟨⟨i + 1, B3, c3, by omega, by go_num, rfl, by rw [HS.out.2.1]; exact H3.out.1, H3.out.2.at (HK2.out.at HW.out.2.1 fun h => h) fun h => h, (HW.out.2.2.trans HK2.out).trans H3.out.2⟩, by simp [intOf]; omega⟩
  · obtain rfl : i = n := by omega
    have hst : sortS (D.take i) = SF := by rw [List.take_of_length_le (by rw [HD.out.2.1]; exact Nat.le_refl _), HD.out.2.2]
    rw [hst] at hlp
    have hll : SF.length = i := by rw [← HD.out.2.2, sortS_len, HD.out.2.1]
    have HW := Lib.hid (And.intro hlp (And.intro hll hK))
    clear hlp hbx hK hll hst hlt HR HD
    obtain ⟨wr0, rfl⟩ : ∃ x : World, x = wr := ⟨_, rfl⟩
    go_wp2_with fail
    go_loopw [6, 7] (fun v t wr => ∃ k : Nat, k ≤ i ∧ t = .int .i64 (k : Int) ∧ wr.ownsRow wr0.heap.size 3 1 v k ((SF.take k).map fun a => .int .i64 a.1) ∧ Keeps (fun _ => False) wr0 wr) (fun _ t _ => i - (intOf t).toNat)
    case atStart => exact ⟨0, by omega, rfl, World.ownsRow_nil _ _ _ _, Keeps.refl _ _⟩
    case round =>
    obtain ⟨k, hk, rfl, hown, hK⟩ := hrel
    by_cases hlt : k < i
    · obtain ⟨x, hx⟩ : ∃ x, SF[k]? = some x := ⟨_, List.getElem?_eq_getElem (by rw [HW.out.2.1]; exact hlt)⟩
      obtain ⟨b, rfl, hb, y0, y1⟩ := (HW.out.1.none hK).get k x hx
      have hst : (SF.take (k + 1)).map (fun a => Value.int .i64 a.1) = (SF.take k).map (fun a => Value.int .i64 a.1) ++ [.int .i64 x.1] := by
        rw [List.take_add_one, hx]
        simp
      have HST := Lib.hid hst
      have HRr := Lib.hid (And.intro hown hK)
      have hsz := hK.size
      obtain ⟨i0, hi0, hz0, hz1, hz2⟩ := info_parts Try.infoL
      clear hown hK hst hx y1
      go_wp2_with (at_builtin; refine wpList_append_own _ rfl (.tmp 57) (.tmp 63) 41 rfl wr0.heap.size 3 i0 (.int .i64 0) 1 8 Try.underlying41 hi0 hz0 hz1 hz2 rfl (by decide) _ _ _ rfl (HRr.out.1.alloc _) ⟨wr.heap.size, 0, none⟩ 1 1 [.int .i64 x.1] rfl rfl (new_one _ _ _) (by simp [Value.oneCell']) (by unfold maxLen; omega) (by omega) (by simp; omega) ?_; intro v2 w2 hown2 hgrow _; have hb2 := (HRr.out.2.none.alloc hsz (.cells #[Value.int .i64 x.1] 3)).grown hgrow (by simp; omega) (fun k hk => (HRr.out.1.lt k hk).1); have H2 := Lib.hid (And.intro hown2 (Keeps.ofBelow hb2)); clear hown2 hgrow hb2)
      go_roundw
      case rel => exact ⟨k + 1, by omega, by go_num, by rw [HST.out]; exact H2.out.1, H2.out.2⟩
      case measure => simp [intOf]; omega
    · obtain rfl : k = i := by omega
      rw [List.take_of_length_le (by rw [HW.out.2.1]; exact Nat.le_refl _)] at hown
      have HRr := Lib.hid (And.intro hown (HW.out.2.2.trans hK))
      have HB0 := Lib.hid HW.out.2.2.size
      clear hown hK
      go_wp2
      go_ret
      exact ⟨_, rfl, own_low HRr.out.1 HB0.out, HRr.out.2⟩
end Go.Proofs.Ytfniicgfnlklbab
