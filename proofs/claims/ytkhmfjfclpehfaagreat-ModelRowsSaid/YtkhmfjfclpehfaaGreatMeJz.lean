import Derived.Test.YtkhmfjfclpehfaaGreatMeGz
import Derived.Test.YtkhmfjfclpehfaaGreatMdKz
import Derived.BigQuiet
import Derived.Deep.QuietTactic
import Derived.Test.YtkhmfjfclpehfaaGreatBaseZ
namespace Go.Proofs.YtkhmfjfclpehfaaGreat
open Go.ChangeShapes Go.WideShapes Go.ChangeAt Go.RowKit
set_option linter.unusedVariables false
set_option linter.unusedSimpArgs false
set_option maxRecDepth 100000
def QF (P : Nat → Prop) (nL lb : Nat) : Nat → Prop := fun k => P k ∨ (0 < nL ∧ k = lb)
structure MdI (B : Nat) (w : World) (P : Nat → Prop) (a : MoA) (M : ScM) (tk : Int) (A : Nat → AskX) (lb nL : Nat) (F : Nat → LnX) (S : List ItemD) : Prop where
  mo : MoW w P a M tk A
  inv : Inv2 M
  msk : ∀ t, t < M.many → (A t).m < 4294967296
  tk0 : 0 ≤ tk
  tk1 : tk ≤ 4294967295
  far : ∀ k, P k → B ≤ k
  farl : 0 < nL → B ≤ lb
  nlb : 0 < nL → ¬ P lb
  it : ∃ g c, a.items = .slice (some ⟨g, 0, none⟩) S.length c ∧ StateAt w g S
  ok : ∀ y, y ∈ S → y.Ok
  sl : S.length ≤ 1000
  nl : nL ≤ 1000
  ln : LinesAt w P lb a.lines nL F
  pm : P a.m
  pa : P a.ab
def Mdl (B : Nat) (w : World) (P : Nat → Prop) (m lb nL : Nat) (F : Nat → LnX) : Prop := ∃ a M tk A S, a.m = m ∧ MdI B w P a M tk A lb nL F S
section
variable {B : Nat} {w w' : World} {P : Nat → Prop} {a : MoA} {M M' : ScM} {tk tk' : Int} {A A' : Nat → AskX} {lb nL : Nat} {F F' : Nat → LnX} {S : List ItemD}
theorem MdI.go (h : MdI B w P a M tk A lb nL F S) (k : KeepsM P w w') (hm : MoW w' P a M' tk' A') (hi : Inv2 M') (hk : ∀ t, t < M'.many → (A' t).m < 4294967296) (t0 : 0 ≤ tk') (t1 : tk' ≤ 4294967295) : MdI B w' P a M' tk' A' lb nL F S :=
  ⟨hm, hi, hk, t0, t1, h.far, h.farl, h.nlb, by obtain ⟨g, c, e, hs⟩ := h.it; exact ⟨g, c, e, hs.keepM k⟩, h.ok, h.sl, h.nl, h.ln.keep k (fun b _ hb e => KeepsTy.apart hb (by decide) e.2) (fun hp e => h.nlb hp e.1), h.pm, h.pa⟩
theorem MdI.on (h : MdI B w P a M tk A lb nL F S) (k : KeepsM P w w') (hg : GoneOn P a M tk' A w') (t0 : 0 ≤ tk') (t1 : tk' ≤ 4294967295) : Mdl B w' P a.m lb nL F := by
  obtain ⟨M', h1, h2, h3⟩ := hg
  exact ⟨a, M', tk', A, S, rfl, h.go k h1 h2 (by rw [h3]; exact h.msk) t0 t1⟩
theorem MdI.line (h : MdI B w P a M tk A lb nL F S) {Q : Nat → Prop} (k : KeepsM Q w w') (hm : MoW w' P a M' tk A) (hi : Inv2 M') (hmm : M'.many = M.many) (hl : LinesAt w' P lb a.lines nL F') : MdI B w' P a M' tk A lb nL F' S :=
  ⟨hm, hi, by rw [hmm]; exact h.msk, h.tk0, h.tk1, h.far, h.farl, h.nlb, by obtain ⟨g, c, e, hs⟩ := h.it; exact ⟨g, c, e, hs.keepM k⟩, h.ok, h.sl, h.nl, hl, h.pm, h.pa⟩
end
def SameQ (F F' : Nat → LnX) : Prop := ∀ j, (F' j).q = (F j).q ∧ (F' j).r = (F j).r
theorem SameQ.refl (F : Nat → LnX) : SameQ F F := fun _ => ⟨rfl, rfl⟩
def StepQ (k who : Int) (y nL : Nat) (F F' : Nat → LnX) (f v g : Int) : Prop :=
  (k = 2 ∧ g = 0 ∧ f = 0 ∧ ∃ i, i < nL ∧ who = (i : Int) + 1 ∧ F' = upd F i ⟨(F i).r, (F i).q ++ [y], (F i).o⟩) ∨
  (k = 2 ∧ g = 0 ∧ f = 6 ∧ (∃ i, i < nL ∧ who = (i : Int) + 1) ∧ SameQ F F') ∨
  (k = 2 ∧ g = 4 ∧ SameQ F F') ∨
  (k = 7 ∧ g = 0 ∧ ∃ i z t, i < nL ∧ who = (i : Int) + 1 ∧ (F i).q = z :: t ∧ v = (z : Int) ∧ F' = upd F i ⟨(F i).r, t, (F i).o⟩) ∨
  (k = 7 ∧ (g = 4 ∨ g = 15) ∧ SameQ F F') ∨
  (k ≠ 2 ∧ k ≠ 7 ∧ SameQ F F')
structure MvOk (vv : Int) (Z : Nat → Int) (x : AskX) (y : Nat) : Prop where
  v : vv = (y : Int)
  y : y < 4294967296
  z : ∀ j, 2 ≤ j → j ≤ 5 → u32B (Z j)
  m : x.m < 4294967296
  x : x.Ok
def DoA (B : Nat) (w : World) (P : Nat → Prop) (m lb nL : Nat) (F : Nat → LnX) (k who : Int) (y : Nat) (e : Ending) (w' : World) : Prop := ∃ f V v l n c g F', e = .returned (.tuple #[.agg (outC f V v l n c), .int .i64 g]) ∧ Mdl B w' P m lb nL F' ∧ KeepsM (QF P nL lb) w w' ∧ StepQ k who y nL F F' f v g
section
variable {B : Nat} {w : World} {P : Nat → Prop} {a : MoA} {M : ScM} {tk : Int} {A : Nat → AskX} {lb nL : Nat} {F : Nat → LnX} {S : List ItemD} (h : MdI B w P a M tk A lb nL F S) {vv : Int} {Z : Nat → Int} {x : AskX} {y : Nat} (mv : MvOk vv Z x y) (who : Int)
include h
omit h in
theorem other_done {k : Int} (hk : k ≠ 2 ∧ k ≠ 7) {R : Int → (Nat → Int) → Int → Option Addr → Nat → Nat → Int → World → Prop} {e : Ending} {w' : World} (ho : OutQ P w R e w')
    (hR : ∀ f V v l n c g w1, R f V v l n c g w1 → KeepsTy [51] w1 w' → KeepsM P w w' → Mdl B w' P a.m lb nL F) : DoA B w P a.m lb nL F k who y e w' := by
  obtain ⟨f, V, v, l, n, c, g, w1, rfl, h1, kt, km⟩ := ho
  exact ⟨f, V, v, l, n, c, g, F, rfl, hR f V v l n c g w1 h1 kt km, kM_mono km fun k hk => .inl hk, .inr (.inr (.inr (.inr (.inr ⟨hk.1, hk.2, SameQ.refl F⟩))))⟩
theorem say_done {k : Int} (hk : k ≠ 2 ∧ k ≠ 7) {M' : ScM} {tk' : Int} {A' : Nat → AskX} {q : Int} {e : Ending} {w' : World} (ho : OutQ P w (SayR P a M' tk' A' q) e w') (hi : Inv2 M') (hm : ∀ t, t < M'.many → (A' t).m < 4294967296) (t0 : 0 ≤ tk') (t1 : tk' ≤ 4294967295) : DoA B w P a.m lb nL F k who y e w' :=
  other_done who hk ho fun f V v l n c g w1 hR kt km => ⟨a, M', tk', A', S, rfl, h.go km (hR.2.2.out kt) hi hm t0 t1⟩
include mv
theorem do_point : Calls Tryz.prog 9 #[.pointer (some ⟨a.m, 0, none⟩), .agg (moC 1 who vv Z x)] w (DoA B w P a.m lb nL F 1 who y) := by
  obtain ⟨g0, c0, hit, hst⟩ := h.it
  refine (do_hit w P a M tk A h.mo 1 who vv Z x 0 21 (moves_hit1 a.m) (fun args W => rfl) _ (fun W k => point_any W P P a M tk A (h.mo.quiet k) (fun _ h => h) vv Z x who mv.z g0 c0 S hit (hst.none k) h.ok h.sl h.pm)).mono ?_
  intro e w' ho
  refine other_done who ⟨by decide, by decide⟩ ho fun f V v l n c g w1 hR kt km => ?_
  rcases hR.1 with ⟨_, h1, h2⟩ | ⟨_, g1, c1, h1, h2⟩
  · exact ⟨a, M, tk, A, S, rfl, h.go km (h1.out kt) h.inv h.msk h.tk0 h.tk1⟩
  · have hlen := allowsP_len S (Z 0) (Z 1) ⟨Z 2, Z 3, Z 4, Z 5⟩ ⟨Z 7, ⟨Z 8, Z 9, Z 10, Z 11⟩⟩
    have hok := allowsP_ok (L := S) (Z 0) (Z 1) (v := ⟨Z 2, Z 3, Z 4, Z 5⟩) ⟨Z 7, ⟨Z 8, Z 9, Z 10, Z 11⟩⟩ h.ok ⟨mv.z 2 (by omega) (by omega), mv.z 3 (by omega) (by omega), mv.z 4 (by omega) (by omega), mv.z 5 (by omega) (by omega)⟩
    refine ⟨{ a with items := .slice (some ⟨g1, 0, none⟩) S.length c1 }, M, tk, A, _, rfl, ⟨h1.out kt, h.inv, h.msk, h.tk0, h.tk1, h.far, h.farl, h.nlb, ⟨g1, c1, ?_, h2.outM kt⟩, hok, ?_, h.nl, h.ln.keep km (fun b _ hb e => KeepsTy.apart hb (by decide) e.2) (fun hp e => h.nlb hp e.1), h.pm, h.pa⟩⟩
    · rw [hlen]
    · rw [hlen]; exact h.sl
omit mv in
theorem do_tickin : Calls Tryz.prog 9 #[.pointer (some ⟨a.m, 0, none⟩), .agg (moC 3 who vv Z x)] w (DoA B w P a.m lb nL F 3 who y) := by
  by_cases ht : tk = 4294967295
  · exact (do_hit w P a M tk A h.mo 3 who vv Z x 2 23 (moves_hit3 a.m) (fun args W => rfl) _ (fun W k => tickin_max W P P a M tk A (h.mo.quiet k) (fun _ h => h) vv Z x who ht)).mono fun e w' ho => say_done h who ⟨by decide, by decide⟩ ho h.inv h.msk h.tk0 h.tk1
  · exact (do_hit w P a M tk A h.mo 3 who vv Z x 2 23 (moves_hit3 a.m) (fun args W => rfl) _ (fun W k => tickin_ok W P P a M tk A (h.mo.quiet k) (fun _ h => h) vv Z x who h.pm h.tk0 (by have := h.tk1; omega))).mono fun e w' ho => say_done h who ⟨by decide, by decide⟩ ho h.inv h.msk (by have := h.tk0; omega) (by have := h.tk1; omega)
omit mv in
theorem do_tickout : Calls Tryz.prog 9 #[.pointer (some ⟨a.m, 0, none⟩), .agg (moC 6 who vv Z x)] w (DoA B w P a.m lb nL F 6 who y) := by
  by_cases ht : tk = 0
  · exact (do_hit w P a M tk A h.mo 6 who vv Z x 5 26 (moves_hit6 a.m) (fun args W => rfl) _ (fun W k => tickout_zero W P P a M tk A (h.mo.quiet k) (fun _ h => h) vv Z x who ht)).mono fun e w' ho => say_done h who ⟨by decide, by decide⟩ ho h.inv h.msk h.tk0 h.tk1
  · exact (do_hit w P a M tk A h.mo 6 who vv Z x 5 26 (moves_hit6 a.m) (fun args W => rfl) _ (fun W k => tickout_ok W P P a M tk A (h.mo.quiet k) (fun _ h => h) vv Z x who h.pm (by have := h.tk0; omega) h.tk1 h.inv)).mono fun e w' ho => other_done who ⟨by decide, by decide⟩ ho fun f V v l n c g w1 hR kt km => h.on km (hR.2.2.out kt) (by have := h.tk0; omega) (by have := h.tk1; omega)
omit mv in
theorem do_wake : Calls Tryz.prog 9 #[.pointer (some ⟨a.m, 0, none⟩), .agg (moC 8 who vv Z x)] w (DoA B w P a.m lb nL F 8 who y) := by
  obtain ⟨g0, c0, hit, hst⟩ := h.it
  exact (do_hit w P a M tk A h.mo 8 who vv Z x 7 28 (moves_hit8 a.m) (fun args W => rfl) _ (fun W k => wake_any W P P a M tk A (h.mo.quiet k) (fun _ h => h) vv Z x who g0 c0 S hit (hst.none k) h.ok h.sl h.inv)).mono fun e w' ho => other_done who ⟨by decide, by decide⟩ ho fun f V v l n c g w1 hR kt km => h.on km (hR.out kt) h.tk0 h.tk1
omit mv in
theorem do_chooseA : Calls Tryz.prog 9 #[.pointer (some ⟨a.m, 0, none⟩), .agg (moC 9 who vv Z x)] w (DoA B w P a.m lb nL F 9 who y) :=
  (do_hit w P a M tk A h.mo 9 who vv Z x 8 29 (moves_hit9 a.m) (fun args W => rfl) _ (fun W k => choose_any W P a M tk A (h.mo.quiet k) 9 who vv Z x)).mono fun e w' ho => other_done who ⟨by decide, by decide⟩ ho fun f V v l n c g w1 hR kt km => ⟨a, dispM M, tk, A, S, rfl, h.go km (hR.2.2.2.2.out kt) ⟨h.inv.inv.disp, h.inv.w⟩ h.msk h.tk0 h.tk1⟩
theorem do_ask : Calls Tryz.prog 9 #[.pointer (some ⟨a.m, 0, none⟩), .agg (moC 4 who vv Z x)] w (DoA B w P a.m lb nL F 4 who y) := by
  have dn := fun (A' : Nat → AskX) (q : Int) (hm : ∀ t, t < M.many → (A' t).m < 4294967296) (hR : ∀ W, Keeps (fun _ => False) w W → Calls Tryz.prog 24 #[.pointer (some ⟨a.m, 0, none⟩), .agg (moC 4 who vv Z x)] W (MvQ P W (SayR P a M tk A' q))) =>
    (do_hit w P a M tk A h.mo 4 who vv Z x 3 24 (moves_hit4 a.m) (fun args W => rfl) _ hR).mono fun e w' ho => say_done (y := y) h who (k := 4) ⟨by decide, by decide⟩ ho h.inv hm h.tk0 h.tk1
  by_cases h1 : who < 0
  · exact dn A 4 h.msk fun W k => askin_low W P a M tk A (h.mo.quiet k) 4 who vv Z x h1
  · by_cases h2 : (M.many : Int) ≤ who
    · exact dn A 4 h.msk fun W k => askin_high W P a M tk A (h.mo.quiet k) 4 who vv Z x h2
    · obtain ⟨t, ht⟩ : ∃ t : Nat, who = (t : Int) := ⟨who.toNat, by omega⟩
      have htm : t < M.many := by omega
      cases hi : (A t).is with
      | true => exact dn A 15 h.msk fun W k => askin_had W P a M tk A (h.mo.quiet k) 4 who vv Z x t htm ht hi
      | false =>
        refine dn (upd A t ⟨true, x.k, x.o, x.m, x.d, x.b⟩) 0 (fun u hu => ?_) fun W k => askin_new W P a M tk A (h.mo.quiet k) 4 who vv Z x t htm ht hi mv.x h.pa
        by_cases e : u = t
        · subst e; rw [upd_at]; exact mv.m
        · rw [upd_ne _ _ e]; exact h.msk u hu
omit mv in
theorem do_serve : Calls Tryz.prog 9 #[.pointer (some ⟨a.m, 0, none⟩), .agg (moC 5 who vv Z x)] w (DoA B w P a.m lb nL F 5 who y) := by
  have dn := fun (M' : ScM) (A' : Nat → AskX) (q : Int) (hv : Inv2 M') (hm : ∀ t, t < M'.many → (A' t).m < 4294967296) (hR : ∀ W, Keeps (fun _ => False) w W → Calls Tryz.prog 25 #[.pointer (some ⟨a.m, 0, none⟩), .agg (moC 5 who vv Z x)] W (MvQ P W (SayR P a M' tk A' q))) =>
    (do_hit w P a M tk A h.mo 5 who vv Z x 4 25 (moves_hit5 a.m) (fun args W => rfl) _ hR).mono fun e w' ho => say_done (y := y) h who (k := 5) ⟨by decide, by decide⟩ ho hv hm h.tk0 h.tk1
  by_cases hc : who = M.cur
  · subst hc
    cases ha : asksP M A M.cur with
    | false => exact dn M A 15 h.inv h.msk fun W k => serve_none W P a M tk A (h.mo.quiet k) 5 vv Z x ha
    | true =>
      have hr : 0 ≤ M.cur ∧ M.cur < (M.many : Int) := by
        have h1 := ha
        unfold asksP at h1
        rw [Bool.and_eq_true] at h1
        exact of_decide_eq_true h1.1
      obtain ⟨t, ht⟩ : ∃ t : Nat, M.cur = (t : Int) := ⟨M.cur.toNat, by omega⟩
      have htm : t < M.many := by omega
      have hmm := serve_many M (A t).k (A t).o (A t).m (A t).d (A t).b
      have hv : Inv2 (serveM M (A t).k (A t).o (A t).m (A t).d (A t).b).1 := ⟨h.inv.inv.serve h.mo.sch.rank.small h.mo.sch.cin _ _ _ _ _, h.inv.w.serve _ _ _ _ _ (h.msk t htm)⟩
      rw [ht] at dn ⊢
      refine dn _ (upd A t AskX.no) 0 hv (fun u hu => ?_) fun W k => serve_yes W P a M tk A (h.mo.quiet k) 5 vv Z x t htm ht (by rw [← ht]; exact ha) h.pa
      rw [hmm] at hu
      by_cases e : u = t
      · subst e; rw [upd_at]; decide
      · rw [upd_ne _ _ e]; exact h.msk u hu
  · exact dn M A 15 h.inv h.msk fun W k => serve_not W P a M tk A (h.mo.quiet k) 5 who vv Z x hc
end
end Go.Proofs.YtkhmfjfclpehfaaGreat
namespace Go.Proofs.YtkhmfjfclpehfaaGreat
open Go.ChangeShapes Go.WideShapes Go.ChangeAt Go.RowKit
set_option linter.unusedVariables false
set_option linter.unusedSimpArgs false
set_option maxRecDepth 100000
section
variable {B : Nat} {w : World} {P : Nat → Prop} {a : MoA} {M : ScM} {tk : Int} {A : Nat → AskX} {lb nL : Nat} {F : Nat → LnX} {S : List ItemD} (h : MdI B w P a M tk A lb nL F S) {vv : Int} {Z : Nat → Int} {x : AskX} {y : Nat} (mv : MvOk vv Z x y) (who : Int)
include h mv
theorem do_post : Calls Tryz.prog 9 #[.pointer (some ⟨a.m, 0, none⟩), .agg (moC 2 who vv Z x)] w (DoA B w P a.m lb nL F 2 who y) := by
  by_cases hr : who < 1 ∨ (nL : Int) < who
  · obtain ⟨la, cap, hl, _⟩ := h.ln
    refine (do_hit w P a M tk A h.mo 2 who vv Z x 1 22 (moves_hit2 a.m) (fun args W => rfl) _ (fun W k => post_none W P P a M tk A (h.mo.quiet k) (fun _ h => h) vv Z x who la nL cap hl hr)).mono ?_
    rintro e w' ⟨f, V, v, l, n, c, g, w1, rfl, ⟨rfl, rfl, hm⟩, kt, km⟩
    exact ⟨0, V, v, l, n, c, 4, F, rfl, ⟨a, M, tk, A, S, rfl, h.go km (hm.out kt) h.inv h.msk h.tk0 h.tk1⟩, kM_mono km fun k hk => .inl hk, .inr (.inr (.inl ⟨rfl, rfl, SameQ.refl F⟩))⟩
  · obtain ⟨i, rfl⟩ : ∃ i : Nat, who = (i : Int) + 1 := ⟨(who - 1).toNat, by omega⟩
    have hi : i < nL := by omega
    have hQ : QF P nL lb lb := .inr ⟨by omega, rfl⟩
    have hPQ : ∀ k, P k → QF P nL lb k := fun k hk => .inl hk
    by_cases hf : (F i).r ≤ ((F i).q.length : Int)
    · refine (do_hit w (QF P nL lb) a M tk A (h.mo.wide hPQ) 2 ((i : Int) + 1) vv Z x 1 22 (moves_hit2 a.m) (fun args W => rfl) _ (fun W k => post_over W P (QF P nL lb) a M tk A (h.mo.quiet k) hPQ vv Z x lb nL F (h.ln.none k) hQ i hi h.nl hf)).mono ?_
      rintro e w' ⟨f, V, v, l, n, c, g, w1, rfl, ⟨rfl, rfl, hm, o, hl⟩, kt, km⟩
      refine ⟨6, V, v, l, n, c, 0, _, rfl, ⟨a, M, tk, A, S, rfl, h.line km (hm.out kt) h.inv rfl (hl.out kt)⟩, km, .inr (.inl ⟨rfl, rfl, rfl, ⟨i, hi, rfl⟩, fun j => ?_⟩)⟩
      by_cases e : j = i
      · subst e; rw [upd_at]; exact ⟨rfl, rfl⟩
      · rw [upd_ne _ _ e]; exact ⟨rfl, rfl⟩
    · refine (do_hit w (QF P nL lb) a M tk A (h.mo.wide hPQ) 2 ((i : Int) + 1) vv Z x 1 22 (moves_hit2 a.m) (fun args W => rfl) _ (fun W k => post_in W P (QF P nL lb) a M tk A (h.mo.quiet k) hPQ vv y mv.v mv.y Z x lb nL F (h.ln.none k) hQ i hi h.nl hf)).mono ?_
      rintro e w' ⟨f, V, v, l, n, c, g, w1, rfl, ⟨rfl, rfl, hm, hl⟩, kt, km⟩
      exact ⟨0, V, v, l, n, c, 0, _, rfl, ⟨a, M, tk, A, S, rfl, h.line km (hm.out kt) h.inv rfl (hl.out kt)⟩, km, .inl ⟨rfl, rfl, rfl, i, hi, rfl, rfl⟩⟩
omit mv in
theorem do_apply : Calls Tryz.prog 9 #[.pointer (some ⟨a.m, 0, none⟩), .agg (moC 7 who vv Z x)] w (DoA B w P a.m lb nL F 7 who y) := by
  by_cases hr : who < 1 ∨ (nL : Int) < who
  · obtain ⟨la, cap, hl, _⟩ := h.ln
    refine (do_hit w P a M tk A h.mo 7 who vv Z x 6 27 (moves_hit7 a.m) (fun args W => rfl) _ (fun W k => apply_none W P P a M tk A (h.mo.quiet k) (fun _ h => h) vv Z x who la nL cap hl hr)).mono ?_
    rintro e w' ⟨f, V, v, l, n, c, g, w1, rfl, ⟨rfl, rfl, hm⟩, kt, km⟩
    exact ⟨0, V, v, l, n, c, 4, F, rfl, ⟨a, M, tk, A, S, rfl, h.go km (hm.out kt) h.inv h.msk h.tk0 h.tk1⟩, kM_mono km fun k hk => .inl hk, .inr (.inr (.inr (.inr (.inl ⟨rfl, .inl rfl, SameQ.refl F⟩))))⟩
  · obtain ⟨i, rfl⟩ : ∃ i : Nat, who = (i : Int) + 1 := ⟨(who - 1).toNat, by omega⟩
    have hi : i < nL := by omega
    have hQ : QF P nL lb lb := .inr ⟨by omega, rfl⟩
    have hPQ : ∀ k, P k → QF P nL lb k := fun k hk => .inl hk
    cases hq : (F i).q with
    | nil =>
      refine (do_hit w P a M tk A h.mo 7 ((i : Int) + 1) vv Z x 6 27 (moves_hit7 a.m) (fun args W => rfl) _ (fun W k => apply_empty W P P a M tk A (h.mo.quiet k) (fun _ h => h) vv Z x lb nL F (h.ln.none k) i hi h.nl hq)).mono ?_
      rintro e w' ⟨f, V, v, l, n, c, g, w1, rfl, ⟨rfl, rfl, hm⟩, kt, km⟩
      exact ⟨0, V, v, l, n, c, 15, F, rfl, ⟨a, M, tk, A, S, rfl, h.go km (hm.out kt) h.inv h.msk h.tk0 h.tk1⟩, kM_mono km fun k hk => .inl hk, .inr (.inr (.inr (.inr (.inl ⟨rfl, .inr rfl, SameQ.refl F⟩))))⟩
    | cons z t =>
      have dn : ∀ W, Keeps (fun _ => False) w W → Calls Tryz.prog 27 #[.pointer (some ⟨a.m, 0, none⟩), .agg (moC 7 ((i : Int) + 1) vv Z x)] W (MvQ (QF P nL lb) W (fun f V v l n2 c g w1 => g = 0 ∧ f = 0 ∧ v = (z : Int) ∧ ∃ M', MoW w1 P a M' tk A ∧ Inv2 M' ∧ M'.many = M.many ∧ LinesAt w1 P lb a.lines nL (upd F i ⟨(F i).r, t, (F i).o⟩))) := by
        intro W k
        cases t with
        | nil => exact apply_last W P (QF P nL lb) a M tk A (h.mo.quiet k) hPQ vv Z x lb nL F (h.ln.none k) hQ i hi h.nl z hq h.inv
        | cons u t => exact apply_more W P (QF P nL lb) a M tk A (h.mo.quiet k) hPQ vv Z x lb nL F (h.ln.none k) hQ i hi h.nl z u t hq h.inv
      refine (do_hit w (QF P nL lb) a M tk A (h.mo.wide hPQ) 7 ((i : Int) + 1) vv Z x 6 27 (moves_hit7 a.m) (fun args W => rfl) _ dn).mono ?_
      rintro e w' ⟨f, V, v, l, n, c, g, w1, rfl, ⟨rfl, rfl, rfl, M', hm, hv, hmm, hl⟩, kt, km⟩
      exact ⟨0, V, _, l, n, c, 0, _, rfl, ⟨a, M', tk, A, S, rfl, h.line km (hm.out kt) hv hmm (hl.out kt)⟩, km, .inr (.inr (.inr (.inl ⟨rfl, rfl, i, z, t, hi, rfl, hq, rfl, rfl⟩)))⟩
end
theorem do_all {B : Nat} {w : World} {P : Nat → Prop} {m lb nL : Nat} {F : Nat → LnX} (h : Mdl B w P m lb nL F) {vv : Int} {Z : Nat → Int} {x : AskX} {y : Nat} (mv : MvOk vv Z x y) (k who : Int) :
    Calls Tryz.prog 9 #[.pointer (some ⟨m, 0, none⟩), .agg (moC k who vv Z x)] w (DoA B w P m lb nL F k who y) := by
  obtain ⟨a, M, tk, A, S, rfl, h⟩ := h
  by_cases hk : k < 1 ∨ 9 < k
  · exact (do_miss w P a M tk A h.mo k who vv Z x hk).mono fun e w' ho => say_done h who ⟨by omega, by omega⟩ ho h.inv h.msk h.tk0 h.tk1
  · rcases (by omega : k = 1 ∨ k = 2 ∨ k = 3 ∨ k = 4 ∨ k = 5 ∨ k = 6 ∨ k = 7 ∨ k = 8 ∨ k = 9) with rfl | rfl | rfl | rfl | rfl | rfl | rfl | rfl | rfl
    · exact do_point h mv who
    · exact do_post h mv who
    · exact do_tickin h who
    · exact do_ask h mv who
    · exact do_serve h who
    · exact do_tickout h who
    · exact do_apply h who
    · exact do_wake h who
    · exact do_chooseA h who
end Go.Proofs.YtkhmfjfclpehfaaGreat
namespace Go.Proofs.YtkhmfjfclpehfaaGreat
open Go.ChangeShapes Go.WideShapes Go.ChangeAt Go.RowKit
set_option linter.unusedVariables false
set_option linter.unusedSimpArgs false
set_option maxRecDepth 100000
set_option maxHeartbeats 4000000 in
theorem line_row {B : Nat} {w : World} {P : Nat → Prop} {a : MoA} {M : ScM} {tk : Int} {A : Nat → AskX} {lb nL : Nat} {F : Nat → LnX} {S : List ItemD} (h : MdI B w P a M tk A lb nL F S) (i : Nat) (hi : i < nL) :
    Calls Tryz.prog 10 #[.pointer (some ⟨a.m, 0, none⟩), .int .i64 ((i : Int) + 1)] w fun e w' => ∃ v, e = .returned v ∧ QAt w' (fun _ => True) v (F i).q ∧ Keeps (fun _ => False) w w' := by
  obtain ⟨la, cap, hl, h3⟩ := h.ln
  obtain ⟨rfl, V, hr, hqs⟩ := h3 (by omega)
  obtain ⟨⟨qa, qc, ev, hqc, hqd⟩, hok⟩ := hqs i hi
  have hQA := (hqs i hi).1
  have hlen : (F i).q.length ≤ 64 := by have := hok.r; have := hok.len; omega
  obtain ⟨q, hq0⟩ : ∃ q, (F i).q = q := ⟨_, rfl⟩
  rw [hq0] at ev hQA hlen ⊢
  rw [ev] at hQA
  have HL := Lib.hid (line_in w P a M tk A h.mo lb nL cap hl i hi h.nl)
  have hn := fun W => ln_nil lb (i * 3) W
  obtain ⟨w3, hcp, ho3, k3⟩ := q_copy w (.slice qa q.length qc) q q.length hQA (Nat.le_refl _) (by omega) 3
  have hmk : (Instr.makeSlice 54 (.int .i64 (q.length : Int)) (.int .i64 (q.length : Int))).run Tryz.prog w = .ok (.slice (some ⟨w.heap.size, 0, none⟩) q.length q.length) (w.alloc (.cells (zeros q.length) 34)) := make_u32 w q.length q.length (Nat.le_refl _) (by omega)
  have HQ := Lib.hid (own_q (P := fun _ => True) ho3 rfl fun _ _ => trivial)
  have HK := Lib.hid k3
  obtain ⟨r0, r1, r2⟩ := hr.ln hi
  rw [ev] at r1
  have lr := hr.lt
  obtain ⟨W2, hW2⟩ : ∃ W, W = w.alloc (.cells (zeros q.length) 34) := ⟨_, rfl⟩
  rw [← hW2] at hmk hcp
  have k2 : Keeps (fun _ => False) w W2 := by rw [hW2]; exact (Keeps.refl _ w).alloc _
  have y1 := (k2.none.cell (p := ⟨lb, i * 3 + 1, none⟩) lr).trans r1
  have ly := Nat.lt_of_lt_of_le lr k2.size
  obtain ⟨qn, hqn⟩ : ∃ qn, q.length = qn := ⟨_, rfl⟩
  rw [hqn] at hcp hmk r1 y1 HQ
  have HCPR := Lib.hid hcp
  clear h hl h3 hr hqs hqd hqc hok hQA hlen ev ho3 k3 hW2 k2 hcp r0 r2 hqn
  go_enter Tryz.func10, Tryz.ntmps10
  go_wp2_with fail
  refine HL.out.mono ?_
  rintro e w1 ⟨rfl, hw1⟩
  subst hw1
  go_wp2_with (first
    | (refine wpList_copy_known rfl (.tmp 18) (.tmp 22) 54 54 rfl _ _ rfl rfl HCPR.out ?_))
  go_ret
  exact ⟨_, rfl, HQ.out, HK.out⟩
theorem line_of {B : Nat} {w : World} {P : Nat → Prop} {m lb nL : Nat} {F : Nat → LnX} (h : Mdl B w P m lb nL F) (i : Nat) (hi : i < nL) :
    Calls Tryz.prog 10 #[.pointer (some ⟨m, 0, none⟩), .int .i64 ((i : Int) + 1)] w fun e w' => ∃ v, e = .returned v ∧ QAt w' (fun _ => True) v (F i).q ∧ Mdl B w' P m lb nL F ∧ Keeps (fun _ => False) w w' := by
  obtain ⟨a, M, tk, A, S, rfl, h⟩ := h
  refine (line_row h i hi).mono ?_
  rintro e w' ⟨v, rfl, hq, k⟩
  exact ⟨v, rfl, hq, ⟨a, M, tk, A, S, rfl, h.go (kM_none k) (h.mo.quiet k) h.inv h.msk h.tk0 h.tk1⟩, k⟩
theorem newM_W (L : List Int) : (newM L).W = [] := by
  have key : ∀ (L : List Int) (M : ScM), (L.foldl addM M).W = M.W := by
    intro L
    induction L with
    | nil => exact fun _ => rfl
    | cons p L ih => exact fun M => (ih (addM M p)).trans (by unfold addM; split <;> rfl)
  exact key _ _
theorem linesX_len (lr : Nat → Int) : ∀ k, (linesX lr k).length = k * 3
  | 0 => rfl
  | k + 1 => by show (linesX lr k ++ _).length = _; rw [List.length_append, linesX_len lr k]; show k * 3 + 3 = _; omega
theorem linesX_get (lr : Nat → Int) : ∀ (n i j : Nat) (u : Value), i < n → (lnL (lr i) (.slice none 0 0) 0)[j]? = some u → (linesX lr n)[i * 3 + j]? = some u
  | n + 1, i, j, u, hi, hu => by
    have hj : j < 3 := (List.getElem?_eq_some_iff.1 hu).1
    show (linesX lr n ++ _)[i * 3 + j]? = some u
    by_cases h : i < n
    · rw [List.getElem?_append_left (by rw [linesX_len]; omega)]
      exact linesX_get lr n i j u h hu
    · obtain rfl : i = n := by omega
      rw [List.getElem?_append_right (by rw [linesX_len]; omega), linesX_len, show i * 3 + j - i * 3 = j by omega]
      exact hu
theorem lines_new {w : World} {B n : Nat} {v : Value} {lr : Nat → Int} (h : w.ownsRow B 82 3 v n (linesX lr n)) (hr : ∀ i, i < n → 1 ≤ lr i ∧ lr i ≤ 64) : ∃ lb, (∀ P : Nat → Prop, LinesAt w P lb v n (fun i => ⟨lr i, [], 0⟩)) ∧ (0 < n → B ≤ lb ∧ Ty w lb 82) := by
  obtain ⟨_, h | ⟨g, cap, cur, rfl, hB, hb, hcp, _, hs, ht⟩⟩ := h
  · exact ⟨0, fun P => ⟨none, 0, by rw [h.1, h.2], fun hp => by have := h.2; omega⟩, fun hp => by have := h.2; omega⟩
  · refine ⟨g, fun P => ⟨_, cap, rfl, fun hp => ⟨rfl, fun _ => .slice none 0 0, ⟨cur, hb, by rw [hs]; omega, fun i hi j u hu => ?_⟩, fun i hi => ⟨⟨none, 0, rfl, Nat.le_refl _, fun h => absurd h (by simp)⟩, by show (0 : Nat) < 4294967296; omega, fun y hy => absurd hy (by simp), ?_, (hr i hi).2⟩⟩⟩, fun _ => ⟨hB, ⟨_, _, hb⟩⟩⟩
    · have hj : j < 3 := (List.getElem?_eq_some_iff.1 hu).1
      have h1 := linesX_get lr n i j u hi hu
      rw [← ht, List.getElem?_take_of_lt (by omega)] at h1
      rw [← Array.getElem?_toList]; exact h1
    · show (([] : List Nat).length : Int) ≤ lr i
      have := (hr i hi).1
      simp; omega
theorem new_mdl (c : CfD) (w : World) (hc : CfIn w c) (ho : c.Ok) (hu : ∀ i, i < c.nO → ∀ j, j < 4 → 0 ≤ c.oi i j ∧ c.oi i j < 4294967296) (hv : badOf c = (0, 0, 0)) :
    Calls Tryz.prog 7 #[.agg c.cells] w fun e w' => ∃ P m lb, e = .returned (.pointer (some ⟨m, 0, none⟩)) ∧ Mdl w.heap.size w' P m lb c.nL (fun i => ⟨c.lr i, [], 0⟩) ∧ Keeps (fun _ => False) w w' := by
  have hg := good_of hv
  refine (new_good c w hc ho hu hv).mono ?_
  rintro e w' ⟨a, g, rfl, hm, hown, hab, ham, hit, hst, hk⟩
  obtain ⟨lb, hl, hlb⟩ := lines_new hown (fun i hi => (hg.room i hi).2)
  have hsl : (startP ((List.range c.nO).map fun i => (c.ob i, c.oi i))).length = c.nO := by unfold startP; simp
  have hok : ∀ y, y ∈ startP ((List.range c.nO).map fun i => (c.ob i, c.oi i)) → y.Ok := startP_ok (objs_of hc ho hu).ok
  have hinv : Inv2 (dispM (newM ((List.range c.nT).map c.tp))) := ⟨inv_new _, fun v hv => by
    have e : (dispM (newM ((List.range c.nT).map c.tp))).W = [] := newM_W _
    rw [e] at hv; cases hv⟩
  by_cases hp : 0 < c.nL
  · obtain ⟨h1, h2⟩ := hlb hp
    have hs := hm.sch.but h2 (by decide)
    exact ⟨_, a.m, lb, rfl, ⟨a, _, 0, fun _ => AskX.no, _, rfl, ⟨hm.mono hs, hinv, fun _ _ => by decide, by omega, by omega, fun k hk => hk.1, fun _ => Nat.le_trans ham h1, fun _ e => e.2 rfl, ⟨g, c.nO, by rw [hsl]; exact hit, hst⟩, hok, by rw [hsl]; have := hg.o; omega, by have := hg.l; omega, hl _, ⟨ham, Ty.ne ⟨_, _, hm.blk⟩ h2 (by decide)⟩, ⟨hab, Ty.ne hm.asks.ty h2 (by decide)⟩⟩⟩, hk⟩
  · exact ⟨_, a.m, lb, rfl, ⟨a, _, 0, fun _ => AskX.no, _, rfl, ⟨hm, hinv, fun _ _ => by decide, by omega, by omega, fun k hk => hk, fun h => absurd h hp, fun h => absurd h hp, ⟨g, c.nO, by rw [hsl]; exact hit, hst⟩, hok, by rw [hsl]; have := hg.o; omega, by have := hg.l; omega, hl _, ham, hab⟩⟩, hk⟩
set_option maxHeartbeats 4000000 in
theorem words_same (w : World) {Pa Pb : Nat → Prop} (va vb : Value) (q : List Nat) (ha : QAt w Pa va q) (hb : QAt w Pb vb q) (hl : q.length ≤ 1000) : Calls Tryz.prog 11 #[va, vb] w fun e w' => e = .returned (.bool true) ∧ Keeps (fun _ => False) w w' := by
  obtain ⟨a, ca, rfl, hca, hda⟩ := ha
  obtain ⟨b, cb, rfl, hcb, hdb⟩ := hb
  obtain ⟨n, hne⟩ : ∃ n, q.length = n := ⟨_, rfl⟩
  have HD := Lib.hid (And.intro hda hdb)
  have HN := Lib.hid hne
  rw [hne] at hl ⊢
  clear hda hdb hca hcb hne
  go_enter Tryz.func11, Tryz.ntmps11
  go_wp2_with fail
  go_loopw [5] (fun i wr => ∃ k : Nat, i = .int .i64 (k : Int) ∧ k ≤ n ∧ Keeps (fun _ => False) w wr) (fun i _ => n - (intOf i).toNat)
  case atStart => exact ⟨0, rfl, by omega, Keeps.refl _ _⟩
  case round =>
    obtain ⟨k, rfl, hk, hkr⟩ := hrel
    have HKR := Lib.hid hkr
    by_cases hlt : k < n
    · obtain ⟨ba, oa, cs, rfl, _, hba, hxa⟩ := HD.out.1 (by rw [HN.out]; omega)
      obtain ⟨bb, ob, ds, rfl, _, hbb, hxb⟩ := HD.out.2 (by rw [HN.out]; omega)
      obtain ⟨x, hx⟩ : ∃ x, q[k]? = some x := ⟨_, List.getElem?_eq_getElem (by rw [HN.out]; exact hlt)⟩
      have dl : decide (k < n) = true := decide_eq_true hlt
      have dl2 : decide ((k : Int) < (n : Int)) = true := decide_eq_true (by omega)
      have y0 := (cell_of (hkr.at hba fun h => h) (oa + k)).trans (hxa k x hx)
      have y1 := (cell_of (hkr.at hbb fun h => h) (ob + k)).trans (hxb k x hx)
      have l0 := lt_of (hkr.at hba fun h => h)
      have l1 := lt_of (hkr.at hbb fun h => h)
      have dx : ((x : Int) != (x : Int)) = false := by simp
      have HLT := Lib.hid hlt
      clear hba hxa hbb hxb hx hkr hk
      go_wp2_with fail
      go_quiet (fail)
      all_goals
        go_wp2_with fail
        go_roundw
        case rel => exact ⟨k + 1, by go_num, HLT.out, by first | exact HKR.out | exact HKR.out.drew | exact HKR.out.drewN _⟩
        case measure => simp [intOf]; have := HLT.out; omega
    · have dl : decide (k < n) = false := decide_eq_false hlt
      have dl2 : decide ((k : Int) < (n : Int)) = false := decide_eq_false (by omega)
      go_wp2_with fail
      go_ret
      exact ⟨rfl, HKR.out⟩
theorem res_own (fn : Func) (hf : fn.results = #[.cell 2 45]) (W : World) (T : Array Value) (B : Nat) (cs : Array Value) (hs : cs.size = 20) (h2 : T.getD 2 undef = .pointer (some ⟨B, 0, none⟩)) (hc : W.heap[B]? = some (.cells cs 45 (0, 0))) :
    (results fn T).run Tryz.prog W = .ok (.agg cs) W := by
  simp only [Array.getD_eq_getD_getElem?] at h2
  have hr := run_loadVar_row (P := Tryz.prog) W B 45 45 cs (0, 0) _ hc Tryz.underlying45 rfl (by rw [hs]; exact move_info)
  simp [results, hf, h2, asAddr, hr]
theorem mv_zero (w : World) : (zeroValue 45).run Tryz.prog w = .ok (.agg (moC 0 0 0 (fun _ => 0) AskX.no)) w := by kernel_rfl
theorem mo_one (k who v : Int) (Z : Nat → Int) (x : AskX) : (moC k who v Z x).all (·.oneCell') = true := by kernel_rfl
set_option maxHeartbeats 4000000 in
theorem own37 (w : World) (k who v : Int) (Z : Nat → Int) (x : AskX) : Calls Tryz.prog 8 #[.agg (moC k who v Z x)] w fun e w' => e = .returned (.agg (moC k who v Z x)) ∧ Keeps (fun _ => False) w w' := by
  obtain ⟨P1, hP1⟩ : ∃ W, W = w.alloc (.cells (moC k who v Z x) 49) := ⟨_, rfl⟩
  obtain ⟨W1, hW1⟩ : ∃ W, W = P1.alloc (.cells (moC 0 0 0 (fun _ => 0) AskX.no) 45) := ⟨_, rfl⟩
  have kP : Keeps (fun _ => False) w P1 := by rw [hP1]; exact (Keeps.refl _ w).alloc _
  have hb1 : P1.heap[w.heap.size]? = some (.cells (moC k who v Z x) 49 (0, 0)) := by rw [hP1]; exact heap_new _ _
  have k1 : Keeps (fun _ => False) w W1 := by rw [hW1]; exact kP.alloc _
  have hb2 : W1.heap[w.heap.size]? = some (.cells (moC k who v Z x) 49 (0, 0)) := by rw [hW1]; exact ((Keeps.refl (fun _ => False) P1).alloc _).at hb1 fun h => h
  have ho : W1.heap[P1.heap.size]? = some (.cells (moC 0 0 0 (fun _ => 0) AskX.no) 45 (0, 0)) := by rw [hW1]; exact heap_new _ _
  have HZ := Lib.hid kP.size
  have HO := Lib.hid ho
  have HK1 := Lib.hid k1
  have HP1 := Lib.hid hP1
  have HW1 := Lib.hid hW1
  have x0 := cell_of hb2 0
  have x1 := cell_of hb2 1
  have x2 := cell_of hb2 2
  have x3 := cell_of hb2 3
  have x4 := cell_of hb2 4
  have x5 := cell_of hb2 5
  have x6 := cell_of hb2 6
  have x7 := cell_of hb2 7
  have x8 := cell_of hb2 8
  have x9 := cell_of hb2 9
  have x10 := cell_of hb2 10
  have x11 := cell_of hb2 11
  have x12 := cell_of hb2 12
  have x13 := cell_of hb2 13
  have x14 := cell_of hb2 14
  have x15 := cell_of hb2 15
  have x16 := cell_of hb2 16
  have x17 := cell_of hb2 17
  have x18 := cell_of hb2 18
  have x19 := cell_of hb2 19
  have lx := lt_of hb2
  clear hP1 hW1 kP hb1 k1 hb2 ho
  go_enter Tryz.func8, Tryz.ntmps8
  go_wp2_with (first
    | (refine Great.wpList_boxTo rfl 49 (.tmp 0) rfl (some 1) rfl w.heap.size rfl (moC k who v Z x) rfl ?_; rw [← HP1.out])
    | (refine wpList_alloc_as rfl 45 rfl (some 2) rfl P1.heap.size rfl _ (mv_zero _) (moC 0 0 0 (fun _ => 0) AskX.no) rfl ?_; rw [← HW1.out])
    | (refine Great.wpList_buildTo rfl 45 _ rfl (some 15) rfl (moC k who v Z x) (by kernel_rfl) ?_)
    | (refine wpList_store_row rfl 45 (.tmp 2) (.tmp 15) rfl P1.heap.size (moC k who v Z x) rfl rfl 45 _ HO.out move_info rfl (mo_one _ _ _ _ _) ?_))
  refine bodyPost_ret (v := .agg (moC k who v Z x)) (res_own _ Tryz.results8 _ _ P1.heap.size _ rfl rfl (setRow_heap _ _ _ _ _ _ HO.out)) rfl ?_
  exact ⟨rfl, Keeps.setRow HK1.out (.inr HZ.out) _⟩
end Go.Proofs.YtkhmfjfclpehfaaGreat
namespace Go.Proofs.YtkhmfjfclpehfaaGreat
open Go.ChangeShapes Go.WideShapes Go.ChangeAt Go.RowKit
set_option linter.unusedVariables false
set_option linter.unusedSimpArgs false
set_option maxRecDepth 100000
structure MvX where
  k : Int
  who : Int
  y : Nat
  Z : Nat → Int
  x : AskX
@[reducible] def MvX.cells (m : MvX) : Array Value := moC m.k m.who (m.y : Int) m.Z m.x
def MvX.l (m : MvX) : List Value := m.cells.toList
def MvX.Ok (m : MvX) : Prop := MvOk (m.y : Int) m.Z m.x m.y
theorem wf_nat {q : Int} (hp : (Lit.int .u32 q).wf = true) : ∃ n : Nat, q = (n : Int) ∧ n < 4294967296 := by
  have h2 : 0 ≤ q ∧ q ≤ 4294967295 := by simpa [Lit.wf, IntKind.min, IntKind.max, IntKind.signed, IntKind.bits] using hp
  exact ⟨q.toNat, by omega, by omega⟩
set_option maxHeartbeats 2000000 in
theorem move_reads {w : World} {cs : List Value} (h : Reads Tryz.prog w 49 cs) : ∃ m : MvX, cs = m.l ∧ m.Ok := by
  obtain ⟨hl, _⟩ := h.struct Tryz.underlying49
  have hc : Tryz.prog.cellsOf 49 = 20 := by kernel_rfl
  have hi : Tryz.prog.cellsOf 3 = 1 := by kernel_rfl
  have hu : Tryz.prog.cellsOf 34 = 1 := by kernel_rfl
  have hv : Tryz.prog.cellsOf 36 = 4 := by kernel_rfl
  have hf : Tryz.prog.cellsOf 39 = 1 := by kernel_rfl
  have h5 : Tryz.prog.cellsOf 47 = 5 := by kernel_rfl
  have h7 : Tryz.prog.cellsOf 38 = 7 := by kernel_rfl
  have hr : Tryz.prog.cellsOf 41 = 5 := by kernel_rfl
  rw [hc] at hl
  match cs, hl with
  | [a0, a1, a2, a3, a4, a5, a6, a7, a8, a9, b0, b1, b2, b3, b4, b5, b6, b7, b8, b9], _ =>
    have hC := h.field Tryz.underlying49 3 38 3 7 rfl h7
    have hR := h.field Tryz.underlying49 4 41 10 5 rfl hr
    have hQ := h.field Tryz.underlying49 5 47 15 5 rfl h5
    obtain ⟨x0, e0, w0⟩ := (h.field Tryz.underlying49 0 3 0 1 rfl hi).int Tryz.underlying3
    obtain ⟨x1, e1, w1⟩ := (h.field Tryz.underlying49 1 3 1 1 rfl hi).int Tryz.underlying3
    obtain ⟨x2, e2, w2⟩ := (h.field Tryz.underlying49 2 34 2 1 rfl hu).int Tryz.underlying34
    obtain ⟨x3, e3, w3⟩ := (hC.field Tryz.underlying38 0 3 0 1 rfl hi).int Tryz.underlying3
    obtain ⟨x4, e4, w4⟩ := (hC.field Tryz.underlying38 1 3 1 1 rfl hi).int Tryz.underlying3
    have hV := ((hC.field Tryz.underlying38 2 36 2 4 rfl hv).array Tryz.underlying36).2
    rw [hu] at hV
    obtain ⟨x5, e5, w5⟩ := (hV 0 (by omega)).int Tryz.underlying34
    obtain ⟨x6, e6, w6⟩ := (hV 1 (by omega)).int Tryz.underlying34
    obtain ⟨x7, e7, w7⟩ := (hV 2 (by omega)).int Tryz.underlying34
    obtain ⟨x8, e8, w8⟩ := (hV 3 (by omega)).int Tryz.underlying34
    obtain ⟨x9, e9, w9⟩ := (hC.field Tryz.underlying38 3 34 6 1 rfl hu).int Tryz.underlying34
    obtain ⟨x10, e10, w10⟩ := (hR.field Tryz.underlying41 0 39 0 1 rfl hf).int Tryz.underlying39
    have hV2 := ((hR.field Tryz.underlying41 1 36 1 4 rfl hv).array Tryz.underlying36).2
    rw [hu] at hV2
    obtain ⟨x11, e11, w11⟩ := (hV2 0 (by omega)).int Tryz.underlying34
    obtain ⟨x12, e12, w12⟩ := (hV2 1 (by omega)).int Tryz.underlying34
    obtain ⟨x13, e13, w13⟩ := (hV2 2 (by omega)).int Tryz.underlying34
    obtain ⟨x14, e14, w14⟩ := (hV2 3 (by omega)).int Tryz.underlying34
    obtain ⟨x15, e15, w15⟩ := (hQ.field Tryz.underlying47 0 3 0 1 rfl hi).int Tryz.underlying3
    obtain ⟨x16, e16, w16⟩ := (hQ.field Tryz.underlying47 1 3 1 1 rfl hi).int Tryz.underlying3
    obtain ⟨x17, e17, w17⟩ := (hQ.field Tryz.underlying47 2 34 2 1 rfl hu).int Tryz.underlying34
    obtain ⟨x18, e18, w18⟩ := (hQ.field Tryz.underlying47 3 34 3 1 rfl hu).int Tryz.underlying34
    obtain ⟨x19, e19, w19⟩ := (hQ.field Tryz.underlying47 4 34 4 1 rfl hu).int Tryz.underlying34
    obtain ⟨y, rfl, hy⟩ := wf_nat w2
    obtain ⟨m, rfl, hm⟩ := wf_nat w17
    obtain ⟨d, rfl, hd⟩ := wf_nat w18
    obtain ⟨b, rfl, hb⟩ := wf_nat w19
    simp at e0 e1 e2 e3 e4 e5 e6 e7 e8 e9 e10 e11 e12 e13 e14 e15 e16 e17 e18 e19
    subst e0 e1 e2 e3 e4 e5 e6 e7 e8 e9 e10 e11 e12 e13 e14 e15 e16 e17 e18 e19
    refine ⟨⟨x0, x1, y, fun j => [x3, x4, x5, x6, x7, x8, x9, x10, x11, x12, x13, x14].getD j 0, ⟨true, x15, x16, m, d, b⟩⟩, rfl, ⟨rfl, hy, fun j h2 h5 => ?_, hm, ⟨hd, hb⟩⟩⟩
    unfold u32B
    rcases (show j = 2 ∨ j = 3 ∨ j = 4 ∨ j = 5 by omega) with rfl | rfl | rfl | rfl
    · exact bounds_u32 w5
    · exact bounds_u32 w6
    · exact bounds_u32 w7
    · exact bounds_u32 w8
structure MovesAt (w : World) (a : Option Addr) (n : Nat) (L : List MvX) : Prop where
  len : L.length = n
  ok : ∀ x, x ∈ L → x.Ok
  lies : 0 < n → ∃ b off, a = some ⟨b, off, none⟩ ∧ b < w.heap.size ∧ ∀ (k : Nat) (x : MvX), L[k]? = some x → w.rangeAt b (off + k * 20) x.l
theorem MovesAt.quiet {w w' : World} {a : Option Addr} {n : Nat} {L : List MvX} (h : MovesAt w a n L) (k : Keeps (fun _ => False) w w') : MovesAt w' a n L :=
  ⟨h.len, h.ok, fun hn => by
    obtain ⟨b, off, e, hl, hc⟩ := h.lies hn
    exact ⟨b, off, e, Nat.lt_of_lt_of_le hl k.size, fun i x hx => range_below (hc i x hx) k.none hl⟩⟩
theorem moves_open {w : World} {cs : List Value} (h : Reads Tryz.prog w 27 cs) : ∃ (a : Option Addr) (n c : Nat) (L : List MvX), cs = [.slice a n c] ∧ n ≤ maxLen ∧ MovesAt w a n L := by
  obtain ⟨a, n, c, e, hl, hm, r⟩ := h.rows Tryz.underlying27 (n := 20) (by kernel_rfl) (by omega)
  rcases Nat.eq_zero_or_pos n with rfl | hp
  · exact ⟨a, 0, c, [], e, by omega, rfl, fun x hx => by (cases hx), fun h => by omega⟩
  · obtain ⟨b, off, rfl, hb, hr⟩ := r hp
    haveI : Inhabited MvX := ⟨⟨0, 0, 0, fun _ => 0, AskX.no⟩⟩
    obtain ⟨F, hF⟩ := Deep.choose_lt (n := n) (p := fun i (x : MvX) => x.Ok ∧ w.rangeAt b (off + i * 20) x.l) (fun i hi => by
      obtain ⟨cs', hl8, hc, hrd⟩ := hr i hi
      obtain ⟨x, rfl, hx⟩ := move_reads hrd
      refine ⟨x, hx, fun j v hj => ?_⟩
      have hj8 : j < 20 := by
        rcases Nat.lt_or_ge j 20 with h | h
        · exact h
        · rw [List.getElem?_eq_none (by show 20 ≤ j; exact h)] at hj; cases hj
      rw [hc j hj8]
      exact hj)
    refine ⟨_, n, c, (List.range n).map F, e, by omega, by simp, fun x hx => ?_, fun _ => ⟨b, off, rfl, hb, fun i x hi => ?_⟩⟩
    · obtain ⟨i, hi, rfl⟩ := List.mem_map.1 hx
      exact (hF i (List.mem_range.1 hi)).1
    · rw [List.getElem?_map] at hi
      obtain ⟨j, hj, rfl⟩ := Option.map_eq_some_iff.1 hi
      have hin : i < n := by
        rcases Nat.lt_or_ge i n with h | h
        · exact h
        · rw [List.getElem?_eq_none (by simpa using h)] at hj; cases hj
      rw [List.getElem?_range hin] at hj
      obtain rfl := Option.some.inj hj
      exact (hF _ hin).2
theorem MovesAt.cells {w : World} {a : Option Addr} {n : Nat} {L : List MvX} (h : MovesAt w a n L) {k : Nat} (hk : k < n) : ∃ mx b off, L[k]? = some mx ∧ mx.Ok ∧ a = some ⟨b, off, none⟩ ∧ b < w.heap.size ∧ w.rangeAt b (off + k * 20) mx.l := by
  obtain ⟨b, off, e, hb, hx⟩ := h.lies (by omega)
  obtain ⟨mx, hm⟩ : ∃ mx, L[k]? = some mx := ⟨_, List.getElem?_eq_getElem (by rw [h.len]; exact hk)⟩
  exact ⟨mx, b, off, hm, h.ok mx (List.mem_of_getElem? hm), e, hb, hx k mx hm⟩
set_option maxHeartbeats 8000000 in
theorem light37_any (c : CfD) (w : World) (hc : CfIn w c) (ho : c.Ok) (a : Option Addr) (n cp : Nat) (L : List MvX) (hn : n ≤ maxLen) (hm : MovesAt w a n L) :
    Calls Tryz.prog 5 #[.agg c.cells, .slice a n cp] w fun e w' => ∃ r, e = .returned (.bool r) ∧ (r = true → n ≤ 80) ∧ Keeps (fun _ => False) w w' := by
  obtain ⟨W1, hW1⟩ : ∃ W, W = w.alloc (.cells c.cells 26) := ⟨_, rfl⟩
  have k1 : Keeps (fun _ => False) w W1 := by rw [hW1]; exact (Keeps.refl _ w).alloc _
  have hb : W1.heap[w.heap.size]? = some (.cells c.cells 26 (0, 0)) := by rw [hW1]; exact heap_new _ _
  have HL := Lib.hid (light3_any c W1 (hc.none k1) ho)
  have HR := Lib.hid (fun W (k : Keeps (fun _ => False) w W) (q o m d b : Int) => right34_any c W (hc.none k) q o m d b)
  have HB := Lib.hid hb
  have HK := Lib.hid k1
  have HM := Lib.hid (hm.quiet k1)
  have HN := Lib.hid hn
  have q0 := cell_of hb 0
  have q1 := cell_of hb 1
  have q2 := cell_of hb 2
  have q3 := cell_of hb 3
  have l0 := lt_of hb
  have HW := Lib.hid hW1
  rw [hW1] at q0 q1 q2 q3 l0
  clear hc ho hm hn k1 hb hW1
  go_enter Tryz.func5, Tryz.ntmps5
  go_wp2_with fail
  rw [← HW.out]
  refine HL.out.mono ?_
  rintro e1 w1 ⟨p, rfl, _, k1⟩
  have HK1 := Lib.hid k1
  clear k1 q0 q1 q2 q3 l0
  rcases p with _ | _
  · go_wp2_with fail
    go_ret
    exact ⟨false, rfl, fun e => absurd e (by decide), HK.out.trans HK1.out⟩
  by_cases hs : n ≤ 80
  · have d0 : decide (80 < n) = false := decide_eq_false (by omega)
    have d1 : decide ((80 : Int) < (n : Int)) = false := decide_eq_false (by omega)
    go_wp2_with fail
    go_loopw [5] (fun i wr => ∃ k : Nat, i = .int .i64 (k : Int) ∧ k ≤ n ∧ Keeps (fun _ => False) w1 wr) (fun i _ => n - (intOf i).toNat)
    case atStart => exact ⟨0, rfl, by omega, Keeps.refl _ _⟩
    case round =>
      obtain ⟨k, rfl, hk, hkr⟩ := hrel
      have HKR := Lib.hid hkr
      have HB1 := Lib.hid ((HK1.out.trans hkr).at HB.out fun h => h)
      by_cases hlt : k < n
      · obtain ⟨mx, b, off, _, _, rfl, hb, hx⟩ := (HM.out.quiet (HK1.out.trans hkr)).cells hlt
        have dl : decide (k < n) = true := decide_eq_true hlt
        have dl2 : decide ((k : Int) < (n : Int)) = true := decide_eq_true (by omega)
        have HS := Lib.hid (fun (W : World) (kk : Keeps (fun _ => False) wr W) => show W.cell? ⟨w.heap.size, 0, none⟩ = some (.slice c.ta c.nT c.tc) ∧ W.cell? ⟨w.heap.size, 1, none⟩ = some (.slice c.la c.nL c.lc) ∧ W.cell? ⟨w.heap.size, 2, none⟩ = some (.slice c.oa c.nO c.oc) ∧ W.cell? ⟨w.heap.size, 3, none⟩ = some (.int .i64 c.tick) ∧ W.cell? ⟨b, off + k * 20 + 15, none⟩ = some (.int .i64 mx.x.k) ∧ W.cell? ⟨b, off + k * 20 + 16, none⟩ = some (.int .i64 mx.x.o) ∧ W.cell? ⟨b, off + k * 20 + 17, none⟩ = some (.int .u32 (mx.x.m : Int)) ∧ W.cell? ⟨b, off + k * 20 + 18, none⟩ = some (.int .u32 (mx.x.d : Int)) ∧ W.cell? ⟨b, off + k * 20 + 19, none⟩ = some (.int .u32 (mx.x.b : Int)) from
          ⟨cell_of (kk.at HB1.out fun h => h) 0, cell_of (kk.at HB1.out fun h => h) 1, cell_of (kk.at HB1.out fun h => h) 2, cell_of (kk.at HB1.out fun h => h) 3, range_below hx kk.none hb 15 _ rfl, range_below hx kk.none hb 16 _ rfl, range_below hx kk.none hb 17 _ rfl, range_below hx kk.none hb 18 _ rfl, range_below hx kk.none hb 19 _ rfl⟩)
        obtain ⟨s0, s1, s2, s3, s4, s5, s6, s7, s8⟩ := HS.out wr (Keeps.refl _ wr)
        have l0 := lt_of HB1.out
        have HLT := Lib.hid hlt
        have HBB := Lib.hid hb
        clear hx hk hkr
        go_wp2_with fail
        go_region_held3 (fun w' => w'.cell? ⟨w.heap.size, 0, none⟩ = some (.slice c.ta c.nT c.tc) ∧ w'.cell? ⟨w.heap.size, 1, none⟩ = some (.slice c.la c.nL c.lc) ∧ w'.cell? ⟨w.heap.size, 2, none⟩ = some (.slice c.oa c.nO c.oc) ∧ w'.cell? ⟨w.heap.size, 3, none⟩ = some (.int .i64 c.tick) ∧ w'.cell? ⟨b, off + k * 20 + 15, none⟩ = some (.int .i64 mx.x.k) ∧ w'.cell? ⟨b, off + k * 20 + 16, none⟩ = some (.int .i64 mx.x.o) ∧ w'.cell? ⟨b, off + k * 20 + 17, none⟩ = some (.int .u32 (mx.x.m : Int)) ∧ w'.cell? ⟨b, off + k * 20 + 18, none⟩ = some (.int .u32 (mx.x.d : Int)) ∧ w'.cell? ⟨b, off + k * 20 + 19, none⟩ = some (.int .u32 (mx.x.b : Int)))
          (first
            | go_keep
            | exact HS.out _ HK5.out)
          (first
            | (go_at_call 13; refine (HR.out _ (((HK.out.trans HK1.out).trans HKR.out).drew) _ _ _ _ _).mono ?_; rintro e5 w5 ⟨r, rfl, k5⟩; have HK5 := Lib.hid ((Keeps.refl (fun _ => False) wr).drew.trans k5); clear k5)
            | fail)
        all_goals
          have HK6 := Lib.hid (HKR.out.trans HK5.out)
          clear s0 s1 s2 s3 s4 s5 s6 s7 s8 HS
          rcases r with _ | _
          · go_wp2_with fail
            go_ret
            exact ⟨false, rfl, fun e => absurd e (by decide), (HK.out.trans HK1.out).trans HK6.out⟩
          · go_wp2_with fail
            go_roundw
            case rel => exact ⟨k + 1, by go_num, HLT.out, HK6.out⟩
            case measure => simp [intOf]; have := HLT.out; omega
      · have dl : decide (k < n) = false := decide_eq_false hlt
        have dl2 : decide ((k : Int) < (n : Int)) = false := decide_eq_false (by omega)
        go_wp2_with fail
        go_ret
        exact ⟨true, rfl, fun _ => hs, (HK.out.trans HK1.out).trans HKR.out⟩
  · have d0 : decide (80 < n) = true := decide_eq_true (by omega)
    have d1 : decide ((80 : Int) < (n : Int)) = true := decide_eq_true (by omega)
    go_wp2_with fail
    go_ret
    exact ⟨false, rfl, fun e => absurd e (by decide), HK.out.trans HK1.out⟩
end Go.Proofs.YtkhmfjfclpehfaaGreat
