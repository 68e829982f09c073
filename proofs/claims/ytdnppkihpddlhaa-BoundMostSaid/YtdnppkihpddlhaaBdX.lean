import Derived.Test.YtdnppkihpddlhaaBdW
import Derived.Test.YtdnppkihpddlhaaBdM
import Derived.Test.YtdnppkihpddlhaaBdN
namespace Go.Proofs.Ytdnppkihpddlhaa
open Go.ChangeShapes Go.WideShapes Go.ChangeAt Go.RowKit
set_option linter.unusedVariables false
set_option linter.unusedSimpArgs false
set_option maxRecDepth 100000
def fwI (E : Prop) (p : Nat → Int) (b : Nat) (n : Nat) (w : World) : Prop := ∃ (st f : Int) (a : Nat), IsFo w b 89 p st (a : Int) f ∧ a ≤ 4 ∧ ((st = 1 ∧ a = 0 ∧ n = 0) ∨ (st = 3 ∧ a = 0 ∧ n = 1) ∨ (st = 4 ∧ (a : Int) < p 3 ∧ n = a + 2) ∨ (st = 5 ∧ (n : Int) = p 3 + 2) ∨ (st = 6 ∧ (n : Int) = p 3 + 3))
def fwD (E : Prop) (p : Nat → Int) (b : Nat) (n : Nat) (w : World) : Prop := ∃ (a f : Int), IsFo w b 89 p 7 a f ∧ (n : Int) = p 3 + 4
theorem fw_mach (E : Prop) (k : Int) (p : Nat → Int) (hp : FoOk p) (b : Nat) : Mach E k (p 3) 68 b 82 84 83 (p 3 + 4) (fwI E p b) (fwD E p b) := by
  refine ⟨fun fuel w => ⟨by kernel_rfl, by kernel_rfl⟩, fun fuel w => ⟨by kernel_rfl, by kernel_rfl⟩, fun fuel w => ⟨by kernel_rfl, by kernel_rfl⟩, fun _ _ => by go_simp, fun _ _ => by go_simp, fun _ _ => by go_simp, ?_, ?_, ?_, ?_, ?_, ?_, ?_, ?_, ?_⟩
  · rintro n w w' ⟨st, f, a, h, h4, hc⟩ kk; exact ⟨st, f, a, h.none kk, h4, hc⟩
  · rintro n w w' ⟨a, f, h, hc⟩ kk; exact ⟨a, f, h.none kk, hc⟩
  · rintro n w ⟨st, f, a, h, h4, hc⟩; have := hp.w; omega
  · rintro n w ⟨a, f, h, h1⟩; exact ⟨by omega, fun _ => h1⟩
  · rintro n w (⟨st, f, a, ⟨o1, o2, o3, s0, s1, W, V, h⟩, hc⟩ | ⟨a, f, ⟨o1, o2, o3, s0, s1, W, V, h⟩, hc⟩)
    all_goals exact lt_of h
  · rintro n w ⟨st, f, a, h, h4, hc⟩
    have := fwrite_act w b st f h.stAt (by omega)
    rcases (by omega : st = 1 ∨ st = 3 ∨ st = 4 ∨ st = 5 ∨ st = 6) with rfl | rfl | rfl | rfl | rfl <;> exact this
  · rintro n w ⟨a, f, h, hc⟩; exact fwrite_act w b 7 f h.stAt (by omega)
  · rintro n w g ⟨st, f, a, h, h4, hc⟩ hg
    have hw := hp.w
    rcases hc with ⟨rfl, rfl, rfl⟩ | ⟨rfl, rfl, rfl⟩ | ⟨rfl, ha, hn⟩ | ⟨rfl, hn⟩ | ⟨rfl, hn⟩
    · refine (fw_take1 w b p f g 0 (by omega) h hp).mono ?_
      rintro e w' ⟨rfl, h', kk⟩
      exact ⟨rfl, .inl ⟨3, f, 0, h', by omega, .inr (.inl ⟨rfl, rfl, rfl⟩)⟩, kk⟩
    · refine (fw_take3 w b p f g 0 (by omega) h hp (by have := hw.1; omega)).mono ?_
      rintro e w' ⟨rfl, h', kk⟩
      exact ⟨rfl, .inl ⟨4, f, 0, h', by omega, .inr (.inr (.inl ⟨rfl, by have := hw.1; omega, rfl⟩))⟩, kk⟩
    · by_cases hm : ((a + 1 : Nat) : Int) < p 3
      · refine (fw_take4 w b p f g a h4 h hp (by omega) (a + 1) rfl hm).mono ?_
        rintro e w' ⟨rfl, h', kk⟩
        exact ⟨rfl, .inl ⟨4, f, a + 1, h', by omega, .inr (.inr (.inl ⟨rfl, hm, by omega⟩))⟩, kk⟩
      · refine (fw_take4e w b p f g a h4 h hp (by omega) (a + 1) rfl (by omega)).mono ?_
        rintro e w' ⟨rfl, h', kk⟩
        exact ⟨rfl, .inl ⟨5, f, a + 1, h', by omega, .inr (.inr (.inr (.inl ⟨rfl, by omega⟩)))⟩, kk⟩
    · refine (fw_take5 w b p f g a h4 h hp).mono ?_
      rintro e w' ⟨rfl, h', kk⟩
      exact ⟨rfl, .inl ⟨6, f, a, h', h4, .inr (.inr (.inr (.inr ⟨rfl, by omega⟩)))⟩, kk⟩
    · refine (fw_take6 w b p f g a h4 h hp).mono ?_
      rintro e w' ⟨rfl, h', kk⟩
      exact ⟨rfl, .inr ⟨a, 0, h', by omega⟩, kk⟩
  · rintro n w ⟨a, f, h, hc⟩; exact ⟨f, .inl (by have := hp.w; omega), fwrite_result w b 7 f h.stAt (by omega)⟩
def frI (E : Prop) (p : Nat → Int) (b : Nat) (n : Nat) (w : World) : Prop := ∃ (st f : Int) (a : Nat), IsFo w b 90 p st (a : Int) f ∧ a ≤ 4 ∧ ((st = 1 ∧ a = 0 ∧ n = 0) ∨ (st = 2 ∧ a = 0 ∧ n = 1) ∨ (st = 3 ∧ a = 0 ∧ n = 2) ∨ (st = 4 ∧ (a : Int) < p 3 ∧ n = a + 3))
def frD (E : Prop) (p : Nat → Int) (b : Nat) (n : Nat) (w : World) : Prop := ∃ (a f : Int), IsFo w b 90 p 7 a f ∧ (n : Int) = p 3 + 3
theorem fr_mach (E : Prop) (k : Int) (p : Nat → Int) (hp : FoOk p) (b : Nat) : Mach E k (p 3) 70 b 90 92 91 (p 3 + 3) (frI E p b) (frD E p b) := by
  refine ⟨fun fuel w => ⟨by kernel_rfl, by kernel_rfl⟩, fun fuel w => ⟨by kernel_rfl, by kernel_rfl⟩, fun fuel w => ⟨by kernel_rfl, by kernel_rfl⟩, fun _ _ => by go_simp, fun _ _ => by go_simp, fun _ _ => by go_simp, ?_, ?_, ?_, ?_, ?_, ?_, ?_, ?_, ?_⟩
  · rintro n w w' ⟨st, f, a, h, h4, hc⟩ kk; exact ⟨st, f, a, h.none kk, h4, hc⟩
  · rintro n w w' ⟨a, f, h, hc⟩ kk; exact ⟨a, f, h.none kk, hc⟩
  · rintro n w ⟨st, f, a, h, h4, hc⟩; have := hp.w; omega
  · rintro n w ⟨a, f, h, h1⟩; exact ⟨by omega, fun _ => h1⟩
  · rintro n w (⟨st, f, a, ⟨o1, o2, o3, s0, s1, W, V, h⟩, hc⟩ | ⟨a, f, ⟨o1, o2, o3, s0, s1, W, V, h⟩, hc⟩)
    all_goals exact lt_of h
  · rintro n w ⟨st, f, a, h, h4, hc⟩
    have := fread_act w b st f h.stAt (by omega)
    rcases (by omega : st = 1 ∨ st = 2 ∨ st = 3 ∨ st = 4) with rfl | rfl | rfl | rfl <;> exact this
  · rintro n w ⟨a, f, h, hc⟩; exact fread_act w b 7 f h.stAt (by omega)
  · rintro n w g ⟨st, f, a, h, h4, hc⟩ hg
    have hw := hp.w
    rcases hc with ⟨rfl, rfl, rfl⟩ | ⟨rfl, rfl, rfl⟩ | ⟨rfl, rfl, rfl⟩ | ⟨rfl, ha, hn⟩
    · refine (fr_take1 w b p f g 0 (by omega) h hp).mono ?_
      rintro e w' ⟨rfl, h', kk⟩
      exact ⟨rfl, .inl ⟨2, f, 0, h', by omega, .inr (.inl ⟨rfl, rfl, rfl⟩)⟩, kk⟩
    · refine (fr_take2 w b p f g 0 (by omega) h hp).mono ?_
      rintro e w' ⟨rfl, h', kk⟩
      exact ⟨rfl, .inl ⟨3, f, 0, h', by omega, .inr (.inr (.inl ⟨rfl, rfl, rfl⟩))⟩, kk⟩
    · refine (fr_take3 w b p f g 0 (by omega) h hp (by have := hw.1; omega)).mono ?_
      rintro e w' ⟨rfl, h', kk⟩
      exact ⟨rfl, .inl ⟨4, f, 0, h', by omega, .inr (.inr (.inr ⟨rfl, by have := hw.1; omega, rfl⟩))⟩, kk⟩
    · by_cases hm : ((a + 1 : Nat) : Int) < p 3
      · refine (fr_take4 w b p f g a h4 h hp (by omega) (a + 1) rfl hm).mono ?_
        rintro e w' ⟨rfl, h', kk⟩
        exact ⟨rfl, .inl ⟨4, f, a + 1, h', by omega, .inr (.inr (.inr ⟨rfl, hm, by omega⟩))⟩, kk⟩
      · refine (fr_take4e w b p f g a h4 h hp (by omega) (a + 1) rfl (by omega)).mono ?_
        rintro e w' ⟨rfl, h', kk⟩
        exact ⟨rfl, .inr ⟨((a + 1 : Nat) : Int), 0, h', by omega⟩, kk⟩
  · rintro n w ⟨a, f, h, hc⟩; exact ⟨f, .inl (by have := hp.w; omega), fread_result w b 7 f h.stAt (by omega)⟩
/-! lock.Read: L = W + 2 acts a try. -/
theorem mul_step {L t : Int} : L * (t + 1) = L * t + L := by rw [Int.mul_add, Int.mul_one]
theorem mul_mono' {L s t : Int} (hL : 0 ≤ L) (h : s ≤ t) : L * s ≤ L * t := Int.mul_le_mul_of_nonneg_left h hL
theorem emod_low {L m x : Int} (hL : 0 ≤ x ∧ x < L) : (L * m + x) % L = x := by
  rw [Int.add_comm, Int.add_mul_emod_self_left]; exact Int.emod_eq_of_lt hL.1 hL.2
def lrI (E : Prop) (ag : Int) (p : Nat → Int) (b : Nat) (n : Nat) (w : World) : Prop := ∃ (st own f t : Int) (a : Nat), IsLr w b 97 p st own (a : Int) f ag t ∧ a ≤ 4 ∧ 0 ≤ t ∧
  ((st = 1 ∧ t ≤ ag ∧ (n : Int) ≤ (p 3 + 2) * t ∧ (E → (n : Int) = (p 3 + 2) * t)) ∨
   (st = 3 ∧ 1 ≤ t ∧ t ≤ ag + 1 ∧ (a : Int) < p 3 ∧ (n : Int) ≤ (p 3 + 2) * (t - 1) + (1 + a) ∧ (E → (n : Int) = (p 3 + 2) * (t - 1) + (1 + a) ∧ own = 0)) ∨
   (st = 4 ∧ 1 ≤ t ∧ t ≤ ag + 1 ∧ (n : Int) ≤ (p 3 + 2) * (t - 1) + (p 3 + 1) ∧ (E → (n : Int) = (p 3 + 2) * (t - 1) + (p 3 + 1) ∧ own = 0)))
def lrD (E : Prop) (ag : Int) (p : Nat → Int) (b : Nat) (n : Nat) (w : World) : Prop := ∃ (own a f t : Int), IsLr w b 97 p 5 own a f ag t ∧ (n : Int) ≤ (p 3 + 2) * (ag + 1) ∧ (E → (n : Int) = (p 3 + 2) * (ag + 1))
theorem lr_mach (E : Prop) (k ag : Int) (p : Nat → Int) (hp : LkOk p) (hk : (k = 6 ∨ k ≠ 2 ∧ k ≠ 6 ∧ ag = 0)) (hg8 : 0 ≤ ag ∧ ag ≤ 8) (b : Nat) : Mach E k (p 3) 74 b 102 104 103 ((p 3 + 2) * (ag + 1)) (lrI E ag p b) (lrD E ag p b) := by
  have hw := hp.w
  have hL : 0 ≤ p 3 + 2 := by omega
  refine ⟨fun fuel w => ⟨by kernel_rfl, by kernel_rfl⟩, fun fuel w => ⟨by kernel_rfl, by kernel_rfl⟩, fun fuel w => ⟨by kernel_rfl, by kernel_rfl⟩, fun _ _ => by go_simp, fun _ _ => by go_simp, fun _ _ => by go_simp, ?_, ?_, ?_, ?_, ?_, ?_, ?_, ?_, ?_⟩
  · rintro n w w' ⟨st, own, f, t, a, h, h4, hc⟩ kk; exact ⟨st, own, f, t, a, h.none kk, h4, hc⟩
  · rintro n w w' ⟨own, a, f, t, h, hc⟩ kk; exact ⟨own, a, f, t, h.none kk, hc⟩
  · rintro n w ⟨st, own, f, t, a, h, h4, h0, hc⟩
    have e := @mul_step (p 3 + 2) ag
    rcases hc with ⟨_, h1, h2, _⟩ | ⟨_, h1, h2, h3, h5, _⟩ | ⟨_, h1, h2, h3, _⟩
    · have := mul_mono' hL h1; omega
    · have := mul_mono' hL (show t - 1 ≤ ag by omega); omega
    · have := mul_mono' hL (show t - 1 ≤ ag by omega); omega
  · rintro n w ⟨own, a, f, t, h, h1, h2⟩; exact ⟨h1, h2⟩
  · rintro n w (⟨st, own, f, t, a, ⟨o1, o2, o3, W, V, h⟩, hc⟩ | ⟨own, a, f, t, ⟨o1, o2, o3, W, V, h⟩, hc⟩)
    all_goals exact lt_of h
  · rintro n w ⟨st, own, f, t, a, h, h4, h0, hc⟩
    have hst : st = 1 ∨ st = 3 ∨ st = 4 := by rcases hc with h | h | h <;> simp [h.1]
    have := lread_act w b st f h.stAt (by omega)
    rcases hst with rfl | rfl | rfl <;> exact this
  · rintro n w ⟨own, a, f, t, h, hc⟩; exact lread_act w b 5 f h.stAt (by omega)
  · rintro n w g ⟨st, own, f, t, a, h, h4, h0, hc⟩ hg
    have e := @mul_step (p 3 + 2) ag
    have et := @mul_step (p 3 + 2) t
    have et' : t + 1 - 1 = t := by omega
    have em := @mul_step (p 3 + 2) (t - 1)
    rw [Int.sub_add_cancel] at em
    rcases hc with ⟨rfl, h1, h2, h3⟩ | ⟨rfl, h1, h2, h3, h5, h6⟩ | ⟨rfl, h1, h2, h3, h5⟩
    · have hg0 : E → g = 0 := fun he => by
        have hn := h3 he
        rw [hg he]; unfold gotP
        have hm : (n : Int) % (p 3 + 2) = 0 := by have := @emod_low (p 3 + 2) t 0 (by omega); rw [Int.add_zero] at this; rw [hn]; exact this
        rw [if_neg (by omega), if_neg (by rw [hm]; omega)]
      by_cases ho : oddP g = true
      · have hE : ¬ E := fun he => by rw [hg0 he] at ho; exact absurd ho (by decide)
        by_cases hm : t + 1 ≤ ag
        · refine (lr_take1o w b p own f ag t g a h4 h hp ho (t + 1) rfl h0 (by omega) hm).mono ?_
          rintro e w' ⟨rfl, h', kk⟩
          exact ⟨rfl, .inl ⟨1, g, f, t + 1, 0, h', by omega, by omega, .inl ⟨rfl, hm, by omega, fun he => absurd he hE⟩⟩, kk⟩
        · refine (lr_take1x w b p own f ag t g a h4 h hp ho (t + 1) rfl h0 (by omega) (by omega)).mono ?_
          rintro e w' ⟨rfl, h', kk⟩
          have := mul_mono' hL h1
          exact ⟨rfl, .inr ⟨g, 0, 8, t + 1, h', by omega, fun he => absurd he hE⟩, kk⟩
      · refine (lr_take1 w b p own f ag t g a h4 h hp (by simpa using ho) (t + 1) rfl h0 (by omega)).mono ?_
        rintro e w' ⟨rfl, h', kk⟩
        refine ⟨rfl, .inl ⟨3, g, f, t + 1, 0, h', by omega, by omega, .inr (.inl ⟨rfl, by omega, by omega, by have := hw.1; omega, ?_, fun he => ⟨?_, hg0 he⟩⟩)⟩, kk⟩
        · rw [et']; omega
        · rw [et']; have := h3 he; omega
    · by_cases hm : ((a + 1 : Nat) : Int) < p 3
      · refine (lr_take3 w b p own f ag t g a h4 h hp (by omega) (a + 1) rfl hm).mono ?_
        rintro e w' ⟨rfl, h', kk⟩
        exact ⟨rfl, .inl ⟨3, own, f, t, a + 1, h', by omega, h0, .inr (.inl ⟨rfl, h1, h2, hm, by omega, fun he => ⟨by have := (h6 he).1; omega, (h6 he).2⟩⟩)⟩, kk⟩
      · refine (lr_take3e w b p own f ag t g a h4 h hp (by omega) (a + 1) rfl (by omega)).mono ?_
        rintro e w' ⟨rfl, h', kk⟩
        exact ⟨rfl, .inl ⟨4, own, f, t, a + 1, h', by omega, h0, .inr (.inr ⟨rfl, h1, h2, by omega, fun he => ⟨by have := (h6 he).1; omega, (h6 he).2⟩⟩)⟩, kk⟩
    · have hgE : E → k = 6 → g = 2 := fun he hk6 => by
        have hn := (h5 he).1
        rw [hg he]; unfold gotP
        have hm : (n : Int) % (p 3 + 2) = p 3 + 1 := by rw [hn]; exact emod_low (by omega)
        rw [if_neg (by omega), if_pos ⟨hk6, hm⟩]
      have hT : t ≤ ag → (p 3 + 2) * (t - 1) + (p 3 + 2) ≤ (p 3 + 2) * ag := fun h => by have := mul_mono' hL h; omega
      have hT1 : (p 3 + 2) * (t - 1) + (p 3 + 2) ≤ (p 3 + 2) * (ag + 1) := by have := mul_mono' hL h2; omega
      by_cases hgo : g = own
      · refine (lr_take4 w b p own f ag t g a h4 h hp hgo).mono ?_
        rintro e w' ⟨rfl, h', kk⟩
        refine ⟨rfl, .inr ⟨own, a, 0, t, h', by omega, fun he => ?_⟩, kk⟩
        rcases hk with hk6 | ⟨_, _, hag⟩
        · have := hgE he hk6; have := (h5 he).2; omega
        · have := (h5 he).1
          have t1 : t = 1 := by omega
          rw [t1] at this
          rw [hag]
          have z : (p 3 + 2) * (1 - 1) = 0 := by rw [show (1 : Int) - 1 = 0 from rfl, Int.mul_zero]
          have z1 : (p 3 + 2) * (0 + 1) = p 3 + 2 := by rw [show (0 : Int) + 1 = 1 from rfl, Int.mul_one]
          omega
      · by_cases hm : t ≤ ag
        · refine (lr_take4o w b p own f ag t g a h4 h hp hgo hm).mono ?_
          rintro e w' ⟨rfl, h', kk⟩
          exact ⟨rfl, .inl ⟨1, own, f, t, a, h', h4, h0, .inl ⟨rfl, hm, by omega, fun he => by have := (h5 he).1; omega⟩⟩, kk⟩
        · refine (lr_take4x w b p own f ag t g a h4 h hp hgo (by omega)).mono ?_
          rintro e w' ⟨rfl, h', kk⟩
          have ht : t = ag + 1 := by omega
          rw [ht] at em h3 h5
          exact ⟨rfl, .inr ⟨own, a, 8, t, h', by omega, fun he => by have := (h5 he).1; omega⟩, kk⟩
  · rintro n w ⟨own, a, f, t, h, hc⟩
    have hm := mul_mono' hL (show 0 + 1 ≤ ag + 1 by omega)
    have z1 : (p 3 + 2) * (0 + 1) = p 3 + 2 := by rw [show (0 : Int) + 1 = 1 from rfl, Int.mul_one]
    exact ⟨f, .inl (by omega), lread_result w b 5 f h.stAt (by omega)⟩
def flI (p : Nat → Int) (kk m : Int) (b : Nat) (n : Nat) (w : World) : Prop := n = 0 ∧ IsFl w b p kk m 1 0
def flD (p : Nat → Int) (kk m : Int) (b : Nat) (n : Nat) (w : World) : Prop := n = 1 ∧ ∃ f, IsFl w b p kk m 2 f
theorem IsFl.lt {w : World} {b : Nat} {p : Nat → Int} {k m st f : Int} (h : IsFl w b p k m st f) : b < w.heap.size := by obtain ⟨V, h⟩ := h; exact lt_of h
theorem fl_mach (E : Prop) (k : Int) (p : Nat → Int) (q m : Int) (hq : 1 ≤ q ∧ q ≤ 5) (b : Nat) : Mach E k (p 3) 76 b 105 107 106 1 (flI p q m b) (flD p q m b) := by
  refine ⟨fun fuel w => ⟨by kernel_rfl, by kernel_rfl⟩, fun fuel w => ⟨by kernel_rfl, by kernel_rfl⟩, fun fuel w => ⟨by kernel_rfl, by kernel_rfl⟩, fun _ _ => by go_simp, fun _ _ => by go_simp, fun _ _ => by go_simp, ?_, ?_, ?_, ?_, ?_, ?_, ?_, ?_, ?_⟩
  · rintro n w w' ⟨h, h'⟩ kk; exact ⟨h, h'.none kk⟩
  · rintro n w w' ⟨h, f, h'⟩ kk; exact ⟨h, f, h'.none kk⟩
  · rintro n w ⟨rfl, h'⟩; decide
  · rintro n w ⟨rfl, h'⟩; exact ⟨by decide, fun _ => by decide⟩
  · rintro n w (⟨_, h⟩ | ⟨_, f, h⟩)
    all_goals exact h.lt
  · rintro n w ⟨_, h⟩; exact flag_act w b p q m 0 hq h
  · rintro n w ⟨_, f, h⟩; exact flag_act0 w b p q m f h
  · rintro n w g ⟨rfl, h⟩ _
    refine (flag_take w b p q m 0 g hq h).mono ?_
    rintro e w' ⟨rfl, h', kk⟩
    exact ⟨rfl, .inr ⟨rfl, h'⟩, kk⟩
  · rintro n w ⟨_, f, h⟩; exact ⟨f, .inl (by decide), flag_result w b p q m 2 f h⟩
def reD (b : Nat) (f : Int) (n : Nat) (w : World) : Prop := n = 0 ∧ IsRef w b f
theorem ref_mach (E : Prop) (k : Int) (W f : Int) (hf : f ≠ 0) (b : Nat) : Mach E k W 59 b 64 66 65 0 (fun _ _ => False) (reD b f) := by
  refine ⟨fun fuel w => ⟨by kernel_rfl, by kernel_rfl⟩, fun fuel w => ⟨by kernel_rfl, by kernel_rfl⟩, fun fuel w => ⟨by kernel_rfl, by kernel_rfl⟩, fun _ _ => by go_simp, fun _ _ => by go_simp, fun _ _ => by go_simp, ?_, ?_, ?_, ?_, ?_, ?_, ?_, ?_, ?_⟩
  · rintro n w w' h; exact h.elim
  · rintro n w w' ⟨h, h'⟩ kk; exact ⟨h, kk.at h' fun h => h⟩
  · rintro n w h; exact h.elim
  · rintro n w ⟨rfl, _⟩; exact ⟨by decide, fun _ => by decide⟩
  · rintro n w (h | ⟨_, h⟩)
    · exact h.elim
    · exact lt_of h
  · rintro n w h; exact h.elim
  · rintro n w ⟨_, h⟩; exact ref_act w b
  · rintro n w g h; exact h.elim
  · rintro n w ⟨_, h⟩; exact ⟨f, .inr hf, ref_result w b f h⟩
end Go.Proofs.Ytdnppkihpddlhaa
