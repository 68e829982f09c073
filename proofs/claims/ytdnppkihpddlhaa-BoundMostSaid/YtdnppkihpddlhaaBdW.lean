import Derived.Test.YtdnppkihpddlhaaBdV
import Derived.Test.YtdnppkihpddlhaaBdK
import Derived.Test.YtdnppkihpddlhaaBdP
namespace Go.Proofs.Ytdnppkihpddlhaa
open Go.ChangeShapes Go.WideShapes Go.ChangeAt Go.RowKit
set_option linter.unusedVariables false
set_option linter.unusedSimpArgs false
set_option maxRecDepth 100000
/-- What the law of the greatest number hands to a routine of a kind. -/
def gotP (k W : Int) (n : Nat) : Int := if k = 2 ∧ n = 1 then 1 else if k = 6 ∧ (n : Int) % (W + 2) = W + 1 then 2 else 0
/-- A routine, told by how many acts were performed: it is busy (I), or done (D). -/
structure Mach (E : Prop) (k W : Int) (T : TypeId) (b : Nat) (fA fT fR : FuncId) (most : Int) (I D : Nat → World → Prop) : Prop where
  mA : ∀ (fuel : Nat) (w : World), (nilAhead (fuel + 1) T (.pointer (some ⟨b, 0, none⟩)) "Act").run Try.prog w = .ok (some false) w ∧ (method (fuel + 1) T (.pointer (some ⟨b, 0, none⟩)) "Act").run Try.prog w = .ok (fA, .pointer (some ⟨b, 0, none⟩)) w
  mT : ∀ (fuel : Nat) (w : World), (nilAhead (fuel + 1) T (.pointer (some ⟨b, 0, none⟩)) "Take").run Try.prog w = .ok (some false) w ∧ (method (fuel + 1) T (.pointer (some ⟨b, 0, none⟩)) "Take").run Try.prog w = .ok (fT, .pointer (some ⟨b, 0, none⟩)) w
  mR : ∀ (fuel : Nat) (w : World), (nilAhead (fuel + 1) T (.pointer (some ⟨b, 0, none⟩)) "Result").run Try.prog w = .ok (some false) w ∧ (method (fuel + 1) T (.pointer (some ⟨b, 0, none⟩)) "Result").run Try.prog w = .ok (fR, .pointer (some ⟨b, 0, none⟩)) w
  cA : ∀ (args : Array Value) (w : World), Sem.run Try.prog (callFunc fA args) w = .ok (.enter fA args) w
  cT : ∀ (args : Array Value) (w : World), Sem.run Try.prog (callFunc fT args) w = .ok (.enter fT args) w
  cR : ∀ (args : Array Value) (w : World), Sem.run Try.prog (callFunc fR args) w = .ok (.enter fR args) w
  own : ∀ n w w', I n w → Keeps (fun _ => False) w w' → I n w'
  ownD : ∀ n w w', D n w → Keeps (fun _ => False) w w' → D n w'
  low : ∀ n w, I n w → (n : Int) < most
  fin : ∀ n w, D n w → (n : Int) ≤ most ∧ (E → (n : Int) = most)
  lt : ∀ n w, I n w ∨ D n w → b < w.heap.size
  acts : ∀ n w, I n w → Calls Try.prog fA #[.pointer (some ⟨b, 0, none⟩)] w (ActQ w true)
  idle : ∀ n w, D n w → Calls Try.prog fA #[.pointer (some ⟨b, 0, none⟩)] w (ActQ w false)
  take : ∀ n w g, I n w → (E → g = gotP k W n) → Calls Try.prog fT #[.pointer (some ⟨b, 0, none⟩), .int .u32 g] w fun e w' => e = .returned (.tuple #[]) ∧ (I (n + 1) w' ∨ D (n + 1) w') ∧ Keeps (fun X => X = b) w w'
  res : ∀ n w, D n w → ∃ f : Int, (0 < most ∨ f ≠ 0) ∧ Calls Try.prog fR #[.pointer (some ⟨b, 0, none⟩)] w (ResQ w f true)
def pushI (E : Prop) (p : Nat → Int) (b : Nat) (n : Nat) (w : World) : Prop := ∃ (st own f : Int) (a : Nat), IsRg w b 82 p st own (a : Int) f ∧ a ≤ 4 ∧ ((st = 1 ∧ a = 0 ∧ n = 0) ∨ (st = 2 ∧ a = 0 ∧ n = 1 ∧ (E → own = 0)) ∨ (st = 3 ∧ (a : Int) < p 3 ∧ n = a + 2) ∨ (st = 4 ∧ (n : Int) = p 3 + 2))
def pushD (E : Prop) (p : Nat → Int) (b : Nat) (n : Nat) (w : World) : Prop := ∃ (own a f : Int), IsRg w b 82 p 5 own a f ∧ (n : Int) ≤ p 3 + 3 ∧ (E → (n : Int) = p 3 + 3)
theorem push_mach (E : Prop) (k : Int) (p : Nat → Int) (hp : RgOk p) (hk : k ≠ 2 ∧ k ≠ 6) (b : Nat) : Mach E k (p 3) 64 b 67 69 68 (p 3 + 3) (pushI E p b) (pushD E p b) := by
  refine ⟨fun fuel w => ⟨by kernel_rfl, by kernel_rfl⟩, fun fuel w => ⟨by kernel_rfl, by kernel_rfl⟩, fun fuel w => ⟨by kernel_rfl, by kernel_rfl⟩, fun _ _ => by go_simp, fun _ _ => by go_simp, fun _ _ => by go_simp, ?_, ?_, ?_, ?_, ?_, ?_, ?_, ?_, ?_⟩
  · rintro n w w' ⟨st, own, f, a, h, h4, hc⟩ kk; exact ⟨st, own, f, a, h.none kk, h4, hc⟩
  · rintro n w w' ⟨own, a, f, h, hc⟩ kk; exact ⟨own, a, f, h.none kk, hc⟩
  · rintro n w ⟨st, own, f, a, h, h4, hc⟩; have := hp.w; omega
  · rintro n w ⟨own, a, f, h, h1, h2⟩; exact ⟨h1, h2⟩
  · rintro n w (⟨st, own, f, a, ⟨o1, o2, o3, W, V, h⟩, hc⟩ | ⟨own, a, f, ⟨o1, o2, o3, W, V, h⟩, hc⟩)
    all_goals exact lt_of h
  · rintro n w ⟨st, own, f, a, h, h4, hc⟩
    have := push_act w b st f h.stAt (by omega)
    rcases (by omega : st = 1 ∨ st = 2 ∨ st = 3 ∨ st = 4) with rfl | rfl | rfl | rfl <;> exact this
  · rintro n w ⟨own, a, f, h, hc⟩; exact push_act w b 5 f h.stAt (by omega)
  · rintro n w g ⟨st, own, f, a, h, h4, hc⟩ hg
    have hw := hp.w
    rcases hc with ⟨rfl, rfl, rfl⟩ | ⟨rfl, rfl, rfl, ho⟩ | ⟨rfl, ha, hn⟩ | ⟨rfl, hn⟩
    · refine (push_take1 w b p own f g 0 (by omega) h hp).mono ?_
      rintro e w' ⟨rfl, h', kk⟩
      refine ⟨rfl, .inl ⟨2, g, f, 0, h', by omega, .inr (.inl ⟨rfl, rfl, rfl, fun he => ?_⟩)⟩, kk⟩
      rw [hg he]; unfold gotP; simp; omega
    · by_cases hf : p 2 ≤ IntKind.u32.wrap (own - g)
      · refine (push_take2f w b p own f g 0 (by omega) h hp (by have := hw.1; omega) hf).mono ?_
        rintro e w' ⟨rfl, h', kk⟩
        refine ⟨rfl, .inr ⟨own, ((0 : Nat) : Int), 6, h', by omega, fun he => ?_⟩, kk⟩
        exfalso
        have h0 : g = 0 := by rw [hg he]; unfold gotP; simp; omega
        rw [ho he, h0] at hf
        have hz : IntKind.u32.wrap (0 - 0) = 0 := by decide
        rw [hz] at hf
        have := hp.c
        omega
      · refine (push_take2 w b p own f g 0 (by omega) h hp (by have := hw.1; omega) (by omega)).mono ?_
        rintro e w' ⟨rfl, h', kk⟩
        exact ⟨rfl, .inl ⟨3, own, f, 0, h', by omega, .inr (.inr (.inl ⟨rfl, by have := hw.1; omega, rfl⟩))⟩, kk⟩
    · by_cases hm : ((a + 1 : Nat) : Int) < p 3
      · refine (push_take3 w b p own f g a h4 h hp (a + 1) rfl hm).mono ?_
        rintro e w' ⟨rfl, h', kk⟩
        exact ⟨rfl, .inl ⟨3, own, f, a + 1, h', by omega, .inr (.inr (.inl ⟨rfl, hm, by omega⟩))⟩, kk⟩
      · refine (push_take3e w b p own f g a h4 h hp (a + 1) rfl (by omega)).mono ?_
        rintro e w' ⟨rfl, h', kk⟩
        exact ⟨rfl, .inl ⟨4, own, f, a + 1, h', by omega, .inr (.inr (.inr ⟨rfl, by omega⟩))⟩, kk⟩
    · refine (push_take4 w b p own f g a h4 h hp).mono ?_
      rintro e w' ⟨rfl, h', kk⟩
      exact ⟨rfl, .inr ⟨own, a, 0, h', by omega, fun _ => by omega⟩, kk⟩
  · rintro n w ⟨own, a, f, h, hc⟩; exact ⟨f, .inl (by have := hp.w; omega), push_result w b 5 f h.stAt (by omega)⟩
def popI (E : Prop) (p : Nat → Int) (b : Nat) (n : Nat) (w : World) : Prop := ∃ (st own f : Int) (a : Nat), IsRg w b 83 p st own (a : Int) f ∧ a ≤ 4 ∧ ((st = 1 ∧ a = 0 ∧ n = 0) ∨ (st = 2 ∧ a = 0 ∧ n = 1 ∧ (E → own = 0)) ∨ (st = 3 ∧ (a : Int) < p 3 ∧ n = a + 2) ∨ (st = 4 ∧ (n : Int) = p 3 + 2))
def popD (E : Prop) (p : Nat → Int) (b : Nat) (n : Nat) (w : World) : Prop := ∃ (own a f : Int), IsRg w b 83 p 5 own a f ∧ (n : Int) ≤ p 3 + 3 ∧ (E → (n : Int) = p 3 + 3)
theorem pop_mach (E : Prop) (k : Int) (p : Nat → Int) (hp : RgOk p) (hk : k = 2) (b : Nat) : Mach E k (p 3) 66 b 79 81 80 (p 3 + 3) (popI E p b) (popD E p b) := by
  refine ⟨fun fuel w => ⟨by kernel_rfl, by kernel_rfl⟩, fun fuel w => ⟨by kernel_rfl, by kernel_rfl⟩, fun fuel w => ⟨by kernel_rfl, by kernel_rfl⟩, fun _ _ => by go_simp, fun _ _ => by go_simp, fun _ _ => by go_simp, ?_, ?_, ?_, ?_, ?_, ?_, ?_, ?_, ?_⟩
  · rintro n w w' ⟨st, own, f, a, h, h4, hc⟩ kk; exact ⟨st, own, f, a, h.none kk, h4, hc⟩
  · rintro n w w' ⟨own, a, f, h, hc⟩ kk; exact ⟨own, a, f, h.none kk, hc⟩
  · rintro n w ⟨st, own, f, a, h, h4, hc⟩; have := hp.w; omega
  · rintro n w ⟨own, a, f, h, h1, h2⟩; exact ⟨h1, h2⟩
  · rintro n w (⟨st, own, f, a, ⟨o1, o2, o3, W, V, h⟩, hc⟩ | ⟨own, a, f, ⟨o1, o2, o3, W, V, h⟩, hc⟩)
    all_goals exact lt_of h
  · rintro n w ⟨st, own, f, a, h, h4, hc⟩
    have := pop_act w b st f h.stAt (by omega)
    rcases (by omega : st = 1 ∨ st = 2 ∨ st = 3 ∨ st = 4) with rfl | rfl | rfl | rfl <;> exact this
  · rintro n w ⟨own, a, f, h, hc⟩; exact pop_act w b 5 f h.stAt (by omega)
  · rintro n w g ⟨st, own, f, a, h, h4, hc⟩ hg
    have hw := hp.w
    rcases hc with ⟨rfl, rfl, rfl⟩ | ⟨rfl, rfl, rfl, ho⟩ | ⟨rfl, ha, hn⟩ | ⟨rfl, hn⟩
    · refine (pop_take1 w b p own f g 0 (by omega) h hp).mono ?_
      rintro e w' ⟨rfl, h', kk⟩
      refine ⟨rfl, .inl ⟨2, g, f, 0, h', by omega, .inr (.inl ⟨rfl, rfl, rfl, fun he => ?_⟩)⟩, kk⟩
      rw [hg he]; unfold gotP; simp; omega
    · by_cases hf : g = own
      · refine (pop_take2f w b p own f g 0 (by omega) h hp (by have := hw.1; omega) hf).mono ?_
        rintro e w' ⟨rfl, h', kk⟩
        refine ⟨rfl, .inr ⟨own, ((0 : Nat) : Int), 7, h', by omega, fun he => ?_⟩, kk⟩
        exfalso
        have h0 : g = 1 := by rw [hg he]; unfold gotP; simp [hk]
        rw [ho he, h0] at hf
        omega
      · refine (pop_take2 w b p own f g 0 (by omega) h hp (by have := hw.1; omega) hf).mono ?_
        rintro e w' ⟨rfl, h', kk⟩
        exact ⟨rfl, .inl ⟨3, own, f, 0, h', by omega, .inr (.inr (.inl ⟨rfl, by have := hw.1; omega, rfl⟩))⟩, kk⟩
    · by_cases hm : ((a + 1 : Nat) : Int) < p 3
      · refine (pop_take3 w b p own f g a h4 h hp (by omega) (a + 1) rfl hm).mono ?_
        rintro e w' ⟨rfl, h', kk⟩
        exact ⟨rfl, .inl ⟨3, own, f, a + 1, h', by omega, .inr (.inr (.inl ⟨rfl, hm, by omega⟩))⟩, kk⟩
      · refine (pop_take3e w b p own f g a h4 h hp (by omega) (a + 1) rfl (by omega)).mono ?_
        rintro e w' ⟨rfl, h', kk⟩
        exact ⟨rfl, .inl ⟨4, own, f, a + 1, h', by omega, .inr (.inr (.inr ⟨rfl, by omega⟩))⟩, kk⟩
    · refine (pop_take4 w b p own f g a h4 h hp).mono ?_
      rintro e w' ⟨rfl, h', kk⟩
      exact ⟨rfl, .inr ⟨own, a, 0, h', by omega, fun _ => by omega⟩, kk⟩
  · rintro n w ⟨own, a, f, h, hc⟩; exact ⟨f, .inl (by have := hp.w; omega), pop_result w b 5 f h.stAt (by omega)⟩
def lwI (E : Prop) (p : Nat → Int) (b : Nat) (n : Nat) (w : World) : Prop := ∃ (st own f : Int) (a : Nat), IsRg w b 95 p st own (a : Int) f ∧ a ≤ 4 ∧ ((st = 1 ∧ a = 0 ∧ n = 0) ∨ (st = 2 ∧ a = 0 ∧ n = 1 ∧ (E → own = 0)) ∨ (st = 3 ∧ (a : Int) < p 3 ∧ n = a + 2) ∨ (st = 4 ∧ (n : Int) = p 3 + 2))
def lwD (E : Prop) (p : Nat → Int) (b : Nat) (n : Nat) (w : World) : Prop := ∃ (own a f : Int), IsRg w b 95 p 5 own a f ∧ (n : Int) ≤ p 3 + 3 ∧ (E → (n : Int) = p 3 + 3)
theorem lw_mach (E : Prop) (k : Int) (p : Nat → Int) (hp : LkOk p) (hk : k ≠ 2 ∧ k ≠ 6) (b : Nat) : Mach E k (p 3) 72 b 93 95 94 (p 3 + 3) (lwI E p b) (lwD E p b) := by
  refine ⟨fun fuel w => ⟨by kernel_rfl, by kernel_rfl⟩, fun fuel w => ⟨by kernel_rfl, by kernel_rfl⟩, fun fuel w => ⟨by kernel_rfl, by kernel_rfl⟩, fun _ _ => by go_simp, fun _ _ => by go_simp, fun _ _ => by go_simp, ?_, ?_, ?_, ?_, ?_, ?_, ?_, ?_, ?_⟩
  · rintro n w w' ⟨st, own, f, a, h, h4, hc⟩ kk; exact ⟨st, own, f, a, h.none kk, h4, hc⟩
  · rintro n w w' ⟨own, a, f, h, hc⟩ kk; exact ⟨own, a, f, h.none kk, hc⟩
  · rintro n w ⟨st, own, f, a, h, h4, hc⟩; have := hp.w; omega
  · rintro n w ⟨own, a, f, h, h1, h2⟩; exact ⟨h1, h2⟩
  · rintro n w (⟨st, own, f, a, ⟨o1, o2, o3, W, V, h⟩, hc⟩ | ⟨own, a, f, ⟨o1, o2, o3, W, V, h⟩, hc⟩)
    all_goals exact lt_of h
  · rintro n w ⟨st, own, f, a, h, h4, hc⟩
    have := lwrite_act w b st f h.stAt (by omega)
    rcases (by omega : st = 1 ∨ st = 2 ∨ st = 3 ∨ st = 4) with rfl | rfl | rfl | rfl <;> exact this
  · rintro n w ⟨own, a, f, h, hc⟩; exact lwrite_act w b 5 f h.stAt (by omega)
  · rintro n w g ⟨st, own, f, a, h, h4, hc⟩ hg
    have hw := hp.w
    rcases hc with ⟨rfl, rfl, rfl⟩ | ⟨rfl, rfl, rfl, ho⟩ | ⟨rfl, ha, hn⟩ | ⟨rfl, hn⟩
    · by_cases ho : oddP g = true
      · refine (lw_take1o w b p own f g 0 (by omega) h hp ho _ rfl).mono ?_
        rintro e w' ⟨rfl, h', kk⟩
        refine ⟨rfl, .inl ⟨2, _, f, 0, h', by omega, .inr (.inl ⟨rfl, rfl, rfl, fun he => ?_⟩)⟩, kk⟩
        have h0 : g = 0 := by rw [hg he]; unfold gotP; simp; omega
        rw [h0] at ho
        exact absurd ho (by decide)
      · refine (lw_take1 w b p own f g 0 (by omega) h hp (by simpa using ho)).mono ?_
        rintro e w' ⟨rfl, h', kk⟩
        refine ⟨rfl, .inl ⟨2, g, f, 0, h', by omega, .inr (.inl ⟨rfl, rfl, rfl, fun he => ?_⟩)⟩, kk⟩
        rw [hg he]; unfold gotP; simp; omega
    · refine (lw_take2 w b p own f g 0 (by omega) h hp (by have := hw.1; omega)).mono ?_
      rintro e w' ⟨rfl, h', kk⟩
      exact ⟨rfl, .inl ⟨3, own, f, 0, h', by omega, .inr (.inr (.inl ⟨rfl, by have := hw.1; omega, rfl⟩))⟩, kk⟩
    · by_cases hm : ((a + 1 : Nat) : Int) < p 3
      · refine (lw_take3 w b p own f g a h4 h hp (a + 1) rfl hm).mono ?_
        rintro e w' ⟨rfl, h', kk⟩
        exact ⟨rfl, .inl ⟨3, own, f, a + 1, h', by omega, .inr (.inr (.inl ⟨rfl, hm, by omega⟩))⟩, kk⟩
      · refine (lw_take3e w b p own f g a h4 h hp (a + 1) rfl (by omega)).mono ?_
        rintro e w' ⟨rfl, h', kk⟩
        exact ⟨rfl, .inl ⟨4, own, f, a + 1, h', by omega, .inr (.inr (.inr ⟨rfl, by omega⟩))⟩, kk⟩
    · refine (lw_take4 w b p own f g a h4 h hp).mono ?_
      rintro e w' ⟨rfl, h', kk⟩
      exact ⟨rfl, .inr ⟨own, a, 0, h', by omega, fun _ => by omega⟩, kk⟩
  · rintro n w ⟨own, a, f, h, hc⟩; exact ⟨f, .inl (by have := hp.w; omega), lwrite_result w b 5 f h.stAt (by omega)⟩
end Go.Proofs.Ytdnppkihpddlhaa
