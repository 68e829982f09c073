import Derived.Test.YtlpnobpgphmngaaGaussRturn
import Derived.Deep.RegionWith
namespace Go.Proofs.Ytlpnobpgphmngaa
open Go.ChangeShapes Go.WideShapes Go.ChangeAt Go.RowKit
set_option linter.unusedVariables false
structure RsumAt (w wr : World) (p q : Int) : Prop where
  keeps : Keeps (fun _ => False) w wr
  r : wr.heap[w.heap.size]? = some (.cells #[.int .i64 0, .int .i64 0] 53 (0, 0))
  s : wr.heap[w.heap.size + 1]? = some (.cells #[.int .i64 p, .int .i64 q] 53 (0, 0))
theorem RsumAt.none {w w1 w2 : World} {p q : Int} (h : RsumAt w w1 p q) (k : Keeps (fun _ => False) w1 w2) : RsumAt w w2 p q :=
  ⟨h.keeps.trans k, k.at h.r fun h => h, k.at h.s fun h => h⟩
theorem RsumAt.new (w : World) : RsumAt w ((w.alloc (.cells #[.int .i64 0, .int .i64 0] 53)).alloc (.cells #[.int .i64 0, .int .i64 0] 53)) 0 0 := by
  obtain ⟨h1, h2, h3⟩ := kept2 (Keeps.refl (fun _ => False) ((w.alloc (.cells #[.int .i64 0, .int .i64 0] 53)).alloc (.cells #[.int .i64 0, .int .i64 0] 53)))
  exact ⟨h3, h1, h2⟩
theorem RsumAt.set {w w1 : World} {p q p' q' : Int} (h : RsumAt w w1 p q) : RsumAt w ((w1.setCell ⟨w.heap.size + 1, 0, Option.none⟩ (.int .i64 p')).setCell ⟨w.heap.size + 1, 1, Option.none⟩ (.int .i64 q')) p' q' :=
  ⟨(h.keeps.setCell (.inr (by simp)) _).setCell (.inr (by simp)) _, heap_other (heap_other h.r (by simp) _) (by simp) _, heap_set (heap_set h.s 0 _) 1 _⟩
theorem sumS_step {F G : Nat → Int} {k : Nat} {p q : Int} (h : sumS F G k = some (p, q)) : sumS F G (k + 1) = if (rightB p q && rightB (F k) (G k)) && rightB (p + F k) (q + G k) then some (p + F k, q + G k) else none := by
  show (match sumS F G k with | some (p, q) => _ | none => none) = _
  rw [h]
set_option maxHeartbeats 1000000 in
theorem rsum_any (a : Option Addr) (n cap : Nat) (F G : Nat → Int) (w : World) (hn : n ≤ 9223372036854775807) (hr : RowP w a n F G) :
    Calls Try.prog 40 #[.slice a n cap] w fun e w' => e = .returned (sumV (sumS F G n)) ∧ Keeps (fun _ => False) w w' := by
  have HR := Lib.hid hr
  have H0 := Lib.hid (RsumAt.new w)
  clear hr
  go_enter Try.func40, Try.ntmps40
  go_wp2_with fail
  obtain ⟨wo, rfl⟩ : ∃ wo : World, wo = w := ⟨_, rfl⟩
  go_loopw [5, 6] (fun s i wr => ∃ (k : Nat) (p q : Int) (r : Bool), k ≤ n ∧ s = .bool r ∧ i = .int .i64 k ∧ (sumS F G k = if r then some (p, q) else none) ∧ (r = false → p = 0 ∧ q = 0) ∧ RsumAt wo wr p q) (fun _ i _ => n - (intOf i).toNat)
  case atStart => exact ⟨0, 0, 0, true, by omega, rfl, rfl, rfl, (fun h => by cases h), H0.out⟩
  case round =>
    obtain ⟨k, p, q, r, hk, rfl, rfl, hs, hz, hA⟩ := hrel
    have HS := Lib.hid hs
    have HZ := Lib.hid hz
    have HA := Lib.hid hA
    obtain ⟨s0, s1, g0, g1, ls⟩ := two_cells hA.s
    clear hs hA hz
    cases r
    · have hnone : sumS F G n = none := by
        have := sumS_none F G k (n - k) (by rw [HS.out]; rfl)
        rwa [show k + (n - k) = n by omega] at this
      have HN := Lib.hid hnone
      obtain ⟨rfl, rfl⟩ := HZ.out rfl
      obtain ⟨r0, r1, f0, f1, lr⟩ := two_cells HA.out.r
      clear hnone
      have hfin : ∀ w' : World, Keeps (fun _ => False) wo w' → (Ending.returned (.tuple #[.agg #[.int .i64 0, .int .i64 0], .bool false]) = Ending.returned (sumV (sumS F G n))) := fun w' _ => by rw [HN.out]; rfl
      have HF := Lib.hid hfin
      clear hfin
      by_cases hlt : k < n
      · go_wp2
        refine bodyPost_ret (v := .tuple #[.agg #[.int .i64 0, .int .i64 0], .bool false]) (by simp [results, Try.results40, go_sem, *]) rfl ⟨HF.out _ HA.out.keeps, ?_⟩
        exact (HA.out.keeps.setCell (.inr (by simp)) _).setCell (.inr (by simp)) _
      · go_wp2
        refine bodyPost_ret (v := .tuple #[.agg #[.int .i64 0, .int .i64 0], .bool false]) (by simp [results, Try.results40, go_sem, *]) rfl ⟨HF.out _ HA.out.keeps, ?_⟩
        exact (HA.out.keeps.setCell (.inr (by simp)) _).setCell (.inr (by simp)) _
    · by_cases hlt : k < n
      · obtain ⟨b, off, rfl, hb, hc⟩ := (HR.out.none HA.out.keeps) (by omega)
        obtain ⟨x0, x1⟩ := hc k hlt
        clear hc
        go_wp2_with fail
        have HD := Lib.hid (HA.out.none (Keeps.refl _ _).drew)
        go_region_with (
          (go_at_call 32; refine (radd_any p q (F k) (G k) _).mono ?_; rintro e w2 ⟨p', q', r, rfl, hr, hp', hq', k2⟩; have HA2 := Lib.hid (HD.out.none k2); have HP := Lib.hid (And.intro hr (And.intro hp' hq')); obtain ⟨s0', s1', g0', g1', ls'⟩ := two_cells HA2.out.s; clear hr hp' hq' k2))
        all_goals
          go_wp2
          go_roundw
          case rel =>
            refine ⟨k + 1, p', q', r, by omega, rfl, rfl, ?_, ?_, HA2.out.set⟩
            · rw [sumS_step HS.out, ← HP.out.1]
              cases r
              · rfl
              · rw [HP.out.2.1, HP.out.2.2]
                rfl
            · rintro rfl
              exact ⟨HP.out.2.1, HP.out.2.2⟩
          case measure => simp [intOf]; omega
      · obtain rfl : k = n := by omega
        obtain ⟨r0, r1, f0, f1, lr⟩ := two_cells HA.out.r
        go_wp2
        refine bodyPost_ret (v := .tuple #[.agg #[.int .i64 p, .int .i64 q], .bool true]) (by simp [results, Try.results40, go_sem, *]) rfl ⟨by rw [HS.out]; rfl, ?_⟩
        exact (HA.out.keeps.setCell (.inr (by simp)) _).setCell (.inr (by simp)) _
end Go.Proofs.Ytlpnobpgphmngaa
