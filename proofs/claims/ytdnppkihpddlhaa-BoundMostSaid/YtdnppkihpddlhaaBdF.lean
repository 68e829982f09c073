import Derived.Test.YtdnppkihpddlhaaBdE
namespace Go.Proofs.Ytdnppkihpddlhaa
open Go.ChangeShapes Go.WideShapes Go.ChangeAt Go.RowKit
set_option linter.unusedVariables false
set_option linter.unusedSimpArgs false
set_option maxHeartbeats 4000000 in
theorem rg_entry (w : World) (b : Nat) (p : Nat → Int) (own : Int) (h : PlAt w b p) (ho : w.cell? ⟨b, 9, none⟩ = some (.int .u32 own)) (hp : PlOk p) (h1 : p 0 = 1) :
    Calls Try.prog 75 #[.pointer (some ⟨b, 0, none⟩)] w (EntQ 78 109 w b) := by
  have hmf : ∀ (fn : Fn) (first cap : Array Value) (w : World), (Instr.makeFunc fn first cap).run Try.prog w = .ok (.func fn first cap) w := fun _ _ _ _ => rfl
  have hk0 := ((Keeps.refl (fun _ => False) w).alloc (.cells #[.pointer (some ⟨b, 0, none⟩)] 109)).drew
  have hX := heap_new w (.cells #[.pointer (some ⟨b, 0, none⟩)] 109)
  have HX := Lib.hid (show (w.alloc (.cells #[.pointer (some ⟨b, 0, none⟩)] 109)).drew.heap[w.heap.size]? = _ from hX)
  have hP := h.none hk0
  have c9 : (w.alloc (.cells #[.pointer (some ⟨b, 0, none⟩)] 109)).drew.cell? ⟨b, 9, none⟩ = some (.int .u32 own) := (hk0.none.cell (p := ⟨b, 9, none⟩) h.lt).trans ho
  obtain ⟨c0, c1, c2, c3, c4, lb⟩ := hP
  have x0 := cell_of HX.out 0
  have lX := lt_of HX.out
  have lX0 : w.heap.size < (w.alloc (.cells #[.pointer (some ⟨b, 0, none⟩)] 109)).heap.size := lt_of HX.out
  have HK := Lib.hid hk0
  have HR := Lib.hid (fun W => room_some W p own hp h1)
  have HC9 := Lib.hid (fun (W' : World) (k : Keeps (fun _ => False) w W') => And.intro (h.none k) ((k.none.cell (p := ⟨b, 9, none⟩) h.lt).trans ho))
  have HS := Lib.hid (fun (w' : World) (k : Keeps (fun _ => False) w w') (hx : w'.heap[w.heap.size]? = some (.cells #[.pointer (some ⟨b, 0, none⟩)] 109 (0, 0))) => show w'.cell? ⟨w.heap.size, 0, none⟩ = some (.pointer (some ⟨b, 0, none⟩)) ∧ w'.cell? ⟨b, 0, none⟩ = some (.int .i64 (p 0)) ∧ w'.cell? ⟨b, 1, none⟩ = some (.int .i64 (p 1)) ∧ w'.cell? ⟨b, 2, none⟩ = some (.int .i64 (p 2)) ∧ w'.cell? ⟨b, 3, none⟩ = some (.int .i64 (p 3)) ∧ w'.cell? ⟨b, 4, none⟩ = some (.int .i64 (p 4)) ∧ w'.cell? ⟨b, 9, none⟩ = some (.int .u32 own) from ⟨cell_of hx 0, (h.none k).c0, (h.none k).c1, (h.none k).c2, (h.none k).c3, (h.none k).c4, (k.none.cell (p := ⟨b, 9, none⟩) h.lt).trans ho⟩)
  clear hk0 hX h ho hp h1
  go_enter Try.func75, Try.ntmps75
  go_wp2_with fail
  generalize (w.alloc (.cells #[.pointer (some ⟨b, 0, none⟩)] 109)) = Wg at *
  go_region_held3 (fun w' => w'.cell? ⟨w.heap.size, 0, none⟩ = some (.pointer (some ⟨b, 0, none⟩)) ∧ w'.cell? ⟨b, 0, none⟩ = some (.int .i64 (p 0)) ∧ w'.cell? ⟨b, 1, none⟩ = some (.int .i64 (p 1)) ∧ w'.cell? ⟨b, 2, none⟩ = some (.int .i64 (p 2)) ∧ w'.cell? ⟨b, 3, none⟩ = some (.int .i64 (p 3)) ∧ w'.cell? ⟨b, 4, none⟩ = some (.int .i64 (p 4)) ∧ w'.cell? ⟨b, 9, none⟩ = some (.int .u32 own))
    (first
      | exact HS.out _ HK.out HX.out
      | exact HS.out _ (HK.out.alloc _) (heap_old HX.out _)
      | exact HS.out _ (HK.out.setCell (p := ⟨_, 0, none⟩) (.inr (by dsimp only; omega)) _) (heap_other HX.out (by dsimp only; omega) _)
      | go_keep)
    (first
      | (go_at_call 77; refine (HR.out _).mono ?_; rintro e9 w9 ⟨⟨i, rfl⟩, k9⟩; (first | (first | have HA := Lib.hid (k9.at (heap_new _ (.cells #[.int .i64 0] 3)) fun h => h) | have HA := Lib.hid (k9.at (heap_drew (heap_new _ (.cells #[.int .i64 0] 3))) fun h => h)) | skip); (first | (have a0 := cell_of HA.out 0; have b0 := free_of HA.out 0; have al := lt_of HA.out) | skip); (first | replace HK := Lib.hid (HK.out.trans k9) | replace HK := Lib.hid ((HK.out.alloc (.cells #[.int .i64 0] 3)).trans k9)); (first | replace HX := Lib.hid (k9.at HX.out fun h => h) | replace HX := Lib.hid (k9.at (heap_old HX.out (.cells #[.int .i64 0] 3)) fun h => h)); clear k9; obtain ⟨⟨c0, c1, c2, c3, c4, lb⟩, c9⟩ := HC9.out _ HK.out; have x0 := cell_of HX.out 0)
      | fail)
  all_goals first
    | (have hY : (w9.setCell ⟨Wg.heap.size, 0, none⟩ (.int .i64 i)).heap[Wg.heap.size]? = some (.cells #[.int .i64 i] 3 (0, 0)) := heap_set HA.out 0 _
       have HY := Lib.hid (And.intro hY (And.intro (heap_other HX.out (a := ⟨Wg.heap.size, 0, none⟩) (by dsimp only; omega) (.int .i64 i)) (HK.out.setCell (p := ⟨Wg.heap.size, 0, none⟩) (.inr (by dsimp only; omega)) (.int .i64 i))))
       clear hY c0 c1 c2 c3 c4 c9 x0 a0 b0 al
       go_wp2_with fail
       go_ret
       exact ⟨w.heap.size, Wg.heap.size, i, rfl, HY.out.2.1, HY.out.1, HY.out.2.2⟩)
    | (have HY := Lib.hid (And.intro (heap_new w9 (.cells #[.int .i64 i] 3)) (And.intro (heap_old HX.out (.cells #[.int .i64 i] 3)) (HK.out.alloc (.cells #[.int .i64 i] 3))))
       clear c0 c1 c2 c3 c4 c9 x0
       go_wp2_with fail
       go_ret
       exact ⟨w.heap.size, w9.heap.size, i, rfl, HY.out.2.1, HY.out.1, HY.out.2.2⟩)
set_option maxHeartbeats 4000000 in
theorem fo_data (w : World) (b : Nat) (s0 s1 : Int) (lb0 : b < w.heap.size) (h0 : w.cell? ⟨b, 9, none⟩ = some (.int .u32 s0)) (h1 : w.cell? ⟨b, 10, none⟩ = some (.int .u32 s1)) :
    Calls Try.prog 88 #[.pointer (some ⟨b, 0, none⟩)] w (EntQ 89 110 w b) := by
  have hmf : ∀ (fn : Fn) (first cap : Array Value) (w : World), (Instr.makeFunc fn first cap).run Try.prog w = .ok (.func fn first cap) w := fun _ _ _ _ => rfl
  have hk0 := ((Keeps.refl (fun _ => False) w).alloc (.cells #[.pointer (some ⟨b, 0, none⟩)] 110))
  have HX := Lib.hid (heap_new w (.cells #[.pointer (some ⟨b, 0, none⟩)] 110))
  have c9 : (w.alloc (.cells #[.pointer (some ⟨b, 0, none⟩)] 110)).cell? ⟨b, 9, none⟩ = some (.int .u32 s0) := (hk0.none.cell (p := ⟨b, 9, none⟩) lb0).trans h0
  have c10 : (w.alloc (.cells #[.pointer (some ⟨b, 0, none⟩)] 110)).cell? ⟨b, 10, none⟩ = some (.int .u32 s1) := (hk0.none.cell (p := ⟨b, 10, none⟩) lb0).trans h1
  have lb := Nat.lt_of_lt_of_le lb0 hk0.size
  have x0 := cell_of HX.out 0
  have lX := lt_of HX.out
  have HK := Lib.hid hk0
  clear hk0 h0 h1 lb0
  go_enter Try.func88, Try.ntmps88
  go_wp2_with fail
  generalize (w.alloc (.cells #[.pointer (some ⟨b, 0, none⟩)] 110)) = Wg at *
  go_region
  all_goals
    have HY := Lib.hid (And.intro (heap_new Wg (.cells #[.int .i64 ((2 * s0 + s1) % 4294967296)] 3)) (And.intro (heap_old HX.out (.cells #[.int .i64 ((2 * s0 + s1) % 4294967296)] 3)) (HK.out.alloc (.cells #[.int .i64 ((2 * s0 + s1) % 4294967296)] 3))))
    clear c9 c10 x0 lX lb
    go_wp2_with fail
    go_ret
    exact ⟨w.heap.size, Wg.heap.size, _, rfl, heap_drew HY.out.2.1, heap_drew HY.out.1, HY.out.2.2.drew⟩
end Go.Proofs.Ytdnppkihpddlhaa
