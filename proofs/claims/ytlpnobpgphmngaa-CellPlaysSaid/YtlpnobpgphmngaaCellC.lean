import Derived.Test.YtlpnobpgphmngaaCellMore
import Derived.Test.YtlpnobpgphmngaaOpen
namespace Go.Proofs.Ytlpnobpgphmngaa
open Go.ChangeShapes Go.WideShapes Go.ChangeAt Go.RowKit
set_option linter.unusedVariables false
/-- Block b is a memory whose n words lie in block q; it was read l times and put s times. -/
def IsMemC (w : World) (b q n : Nat) (N : Nat → Nat) (l s : Nat) : Prop :=
  w.heap[b]? = some (.cells #[.int .i64 (l : Int), .int .i64 (s : Int), .slice (some ⟨q, 0, none⟩) n n] 130 (0, 0)) ∧ w.heap[q]? = some (.cells (words N n).toArray 26 (0, 0)) ∧ q ≠ b ∧ n ≤ 65536
theorem IsMemC.mem {w : World} {b q n l s : Nat} {N : Nat → Nat} (h : IsMemC w b q n N l s) : IsMem w b q n N := ⟨⟨_, _, h.1⟩, h.2.1, h.2.2.1, h.2.2.2⟩
theorem IsMemC.keeps {S : Nat → Prop} {w w' : World} {b q n l s : Nat} {N : Nat → Nat} (h : IsMemC w b q n N l s) (hk : Keeps S w w') (hb : ¬ S b) (hq : ¬ S q) : IsMemC w' b q n N l s :=
  ⟨hk.at h.1 hb, hk.at h.2.1 hq, h.2.2⟩
theorem IsMemC.none {w w' : World} {b q n l s : Nat} {N : Nat → Nat} (h : IsMemC w b q n N l s) (hk : Keeps (fun _ => False) w w') : IsMemC w' b q n N l s := h.keeps hk (fun h => h) (fun h => h)
theorem load_yesC (b q n l s : Nat) (N : Nat → Nat) (i : Nat) (w : World) (h : IsMemC w b q n N l s) (hl : l < 1000000) (hs : s < 1000000) (hi : i < n) :
    Calls Try.prog 76 #[.pointer (some ⟨b, 0, none⟩), .int .i64 i] w fun e w' => e = .returned (.tuple #[.int .u32 (N i), .bool true]) ∧ IsMemC w' b q n N (l + 1) s ∧ Keeps (fun k => k = b) w w' := by
  have H := Lib.hid h
  obtain ⟨h1, h2, h3, hn⟩ := h
  have lb := lt_of h1
  have lq := lt_of h2
  have c0 : w.cell? ⟨b, 0, none⟩ = some (.int .i64 l) := cell_of h1 0
  have f0 : w.frozen? ⟨b, 0, none⟩ = false := free_of h1 0
  have c2 : w.cell? ⟨b, 2, none⟩ = some (.slice (some ⟨q, 0, none⟩) n n) := cell_of h1 2
  have cq : w.cell? ⟨q, i, none⟩ = some (.int .u32 (N i)) := (cell_of h2 i).trans (words_get N n i hi)
  have hdec : decide ((0 : Int) ≤ (i : Int) ∧ (i : Int) < (n : Int)) = true := by simp; omega
  have HB := Lib.hid (And.intro h1 h2)
  clear h1 h2
  go_enter Try.func76, Try.ntmps76
  go_wp2_with fail
  refine (has_any _ _ _ _ _ _ H.out.mem).mono ?_
  rintro e w' ⟨rfl, rfl⟩
  rw [hdec]
  go_wp2
  refine bodyPost_ret (v := .tuple #[.int .u32 (N i), .bool true]) (by simp [results, Try.results76, go_sem]) rfl ⟨rfl, ?_, ?_⟩
  · exact ⟨heap_set HB.out.1 0 _, heap_other HB.out.2 h3 _, h3, hn⟩
  · exact Keeps.setCell (S := fun k => k = b) (Keeps.refl _ w) (p := ⟨b, 0, none⟩) (.inl rfl) _
theorem store_yesC (b q n l s : Nat) (N : Nat → Nat) (i v : Nat) (w : World) (h : IsMemC w b q n N l s) (hl : l < 1000000) (hs : s < 1000000) (hi : i < n) :
    Calls Try.prog 77 #[.pointer (some ⟨b, 0, none⟩), .int .i64 i, .int .u32 v] w fun e w' => e = .returned (.bool true) ∧ IsMemC w' b q n (fun k => if k = i then v else N k) l (s + 1) ∧ Keeps (fun k => k = b ∨ k = q) w w' := by
  have H := Lib.hid h
  obtain ⟨h1, h2, h3, hn⟩ := h
  have lb := lt_of h1
  have lq := lt_of h2
  have c1 : w.cell? ⟨b, 1, none⟩ = some (.int .i64 s) := cell_of h1 1
  have f1 : w.frozen? ⟨b, 1, none⟩ = false := free_of h1 1
  have c2 : w.cell? ⟨b, 2, none⟩ = some (.slice (some ⟨q, 0, none⟩) n n) := cell_of h1 2
  have cq : w.cell? ⟨q, i, none⟩ = some (.int .u32 (N i)) := (cell_of h2 i).trans (words_get N n i hi)
  have fq : w.frozen? ⟨q, i, none⟩ = false := free_of h2 i
  have hdec : decide ((0 : Int) ≤ (i : Int) ∧ (i : Int) < (n : Int)) = true := by simp; omega
  have HB := Lib.hid (And.intro h1 h2)
  clear h1 h2
  go_enter Try.func77, Try.ntmps77
  go_wp2_with fail
  refine (has_any _ _ _ _ _ _ H.out.mem).mono ?_
  rintro e w' ⟨rfl, rfl⟩
  rw [hdec]
  go_wp2
  go_ret
  refine ⟨rfl, ⟨heap_set (heap_other HB.out.1 (Ne.symm h3) _) 1 _, ?_, h3, hn⟩, ?_⟩
  · refine heap_other ?_ h3 _
    rw [← words_set]
    exact heap_set HB.out.2 i _
  · exact Keeps.setCell (S := fun k => k = b ∨ k = q) (Keeps.setCell (S := fun k => k = b ∨ k = q) (Keeps.refl _ w) (p := ⟨q, i, none⟩) (.inl (.inr rfl)) _) (p := ⟨b, 1, none⟩) (.inl (.inl rfl)) _

theorem change_yesC (b q n l s : Nat) (N : Nat → Nat) (i v : Nat) (fn : FuncId) (cap : Array Value) (w : World) (h : IsMemC w b q n N l s) (hl : l < 1000000) (hs : s < 1000000) (hi : i < n)
    (hcall : ∀ (args : Array Value) (w : World), Sem.run Try.prog (callFunc fn args) w = .ok (.enter fn args) w)
    (hf : ∀ w1, Keeps (fun k => k = b) w w1 → Calls Try.prog fn (#[.int .u32 (N i)] ++ cap) w1 fun e w' => e = .returned (.int .u32 v) ∧ w1 = w') :
    Calls Try.prog 92 #[.pointer (some ⟨b, 0, none⟩), .int .i64 i, .func (.func fn) #[] cap] w fun e w' => e = .returned (.tuple #[.int .u32 (N i), .bool true]) ∧ IsMemC w' b q n (fun k => if k = i then v else N k) (l + 1) (s + 1) ∧ Keeps (fun k => k = b ∨ k = q) w w' := by
  have H := Lib.hid h
  have HF := Lib.hid hf
  clear h hf
  go_enter Try.func92, Try.ntmps92
  go_wp2_with fail
  refine (load_yesC _ _ _ _ _ _ _ _ H.out hl hs hi).mono ?_
  rintro e w1 ⟨rfl, hm, hk⟩
  have HK := Lib.hid hk
  obtain ⟨h1, h2, h3, hn⟩ := hm
  have lb := lt_of h1
  have lq := lt_of h2
  have c1 : w1.cell? ⟨b, 1, none⟩ = some (.int .i64 s) := cell_of h1 1
  have f1 : w1.frozen? ⟨b, 1, none⟩ = false := free_of h1 1
  have c2 : w1.cell? ⟨b, 2, none⟩ = some (.slice (some ⟨q, 0, none⟩) n n) := cell_of h1 2
  have cq : w1.cell? ⟨q, i, none⟩ = some (.int .u32 (N i)) := (cell_of h2 i).trans (words_get N n i hi)
  have fq : w1.frozen? ⟨q, i, none⟩ = false := free_of h2 i
  have HB := Lib.hid (And.intro h1 h2)
  clear h1 h2 H hk
  go_wp2_with fail
  go_region_with ((refine (HF.out _ HK.out.drew).mono ?_; rintro e w' ⟨rfl, rfl⟩))
  all_goals go_wp2
  all_goals
    refine bodyPost_ret (v := .tuple #[.int .u32 (N i), .bool true]) (by simp [results, Try.results92, go_sem]) rfl ⟨rfl, ⟨heap_drew (heap_set (heap_other HB.out.1 (Ne.symm h3) _) 1 _), ?_, h3, hn⟩, ?_⟩
    · refine heap_drew (heap_other ?_ h3 _)
      rw [← words_set]
      exact heap_set HB.out.2 i _
    · have g0 : Keeps (fun k => k = b ∨ k = q) w w1 := HK.out.mono fun _ _ h => .inl h
      exact (((g0.setCell (p := ⟨q, i, none⟩) (.inl (.inr rfl)) _).setCell (p := ⟨b, 1, none⟩) (.inl (.inl rfl)) _).drew)

theorem or_yesC (b q n l s : Nat) (N : Nat → Nat) (i y : Nat) (w : World) (h : IsMemC w b q n N l s) (hl : l < 1000000) (hs : s < 1000000) (hi : i < n) (hx : N i < 4294967296) (hy : y < 4294967296) :
    Calls Try.prog 74 #[.pointer (some ⟨b, 0, none⟩), .int .i64 i, .int .u32 y] w fun e w' => e = .returned (.tuple #[.int .u32 (N i), .bool true]) ∧ IsMemC w' b q n (fun k => if k = i then N i ||| y else N k) (l + 1) (s + 1) ∧ Keeps (fun k => k = b ∨ k = q) w w' := by
  have hmf : ∀ (fn : Fn) (first cap : Array Value) (w : World), (Instr.makeFunc fn first cap).run Try.prog w = .ok (.func fn first cap) w := fun _ _ _ _ => rfl
  have hc : ∀ (args : Array Value) (w : World), Sem.run Try.prog (callFunc 93 args) w = .ok (.enter 93 args) w := fun _ _ => by go_simp
  have ka : Keeps (fun _ => False) w (w.alloc (.cells #[.int .u32 y] 26)) := (Keeps.refl _ _).alloc _
  have hb : b < w.heap.size := lt_of h.1
  have H := Lib.hid (h.none ka)
  have HC := Lib.hid hc
  have HP := Lib.hid (heap_new w (.cells #[.int .u32 y] 26))
  have HK := Lib.hid ka
  clear h ka hc
  go_enter Try.func74, Try.ntmps74
  go_wp2_with fail
  refine (change_yesC b q n l s N i (N i ||| y) 93 #[.pointer (some ⟨w.heap.size, 0, none⟩)] _ H.out hl hs hi HC.out ?_).mono ?_
  · intro w1 k1
    exact orf_any (N i) y w.heap.size _ w1 hx hy (k1.at HP.out (by omega))
  · rintro e w2 ⟨rfl, hm, k2⟩
    go_wp2
    refine bodyPost_ret (v := .tuple #[.int .u32 (N i), .bool true]) (by simp [results, Try.results74, go_sem]) rfl ⟨rfl, hm, (HK.out.mono fun _ _ h => h.elim).trans k2⟩
theorem and_yesC (b q n l s : Nat) (N : Nat → Nat) (i y : Nat) (w : World) (h : IsMemC w b q n N l s) (hl : l < 1000000) (hs : s < 1000000) (hi : i < n) (hx : N i < 4294967296) (hy : y < 4294967296) :
    Calls Try.prog 75 #[.pointer (some ⟨b, 0, none⟩), .int .i64 i, .int .u32 y] w fun e w' => e = .returned (.tuple #[.int .u32 (N i), .bool true]) ∧ IsMemC w' b q n (fun k => if k = i then N i &&& y else N k) (l + 1) (s + 1) ∧ Keeps (fun k => k = b ∨ k = q) w w' := by
  have hmf : ∀ (fn : Fn) (first cap : Array Value) (w : World), (Instr.makeFunc fn first cap).run Try.prog w = .ok (.func fn first cap) w := fun _ _ _ _ => rfl
  have hc : ∀ (args : Array Value) (w : World), Sem.run Try.prog (callFunc 94 args) w = .ok (.enter 94 args) w := fun _ _ => by go_simp
  have ka : Keeps (fun _ => False) w (w.alloc (.cells #[.int .u32 y] 26)) := (Keeps.refl _ _).alloc _
  have hb : b < w.heap.size := lt_of h.1
  have H := Lib.hid (h.none ka)
  have HC := Lib.hid hc
  have HP := Lib.hid (heap_new w (.cells #[.int .u32 y] 26))
  have HK := Lib.hid ka
  clear h ka hc
  go_enter Try.func75, Try.ntmps75
  go_wp2_with fail
  refine (change_yesC b q n l s N i (N i &&& y) 94 #[.pointer (some ⟨w.heap.size, 0, none⟩)] _ H.out hl hs hi HC.out ?_).mono ?_
  · intro w1 k1
    exact andf_any (N i) y w.heap.size _ w1 hx hy (k1.at HP.out (by omega))
  · rintro e w2 ⟨rfl, hm, k2⟩
    go_wp2
    refine bodyPost_ret (v := .tuple #[.int .u32 (N i), .bool true]) (by simp [results, Try.results75, go_sem]) rfl ⟨rfl, hm, (HK.out.mono fun _ _ h => h.elim).trans k2⟩
theorem swap_yesC (b q n l s : Nat) (N : Nat → Nat) (i y : Nat) (w : World) (h : IsMemC w b q n N l s) (hl : l < 1000000) (hs : s < 1000000) (hi : i < n) (hx : N i < 4294967296) (hy : y < 4294967296) :
    Calls Try.prog 78 #[.pointer (some ⟨b, 0, none⟩), .int .i64 i, .int .u32 y] w fun e w' => e = .returned (.tuple #[.int .u32 (N i), .bool true]) ∧ IsMemC w' b q n (fun k => if k = i then y else N k) (l + 1) (s + 1) ∧ Keeps (fun k => k = b ∨ k = q) w w' := by
  have hmf : ∀ (fn : Fn) (first cap : Array Value) (w : World), (Instr.makeFunc fn first cap).run Try.prog w = .ok (.func fn first cap) w := fun _ _ _ _ => rfl
  have hc : ∀ (args : Array Value) (w : World), Sem.run Try.prog (callFunc 96 args) w = .ok (.enter 96 args) w := fun _ _ => by go_simp
  have ka : Keeps (fun _ => False) w (w.alloc (.cells #[.int .u32 y] 26)) := (Keeps.refl _ _).alloc _
  have hb : b < w.heap.size := lt_of h.1
  have H := Lib.hid (h.none ka)
  have HC := Lib.hid hc
  have HP := Lib.hid (heap_new w (.cells #[.int .u32 y] 26))
  have HK := Lib.hid ka
  clear h ka hc
  go_enter Try.func78, Try.ntmps78
  go_wp2_with fail
  refine (change_yesC b q n l s N i (y) 96 #[.pointer (some ⟨w.heap.size, 0, none⟩)] _ H.out hl hs hi HC.out ?_).mono ?_
  · intro w1 k1
    exact swapf_any (N i) y w.heap.size _ w1 hx hy (k1.at HP.out (by omega))
  · rintro e w2 ⟨rfl, hm, k2⟩
    go_wp2
    refine bodyPost_ret (v := .tuple #[.int .u32 (N i), .bool true]) (by simp [results, Try.results78, go_sem]) rfl ⟨rfl, hm, (HK.out.mono fun _ _ h => h.elim).trans k2⟩
theorem new_anyC (n : Nat) (hn : n ≤ 65536) (w : World) :
    Calls Try.prog 73 #[.int .i64 n] w fun e w' => e = .returned (.pointer (some ⟨w.heap.size + 1, 0, none⟩)) ∧ IsMemC w' (w.heap.size + 1) w.heap.size n (fun _ => 0) 0 0 ∧ Keeps (fun _ => False) w w' := by
  have hmk := run_make_row' (P := Try.prog) 46 26 (.int .u32 0) 4 Try.underlying46 (by kernel_rfl) rfl .i64 .i64 n (by omega) (by omega)
  have e1 : max (n : Int) 0 = n := by omega
  have e2 : min (n : Int) 65536 = n := by omega
  go_enter Try.func73, Try.ntmps73
  go_wp2_with fail
  go_ret
  have e : ∀ o o2, ((w.alloc o).alloc o2).heap[w.heap.size + 1]? = some o2 := fun o o2 => by
    have := heap_new (w.alloc o) o2
    rwa [show (w.alloc o).heap.size = w.heap.size + 1 by simp] at this
  have hg : (w.alloc (.cells (madeCells #[.int .u32 0] n) 26)).heap[w.heap.size]? = some (.cells (words (fun _ => 0) n).toArray 26 (0, 0)) := by
    rw [made_words]; exact heap_new _ _
  exact ⟨rfl, ⟨e _ _, heap_old hg _, by omega, hn⟩, ((Keeps.refl _ _).alloc _).alloc _⟩
theorem of_zeroC (a0 : Option Addr) (cap0 : Nat) (N : Nat → Nat) (w : World) :
    Calls Try.prog 50 #[.slice a0 0 cap0] w fun e w' => e = .returned (.pointer (some ⟨w.heap.size + 1, 0, none⟩)) ∧ IsMemC w' (w.heap.size + 1) w.heap.size 0 N 0 0 ∧ Keeps (fun _ => False) w w' := by
  have hsz : (Try.prog.info? 26).map (·.size) = some 1 := by kernel_rfl
  have HN := Lib.hid (new_anyC 0 (by omega) w)
  go_enter Try.func50, Try.ntmps50
  go_wp2_with fail
  refine HN.out.mono ?_
  rintro e w1 ⟨rfl, h1, k1⟩
  have c2 : w1.cell? ⟨w.heap.size + 1, 2, none⟩ = some (.slice (some ⟨w.heap.size, 0, none⟩) 0 0) := by
    exact cell_of h1.1 2
  have H1 := Lib.hid h1
  clear h1 HN
  go_wp2_with (refine wpList_copy_nothing rfl (.tmp 10) (.tmp 11) 46 46 rfl 26 Try.underlying46 hsz _ _ 0 0 0 cap0 rfl rfl rfl ?_)
  go_ret
  obtain ⟨m1, m2, m3⟩ := H1.out
  exact ⟨rfl, ⟨m1, m2, m3⟩, k1⟩
theorem of_someC (b0 off n cap0 : Nat) (N : Nat → Nat) (w : World) (hn : n ≤ 65536) (hpos : 0 < n) (hb : b0 < w.heap.size) (hc : ∀ i, i < n → w.cell? ⟨b0, off + i, none⟩ = some (.int .u32 (N i))) :
    Calls Try.prog 50 #[.slice (some ⟨b0, off, none⟩) n cap0] w fun e w' => e = .returned (.pointer (some ⟨w.heap.size + 1, 0, none⟩)) ∧ IsMemC w' (w.heap.size + 1) w.heap.size n N 0 0 ∧ Keeps (fun _ => False) w w' := by
  have hsz : (Try.prog.info? 26).map (·.size) = some 1 := by kernel_rfl
  have HN := Lib.hid (new_anyC n hn w)
  have HC := Lib.hid hc
  clear hc
  go_enter Try.func50, Try.ntmps50
  go_wp2_with fail
  refine HN.out.mono ?_
  rintro e w1 ⟨rfl, h1, k1⟩
  have c2 : w1.cell? ⟨w.heap.size + 1, 2, none⟩ = some (.slice (some ⟨w.heap.size, 0, none⟩) n n) := by
    exact cell_of h1.1 2
  have hp : ∀ (j : Nat) (v : Value), (words N n)[j]? = some v → w1.cell? ((⟨b0, off, none⟩ : Addr).add j) = some v := by
    intro j v hj
    have hjn : j < n := by
      rcases Nat.lt_or_ge j n with h1 | h1
      · exact h1
      · rw [List.getElem?_eq_none (by simpa [words] using h1)] at hj; cases hj
    have hv : v = .int .u32 (N j) := by simpa [words, hjn] using hj.symm
    have e : ((⟨b0, off, none⟩ : Addr).add j) = ⟨b0, off + j, none⟩ := by
      simp only [Addr.add]
      by_cases h : j = 0 <;> simp [h]
    rw [e, hv, ← HC.out j hjn]
    exact World.cell?_of_block (w := w) (k1.block b0 hb fun h => h)
  have H1 := Lib.hid h1
  have HP := Lib.hid hp
  clear h1 HN hp
  go_wp2_with (refine wpList_copy_own rfl (.tmp 10) (.tmp 11) 46 46 rfl 26 Try.underlying46 hsz w.heap.size 0 n n ⟨b0, off, none⟩ n cap0 rfl rfl _ 26 H1.out.2.1 (words N n) (by simp [words]) HP.out (by simp [words]) (by simp [words, Value.oneCell']) ?_)
  go_ret
  obtain ⟨m1, m2, m3, m4⟩ := H1.out
  exact ⟨rfl, ⟨(setRow_other _ _ _ _ (by omega)).trans m1, (setRow_heap _ _ _ _ _ _ m2).trans (by simp [words]), m3, m4⟩, k1.setRow (.inr (Nat.le_refl _)) _⟩
theorem count_anyC (b q n l s : Nat) (N : Nat → Nat) (w : World) (h : IsMemC w b q n N l s) :
    Calls Try.prog 54 #[.pointer (some ⟨b, 0, none⟩)] w fun e w' => e = .returned (.tuple #[.int .i64 (l : Int), .int .i64 (s : Int)]) ∧ ∃ n, w' = w.drewN n := by
  have c0 : w.cell? ⟨b, 0, none⟩ = some (.int .i64 (l : Int)) := cell_of h.1 0
  have c1 : w.cell? ⟨b, 1, none⟩ = some (.int .i64 (s : Int)) := cell_of h.1 1
  have lb := lt_of h.1
  clear h
  go_enter Try.func54, Try.ntmps54
  go_wp2_with fail
  go_quiet (fail)
  go_wp2
  exact bodyPost_ret (v := .tuple #[.int .i64 (l : Int), .int .i64 (s : Int)]) (by simp [results, Try.results54, go_sem]) rfl ⟨rfl, _, rfl⟩
/-- Same, of two memories of the same words. -/
theorem same_any (b q b' q' n : Nat) (N : Nat → Nat) (w : World) (h : IsMem w b q n N) (h' : IsMem w b' q' n N) :
    Calls Try.prog 57 #[.pointer (some ⟨b, 0, none⟩), .pointer (some ⟨b', 0, none⟩)] w fun e w' => e = .returned (.bool true) ∧ ∃ n, w' = w.drewN n := by
  have hn := h.2.2.2
  have H := Lib.hid (And.intro h h')
  obtain ⟨⟨l, s, h1⟩, h2, h3, _⟩ := h
  obtain ⟨⟨l', s', h1'⟩, h2', h3', _⟩ := h'
  have lb := lt_of h1
  have lq := lt_of h2
  have lb' := lt_of h1'
  have lq' := lt_of h2'
  have c2 : w.cell? ⟨b, 2, none⟩ = some (.slice (some ⟨q, 0, none⟩) n n) := cell_of h1 2
  have c2' : w.cell? ⟨b', 2, none⟩ = some (.slice (some ⟨q', 0, none⟩) n n) := cell_of h1' 2
  have hw1 : ∀ i, i < n → w.cell? ⟨q, i, none⟩ = some (.int .u32 (N i)) := fun i hi => (cell_of h2 i).trans (words_get N n i hi)
  have hw2 : ∀ i, i < n → w.cell? ⟨q', i, none⟩ = some (.int .u32 (N i)) := fun i hi => (cell_of h2' i).trans (words_get N n i hi)
  have HW := Lib.hid (And.intro hw1 hw2)
  clear h1 h2 h1' h2' hw1 hw2
  go_enter Try.func57, Try.ntmps57
  go_wp2_with fail
  go_step3
  go_wp2_with fail
  refine (len_any _ _ _ _ _ H.out.1).mono ?_
  rintro e w' ⟨rfl, rfl⟩
  go_wp2_with fail
  refine (len_any _ _ _ _ _ H.out.2).mono ?_
  rintro e w' ⟨rfl, rfl⟩
  go_wp2_with fail
  go_step3
  go_wp2_with fail
  refine (len_any _ _ _ _ _ H.out.1).mono ?_
  rintro e w' ⟨rfl, rfl⟩
  go_wp2_with fail
  obtain ⟨wo, rfl⟩ : ∃ wo : World, wo = w := ⟨_, rfl⟩
  go_loopw [5, 14] (fun t i wr => ∃ k m : Nat, k ≤ n ∧ i = .int .i64 k ∧ t = .bool true ∧ wr = wo.drewN m) (fun _ i _ => n - (intOf i).toNat)
  case atStart => exact ⟨0, 0, by omega, rfl, by simp, rfl⟩
  case round =>
    obtain ⟨k, m, hk, rfl, rfl, rfl⟩ := hrel
    by_cases hlt : k < n
    · have x1 := HW.out.1 k hlt
      have x2 := HW.out.2 k hlt
      go_wp2_with fail
      go_quiet (fail)
      go_wp2
      go_roundw
      case rel => exact ⟨k + 1, m + nq, by omega, by go_num, rfl, rfl⟩
      case measure => simp [intOf]; omega
    · obtain rfl : k = n := by omega
      go_wp2
      try rw [Exit.noGoto_ret]
      go_ret
      exact ⟨rfl, m, rfl⟩
end Go.Proofs.Ytlpnobpgphmngaa
