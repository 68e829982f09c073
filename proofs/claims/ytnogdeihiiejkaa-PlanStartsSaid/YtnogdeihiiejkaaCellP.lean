import Derived.Test.YtnogdeihiiejkaaRows
import Derived.Test.YtnogdeihiiejkaaKeep
import Derived.Test.YtnogdeihiiejkaaRet
import Derived.Test.YtnogdeihiiejkaaKeepRow
import Derived.WalkKit
import Derived.ProofKit
import Derived.OpenShut
import Derived.WalkLawsBesides
import Derived.WalkSpells
import Derived.Lib.Hide
import Derived.Deep.QuietTactic
import Derived.BigQuiet
import Derived.BigRegion
import Derived.Laws.AppendOwn
namespace Go.Proofs.Ytnogdeihiiejkaa
open Go.ChangeShapes Go.WideShapes Go.ChangeAt Go.RowKit
set_option linter.unusedVariables false
set_option linter.unusedSimpArgs false
/-- n words in a row. -/
def words (N : Nat → Nat) (n : Nat) : List Value := (List.range n).map fun i => Value.int .u32 (N i)
theorem words_get (N : Nat → Nat) (n i : Nat) (h : i < n) : (words N n).toArray[i]? = some (.int .u32 (N i)) := by simp [words, h]
theorem words_set (N : Nat → Nat) (n i v : Nat) : (words N n).toArray.setIfInBounds i (.int .u32 v) = (words (fun k => if k = i then v else N k) n).toArray := by
  apply Array.ext_getElem?
  intro j
  rw [Array.getElem?_setIfInBounds]
  by_cases hj : j < n
  · rw [words_get N n j hj, words_get _ n j hj]
    by_cases hij : i = j
    · subst hij; simp [words, hj]
    · rw [if_neg hij, if_neg (fun e => hij e.symm)]
  · rw [Array.getElem?_eq_none (by simp [words]; omega), Array.getElem?_eq_none (by simp [words]; omega)]
    split
    · rw [if_neg (by simp [words]; omega)]
    · rfl
/-- Block b is a memory whose n words lie in block q. -/
def IsMem (w : World) (b q n : Nat) (N : Nat → Nat) : Prop :=
  (∃ l s : Int, w.heap[b]? = some (.cells #[.int .i64 l, .int .i64 s, .slice (some ⟨q, 0, none⟩) n n] 72 (0, 0))) ∧ w.heap[q]? = some (.cells (words N n).toArray 43 (0, 0)) ∧ q ≠ b ∧ n ≤ 65536
theorem IsMem.keeps {S : Nat → Prop} {w w' : World} {b q n : Nat} {N : Nat → Nat} (h : IsMem w b q n N) (hk : Keeps S w w') (hb : ¬ S b) (hq : ¬ S q) : IsMem w' b q n N := by
  obtain ⟨⟨l, s, h1⟩, h2, h3⟩ := h
  exact ⟨⟨l, s, hk.at h1 hb⟩, hk.at h2 hq, h3⟩
theorem len_any (b q n : Nat) (N : Nat → Nat) (w : World) (h : IsMem w b q n N) :
    Calls Try.prog 18 #[.pointer (some ⟨b, 0, none⟩)] w fun e w' => e = .returned (.int .i64 n) ∧ w = w' := by
  obtain ⟨⟨l, s, h1⟩, h2, h3⟩ := h
  have c2 : w.cell? ⟨b, 2, none⟩ = some (.slice (some ⟨q, 0, none⟩) n n) := cell_of h1 2
  clear h1 h2
  go_enter Try.func18, Try.ntmps18
  go_wp2
  go_ret
  exact ⟨rfl, rfl⟩
theorem IsMem.none {w w' : World} {b q n : Nat} {N : Nat → Nat} (h : IsMem w b q n N) (hk : Keeps (fun _ => False) w w') : IsMem w' b q n N := h.keeps hk (fun h => h) (fun h => h)
theorem made_words (n : Nat) : madeCells #[Value.int .u32 0] n = (words (fun _ => 0) n).toArray := by
  apply Array.ext <;> simp [madeCells, Nat.mod_one, words]
theorem new_any (n : Nat) (hn : n ≤ 65536) (w : World) :
    Calls Try.prog 27 #[.int .i64 n] w fun e w' => e = .returned (.pointer (some ⟨w.heap.size + 1, 0, none⟩)) ∧ IsMem w' (w.heap.size + 1) w.heap.size n (fun _ => 0) ∧ Keeps (fun _ => False) w w' := by
  have hmk := run_make_row' (P := Try.prog) 38 43 (.int .u32 0) 4 Try.underlying38 (by kernel_rfl) rfl .i64 .i64 n (by omega) (by omega)
  have e1 : max (n : Int) 0 = n := by omega
  have e2 : min (n : Int) 65536 = n := by omega
  go_enter Try.func27, Try.ntmps27
  go_wp2_with fail
  go_ret
  have e : ∀ o o2, ((w.alloc o).alloc o2).heap[w.heap.size + 1]? = some o2 := fun o o2 => by
    have := heap_new (w.alloc o) o2
    rwa [show (w.alloc o).heap.size = w.heap.size + 1 by simp] at this
  have hg : (w.alloc (.cells (madeCells #[.int .u32 0] n) 43)).heap[w.heap.size]? = some (.cells (words (fun _ => 0) n).toArray 43 (0, 0)) := by
    rw [made_words]; exact heap_new _ _
  exact ⟨rfl, ⟨⟨0, 0, e _ _⟩, heap_old hg _, by omega, hn⟩, ((Keeps.refl _ _).alloc _).alloc _⟩
/-- All the words, in a new row. -/
theorem all_any (b q n : Nat) (N : Nat → Nat) (w : World) (h : IsMem w b q n N) :
    Calls Try.prog 9 #[.pointer (some ⟨b, 0, none⟩)] w fun e w' => e = .returned (.slice (some ⟨w.heap.size, 0, none⟩) n n) ∧ w'.heap[w.heap.size]? = some (.cells (words N n).toArray 43 (0, 0)) ∧ Keeps (fun _ => False) w w' := by
  have H := Lib.hid h
  obtain ⟨⟨l, s, h1⟩, h2, h3, hn⟩ := h
  have lb := lt_of h1
  have lq := lt_of h2
  have hmk := run_make_row' (P := Try.prog) 38 43 (.int .u32 0) 4 Try.underlying38 (by kernel_rfl) rfl .i64 .i64 n (by omega) (by omega)
  have hsz : (Try.prog.info? 43).map (·.size) = some 1 := by kernel_rfl
  have c2 : w.cell? ⟨b, 2, none⟩ = some (.slice (some ⟨q, 0, none⟩) n n) := cell_of h1 2
  have hg : (w.alloc (.cells (madeCells #[.int .u32 0] n) 43)).heap[w.heap.size]? = some (.cells (words (fun _ => 0) n).toArray 43 (0, 0)) := by
    rw [made_words]; exact heap_new _ _
  have ka : Keeps (fun _ => False) w (w.alloc (.cells (madeCells #[.int .u32 0] n) 43)) := (Keeps.refl _ _).alloc _
  have hp : ∀ (j : Nat) (v : Value), (words N n)[j]? = some v → (w.alloc (.cells (madeCells #[.int .u32 0] n) 43)).cell? ((⟨q, 0, none⟩ : Addr).add j) = some v := by
    intro j v hj
    have e : ((⟨q, 0, none⟩ : Addr).add j) = ⟨q, j, none⟩ := by simp [Addr.add]; omega
    rw [e, cell_of (heap_old h2 _)]
    simpa using hj
  have HG := Lib.hid hg
  have HP := Lib.hid hp
  have HBel := Lib.hid ka.none
  clear hg hp ka h1 h2
  go_enter Try.func9, Try.ntmps9
  go_wp2_with (first
    | (go_at_call 18; refine (len_any _ _ _ _ _ H.out).mono ?_; rintro e w' ⟨rfl, rfl⟩)
    | (refine wpList_copy_splice rfl (.tmp 9) (.tmp 13) 38 38 rfl 43 Try.underlying38 hsz _ _ n n n n rfl rfl w.heap.size 0 (words (fun _ => 0) n) 43 HG.out (words N n) (by simp [words]) (fun _ => ⟨rfl, ⟨q, 0, none⟩, rfl, HP.out⟩) (by simp [words]) (by simp [words, Value.oneCell']) w.heap.size w HBel.out (Nat.le_refl _) ?_; intro w4 hg4 hb4))
  go_ret
  have e : splice (words (fun _ => 0) n) 0 (words N n) = words N n := by simp [splice, words]
  have hg5 := hg4.out
  rw [e] at hg5
  exact ⟨rfl, hg5, ⟨hb4.os, hb4.tape, hb4.output, hb4.size, fun k hk _ => hb4.block k hk⟩⟩
theorem of_zero (a0 : Option Addr) (cap0 : Nat) (N : Nat → Nat) (w : World) :
    Calls Try.prog 16 #[.slice a0 0 cap0] w fun e w' => e = .returned (.pointer (some ⟨w.heap.size + 1, 0, none⟩)) ∧ IsMem w' (w.heap.size + 1) w.heap.size 0 N ∧ Keeps (fun _ => False) w w' := by
  have hsz : (Try.prog.info? 43).map (·.size) = some 1 := by kernel_rfl
  have HN := Lib.hid (new_any 0 (by omega) w)
  go_enter Try.func16, Try.ntmps16
  go_wp2_with fail
  refine HN.out.mono ?_
  rintro e w1 ⟨rfl, h1, k1⟩
  have c2 : w1.cell? ⟨w.heap.size + 1, 2, none⟩ = some (.slice (some ⟨w.heap.size, 0, none⟩) 0 0) := by
    obtain ⟨l, s, hb⟩ := h1.1
    exact cell_of hb 2
  have H1 := Lib.hid h1
  clear h1 HN
  go_wp2_with (refine wpList_copy_nothing rfl (.tmp 10) (.tmp 11) 38 38 rfl 43 Try.underlying38 hsz _ _ 0 0 0 cap0 rfl rfl rfl ?_)
  go_ret
  obtain ⟨m1, m2, m3⟩ := H1.out
  exact ⟨rfl, ⟨m1, m2, m3⟩, k1⟩
theorem of_some (b0 off n cap0 : Nat) (N : Nat → Nat) (w : World) (hn : n ≤ 65536) (hpos : 0 < n) (hb : b0 < w.heap.size) (hc : ∀ i, i < n → w.cell? ⟨b0, off + i, none⟩ = some (.int .u32 (N i))) :
    Calls Try.prog 16 #[.slice (some ⟨b0, off, none⟩) n cap0] w fun e w' => e = .returned (.pointer (some ⟨w.heap.size + 1, 0, none⟩)) ∧ IsMem w' (w.heap.size + 1) w.heap.size n N ∧ Keeps (fun _ => False) w w' := by
  have hsz : (Try.prog.info? 43).map (·.size) = some 1 := by kernel_rfl
  have HN := Lib.hid (new_any n hn w)
  have HC := Lib.hid hc
  clear hc
  go_enter Try.func16, Try.ntmps16
  go_wp2_with fail
  refine HN.out.mono ?_
  rintro e w1 ⟨rfl, h1, k1⟩
  have c2 : w1.cell? ⟨w.heap.size + 1, 2, none⟩ = some (.slice (some ⟨w.heap.size, 0, none⟩) n n) := by
    obtain ⟨l, s, hb⟩ := h1.1
    exact cell_of hb 2
  have hp : ∀ (j : Nat) (v : Value), (words N n)[j]? = some v → w1.cell? ((⟨b0, off, none⟩ : Addr).add j) = some v := by
    intro j v hj
    have hjn : j < n := by
      rcases Nat.lt_or_ge j n with h1 | h1
      · exact h1
      · rw [List.getElem?_eq_none (by simpa [words] using h1)] at hj; cases hj
    have hv : v = .int .u32 (N j) := by simpa [words, hjn] using hj.symm
    have e : ((⟨b0, off, none⟩ : Addr).add j) = ⟨b0, off + j, none⟩ := by
      simp only [Addr.add]
      by_cases h : j = 0 <;> simp [h]
    rw [e, hv, ← HC.out j hjn]
    exact World.cell?_of_block (w := w) (k1.block b0 hb fun h => h)
  have H1 := Lib.hid h1
  have HP := Lib.hid hp
  clear h1 HN hp
  go_wp2_with (refine wpList_copy_own rfl (.tmp 10) (.tmp 11) 38 38 rfl 43 Try.underlying38 hsz w.heap.size 0 n n ⟨b0, off, none⟩ n cap0 rfl rfl _ 43 H1.out.2.1 (words N n) (by simp [words]) HP.out (by simp [words]) (by simp [words, Value.oneCell']) ?_)
  go_ret
  obtain ⟨⟨l, s, m1⟩, m2, m3, m4⟩ := H1.out
  exact ⟨rfl, ⟨⟨l, s, (setRow_other _ _ _ _ (by omega)).trans m1⟩, (setRow_heap _ _ _ _ _ _ m2).trans (by simp [words]), m3, m4⟩, k1.setRow (.inr (Nat.le_refl _)) _⟩
end Go.Proofs.Ytnogdeihiiejkaa
