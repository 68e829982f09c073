import Derived.Test.YtlpnobpgphmngaaRows
import Derived.Test.YtlpnobpgphmngaaKeep
import Derived.WalkKit
import Derived.ProofKit
import Derived.OpenShut
import Derived.WalkLawsBesides
import Derived.WalkSpells
import Derived.Lib.Hide
import Derived.Laws.BitsAllLaws
import Derived.Deep.QuietTactic
import Derived.BigQuiet
import Derived.BigRegion
import Derived.Laws.CopyOwn
import Derived.Deep.OwnRows
import Derived.Deep.RegionWith
namespace Go.Proofs.Ytlpnobpgphmngaa
open Go.ChangeShapes Go.WideShapes Go.ChangeAt Go.RowKit
set_option linter.unusedVariables false

theorem ret_boolc {a b : Bool} (h : a = b) : Ending.returned (.bool a) = .returned (.bool b) := by rw [h]
/-- n words in a row. -/
def words (N : Nat → Nat) (n : Nat) : List Value := (List.range n).map fun i => Value.int .u32 (N i)
theorem words_get (N : Nat → Nat) (n i : Nat) (h : i < n) : (words N n).toArray[i]? = some (.int .u32 (N i)) := by simp [words, h]
theorem words_set (N : Nat → Nat) (n i v : Nat) : (words N n).toArray.setIfInBounds i (.int .u32 v) = (words (fun k => if k = i then v else N k) n).toArray := by
  apply Array.ext_getElem?
  intro j
  rw [Array.getElem?_setIfInBounds]
  by_cases hj : j < n
  · rw [words_get N n j hj, words_get _ n j hj]
    by_cases hij : i = j
    · subst hij; simp [words, hj]
    · rw [if_neg hij, if_neg (fun e => hij e.symm)]
  · rw [Array.getElem?_eq_none (by simp [words]; omega), Array.getElem?_eq_none (by simp [words]; omega)]
    split
    · rw [if_neg (by simp [words]; omega)]
    · rfl
/-- Block b is a memory whose n words lie in block q. -/
def IsMem (w : World) (b q n : Nat) (N : Nat → Nat) : Prop :=
  (∃ l s : Int, w.heap[b]? = some (.cells #[.int .i64 l, .int .i64 s, .slice (some ⟨q, 0, none⟩) n n] 130 (0, 0))) ∧ w.heap[q]? = some (.cells (words N n).toArray 26 (0, 0)) ∧ q ≠ b ∧ n ≤ 65536
theorem IsMem.keeps {S : Nat → Prop} {w w' : World} {b q n : Nat} {N : Nat → Nat} (h : IsMem w b q n N) (hk : Keeps S w w') (hb : ¬ S b) (hq : ¬ S q) : IsMem w' b q n N := by
  obtain ⟨⟨l, s, h1⟩, h2, h3⟩ := h
  exact ⟨⟨l, s, hk.at h1 hb⟩, hk.at h2 hq, h3⟩

theorem len_any (b q n : Nat) (N : Nat → Nat) (w : World) (h : IsMem w b q n N) :
    Calls Try.prog 56 #[.pointer (some ⟨b, 0, none⟩)] w fun e w' => e = .returned (.int .i64 n) ∧ w = w' := by
  obtain ⟨⟨l, s, h1⟩, h2, h3⟩ := h
  have c2 : w.cell? ⟨b, 2, none⟩ = some (.slice (some ⟨q, 0, none⟩) n n) := cell_of h1 2
  clear h1 h2
  go_enter Try.func56, Try.ntmps56
  go_wp2
  go_ret
  exact ⟨rfl, rfl⟩
theorem has_any (b q n : Nat) (N : Nat → Nat) (i : Int) (w : World) (h : IsMem w b q n N) :
    Calls Try.prog 95 #[.pointer (some ⟨b, 0, none⟩), .int .i64 i] w fun e w' => e = .returned (.bool (decide (0 ≤ i ∧ i < n))) ∧ w = w' := by
  have H := Lib.hid h
  clear h
  go_enter Try.func95, Try.ntmps95
  go_wp2_with (go_at_call 56; refine (len_any _ _ _ _ _ H.out).mono ?_; rintro e w' ⟨rfl, rfl⟩)
  all_goals
    go_ret
    refine ⟨ret_boolc ?_, rfl⟩
    rw [Bool.eq_iff_iff]
    simp only [decide_eq_true_eq, Bool.and_eq_true, Bool.false_eq_true, false_iff]
    omega
theorem load_no (b q n : Nat) (N : Nat → Nat) (i : Int) (w : World) (h : IsMem w b q n N) (hi : ¬ (0 ≤ i ∧ i < n)) :
    Calls Try.prog 76 #[.pointer (some ⟨b, 0, none⟩), .int .i64 i] w fun e w' => e = .returned (.tuple #[.int .u32 0, .bool false]) ∧ w = w' := by
  have H := Lib.hid h
  have HI := Lib.hid hi
  clear h hi
  go_enter Try.func76, Try.ntmps76
  go_wp2_with fail
  refine (has_any _ _ _ _ _ _ H.out).mono ?_
  rintro e w' ⟨rfl, rfl⟩
  rw [decide_eq_false HI.out]
  go_wp2
  exact bodyPost_ret (v := .tuple #[.int .u32 0, .bool false]) (by simp [results, Try.results76, go_sem]) rfl ⟨rfl, rfl⟩
theorem load_yes (b q n : Nat) (N : Nat → Nat) (i : Nat) (w : World) (h : IsMem w b q n N) (hi : i < n) :
    Calls Try.prog 76 #[.pointer (some ⟨b, 0, none⟩), .int .i64 i] w fun e w' => e = .returned (.tuple #[.int .u32 (N i), .bool true]) ∧ IsMem w' b q n N ∧ Keeps (fun k => k = b) w w' := by
  have H := Lib.hid h
  obtain ⟨⟨l, s, h1⟩, h2, h3, hn⟩ := h
  have lb := lt_of h1
  have lq := lt_of h2
  have c0 : w.cell? ⟨b, 0, none⟩ = some (.int .i64 l) := cell_of h1 0
  have f0 : w.frozen? ⟨b, 0, none⟩ = false := free_of h1 0
  have c2 : w.cell? ⟨b, 2, none⟩ = some (.slice (some ⟨q, 0, none⟩) n n) := cell_of h1 2
  have cq : w.cell? ⟨q, i, none⟩ = some (.int .u32 (N i)) := (cell_of h2 i).trans (words_get N n i hi)
  have hdec : decide ((0 : Int) ≤ (i : Int) ∧ (i : Int) < (n : Int)) = true := by simp; omega
  have HB := Lib.hid (And.intro h1 h2)
  clear h1 h2
  go_enter Try.func76, Try.ntmps76
  go_wp2_with fail
  refine (has_any _ _ _ _ _ _ H.out).mono ?_
  rintro e w' ⟨rfl, rfl⟩
  rw [hdec]
  go_wp2
  refine bodyPost_ret (v := .tuple #[.int .u32 (N i), .bool true]) (by simp [results, Try.results76, go_sem]) rfl ⟨rfl, ?_, ?_⟩
  · exact ⟨⟨_, _, heap_set HB.out.1 0 _⟩, heap_other HB.out.2 h3 _, h3, hn⟩
  · exact Keeps.setCell (S := fun k => k = b) (Keeps.refl _ w) (p := ⟨b, 0, none⟩) (.inl rfl) _
theorem store_no (b q n : Nat) (N : Nat → Nat) (i v : Int) (w : World) (h : IsMem w b q n N) (hi : ¬ (0 ≤ i ∧ i < n)) :
    Calls Try.prog 77 #[.pointer (some ⟨b, 0, none⟩), .int .i64 i, .int .u32 v] w fun e w' => e = .returned (.bool false) ∧ w = w' := by
  have H := Lib.hid h
  have HI := Lib.hid hi
  clear h hi
  go_enter Try.func77, Try.ntmps77
  go_wp2_with fail
  refine (has_any _ _ _ _ _ _ H.out).mono ?_
  rintro e w' ⟨rfl, rfl⟩
  rw [decide_eq_false HI.out]
  go_wp2
  go_ret
  exact ⟨rfl, rfl⟩
theorem store_yes (b q n : Nat) (N : Nat → Nat) (i v : Nat) (w : World) (h : IsMem w b q n N) (hi : i < n) :
    Calls Try.prog 77 #[.pointer (some ⟨b, 0, none⟩), .int .i64 i, .int .u32 v] w fun e w' => e = .returned (.bool true) ∧ IsMem w' b q n (fun k => if k = i then v else N k) ∧ Keeps (fun k => k = b ∨ k = q) w w' := by
  have H := Lib.hid h
  obtain ⟨⟨l, s, h1⟩, h2, h3, hn⟩ := h
  have lb := lt_of h1
  have lq := lt_of h2
  have c1 : w.cell? ⟨b, 1, none⟩ = some (.int .i64 s) := cell_of h1 1
  have f1 : w.frozen? ⟨b, 1, none⟩ = false := free_of h1 1
  have c2 : w.cell? ⟨b, 2, none⟩ = some (.slice (some ⟨q, 0, none⟩) n n) := cell_of h1 2
  have cq : w.cell? ⟨q, i, none⟩ = some (.int .u32 (N i)) := (cell_of h2 i).trans (words_get N n i hi)
  have fq : w.frozen? ⟨q, i, none⟩ = false := free_of h2 i
  have hdec : decide ((0 : Int) ≤ (i : Int) ∧ (i : Int) < (n : Int)) = true := by simp; omega
  have HB := Lib.hid (And.intro h1 h2)
  clear h1 h2
  go_enter Try.func77, Try.ntmps77
  go_wp2_with fail
  refine (has_any _ _ _ _ _ _ H.out).mono ?_
  rintro e w' ⟨rfl, rfl⟩
  rw [hdec]
  go_wp2
  go_ret
  refine ⟨rfl, ⟨⟨_, _, heap_set (heap_other HB.out.1 (Ne.symm h3) _) 1 _⟩, ?_, h3, hn⟩, ?_⟩
  · refine heap_other ?_ h3 _
    rw [← words_set]
    exact heap_set HB.out.2 i _
  · exact Keeps.setCell (S := fun k => k = b ∨ k = q) (Keeps.setCell (S := fun k => k = b ∨ k = q) (Keeps.refl _ w) (p := ⟨q, i, none⟩) (.inl (.inr rfl)) _) (p := ⟨b, 1, none⟩) (.inl (.inl rfl)) _

theorem IsMem.none {w w' : World} {b q n : Nat} {N : Nat → Nat} (h : IsMem w b q n N) (hk : Keeps (fun _ => False) w w') : IsMem w' b q n N := h.keeps hk (fun h => h) (fun h => h)
/-- change: what the function makes of the word, and the word before. -/
theorem change_no (b q n : Nat) (N : Nat → Nat) (i : Int) (f : Value) (w : World) (h : IsMem w b q n N) (hi : ¬ (0 ≤ i ∧ i < n)) :
    Calls Try.prog 92 #[.pointer (some ⟨b, 0, none⟩), .int .i64 i, f] w fun e w' => e = .returned (.tuple #[.int .u32 0, .bool false]) ∧ w = w' := by
  have H := Lib.hid h
  have HI := Lib.hid hi
  clear h hi
  go_enter Try.func92, Try.ntmps92
  go_wp2_with fail
  refine (load_no _ _ _ _ _ _ H.out HI.out).mono ?_
  rintro e w' ⟨rfl, rfl⟩
  go_wp2
  exact bodyPost_ret (v := .tuple #[.int .u32 0, .bool false]) (by simp [results, Try.results92, go_sem]) rfl ⟨rfl, rfl⟩
theorem change_yes (b q n : Nat) (N : Nat → Nat) (i v : Nat) (fn : FuncId) (cap : Array Value) (w : World) (h : IsMem w b q n N) (hi : i < n)
    (hcall : ∀ (args : Array Value) (w : World), Sem.run Try.prog (callFunc fn args) w = .ok (.enter fn args) w)
    (hf : ∀ w1, Keeps (fun k => k = b) w w1 → Calls Try.prog fn (#[.int .u32 (N i)] ++ cap) w1 fun e w' => e = .returned (.int .u32 v) ∧ w1 = w') :
    Calls Try.prog 92 #[.pointer (some ⟨b, 0, none⟩), .int .i64 i, .func (.func fn) #[] cap] w fun e w' => e = .returned (.tuple #[.int .u32 (N i), .bool true]) ∧ IsMem w' b q n (fun k => if k = i then v else N k) ∧ Keeps (fun k => k = b ∨ k = q) w w' := by
  have H := Lib.hid h
  have HF := Lib.hid hf
  clear h hf
  go_enter Try.func92, Try.ntmps92
  go_wp2_with fail
  refine (load_yes _ _ _ _ _ _ H.out hi).mono ?_
  rintro e w1 ⟨rfl, hm, hk⟩
  have HK := Lib.hid hk
  obtain ⟨⟨l, s, h1⟩, h2, h3, hn⟩ := hm
  have lb := lt_of h1
  have lq := lt_of h2
  have c1 : w1.cell? ⟨b, 1, none⟩ = some (.int .i64 s) := cell_of h1 1
  have f1 : w1.frozen? ⟨b, 1, none⟩ = false := free_of h1 1
  have c2 : w1.cell? ⟨b, 2, none⟩ = some (.slice (some ⟨q, 0, none⟩) n n) := cell_of h1 2
  have cq : w1.cell? ⟨q, i, none⟩ = some (.int .u32 (N i)) := (cell_of h2 i).trans (words_get N n i hi)
  have fq : w1.frozen? ⟨q, i, none⟩ = false := free_of h2 i
  have HB := Lib.hid (And.intro h1 h2)
  clear h1 h2 H hk
  go_wp2_with fail
  go_region_with ((refine (HF.out _ HK.out.drew).mono ?_; rintro e w' ⟨rfl, rfl⟩))
  all_goals go_wp2
  all_goals
    refine bodyPost_ret (v := .tuple #[.int .u32 (N i), .bool true]) (by simp [results, Try.results92, go_sem]) rfl ⟨rfl, ⟨⟨_, _, heap_drew (heap_set (heap_other HB.out.1 (Ne.symm h3) _) 1 _)⟩, ?_, h3, hn⟩, ?_⟩
    · refine heap_drew (heap_other ?_ h3 _)
      rw [← words_set]
      exact heap_set HB.out.2 i _
    · have g0 : Keeps (fun k => k = b ∨ k = q) w w1 := HK.out.mono fun _ _ h => .inl h
      exact (((g0.setCell (p := ⟨q, i, none⟩) (.inl (.inr rfl)) _).setCell (p := ⟨b, 1, none⟩) (.inl (.inl rfl)) _).drew)

theorem orf_any (x y : Nat) (p : Nat) (E : TypeId) (w : World) (hx : x < 4294967296) (hy : y < 4294967296) (h : w.heap[p]? = some (.cells #[.int .u32 y] E (0, 0))) :
    Calls Try.prog 93 #[.int .u32 x, .pointer (some ⟨p, 0, none⟩)] w fun e w' => e = .returned (.int .u32 ((x ||| y : Nat) : Int)) ∧ w = w' := by
  have c := cell_of h 0
  simp at c
  have e : bits .or .u32 (x : Int) (y : Int) = ((x ||| y : Nat) : Int) := u32_or_nat _ _ hx hy
  clear h
  go_enter Try.func93, Try.ntmps93
  go_wp2
  go_ret
  exact ⟨rfl, rfl⟩
theorem or_yes (b q n : Nat) (N : Nat → Nat) (i y : Nat) (w : World) (h : IsMem w b q n N) (hi : i < n) (hx : N i < 4294967296) (hy : y < 4294967296) :
    Calls Try.prog 74 #[.pointer (some ⟨b, 0, none⟩), .int .i64 i, .int .u32 y] w fun e w' => e = .returned (.tuple #[.int .u32 (N i), .bool true]) ∧ IsMem w' b q n (fun k => if k = i then N i ||| y else N k) ∧ Keeps (fun k => k = b ∨ k = q) w w' := by
  have hmf : ∀ (fn : Fn) (first cap : Array Value) (w : World), (Instr.makeFunc fn first cap).run Try.prog w = .ok (.func fn first cap) w := fun _ _ _ _ => rfl
  have hc : ∀ (args : Array Value) (w : World), Sem.run Try.prog (callFunc 93 args) w = .ok (.enter 93 args) w := fun _ _ => by go_simp
  have ka : Keeps (fun _ => False) w (w.alloc (.cells #[.int .u32 y] 26)) := (Keeps.refl _ _).alloc _
  have hb : b < w.heap.size := lt_of h.1.choose_spec.choose_spec
  have H := Lib.hid (h.none ka)
  have HC := Lib.hid hc
  have HP := Lib.hid (heap_new w (.cells #[.int .u32 y] 26))
  have HK := Lib.hid ka
  clear h ka hc
  go_enter Try.func74, Try.ntmps74
  go_wp2_with fail
  refine (change_yes b q n N i (N i ||| y) 93 #[.pointer (some ⟨w.heap.size, 0, none⟩)] _ H.out hi HC.out ?_).mono ?_
  · intro w1 k1
    exact orf_any (N i) y w.heap.size _ w1 hx hy (k1.at HP.out (by omega))
  · rintro e w2 ⟨rfl, hm, k2⟩
    go_wp2
    refine bodyPost_ret (v := .tuple #[.int .u32 (N i), .bool true]) (by simp [results, Try.results74, go_sem]) rfl ⟨rfl, hm, (HK.out.mono fun _ _ h => h.elim).trans k2⟩
theorem or_no (b q n : Nat) (N : Nat → Nat) (i y : Int) (w : World) (h : IsMem w b q n N) (hi : ¬ (0 ≤ i ∧ i < n)) :
    Calls Try.prog 74 #[.pointer (some ⟨b, 0, none⟩), .int .i64 i, .int .u32 y] w fun e w' => e = .returned (.tuple #[.int .u32 0, .bool false]) ∧ Keeps (fun _ => False) w w' := by
  have hmf : ∀ (fn : Fn) (first cap : Array Value) (w : World), (Instr.makeFunc fn first cap).run Try.prog w = .ok (.func fn first cap) w := fun _ _ _ _ => rfl
  have ka : Keeps (fun _ => False) w (w.alloc (.cells #[.int .u32 y] 26)) := (Keeps.refl _ _).alloc _
  have H := Lib.hid (h.none ka)
  have HI := Lib.hid hi
  have HK := Lib.hid ka
  clear h ka hi
  go_enter Try.func74, Try.ntmps74
  go_wp2_with fail
  refine (change_no b q n N i _ _ H.out HI.out).mono ?_
  rintro e w2 ⟨rfl, rfl⟩
  go_wp2
  exact bodyPost_ret (v := .tuple #[.int .u32 0, .bool false]) (by simp [results, Try.results74, go_sem]) rfl ⟨rfl, HK.out⟩

theorem andf_any (x y : Nat) (p : Nat) (E : TypeId) (w : World) (hx : x < 4294967296) (hy : y < 4294967296) (h : w.heap[p]? = some (.cells #[.int .u32 y] E (0, 0))) :
    Calls Try.prog 94 #[.int .u32 x, .pointer (some ⟨p, 0, none⟩)] w fun e w' => e = .returned (.int .u32 ((x &&& y : Nat) : Int)) ∧ w = w' := by
  have c := cell_of h 0
  simp at c
  have e : bits .and .u32 (x : Int) (y : Int) = ((x &&& y : Nat) : Int) := u32_and_nat _ _ hx hy
  clear h
  go_enter Try.func94, Try.ntmps94
  go_wp2
  go_ret
  exact ⟨rfl, rfl⟩
theorem and_yes (b q n : Nat) (N : Nat → Nat) (i y : Nat) (w : World) (h : IsMem w b q n N) (hi : i < n) (hx : N i < 4294967296) (hy : y < 4294967296) :
    Calls Try.prog 75 #[.pointer (some ⟨b, 0, none⟩), .int .i64 i, .int .u32 y] w fun e w' => e = .returned (.tuple #[.int .u32 (N i), .bool true]) ∧ IsMem w' b q n (fun k => if k = i then N i &&& y else N k) ∧ Keeps (fun k => k = b ∨ k = q) w w' := by
  have hmf : ∀ (fn : Fn) (first cap : Array Value) (w : World), (Instr.makeFunc fn first cap).run Try.prog w = .ok (.func fn first cap) w := fun _ _ _ _ => rfl
  have hc : ∀ (args : Array Value) (w : World), Sem.run Try.prog (callFunc 94 args) w = .ok (.enter 94 args) w := fun _ _ => by go_simp
  have ka : Keeps (fun _ => False) w (w.alloc (.cells #[.int .u32 y] 26)) := (Keeps.refl _ _).alloc _
  have hb : b < w.heap.size := lt_of h.1.choose_spec.choose_spec
  have H := Lib.hid (h.none ka)
  have HC := Lib.hid hc
  have HP := Lib.hid (heap_new w (.cells #[.int .u32 y] 26))
  have HK := Lib.hid ka
  clear h ka hc
  go_enter Try.func75, Try.ntmps75
  go_wp2_with fail
  refine (change_yes b q n N i (N i &&& y) 94 #[.pointer (some ⟨w.heap.size, 0, none⟩)] _ H.out hi HC.out ?_).mono ?_
  · intro w1 k1
    exact andf_any (N i) y w.heap.size _ w1 hx hy (k1.at HP.out (by omega))
  · rintro e w2 ⟨rfl, hm, k2⟩
    go_wp2
    refine bodyPost_ret (v := .tuple #[.int .u32 (N i), .bool true]) (by simp [results, Try.results75, go_sem]) rfl ⟨rfl, hm, (HK.out.mono fun _ _ h => h.elim).trans k2⟩
theorem and_no (b q n : Nat) (N : Nat → Nat) (i y : Int) (w : World) (h : IsMem w b q n N) (hi : ¬ (0 ≤ i ∧ i < n)) :
    Calls Try.prog 75 #[.pointer (some ⟨b, 0, none⟩), .int .i64 i, .int .u32 y] w fun e w' => e = .returned (.tuple #[.int .u32 0, .bool false]) ∧ Keeps (fun _ => False) w w' := by
  have hmf : ∀ (fn : Fn) (first cap : Array Value) (w : World), (Instr.makeFunc fn first cap).run Try.prog w = .ok (.func fn first cap) w := fun _ _ _ _ => rfl
  have ka : Keeps (fun _ => False) w (w.alloc (.cells #[.int .u32 y] 26)) := (Keeps.refl _ _).alloc _
  have H := Lib.hid (h.none ka)
  have HI := Lib.hid hi
  have HK := Lib.hid ka
  clear h ka hi
  go_enter Try.func75, Try.ntmps75
  go_wp2_with fail
  refine (change_no b q n N i _ _ H.out HI.out).mono ?_
  rintro e w2 ⟨rfl, rfl⟩
  go_wp2
  exact bodyPost_ret (v := .tuple #[.int .u32 0, .bool false]) (by simp [results, Try.results75, go_sem]) rfl ⟨rfl, HK.out⟩

theorem swapf_any (x y : Nat) (p : Nat) (E : TypeId) (w : World) (hx : x < 4294967296) (hy : y < 4294967296) (h : w.heap[p]? = some (.cells #[.int .u32 y] E (0, 0))) :
    Calls Try.prog 96 #[.int .u32 x, .pointer (some ⟨p, 0, none⟩)] w fun e w' => e = .returned (.int .u32 ((y : Nat) : Int)) ∧ w = w' := by
  have c := cell_of h 0
  simp at c
  clear h
  go_enter Try.func96, Try.ntmps96
  go_wp2
  go_ret
  exact ⟨rfl, rfl⟩
theorem swap_yes (b q n : Nat) (N : Nat → Nat) (i y : Nat) (w : World) (h : IsMem w b q n N) (hi : i < n) (hx : N i < 4294967296) (hy : y < 4294967296) :
    Calls Try.prog 78 #[.pointer (some ⟨b, 0, none⟩), .int .i64 i, .int .u32 y] w fun e w' => e = .returned (.tuple #[.int .u32 (N i), .bool true]) ∧ IsMem w' b q n (fun k => if k = i then y else N k) ∧ Keeps (fun k => k = b ∨ k = q) w w' := by
  have hmf : ∀ (fn : Fn) (first cap : Array Value) (w : World), (Instr.makeFunc fn first cap).run Try.prog w = .ok (.func fn first cap) w := fun _ _ _ _ => rfl
  have hc : ∀ (args : Array Value) (w : World), Sem.run Try.prog (callFunc 96 args) w = .ok (.enter 96 args) w := fun _ _ => by go_simp
  have ka : Keeps (fun _ => False) w (w.alloc (.cells #[.int .u32 y] 26)) := (Keeps.refl _ _).alloc _
  have hb : b < w.heap.size := lt_of h.1.choose_spec.choose_spec
  have H := Lib.hid (h.none ka)
  have HC := Lib.hid hc
  have HP := Lib.hid (heap_new w (.cells #[.int .u32 y] 26))
  have HK := Lib.hid ka
  clear h ka hc
  go_enter Try.func78, Try.ntmps78
  go_wp2_with fail
  refine (change_yes b q n N i (y) 96 #[.pointer (some ⟨w.heap.size, 0, none⟩)] _ H.out hi HC.out ?_).mono ?_
  · intro w1 k1
    exact swapf_any (N i) y w.heap.size _ w1 hx hy (k1.at HP.out (by omega))
  · rintro e w2 ⟨rfl, hm, k2⟩
    go_wp2
    refine bodyPost_ret (v := .tuple #[.int .u32 (N i), .bool true]) (by simp [results, Try.results78, go_sem]) rfl ⟨rfl, hm, (HK.out.mono fun _ _ h => h.elim).trans k2⟩
theorem swap_no (b q n : Nat) (N : Nat → Nat) (i y : Int) (w : World) (h : IsMem w b q n N) (hi : ¬ (0 ≤ i ∧ i < n)) :
    Calls Try.prog 78 #[.pointer (some ⟨b, 0, none⟩), .int .i64 i, .int .u32 y] w fun e w' => e = .returned (.tuple #[.int .u32 0, .bool false]) ∧ Keeps (fun _ => False) w w' := by
  have hmf : ∀ (fn : Fn) (first cap : Array Value) (w : World), (Instr.makeFunc fn first cap).run Try.prog w = .ok (.func fn first cap) w := fun _ _ _ _ => rfl
  have ka : Keeps (fun _ => False) w (w.alloc (.cells #[.int .u32 y] 26)) := (Keeps.refl _ _).alloc _
  have H := Lib.hid (h.none ka)
  have HI := Lib.hid hi
  have HK := Lib.hid ka
  clear h ka hi
  go_enter Try.func78, Try.ntmps78
  go_wp2_with fail
  refine (change_no b q n N i _ _ H.out HI.out).mono ?_
  rintro e w2 ⟨rfl, rfl⟩
  go_wp2
  exact bodyPost_ret (v := .tuple #[.int .u32 0, .bool false]) (by simp [results, Try.results78, go_sem]) rfl ⟨rfl, HK.out⟩
end Go.Proofs.Ytlpnobpgphmngaa
