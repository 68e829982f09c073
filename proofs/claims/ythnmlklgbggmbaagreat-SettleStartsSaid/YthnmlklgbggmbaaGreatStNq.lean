import Derived.Test.YthnmlklgbggmbaaGreatStKq
import Derived.Deep.RegionLaw
namespace Go.Proofs.YthnmlklgbggmbaaGreat
open Go.ChangeShapes Go.WideShapes Go.ChangeAt Go.RowKit
set_option linter.unusedVariables false
set_option linter.unusedSimpArgs false
theorem own_sl {w : World} {base : Nat} {e : TypeId} {size n : Nat} {v : Value} {xs : List Value} (h : w.ownsRow base e size v n xs) : ∃ a c, v = .slice a n c := by
  rcases h.2 with ⟨rfl, rfl⟩ | ⟨g', cap, cur, rfl, _⟩
  · exact ⟨_, _, rfl⟩
  · exact ⟨_, _, rfl⟩
theorem grown_none {w w2 : World} {o : Obj} {n c : Nat} (hgr : (w.alloc o).grownBy w2 (Value.slice (some ⟨w.heap.size, 0, none⟩) n c).ownBlock) : Keeps (fun _ => False) w w2 := by
  have k0 := (Keeps.refl (fun _ => False) w).alloc o
  exact ⟨hgr.os.trans k0.os, hgr.tape.trans k0.tape, hgr.output.trans k0.output, Nat.le_trans k0.size hgr.size, fun j hj _ => (hgr.block j (by rw [World.size_alloc]; omega) (fun e => by simp [Value.ownBlock] at e; omega)).trans (k0.block j hj fun h => h)⟩
theorem add_block (a : Addr) (j : Nat) : (a.add j).block = a.block := by unfold Addr.add; split <;> rfl
theorem info_ctask : (Tryz.prog.info? 66).map (fun i => (i.zero, i.size, i.bytes)) = some (some (.agg #[.int .i64 0, .bool false, .slice none 0 0]), 3, 40) := by kernel_rfl
set_option maxHeartbeats 1000000 in
theorem clone_task (w : World) (a : Option Addr) (n c : Nat) (cs : List Value) (hn : n ≤ 1000) (hl : cs.length = n * 3) (h1 : ∀ u, u ∈ cs → u.oneCell' = true) (h : (a = none ∧ n = 0) ∨ ∃ ad, a = some ad ∧ (0 < n → ad.block < w.heap.size) ∧ ∀ j u, cs[j]? = some u → w.cell? (ad.add j) = some u) :
    Calls Tryz.prog 105 #[.slice a n c] w fun e w' => (∃ v, e = .returned v ∧ (∃ aa cc, v = .slice aa n cc) ∧ w'.ownsRow w.heap.size 66 3 v n cs) ∧ Keeps (fun _ => False) w w' := by
  rcases h with ⟨rfl, rfl⟩ | ⟨ad, rfl, hb, hc⟩
  · have hnil : ∀ w : World, (binOp .eql 22 (.slice none 0 c) (.slice none 0 0)).run Tryz.prog w = .ok (.bool true) w := fun w => Lib.run_eql_slice_nil w 22 _ none 0 c 0 0 Tryz.underlying22
    have hcs : cs = [] := by
      have : cs.length = 0 := by omega
      exact List.length_eq_zero_iff.1 this
    subst hcs
    clear hl h1 hn
    go_enter Tryz.func105, Tryz.ntmps105
    go_wp2_with fail
    go_ret
    exact ⟨⟨_, rfl, ⟨_, _, rfl⟩, rfl, .inl ⟨rfl, rfl⟩⟩, Keeps.refl _ w⟩
  · obtain ⟨i0, hi, hz0, hz1, hz2⟩ := info_parts info_ctask
    have HO := Lib.hid (show (w.alloc (.cells #[] 66)).ownsRow w.heap.size 66 3 (.slice (some ⟨w.heap.size, 0, none⟩) 0 0) 0 [] from w.ownsRow_made #[] 0 (Nat.le_refl _) (by unfold maxLen; omega) rfl)
    have hnil : ∀ w : World, (binOp .eql 22 (.slice (some ad) n c) (.slice none 0 0)).run Tryz.prog w = .ok (.bool false) w := fun w => Lib.run_eql_slice_nil w 22 _ (some ad) n c 0 0 Tryz.underlying22
    have HCA := Lib.hid (show ∀ (j : Nat) (u : Value), cs[j]? = some u → (w.alloc (.cells #[] 66)).cell? (ad.add j) = some u from fun j u hu => by
      have hp : 0 < n := by
        have := (List.getElem?_eq_some_iff.1 hu).1
        omega
      exact (((Keeps.refl (fun _ => False) w).alloc (.cells #[] 66)).none.cell (p := ad.add j) (by rw [add_block]; exact hb hp)).trans (hc j u hu))
    have HL := Lib.hid (And.intro hl h1)
    clear hb hc hl h1
    go_enter Tryz.func105, Tryz.ntmps105
    go_wp2_with (at_builtin; refine wpList_append_own _ rfl (.tmp 5) (.tmp 6) 22 rfl w.heap.size 66 i0 _ 3 40 Tryz.underlying22 hi hz0 hz1 hz2 rfl (by decide) (.slice (some ⟨w.heap.size, 0, none⟩) 0 0) 0 [] rfl HO.out ad n c cs rfl HL.out.1 HCA.out HL.out.2 (by unfold maxLen; omega) (by omega) (by simp) ?_; intro v w2 how hgr hk)
    rw [Nat.zero_add, List.nil_append] at how
    have kk := grown_none hgr
    obtain ⟨aa, cc, rfl⟩ := own_sl how
    go_ret
    exact ⟨⟨_, rfl, ⟨_, _, rfl⟩, how⟩, kk⟩
theorem info_clevel : (Tryz.prog.info? 69).map (fun i => (i.zero, i.size, i.bytes)) = some (some (.agg #[.int .i64 0, .slice none 0 0]), 2, 32) := by kernel_rfl
set_option maxHeartbeats 1000000 in
theorem clone_level (w : World) (a : Option Addr) (n c : Nat) (cs : List Value) (hn : n ≤ 1000) (hl : cs.length = n * 2) (h1 : ∀ u, u ∈ cs → u.oneCell' = true) (h : (a = none ∧ n = 0) ∨ ∃ ad, a = some ad ∧ (0 < n → ad.block < w.heap.size) ∧ ∀ j u, cs[j]? = some u → w.cell? (ad.add j) = some u) :
    Calls Tryz.prog 106 #[.slice a n c] w fun e w' => (∃ v, e = .returned v ∧ (∃ aa cc, v = .slice aa n cc) ∧ w'.ownsRow w.heap.size 69 2 v n cs) ∧ Keeps (fun _ => False) w w' := by
  rcases h with ⟨rfl, rfl⟩ | ⟨ad, rfl, hb, hc⟩
  · have hnil : ∀ w : World, (binOp .eql 23 (.slice none 0 c) (.slice none 0 0)).run Tryz.prog w = .ok (.bool true) w := fun w => Lib.run_eql_slice_nil w 23 _ none 0 c 0 0 Tryz.underlying23
    have hcs : cs = [] := by
      have : cs.length = 0 := by omega
      exact List.length_eq_zero_iff.1 this
    subst hcs
    clear hl h1 hn
    go_enter Tryz.func106, Tryz.ntmps106
    go_wp2_with fail
    go_ret
    exact ⟨⟨_, rfl, ⟨_, _, rfl⟩, rfl, .inl ⟨rfl, rfl⟩⟩, Keeps.refl _ w⟩
  · obtain ⟨i0, hi, hz0, hz1, hz2⟩ := info_parts info_clevel
    have HO := Lib.hid (show (w.alloc (.cells #[] 69)).ownsRow w.heap.size 69 2 (.slice (some ⟨w.heap.size, 0, none⟩) 0 0) 0 [] from w.ownsRow_made #[] 0 (Nat.le_refl _) (by unfold maxLen; omega) rfl)
    have hnil : ∀ w : World, (binOp .eql 23 (.slice (some ad) n c) (.slice none 0 0)).run Tryz.prog w = .ok (.bool false) w := fun w => Lib.run_eql_slice_nil w 23 _ (some ad) n c 0 0 Tryz.underlying23
    have HCA := Lib.hid (show ∀ (j : Nat) (u : Value), cs[j]? = some u → (w.alloc (.cells #[] 69)).cell? (ad.add j) = some u from fun j u hu => by
      have hp : 0 < n := by
        have := (List.getElem?_eq_some_iff.1 hu).1
        omega
      exact (((Keeps.refl (fun _ => False) w).alloc (.cells #[] 69)).none.cell (p := ad.add j) (by rw [add_block]; exact hb hp)).trans (hc j u hu))
    have HL := Lib.hid (And.intro hl h1)
    clear hb hc hl h1
    go_enter Tryz.func106, Tryz.ntmps106
    go_wp2_with (at_builtin; refine wpList_append_own _ rfl (.tmp 5) (.tmp 6) 23 rfl w.heap.size 69 i0 _ 2 32 Tryz.underlying23 hi hz0 hz1 hz2 rfl (by decide) (.slice (some ⟨w.heap.size, 0, none⟩) 0 0) 0 [] rfl HO.out ad n c cs rfl HL.out.1 HCA.out HL.out.2 (by unfold maxLen; omega) (by omega) (by simp) ?_; intro v w2 how hgr hk)
    rw [Nat.zero_add, List.nil_append] at how
    have kk := grown_none hgr
    obtain ⟨aa, cc, rfl⟩ := own_sl how
    go_ret
    exact ⟨⟨_, rfl, ⟨_, _, rfl⟩, how⟩, kk⟩
theorem info_cobject : (Tryz.prog.info? 74).map (fun i => (i.zero, i.size, i.bytes)) = some (some (.agg #[.int .i64 0, .int .i64 0, .int .i64 0, .int .i64 0, .int .i64 0, .int .i64 0, .int .u32 0, .int .u32 0, .int .u32 0, .int .u32 0]), 10, 64) := by kernel_rfl
set_option maxHeartbeats 1000000 in
theorem clone_object (w : World) (a : Option Addr) (n c : Nat) (cs : List Value) (hn : n ≤ 1000) (hl : cs.length = n * 10) (h1 : ∀ u, u ∈ cs → u.oneCell' = true) (h : (a = none ∧ n = 0) ∨ ∃ ad, a = some ad ∧ (0 < n → ad.block < w.heap.size) ∧ ∀ j u, cs[j]? = some u → w.cell? (ad.add j) = some u) :
    Calls Tryz.prog 107 #[.slice a n c] w fun e w' => (∃ v, e = .returned v ∧ (∃ aa cc, v = .slice aa n cc) ∧ w'.ownsRow w.heap.size 74 10 v n cs) ∧ Keeps (fun _ => False) w w' := by
  rcases h with ⟨rfl, rfl⟩ | ⟨ad, rfl, hb, hc⟩
  · have hnil : ∀ w : World, (binOp .eql 24 (.slice none 0 c) (.slice none 0 0)).run Tryz.prog w = .ok (.bool true) w := fun w => Lib.run_eql_slice_nil w 24 _ none 0 c 0 0 Tryz.underlying24
    have hcs : cs = [] := by
      have : cs.length = 0 := by omega
      exact List.length_eq_zero_iff.1 this
    subst hcs
    clear hl h1 hn
    go_enter Tryz.func107, Tryz.ntmps107
    go_wp2_with fail
    go_ret
    exact ⟨⟨_, rfl, ⟨_, _, rfl⟩, rfl, .inl ⟨rfl, rfl⟩⟩, Keeps.refl _ w⟩
  · obtain ⟨i0, hi, hz0, hz1, hz2⟩ := info_parts info_cobject
    have HO := Lib.hid (show (w.alloc (.cells #[] 74)).ownsRow w.heap.size 74 10 (.slice (some ⟨w.heap.size, 0, none⟩) 0 0) 0 [] from w.ownsRow_made #[] 0 (Nat.le_refl _) (by unfold maxLen; omega) rfl)
    have hnil : ∀ w : World, (binOp .eql 24 (.slice (some ad) n c) (.slice none 0 0)).run Tryz.prog w = .ok (.bool false) w := fun w => Lib.run_eql_slice_nil w 24 _ (some ad) n c 0 0 Tryz.underlying24
    have HCA := Lib.hid (show ∀ (j : Nat) (u : Value), cs[j]? = some u → (w.alloc (.cells #[] 74)).cell? (ad.add j) = some u from fun j u hu => by
      have hp : 0 < n := by
        have := (List.getElem?_eq_some_iff.1 hu).1
        omega
      exact (((Keeps.refl (fun _ => False) w).alloc (.cells #[] 74)).none.cell (p := ad.add j) (by rw [add_block]; exact hb hp)).trans (hc j u hu))
    have HL := Lib.hid (And.intro hl h1)
    clear hb hc hl h1
    go_enter Tryz.func107, Tryz.ntmps107
    go_wp2_with (at_builtin; refine wpList_append_own _ rfl (.tmp 5) (.tmp 6) 24 rfl w.heap.size 74 i0 _ 10 64 Tryz.underlying24 hi hz0 hz1 hz2 rfl (by decide) (.slice (some ⟨w.heap.size, 0, none⟩) 0 0) 0 [] rfl HO.out ad n c cs rfl HL.out.1 HCA.out HL.out.2 (by unfold maxLen; omega) (by omega) (by simp) ?_; intro v w2 how hgr hk)
    rw [Nat.zero_add, List.nil_append] at how
    have kk := grown_none hgr
    obtain ⟨aa, cc, rfl⟩ := own_sl how
    go_ret
    exact ⟨⟨_, rfl, ⟨_, _, rfl⟩, how⟩, kk⟩
theorem info_ccall : (Tryz.prog.info? 126).map (fun i => (i.zero, i.size, i.bytes)) = some (some (.agg #[.int .i64 0, .int .i64 0, .int .u32 0, .int .u32 0, .int .u32 0, .int .u32 0, .int .u32 0]), 7, 40) := by kernel_rfl
set_option maxHeartbeats 1000000 in
theorem clone_call (w : World) (a : Option Addr) (n c : Nat) (cs : List Value) (hn : n ≤ 1000) (hl : cs.length = n * 7) (h1 : ∀ u, u ∈ cs → u.oneCell' = true) (h : (a = none ∧ n = 0) ∨ ∃ ad, a = some ad ∧ (0 < n → ad.block < w.heap.size) ∧ ∀ j u, cs[j]? = some u → w.cell? (ad.add j) = some u) :
    Calls Tryz.prog 108 #[.slice a n c] w fun e w' => (∃ v, e = .returned v ∧ (∃ aa cc, v = .slice aa n cc) ∧ w'.ownsRow w.heap.size 126 7 v n cs) ∧ Keeps (fun _ => False) w w' := by
  rcases h with ⟨rfl, rfl⟩ | ⟨ad, rfl, hb, hc⟩
  · have hnil : ∀ w : World, (binOp .eql 64 (.slice none 0 c) (.slice none 0 0)).run Tryz.prog w = .ok (.bool true) w := fun w => Lib.run_eql_slice_nil w 64 _ none 0 c 0 0 Tryz.underlying64
    have hcs : cs = [] := by
      have : cs.length = 0 := by omega
      exact List.length_eq_zero_iff.1 this
    subst hcs
    clear hl h1 hn
    go_enter Tryz.func108, Tryz.ntmps108
    go_wp2_with fail
    go_ret
    exact ⟨⟨_, rfl, ⟨_, _, rfl⟩, rfl, .inl ⟨rfl, rfl⟩⟩, Keeps.refl _ w⟩
  · obtain ⟨i0, hi, hz0, hz1, hz2⟩ := info_parts info_ccall
    have HO := Lib.hid (show (w.alloc (.cells #[] 126)).ownsRow w.heap.size 126 7 (.slice (some ⟨w.heap.size, 0, none⟩) 0 0) 0 [] from w.ownsRow_made #[] 0 (Nat.le_refl _) (by unfold maxLen; omega) rfl)
    have hnil : ∀ w : World, (binOp .eql 64 (.slice (some ad) n c) (.slice none 0 0)).run Tryz.prog w = .ok (.bool false) w := fun w => Lib.run_eql_slice_nil w 64 _ (some ad) n c 0 0 Tryz.underlying64
    have HCA := Lib.hid (show ∀ (j : Nat) (u : Value), cs[j]? = some u → (w.alloc (.cells #[] 126)).cell? (ad.add j) = some u from fun j u hu => by
      have hp : 0 < n := by
        have := (List.getElem?_eq_some_iff.1 hu).1
        omega
      exact (((Keeps.refl (fun _ => False) w).alloc (.cells #[] 126)).none.cell (p := ad.add j) (by rw [add_block]; exact hb hp)).trans (hc j u hu))
    have HL := Lib.hid (And.intro hl h1)
    clear hb hc hl h1
    go_enter Tryz.func108, Tryz.ntmps108
    go_wp2_with (at_builtin; refine wpList_append_own _ rfl (.tmp 5) (.tmp 6) 64 rfl w.heap.size 126 i0 _ 7 40 Tryz.underlying64 hi hz0 hz1 hz2 rfl (by decide) (.slice (some ⟨w.heap.size, 0, none⟩) 0 0) 0 [] rfl HO.out ad n c cs rfl HL.out.1 HCA.out HL.out.2 (by unfold maxLen; omega) (by omega) (by simp) ?_; intro v w2 how hgr hk)
    rw [Nat.zero_add, List.nil_append] at how
    have kk := grown_none hgr
    obtain ⟨aa, cc, rfl⟩ := own_sl how
    go_ret
    exact ⟨⟨_, rfl, ⟨_, _, rfl⟩, how⟩, kk⟩
end Go.Proofs.YthnmlklgbggmbaaGreat
namespace Go.Proofs.YthnmlklgbggmbaaGreat
open Go.ChangeShapes Go.WideShapes Go.ChangeAt Go.RowKit
set_option linter.unusedVariables false
set_option linter.unusedSimpArgs false
attribute [local irreducible] wpList
theorem good_more {c : CfD} (h : badOf c = (0, 0, 0)) : (∀ i, i < c.nT → 0 ≤ c.tp i ∧ c.tp i < 32 ∧ c.tl i ≤ 64) ∧ ∀ i, i < c.nL → c.ll i ≤ 64 := by
  have h0 : (badOf c).1 = 0 := by rw [h]
  unfold badOf at h0
  by_cases h1 : (bad1 c).1 = 0
  · rw [if_pos h1] at h0
    by_cases h2 : (bad2 c).1 = 0
    · rw [if_pos h2] at h0
      by_cases h3 : (bad3 c).1 = 0
      · have c2 := each_ok h2
        have c3 := each_ok h3
        refine ⟨fun i hi => ?_, fun i hi => ?_⟩
        · have := c2 i hi
          unfold taskF at this
          split at this
          · cases this
          · unfold codeF at this
            split at this
            · cases this
            · omega
        · have := c3 i hi
          unfold levelF at this
          split at this
          · unfold codeF at this
            split at this
            · cases this
            · omega
          · cases this
      · rw [if_neg h3] at h0; exact absurd h0 h3
    · rw [if_neg h2] at h0; exact absurd h0 h2
  · rw [if_neg h1] at h0; exact absurd h0 h1
def SrcC (w : World) (a : Option Addr) (n : Nat) : Prop := ∃ cs : List Value, cs.length = n * 7 ∧ (∀ u, u ∈ cs → u.oneCell' = true) ∧ ((a = none ∧ n = 0) ∨ ∃ ad, a = some ad ∧ (0 < n → ad.block < w.heap.size) ∧ ∀ j u, cs[j]? = some u → w.cell? (ad.add j) = some u)
theorem SrcC.quiet {w w' : World} {a : Option Addr} {n : Nat} (h : SrcC w a n) (k : Keeps (fun _ => False) w w') : SrcC w' a n := by
  obtain ⟨cs, h1, h2, h3⟩ := h
  refine ⟨cs, h1, h2, h3.imp id fun ⟨ad, e, hb, hc⟩ => ⟨ad, e, fun hp => Nat.lt_of_lt_of_le (hb hp) k.size, fun j u hj => ?_⟩⟩
  have hp : 0 < n := by
    have := (List.getElem?_eq_some_iff.1 hj).1
    omega
  exact (k.none.cell (p := ad.add j) (by rw [add_block]; exact hb hp)).trans (hc j u hj)
structure CodesIn (w : World) (c : CfD) : Prop where
  t : ∀ i, i < c.nT → SrcC w (c.tca i) (c.tl i)
  l : ∀ i, i < c.nL → SrcC w (c.lca i) (c.ll i)
def taskL (c : CfD) : List Value := (List.range c.nT).flatMap fun i => [.int .i64 (c.tp i), .bool (c.tb i), .slice (c.tca i) (c.tl i) (c.tcc i)]
def levelL (c : CfD) : List Value := (List.range c.nL).flatMap fun i => [.int .i64 (c.lr i), .slice (c.lca i) (c.ll i) (c.lcc i)]
def objL (c : CfD) : List Value := (List.range c.nO).flatMap fun i => (c.obj i).toList
theorem flatm_get {α : Type} (f : Nat → List α) (s : Nat) (hs : ∀ i, (f i).length = s) (n : Nat) : ((List.range n).flatMap f).length = n * s ∧ ∀ i j, i < n → j < s → ((List.range n).flatMap f)[i * s + j]? = (f i)[j]? := by
  induction n with
  | zero => exact ⟨by simp, fun i j hi => by omega⟩
  | succ n ih =>
    rw [List.range_succ, List.flatMap_append]
    simp only [List.flatMap_cons, List.flatMap_nil, List.append_nil]
    refine ⟨by rw [List.length_append, ih.1, hs]; rw [Nat.succ_mul], fun i j hi hj => ?_⟩
    rcases Nat.lt_or_ge i n with h | h
    · rw [List.getElem?_append_left (by rw [ih.1]; calc i * s + j < i * s + s := by omega
        _ = (i + 1) * s := (Nat.succ_mul i s).symm
        _ ≤ n * s := Nat.mul_le_mul_right s h)]
      exact ih.2 i j h hj
    · obtain rfl : i = n := by omega
      rw [List.getElem?_append_right (by rw [ih.1]; omega), ih.1]
      congr 1
      omega
end Go.Proofs.YthnmlklgbggmbaaGreat
namespace Go.Proofs.YthnmlklgbggmbaaGreat
open Go.ChangeShapes Go.WideShapes Go.ChangeAt Go.RowKit
set_option linter.unusedVariables false
set_option linter.unusedSimpArgs false
attribute [local irreducible] wpList
theorem add_atN (b off j : Nat) : (⟨b, off, none⟩ : Addr).add j = ⟨b, off + j, none⟩ := by unfold Addr.add; split <;> simp_all
theorem src_tasks {w : World} {c : CfD} (h : CfIn w c) (h1 : 0 < c.nT) : (taskL c).length = c.nT * 3 ∧ (∀ u, u ∈ taskL c → u.oneCell' = true) ∧ ∃ ad, c.ta = some ad ∧ (0 < c.nT → ad.block < w.heap.size) ∧ ∀ j u, (taskL c)[j]? = some u → w.cell? (ad.add j) = some u := by
  obtain ⟨b, off, ha, hb, hc⟩ := h.t h1
  have hf := flatm_get (fun i => [Value.int .i64 (c.tp i), .bool (c.tb i), .slice (c.tca i) (c.tl i) (c.tcc i)]) 3 (fun _ => rfl) c.nT
  refine ⟨hf.1, fun u hu => ?_, ⟨b, off, none⟩, ha, fun _ => hb, fun j u hj => ?_⟩
  · obtain ⟨i, _, hi⟩ := List.mem_flatMap.1 hu
    simp at hi
    rcases hi with rfl | rfl | rfl <;> rfl
  · have hjl : j < c.nT * 3 := by rw [← hf.1]; exact (List.getElem?_eq_some_iff.1 hj).1
    have e : j = j / 3 * 3 + j % 3 := by omega
    have hlt : j / 3 < c.nT := by omega
    have := hf.2 (j / 3) (j % 3) hlt (by omega)
    rw [← e] at this
    have hj' : (taskL c)[j]? = _ := this
    rw [hj] at hj'
    rw [add_atN]
    have h3 := hc (j / 3) hlt
    rcases (by omega : j % 3 = 0 ∨ j % 3 = 1 ∨ j % 3 = 2) with h0 | h0 | h0
    · rw [h0] at hj' e; rw [e, hj']; exact h3.1
    · rw [h0] at hj' e; rw [e, hj']; exact h3.2.1
    · rw [h0] at hj' e; rw [e, hj']; exact h3.2.2
theorem src_levels {w : World} {c : CfD} (h : CfIn w c) : (levelL c).length = c.nL * 2 ∧ (∀ u, u ∈ levelL c → u.oneCell' = true) ∧ (c.nL = 0 ∨ ∃ ad, c.la = some ad ∧ (0 < c.nL → ad.block < w.heap.size) ∧ ∀ j u, (levelL c)[j]? = some u → w.cell? (ad.add j) = some u) := by
  have hf := flatm_get (fun i => [Value.int .i64 (c.lr i), .slice (c.lca i) (c.ll i) (c.lcc i)]) 2 (fun _ => rfl) c.nL
  refine ⟨hf.1, fun u hu => ?_, ?_⟩
  · obtain ⟨i, _, hi⟩ := List.mem_flatMap.1 hu
    simp at hi
    rcases hi with rfl | rfl <;> rfl
  · rcases Nat.eq_zero_or_pos c.nL with h0 | h0
    · exact .inl h0
    obtain ⟨b, off, ha, hb, hc⟩ := h.l h0
    refine .inr ⟨⟨b, off, none⟩, ha, fun _ => hb, fun j u hj => ?_⟩
    have hjl : j < c.nL * 2 := by rw [← hf.1]; exact (List.getElem?_eq_some_iff.1 hj).1
    have e : j = j / 2 * 2 + j % 2 := by omega
    have hlt : j / 2 < c.nL := by omega
    have := hf.2 (j / 2) (j % 2) hlt (by omega)
    rw [← e] at this
    have hj' : (levelL c)[j]? = _ := this
    rw [hj] at hj'
    rw [add_atN]
    have h3 := hc (j / 2) hlt
    rcases (by omega : j % 2 = 0 ∨ j % 2 = 1) with h0 | h0
    · rw [h0] at hj' e; rw [e, hj']; exact h3.1
    · rw [h0] at hj' e; rw [e, hj']; exact h3.2
theorem src_objs {w : World} {c : CfD} (h : CfIn w c) : (objL c).length = c.nO * 10 ∧ (∀ u, u ∈ objL c → u.oneCell' = true) ∧ (c.nO = 0 ∨ ∃ ad, c.oa = some ad ∧ (0 < c.nO → ad.block < w.heap.size) ∧ ∀ j u, (objL c)[j]? = some u → w.cell? (ad.add j) = some u) := by
  have hf := flatm_get (fun i => (c.obj i).toList) 10 (fun _ => rfl) c.nO
  refine ⟨hf.1, fun u hu => ?_, ?_⟩
  · obtain ⟨i, _, hi⟩ := List.mem_flatMap.1 hu
    simp at hi
    rcases hi with rfl | rfl | rfl | rfl | rfl | rfl | rfl | rfl | rfl | rfl <;> rfl
  · rcases Nat.eq_zero_or_pos c.nO with h0 | h0
    · exact .inl h0
    obtain ⟨b, off, ha, hb, hc⟩ := h.o h0
    refine .inr ⟨⟨b, off, none⟩, ha, fun _ => hb, fun j u hj => ?_⟩
    have hjl : j < c.nO * 10 := by rw [← hf.1]; exact (List.getElem?_eq_some_iff.1 hj).1
    have e : j = j / 10 * 10 + j % 10 := by omega
    have hlt : j / 10 < c.nO := by omega
    have := hf.2 (j / 10) (j % 10) hlt (by omega)
    rw [← e] at this
    have hj' : (objL c)[j]? = _ := this
    rw [hj] at hj'
    rw [add_atN]
    have h3 := hc (j / 10) hlt (j % 10) (by omega)
    rw [show off + j = off + j / 10 * 10 + j % 10 by omega, h3, hj']
    simp
end Go.Proofs.YthnmlklgbggmbaaGreat
