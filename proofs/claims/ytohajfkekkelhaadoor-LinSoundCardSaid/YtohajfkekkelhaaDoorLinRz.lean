import Derived.Test.YtohajfkekkelhaaDoorLinKz
import Derived.Test.YtohajfkekkelhaaDoorLinMz
namespace Go.Proofs.YtohajfkekkelhaaDoor
open Go.ChangeShapes Go.WideShapes Go.ChangeAt Go.RowKit Go.Maps
set_option linter.unusedVariables false
set_option linter.unusedSimpArgs false
/-- How many failures a search may add. -/
def callsT : Nat → Nat
  | 0 => 0
  | m + 1 => 1 + m * callsT m
/-- The blocks of what the search has captured: the calls that are done, the failures, the history, the order, the search itself; the map. -/
structure Cap where
  bA : Nat
  bF : Nat
  bL : Nat
  bO : Nat
  bS : Nat
  bM : Nat
@[reducible] def Cap.ptrs (c : Cap) : Array Value := #[.pointer (some ⟨c.bA, 0, none⟩), .pointer (some ⟨c.bF, 0, none⟩), .pointer (some ⟨c.bL, 0, none⟩), .pointer (some ⟨c.bO, 0, none⟩), .pointer (some ⟨c.bS, 0, none⟩)]
/-- What a search may write. -/
def Wr (c : Cap) (ov : Value) : Nat → Prop := fun j => j = c.bO ∨ j = c.bM ∨ ov.ownBlock = some j
structure SrW (W0 W : World) (c : Cap) (B : Nat) (la : Option Addr) (n lc ans : Nat) (ov : Value) (t : List Nat) (D : DataW Unit) (nm : Nat) (F : Fail) : Prop where
  cA : W.heap[c.bA]? = some (.cells #[.int .u32 (ans : Int)] 39 (0, 0))
  cF : W.heap[c.bF]? = some (.cells #[.map (some c.bM)] 51 (0, 0))
  cL : W.heap[c.bL]? = some (.cells #[.slice la n lc] 23 (0, 0))
  cO : W.heap[c.bO]? = some (.cells #[ov] 26 (0, 0))
  cS : W.heap[c.bS]? = some (.cells #[.func (.func 15) #[] c.ptrs] 52 (0, 0))
  own : OwnI W B ov t
  map : W.ownsMap Tryd.prog 56 unitElem c.bM nm D
  rel : FailR D F
  below : Below W0.heap.size W0 W
  lo : W0.heap.size ≤ c.bO ∧ W0.heap.size ≤ c.bM ∧ W0.heap.size ≤ B
  hi : c.bA < B ∧ c.bF < B ∧ c.bL < B ∧ c.bO < B ∧ c.bS < B ∧ c.bM < B
  ne : c.bO ≠ c.bA ∧ c.bO ≠ c.bF ∧ c.bO ≠ c.bL ∧ c.bO ≠ c.bS ∧ c.bO ≠ c.bM
  nm' : c.bM ≠ c.bA ∧ c.bM ≠ c.bF ∧ c.bM ≠ c.bL ∧ c.bM ≠ c.bS
theorem keeps_comp {S T : Nat → Prop} {a b c : World} (h1 : Keeps S a b) (h2 : Keeps T b c) (hT : ∀ k, k < a.heap.size → T k → S k) : Keeps S a c :=
  ⟨h2.os.trans h1.os, h2.tape.trans h1.tape, h2.output.trans h1.output, Nat.le_trans h1.size h2.size, fun k hk hs => by
    rw [h2.block k (Nat.lt_of_lt_of_le hk h1.size) (fun h => hs (hT k hk h))]
    exact h1.block k hk hs⟩
theorem OwnI.keeps {w w' : World} {B : Nat} {v : Value} {t : List Nat} (h : OwnI w B v t) (hk : ∀ g, v.ownBlock = some g → w'.heap[g]? = w.heap[g]?) : OwnI w' B v t := by
  refine ⟨?_, fun g hg j u hu => h.all g hg j u (by rw [← World.cell?_of_block (a := ⟨g, j, none⟩) (hk g hg)]; exact hu)⟩
  rcases h.own.2 with h0 | ⟨g, cap, cur, rfl, hg, hcur, r⟩
  · exact ⟨h.own.1, .inl h0⟩
  · exact ⟨h.own.1, .inr ⟨g, cap, cur, rfl, hg, by rw [hk g rfl]; exact hcur, r⟩⟩
section
variable {W0 W W' : World} {c : Cap} {B : Nat} {la : Option Addr} {n lc ans : Nat} {ov : Value} {t : List Nat} {D : DataW Unit} {nm : Nat} {F : Fail}
theorem SrW.keep (h : SrW W0 W c B la n lc ans ov t D nm F) (hk : Keeps (fun _ => False) W W') : SrW W0 W' c B la n lc ans ov t D nm F :=
  ⟨hk.at h.cA fun h => h, hk.at h.cF fun h => h, hk.at h.cL fun h => h, hk.at h.cO fun h => h, hk.at h.cS fun h => h,
    h.own.keeps fun g hg => hk.block g (h.own.own.lt g hg).2 fun h => h, h.map.kept (row := none) ⟨hk.os, hk.tape, hk.output, hk.size, fun j hj _ => hk.block j hj fun h => h⟩ (by simp), h.rel, h.below.trans (hk.none.mono h.below.size), h.lo, h.hi, h.ne, h.nm'⟩
theorem SrW.state (h : SrW W0 W c B la n lc ans ov t D nm F) {g : Nat} {L : List ItemD} (hs : StateAt W g L) (hk : Keeps (Wr c ov) W W') : StateAt W' g L := by
  have hmap : ∃ es ck, W.heap[c.bM]? = some (.map es ck) := by
    obtain ⟨es, ck, hb, _⟩ := h.map
    exact ⟨es, ck, hb⟩
  have key : ∀ (b o : Nat) (u : Value), 0 < o → W.cell? ⟨b, o, none⟩ = some u → (∀ z, u ≠ .int .i64 z) → b < W.heap.size → W'.heap[b]? = W.heap[b]? := fun b o u ho hu hz hb => hk.block b hb fun hw => by
    rcases hw with rfl | rfl | hw
    · rw [cell_of h.cO] at hu
      obtain ⟨o, rfl⟩ : ∃ k, o = k + 1 := ⟨o - 1, by omega⟩
      simp at hu
    · obtain ⟨es, ck, hm⟩ := hmap
      simp [World.cell?, hm] at hu
    · obtain ⟨z, hz'⟩ := h.own.all b hw o u hu
      exact hz z hz'
  refine ⟨Nat.lt_of_lt_of_le hs.lt hk.size, fun k x hx => ?_⟩
  obtain ⟨a, cc, hr, h1, h2, h3, h4⟩ := hs.at' k x hx
  have hg := key g (k * 15 + 10) (.slice a x.row.length cc) (by omega) (hr 10 _ rfl) (fun z e => by cases e) hs.lt
  refine ⟨a, cc, fun j v hv => by rw [World.cell?_of_block (a := ⟨g, k * 15 + j, none⟩) hg]; exact hr j v hv, h1, h2, h3, fun hp => ?_⟩
  obtain ⟨b, off, e, hb, hc⟩ := h4 hp
  obtain ⟨y, hy⟩ : ∃ y, x.row[0]? = some y := ⟨_, List.getElem?_eq_getElem hp⟩
  have hbb := key b (off + 0 * 4 + 1) (.int .u32 y.b) (by omega) (hc 0 y hy 1 _ rfl) (fun z e => by cases e) hb
  exact ⟨b, off, e, Nat.lt_of_lt_of_le hb hk.size, fun q z hz j u hu => by rw [World.cell?_of_block (a := ⟨b, off + q * 4 + j, none⟩) hbb]; exact hc q z hz j u hu⟩
/-- A call is appended to the order. -/
theorem SrW.push {o : Obj} {w2 : World} {v' : Value} {i : Nat} (h : SrW W0 W c B la n lc ans ov t D nm F) (ho : OwnI w2 B v' (t ++ [i])) (hg : (W.alloc o).grownBy w2 ov.ownBlock) (hat : v'.ownBlock = ov.ownBlock ∨ v'.ownBlock = some (W.alloc o).heap.size) :
    SrW W0 (w2.setCell ⟨c.bO, 0, none⟩ v') c B la n lc ans v' (t ++ [i]) D nm F ∧ Keeps (Wr c ov) W (w2.setCell ⟨c.bO, 0, none⟩ v') ∧ (∀ k, k < W.heap.size → v'.ownBlock = some k → ov.ownBlock = some k) := by
  have hgk : Keeps (fun j => ov.ownBlock = some j) W w2 := ⟨hg.os, hg.tape, hg.output, Nat.le_trans (by simp) hg.size, fun k hk hs => by
    rw [hg.block k (by simp; omega) (fun e => hs e.symm)]
    exact ((Keeps.refl (fun _ => False) W).alloc o).block k hk fun h => h⟩
  have hnb : ∀ b, b < B → ov.ownBlock ≠ some b := fun b hb e => by have := (h.own.own.lt b e).1; omega
  have hnv : v'.ownBlock ≠ some c.bO := fun e => by
    have := (ho.own.lt c.bO e).1
    have := h.hi.2.2.2.1
    omega
  have hkk : Keeps (Wr c ov) W (w2.setCell ⟨c.bO, 0, none⟩ v') := (hgk.mono fun k _ e => .inr (.inr e)).setCell (p := ⟨c.bO, 0, none⟩) (.inl (.inl rfl)) _
  have hback : ∀ k, k < W.heap.size → v'.ownBlock = some k → ov.ownBlock = some k := fun k hk e => by
    rcases hat with h1 | h1
    · rw [← h1]; exact e
    · rw [h1] at e
      injection e with e
      rw [World.size_alloc] at e
      omega
  refine ⟨⟨heap_other (hgk.at h.cA (hnb _ h.hi.1)) (by exact h.ne.1.symm) _, heap_other (hgk.at h.cF (hnb _ h.hi.2.1)) (by exact h.ne.2.1.symm) _, heap_other (hgk.at h.cL (hnb _ h.hi.2.2.1)) (by exact h.ne.2.2.1.symm) _, ?_, heap_other (hgk.at h.cS (hnb _ h.hi.2.2.2.2.1)) (by exact h.ne.2.2.2.1.symm) _,
    ho.keeps fun g hg => ?_, ?_, h.rel, ?_, h.lo, h.hi, h.ne, h.nm'⟩, hkk, hback⟩
  · exact heap_set (hgk.at h.cO (hnb _ h.hi.2.2.2.1)) 0 v'
  · exact ((Keeps.refl (fun j => j = c.bO) w2).setCell (p := ⟨c.bO, 0, none⟩) (.inl rfl) v').block g (ho.own.lt g hg).2 (fun e => hnv (by rw [← e]; exact hg))
  · refine World.ownsMap.setCell (h.map.kept (row := ov.ownBlock) ⟨hgk.os, hgk.tape, hgk.output, hgk.size, fun j hj hne => hgk.block j hj fun e => hne e.symm⟩ (fun e => hnb _ h.hi.2.2.2.2.2 e.symm)) (a := ⟨c.bO, 0, none⟩) (by exact h.ne.2.2.2.2.symm) _
  · exact h.below.trans (hkk.below h.below.size fun k hk hw => by
      rcases hw with rfl | rfl | hw
      · exact h.lo.1
      · exact h.lo.2.1
      · exact Nat.le_trans h.lo.2.2 (h.own.own.lt k hw).1)
end
end Go.Proofs.YtohajfkekkelhaaDoor
namespace Go.Proofs.YtohajfkekkelhaaDoor
open Go.ChangeShapes Go.WideShapes Go.ChangeAt Go.RowKit Go.Maps
set_option linter.unusedVariables false
set_option linter.unusedSimpArgs false
theorem zeroU (w : World) : (zeroValue 57).run Tryd.prog w = .ok (.agg #[]) w := by kernel_rfl
section
variable {W0 W W' : World} {c : Cap} {B : Nat} {la : Option Addr} {n lc ans : Nat} {ov : Value} {t : List Nat} {D : DataW Unit} {nm : Nat} {F : Fail}
theorem SrW.setO (h : SrW W0 W c B la n lc ans ov t D nm F) (hB : B ≤ W.heap.size) {pv : Value} {t' : List Nat} (ho : OwnI W B pv t') (hp : pv.ownBlock = ov.ownBlock) :
    SrW W0 (W.setCell ⟨c.bO, 0, none⟩ pv) c B la n lc ans pv t' D nm F ∧ Keeps (Wr c ov) W (W.setCell ⟨c.bO, 0, none⟩ pv) := by
  have hnv : pv.ownBlock ≠ some c.bO := fun e => by
    have := (ho.own.lt c.bO e).1
    have := h.hi.2.2.2.1
    omega
  have hkk : Keeps (Wr c ov) W (W.setCell ⟨c.bO, 0, none⟩ pv) := (Keeps.refl _ W).setCell (p := ⟨c.bO, 0, none⟩) (.inl (.inl rfl)) _
  refine ⟨⟨heap_other h.cA (by exact h.ne.1.symm) _, heap_other h.cF (by exact h.ne.2.1.symm) _, heap_other h.cL (by exact h.ne.2.2.1.symm) _, heap_set h.cO 0 pv, heap_other h.cS (by exact h.ne.2.2.2.1.symm) _,
    ho.keeps fun g hg => ((Keeps.refl (fun j => j = c.bO) W).setCell (p := ⟨c.bO, 0, none⟩) (.inl rfl) pv).block g (ho.own.lt g hg).2 (fun e => hnv (by rw [← e]; exact hg)), ?_, h.rel, ?_, h.lo, h.hi, h.ne, h.nm'⟩, hkk⟩
  · exact World.ownsMap.setCell h.map (a := ⟨c.bO, 0, none⟩) (by exact h.ne.2.2.2.2.symm) _
  · exact h.below.trans (hkk.below h.below.size fun k hk hw => by
      rcases hw with rfl | rfl | hw
      · exact h.lo.1
      · exact h.lo.2.1
      · exact Nat.le_trans h.lo.2.2 (h.own.own.lt k hw).1)
theorem OwnI.pop {g cap : Nat} {i : Nat} (h : OwnI W B (.slice (some ⟨g, 0, none⟩) (t.length + 1) cap) (t ++ [i])) : OwnI W B (.slice (some ⟨g, 0, none⟩) t.length cap) t := by
  refine ⟨⟨by simp [ints], ?_⟩, h.all⟩
  rcases h.own.2 with ⟨e, _⟩ | ⟨g', cap', cur, e, hg, hcur, hc, hm, hs, ht⟩
  · cases e
  · obtain ⟨e1, _, e3⟩ := Value.slice.inj e
    cases e1
    subst e3
    refine .inr ⟨g, cap, cur, rfl, hg, hcur, by simp at hc; omega, hm, hs, ?_⟩
    have e2 := congrArg (List.take t.length) ht
    rw [List.take_take] at e2
    simp [ints] at e2
    simpa [ints] using e2
theorem SrW.fail {w2 : World} {u : Nat} {key : List UInt8} (h : SrW W0 W c B la n lc ans ov t D nm F) (hu : u < 4294967296) (hk : key.length ≤ maxLen) (hm : w2.ownsMap Tryd.prog 56 unitElem c.bM (nm + 1) (D.put (keyL u key) (.agg []))) (hg : W.grownBy w2 (some c.bM)) :
    SrW W0 w2 c B la n lc ans ov t (D.put (keyL u key) (.agg [])) (nm + 1) ((u, key) :: F) ∧ Keeps (Wr c ov) W w2 := by
  have hgk : Keeps (fun j => j = c.bM) W w2 := ⟨hg.os, hg.tape, hg.output, hg.size, fun k hk hs => hg.block k hk (fun e => by cases e; exact hs rfl)⟩
  have hkk : Keeps (Wr c ov) W w2 := hgk.mono fun k _ e => .inr (.inl e)
  refine ⟨⟨hgk.at h.cA h.nm'.1.symm, hgk.at h.cF h.nm'.2.1.symm, hgk.at h.cL h.nm'.2.2.1.symm, hgk.at h.cO h.ne.2.2.2.2, hgk.at h.cS h.nm'.2.2.2.symm,
    h.own.keeps fun g hg' => hgk.block g (h.own.own.lt g hg').2 (fun e => by have := (h.own.own.lt g hg').1; have := h.hi.2.2.2.2.2; omega), hm, h.rel.put hu hk _, ?_, h.lo, h.hi, h.ne, h.nm'⟩, hkk⟩
  exact h.below.trans (hkk.below h.below.size fun k hk hw => by
      rcases hw with rfl | rfl | hw
      · exact h.lo.1
      · exact h.lo.2.1
      · exact Nat.le_trans h.lo.2.2 (h.own.own.lt k hw).1)
theorem SrW.grownO {o : Obj} {w2 : World} (h : SrW W0 W c B la n lc ans ov t D nm F) (hg : (W.alloc o).grownBy w2 ov.ownBlock) : w2.heap[c.bO]? = some (.cells #[ov] 26 (0, 0)) := by
  rw [hg.block c.bO (by have := lt_of h.cO; simp; omega) (fun e => by have := (h.own.own.lt c.bO e.symm).1; have := h.hi.2.2.2.1; omega)]
  exact heap_old h.cO o
end
theorem free_less {n used i : Nat} (hi : i < n) (hu : used.testBit i = false) : (freeL n (used ||| 2 ^ i)).length + 1 = (freeL n used).length := by
  have h1 : freeL n (used ||| 2 ^ i) = (freeL n used).filter (fun j => j != i) := by
    unfold freeL
    rw [List.filter_filter]
    refine List.filter_congr fun j _ => ?_
    rw [bit_put]
    by_cases e : j = i
    · simp [e]
    · simp [e]
  have hnd : (freeL n used).Nodup := by unfold freeL; exact List.Pairwise.filter _ List.nodup_range
  have hm : i ∈ freeL n used := mem_free.2 ⟨hi, hu⟩
  rw [h1, ← List.Nodup.erase_eq_filter hnd i, List.length_erase_of_mem hm]
  have := List.length_pos_of_mem hm
  omega
theorem keeps_drew {S : Nat → Prop} {a b : World} (h : Keeps S a.drew b) : Keeps S a b := ⟨h.os, h.tape, h.output, h.size, h.block⟩
theorem try_nil {Lo : List OpX} {go : Nat → List ItemD → Fail → Bool × List Nat × Fail} (used : Nat) (L : List ItemD) : ∀ (r : List Nat) (F : Fail), (tryP Lo go used L r F).1 = false → (tryP Lo go used L r F).2.1 = []
  | [], F, _ => rfl
  | i :: r, F, h => by
    unfold tryP at h ⊢
    by_cases h1 : (followP L (getX Lo i)).2 = true
    · rw [if_pos h1] at h ⊢
      by_cases h2 : (go (used ||| 2 ^ i) (followP L (getX Lo i)).1 F).1 = true
      · rw [if_pos h2] at h; cases h
      · rw [if_neg h2] at h ⊢
        exact try_nil used L r _ h
    · rw [if_neg h1] at h ⊢
      exact try_nil used L r F h
theorem search_nil {Lo : List OpX} {ans : Nat} : ∀ (m used : Nat) (L : List ItemD) (F : Fail), (searchP Lo ans m used L F).1 = false → (searchP Lo ans m used L F).2.1 = []
  | 0, _, _, _, _ => rfl
  | m + 1, used, L, F, h => by
    unfold searchP at h ⊢
    by_cases h1 : used &&& ans = ans
    · rw [if_pos h1] at h; cases h
    · rw [if_neg h1] at h ⊢
      by_cases h2 : failedB F used (keyN L) = true
      · rw [if_pos h2]
      · rw [if_neg h2] at h ⊢
        exact try_nil used L _ F h
/-- What a search leaves. -/
def SrOut (W0 W : World) (c : Cap) (B : Nat) (la : Option Addr) (n lc ans : Nat) (ov : Value) (t : List Nat) (nm m : Nat) (R : Bool × List Nat × Fail) (e : Ending) (W' : World) : Prop :=
  e = .returned (.bool R.1) ∧ ∃ ov' D' nm', SrW W0 W' c B la n lc ans ov' (t ++ R.2.1) D' nm' R.2.2 ∧ Keeps (Wr c ov) W W' ∧ (∀ k, k < W.heap.size → ov'.ownBlock = some k → ov.ownBlock = some k) ∧ nm' ≤ nm + callsT m
set_option maxRecDepth 100000 in
set_option maxHeartbeats 16000000 in
theorem search_step (W0 : World) (c : Cap) (B : Nat) (la : Option Addr) (n lc ans : Nat) (ha : ans < 4294967296) (Lo : List OpX) (hops : OpsArg W0 la n Lo) (hn : n ≤ 24) (hT : TabAt 0 Lib.deBruijn32tab W0) (hg : 0 < W0.heap.size) (m : Nat)
    (ih : ∀ (W : World) (used : Nat) (hu : used < 4294967296) (L : List ItemD) (g cap : Nat) (ov : Value) (t : List Nat) (D : DataW Unit) (nm : Nat) (F : Fail), SrW W0 W c B la n lc ans ov t D nm F → B ≤ W.heap.size → StateAt W g L → (∀ x, x ∈ L → x.Ok) → L.length ≤ 1000 → (freeL n used).length < m → t.length + m ≤ 100 → nm + callsT m ≤ 100000000 →
      Calls Tryd.prog 15 #[.int .u32 (used : Int), .slice (some ⟨g, 0, none⟩) L.length cap, .pointer (some ⟨c.bA, 0, none⟩), .pointer (some ⟨c.bF, 0, none⟩), .pointer (some ⟨c.bL, 0, none⟩), .pointer (some ⟨c.bO, 0, none⟩), .pointer (some ⟨c.bS, 0, none⟩)] W (SrOut W0 W c B la n lc ans ov t nm m (searchP Lo ans m used L F)))
    (W : World) (used : Nat) (hu : used < 4294967296) (L : List ItemD) (g cap : Nat) (ov : Value) (t : List Nat) (D : DataW Unit) (nm : Nat) (F : Fail) (h : SrW W0 W c B la n lc ans ov t D nm F) (hB : B ≤ W.heap.size) (hs : StateAt W g L) (ok : ∀ x, x ∈ L → x.Ok) (hl : L.length ≤ 1000) (hf : (freeL n used).length < m + 1) (htl : t.length + (m + 1) ≤ 100) (hnm : nm + callsT (m + 1) ≤ 100000000) :
    Calls Tryd.prog 15 #[.int .u32 (used : Int), .slice (some ⟨g, 0, none⟩) L.length cap, .pointer (some ⟨c.bA, 0, none⟩), .pointer (some ⟨c.bF, 0, none⟩), .pointer (some ⟨c.bL, 0, none⟩), .pointer (some ⟨c.bO, 0, none⟩), .pointer (some ⟨c.bS, 0, none⟩)] W (SrOut W0 W c B la n lc ans ov t nm (m + 1) (searchP Lo ans (m + 1) used L F)) := by
  have hn24 := hn
  have hlo := hops.len
  have hand : bits .and .u32 (used : Int) (ans : Int) = ((used &&& ans : Nat) : Int) := u32_and_nat _ _ hu ha
  have HR := Lib.hid (show searchP Lo ans (m + 1) used L F = if used &&& ans = ans then (true, [], F) else if failedB F used (keyN L) = true then (false, [], F) else tryP Lo (searchP Lo ans m) used L (firstL Lo used) F from rfl)
  generalize searchP Lo ans (m + 1) used L F = R at *
  have HS := Lib.hid h
  have HST := Lib.hid hs
  have HOK := Lib.hid ok
  have HOPS := Lib.hid hops
  have HTB := Lib.hid (And.intro hT hg)
  have hk2 : (keyN L).length ≤ 2000000 := key_len L (fun y hy => (ok y hy).len) (by omega)
  have hkm : (keyN L).length ≤ maxLen := by unfold maxLen; omega
  have HKEY := Lib.hid (keyOf_is hu hkm)
  have HAS := Lib.hid (h.rel.2 used (keyN L) hu hkm)
  have cA0 : W.cell? ⟨c.bA, 0, none⟩ = some (.int .u32 (ans : Int)) := cell_of h.cA 0
  have HKN := Lib.hid (key_any W g cap L hs ok (by omega))
  obtain ⟨n0, hne⟩ : ∃ n0, L.length = n0 := ⟨_, rfl⟩
  have HN0 := Lib.hid hne
  rw [hne] at HKN hl ⊢
  clear h hs ok hops hT hg hne
  have hdummy : True := trivial
  by_cases hfin : used &&& ans = ans
  · have e1 : (((used &&& ans : Nat) : Int) == (ans : Int)) = true := by rw [hfin]; simp
    have HRT := Lib.hid (HR.out.trans (if_pos hfin))
    clear HR
    go_enter Tryd.func15, Tryd.ntmps15
    go_wp2_with fail
    go_step3
    go_wp2_with fail
    rw [Exit.noGoto_ret]
    go_ret
    have hr := HRT.out
    subst hr
    exact ⟨rfl, ov, D, nm, by simpa using HS.out, Keeps.refl _ _, fun _ _ h => h, Nat.le_add_right _ _⟩
  · have e1 : (((used &&& ans : Nat) : Int) == (ans : Int)) = false := by rw [beq_eq_false_iff_ne]; omega
    have HR2 := Lib.hid (HR.out.trans (if_neg hfin))
    clear HR
    cases hfb : failedB F used (keyN L) with
    | true =>
      have HRT := Lib.hid (HR2.out.trans (if_pos hfb))
      clear HR2
      have hhas := HAS.out.trans hfb
      go_enter Tryd.func15, Tryd.ntmps15
      go_wp2_with fail
      go_step3
      go_wp2_with fail
      refine HKN.out.mono ?_
      rintro e1 w1 ⟨rfl, b1⟩
      have HS1 := Lib.hid ((HS.out.keep (Keeps.ofBelow b1)).keep ((Keeps.refl _ w1).alloc (.cells #[.int .u32 (used : Int), .string ⟨(keyN L).toArray⟩] 56)))
      have HS2 := Lib.hid (HS1.out.keep ((Keeps.refl _ _).alloc (.cells #[] 57)))
      have HK2 := Lib.hid (show Keeps (fun _ => False) W ((w1.alloc (.cells #[.int .u32 (used : Int), .string ⟨(keyN L).toArray⟩] 56)).alloc (.cells #[] 57)) from ((Keeps.ofBelow b1).alloc _).alloc _)
      have HB2 := Lib.hid (heap_old (heap_new w1 (.cells #[.int .u32 (used : Int), .string ⟨(keyN L).toArray⟩] 56)) (.cells #[] 57))
      have HM1 := Lib.hid HS1.out.map
      have hwsz : W.heap.size ≤ w1.heap.size := b1.size
      have cF1 : (w1.alloc (.cells #[.int .u32 (used : Int), .string ⟨(keyN L).toArray⟩] 56)).cell? ⟨c.bF, 0, none⟩ = some (.map (some c.bM)) := cell_of HS1.out.cF 0
      clear b1 cA0
      go_wp2_with (at_lookup; refine wpList_lookup_own_unit _ rfl _ _ 51 rfl 56 57 slaw Tryd.underlying51 (zeroU _) c.bM nm D rfl HM1.out _ _ rfl HKEY.out ?_)
      rw [Exit.noGoto_ret]
      go_ret
      have hr := HRT.out
      subst hr
      exact ⟨rfl, ov, D, nm, by simpa using HS2.out, HK2.out.mono (fun _ _ h => h.elim), fun _ _ h => h, Nat.le_add_right _ _⟩
    | false =>
      have HRT := Lib.hid (HR2.out.trans (if_neg (by rw [hfb]; simp)))
      clear HR2
      have hhas := HAS.out.trans hfb
      go_enter Tryd.func15, Tryd.ntmps15
      go_wp2_with fail
      go_step3
      go_wp2_with fail
      refine HKN.out.mono ?_
      rintro e1 w1 ⟨rfl, b1⟩
      have HS1 := Lib.hid ((HS.out.keep (Keeps.ofBelow b1)).keep ((Keeps.refl _ w1).alloc (.cells #[.int .u32 (used : Int), .string ⟨(keyN L).toArray⟩] 56)))
      have HS2 := Lib.hid (HS1.out.keep ((Keeps.refl _ _).alloc (.cells #[] 57)))
      have HK2 := Lib.hid (show Keeps (fun _ => False) W ((w1.alloc (.cells #[.int .u32 (used : Int), .string ⟨(keyN L).toArray⟩] 56)).alloc (.cells #[] 57)) from ((Keeps.ofBelow b1).alloc _).alloc _)
      have HB2 := Lib.hid (heap_old (heap_new w1 (.cells #[.int .u32 (used : Int), .string ⟨(keyN L).toArray⟩] 56)) (.cells #[] 57))
      have HM1 := Lib.hid HS1.out.map
      have hwsz : W.heap.size ≤ w1.heap.size := b1.size
      have cF1 : (w1.alloc (.cells #[.int .u32 (used : Int), .string ⟨(keyN L).toArray⟩] 56)).cell? ⟨c.bF, 0, none⟩ = some (.map (some c.bM)) := cell_of HS1.out.cF 0
      clear b1 cA0
      go_wp2_with (at_lookup; refine wpList_lookup_own_unit _ rfl _ _ 51 rfl 56 57 slaw Tryd.underlying51 (zeroU _) c.bM nm D rfl HM1.out _ _ rfl HKEY.out ?_)
      go_step3
      generalize ((w1.alloc (.cells #[.int .u32 (used : Int), .string ⟨(keyN L).toArray⟩] 56)).alloc (.cells #[] 57)) = w2 at *
      have hw2 : w1.heap.size < w2.heap.size := lt_of HB2.out
      have HNX := Lib.hid (next_any w2 la n lc Lo (HOPS.out.below HS2.out.below) hn used hu (tabAt_below HTB.out.1 HS2.out.below HTB.out.2) (Nat.lt_of_lt_of_le HTB.out.2 HS2.out.below.size))
      have cL2 : w2.cell? ⟨c.bL, 0, none⟩ = some (.slice la n lc) := cell_of HS2.out.cL 0
      clear hhas cF1
      obtain ⟨nl, hnl⟩ : ∃ nl, firstL Lo used = nl := ⟨_, rfl⟩
      have HNL := Lib.hid (show ∀ i, i ∈ nl → i < n ∧ used.testBit i = false from fun i hi => by
        rw [← hnl] at hi
        have := (mem_first.1 hi).1
        rw [hlo] at this; exact this)
      have HFR := Lib.hid (show ∀ i, i ∈ nl → (freeL n (used ||| 2 ^ i)).length < m from fun i hi => by
        have h1 := free_less (n := n) (used := used) (i := i) ((HNL.out i hi).1) ((HNL.out i hi).2)
        omega)
      have hnll : nl.length ≤ m := by
        rw [← hnl]
        unfold firstL
        rw [hlo]
        exact Nat.le_trans (List.length_filter_le _ _) (by omega)
      rw [hnl] at HNX HRT
      clear hnl
      obtain ⟨ml, hml⟩ : ∃ ml, nl.length = ml := ⟨_, rfl⟩
      have HML := Lib.hid hml
      rw [hml] at HNX hnll
      clear hml
      go_wp2_with fail
      refine HNX.out.mono ?_
      rintro e3 w3 ⟨nv, rfl, hno, hnb⟩
      obtain ⟨va, vc, rfl⟩ := slice_own hno
      have HNO := Lib.hid hno
      have HS3 := Lib.hid (HS2.out.keep (Keeps.ofBelow hnb))
      have HB3 := Lib.hid ((Keeps.ofBelow hnb).at HB2.out fun h => h)
      have HK3 := Lib.hid (HK2.out.trans (Keeps.ofBelow hnb))
      have hw3 : w2.heap.size ≤ w3.heap.size := hnb.size
      clear hno hnb cL2 HNX
      go_wp2_with fail
      go_loopw [13, 38] (fun f s wr => ∃ (k nmk : Nat) (Dk : DataW Unit) (Fk : Fail) (ovk : Value), k ≤ ml ∧ f = .bool false ∧ s = .int .i64 (k : Int) ∧ SrW W0 wr c B la n lc ans ovk t Dk nmk Fk ∧ Keeps (Wr c ov) w3 wr ∧ (∀ j, j < w3.heap.size → ovk.ownBlock = some j → ov.ownBlock = some j) ∧ nmk ≤ nm + k * callsT m ∧ R = tryP Lo (searchP Lo ans m) used L (nl.drop k) Fk) (fun _ s _ => ml - (intOf s).toNat)
      case atStart => exact ⟨0, nm, D, F, ov, by omega, rfl, rfl, HS3.out, Keeps.refl _ _, fun _ _ h => h, by omega, HRT.out⟩
      case round =>
        clear HRT
        obtain ⟨k, nmk, Dk, Fk, ovk, hk, rfl, rfl, hsk, hkk, hbk, hnk, hrk⟩ := hrel
        have HSK := Lib.hid hsk
        have HKK := Lib.hid hkk
        have HBK := Lib.hid hbk
        have HRK := Lib.hid hrk
        clear hsk hkk hbk hrk
        have hwr : w3.heap.size ≤ wr.heap.size := HKK.out.size
        have HSTW := Lib.hid (HS3.out.state (HST.out.below (HK3.out.none)) HKK.out)
        by_cases hlt : k < ml
        · obtain ⟨i, hi⟩ : ∃ i, nl[k]? = some i := ⟨_, List.getElem?_eq_getElem (by rw [HML.out]; exact hlt)⟩
          have himem : i ∈ nl := List.mem_of_getElem? hi
          have hin := (HNL.out i himem).1
          have hdrop : nl.drop k = i :: nl.drop (k + 1) := by
            rw [List.drop_eq_getElem_cons (by rw [HML.out]; exact hlt)]
            congr 1
            rw [List.getElem?_eq_getElem (by rw [HML.out]; exact hlt)] at hi
            exact Option.some.inj hi
          have hrk := HRK.out
          rw [hdrop, tryP] at hrk
          have HRI := Lib.hid hrk
          clear hrk hdrop
          obtain ⟨ng, ncap, hv1, hng1, hng2⟩ := HNO.out.form (by omega)
          obtain ⟨hva, -, -⟩ := Value.slice.inj hv1
          subst hva
          clear hv1
          have hngw : ¬ Wr c ov ng := fun hw => by
            rcases hw with rfl | rfl | hw
            · have := HS.out.hi.2.2.2.1; omega
            · have := HS.out.hi.2.2.2.2.2; omega
            · have := (HS.out.own.own.lt ng hw).2; omega
          have ck : wr.cell? ⟨ng, k, none⟩ = some (.int .i64 (i : Int)) := by
            rw [World.cell?_of_block (a := ⟨ng, k, none⟩) (HKK.out.block ng hng2 hngw), HNO.out.cellAt k (by omega)]
            unfold ints
            rw [List.getElem?_map, hi]; rfl
          have cLr : wr.cell? ⟨c.bL, 0, none⟩ = some (.slice la n lc) := cell_of HSK.out.cL 0
          have HOW := Lib.hid (HOPS.out.below HSK.out.below)
          obtain ⟨lb, loff, hla, hlb, hlc⟩ := HOW.out.lies (by omega)
          obtain ⟨x, hx⟩ : ∃ x, Lo[i]? = some x := ⟨_, List.getElem?_eq_getElem (by rw [hlo]; exact hin)⟩
          have gx : getX Lo i = x := by unfold getX; rw [hx]; rfl
          have okx := HOPS.out.ok x (List.mem_of_getElem? hx)
          have HX := Lib.hid (hlc i x hx)
          have HFO := Lib.hid (lfollow_any wr g cap L HSTW.out HOK.out (by rw [HN0.out]; omega) x okx)
          have HFL := Lib.hid (And.intro (followP_ok HOK.out okx) (followP_len L x))
          rw [HN0.out] at HFO HFL
          rw [gx] at HRI
          subst hla
          generalize followP L x = FP at *
          obtain ⟨L5, m5⟩ := FP
          have d1 : decide (k < ml) = true := decide_eq_true hlt
          have d2 : decide ((k : Int) < (ml : Int)) = true := decide_eq_true (by omega)
          have f3 : decide (i < n) = true := decide_eq_true hin
          have f6 : decide ((i : Int) < 0) = false := decide_eq_false (by omega)
          have f8 : decide ((n : Int) ≤ (i : Int)) = false := decide_eq_false (by omega)
          have f10 : decide (n ≤ i) = false := decide_eq_false (by omega)
          clear hx gx okx hlc hi
          go_wp2_with (refine wpList_load_mid rfl 47 (.tmp 46) rfl lb (loff + i * 17) rfl (opL x) _ HX.out Tryd.underlying47 rfl op_info ?_)
          refine HFO.out.mono ?_
          rintro e5 w5 ⟨b5, g5, c5, rfl, hs5⟩
          have HS5 := Lib.hid (HSK.out.keep (Keeps.ofBelow b5))
          have HT5 := Lib.hid hs5
          have HK5 := Lib.hid (HKK.out.trans ((Keeps.ofBelow b5).mono fun _ _ h => h.elim))
          have hw5 : wr.heap.size ≤ w5.heap.size := b5.size
          clear b5 hs5 HFO ck cLr
          cases m5 with
          | false =>
            have HR5 := Lib.hid (HRI.out.trans (if_neg (by simp)))
            go_wp2_with fail
            go_roundw
            case rel => exact ⟨k + 1, nmk, Dk, Fk, ovk, by omega, rfl, by go_num, HS5.out, HK5.out, HBK.out, Nat.le_trans hnk (Nat.add_le_add_left (Nat.mul_le_mul_right _ (by omega)) _), HR5.out⟩
            case measure => simp [intOf]; omega
          | true =>
            have HR5 := Lib.hid (HRI.out.trans (if_pos rfl))
            have cO5 : w5.cell? ⟨c.bO, 0, none⟩ = some ovk := cell_of HS5.out.cO 0
            have HOA := Lib.hid ((HS5.out.keep ((Keeps.refl _ w5).alloc (.cells #[.int .i64 (i : Int)] 3))).own)
            go_wp2_with (at_builtin; refine wpList_append_int _ rfl (.tmp 53) (.tmp 55) rfl rfl HOA.out ?a1 ?a2 w5.heap.size 1 i rfl ?a3 ?_)
            case a1 => rw [World.size_alloc]; omega
            case a2 => omega
            case a3 => exact heap_new w5 _
            intro v6 w6 hown6 hgrow6 hat6
            obtain ⟨a6, c6, hv6⟩ := slice_own hown6.own
            rw [show (t ++ [i]).length = t.length + 1 by simp] at hv6
            subst hv6
            have y0 : w6.cell? ⟨c.bO, 0, none⟩ = some ovk := cell_of (HS5.out.grownO hgrow6) 0
            have z0 : w6.frozen? ⟨c.bO, 0, none⟩ = false := free_of (HS5.out.grownO hgrow6) 0
            have HP := Lib.hid (HS5.out.push hown6 hgrow6 (by rw [World.size_alloc]; exact hat6))
            have hw6 : w5.heap.size < w6.heap.size := Nat.lt_of_lt_of_le (by simp) hgrow6.size
            clear hown6 hgrow6 hat6
            go_wp2_with fail
            clear y0 z0 cO5
            obtain ⟨w7, hw7⟩ : ∃ w7, w7 = (w6.setCell ⟨c.bO, 0, none⟩ (.slice a6 (t.length + 1) c6)) := ⟨_, rfl⟩
            rw [← hw7] at HP ⊢
            clear hw7
            have HS7 := Lib.hid (HP.out.1.keep ((Keeps.refl _ w7).drew))
            have HT7 := Lib.hid (show StateAt w7.drew g5 L5 from (HS5.out.state HT5.out HP.out.2.1).below (((Keeps.refl (fun _ => False) w7).drew).none))
            have hB7 : B ≤ w7.drew.heap.size := Nat.le_trans (by omega) HP.out.2.1.size
            have hi32 : i < 32 := by omega
            have hu' : used ||| 2 ^ i < 4294967296 := Nat.or_lt_two_pow (n := 32) hu (Nat.pow_lt_pow_right (by omega) hi32)
            have hsb : setB used (i : Int) = used ||| 2 ^ i := by unfold setB bitW; rw [if_pos (by omega), Int.toNat_natCast]
            have HWI := Lib.hid (fun W => with_any used (i : Int) W hu)
            rw [hsb] at HWI
            clear hsb
            have hT1 : (k + 1) * callsT m ≤ m * callsT m := Nat.mul_le_mul_right _ (by omega)
            have hT2 : (k + 1) * callsT m = k * callsT m + callsT m := Nat.succ_mul _ _
            have hT3 : callsT (m + 1) = 1 + m * callsT m := rfl
            have hnm7 : nmk + callsT m ≤ 100000000 := by rw [hT3] at hnm; omega
            have HIH := Lib.hid (ih w7.drew (used ||| 2 ^ i) hu' L5 g5 c5 (.slice a6 (t.length + 1) c6) (t ++ [i]) Dk nmk Fk HS7.out hB7 HT7.out HFL.out.1 (by rw [HFL.out.2]; omega) (HFR.out i himem) (by simp; omega) hnm7)
            rw [HFL.out.2] at HIH
            have HT23 := Lib.hid (And.intro hT1 (And.intro hT2 hT3))
            clear hT1 hT2 hT3
            have HNIL := Lib.hid (search_nil (Lo := Lo) (ans := ans) m (used ||| 2 ^ i) L5 Fk)
            generalize searchP Lo ans m (used ||| 2 ^ i) L5 Fk = P at *
            obtain ⟨b8, o8, F8⟩ := P
            have hcs7 : w7.drew.cell? ⟨c.bS, 0, none⟩ = some (.func (.func 15) #[] c.ptrs) := cell_of HS7.out.cS 0
            have HCS7 := Lib.hid hcs7
            clear hcs7
            have hw67 : w5.heap.size ≤ w7.heap.size := HP.out.2.1.size
            refine wp_region_noPanic ?_
            refine wp_region_held_drew (S := (fun W => W.cell? ⟨c.bS, 0, none⟩ = some (.func (.func 15) #[] c.ptrs))) (by kernel_rfl) ?_ (fun hHeld => ?_)
            · exact HCS7.out
            refine wpAnyH_take (i := 0) (v := ?_) rfl (by kernel_rfl) (by kernel_rfl) (by kernel_rfl) (fun _ _ _ h => h) (Or.inl ⟨by rfl, ?_⟩) (by assumption) ?_
            rotate_left
            · (intro w hSw; (try dsimp only at hSw); go_simp; try with_reducible rfl)
            simp only [Act.put, List.getElem_toArray, List.getElem_cons_zero, List.getElem_cons_succ, List.setIfInBounds_toArray, List.set_cons_zero, List.set_cons_succ]
            refine wpAnyH_take (i := 1) (v := ?_) rfl (by kernel_rfl) (by kernel_rfl) (by kernel_rfl) (fun _ _ _ h => h) (Or.inl ⟨by rfl, ?_⟩) (by assumption) ?_
            rotate_left
            · (intro w hSw; (try dsimp only at hSw); go_simp; try with_reducible rfl)
            simp only [Act.put, List.getElem_toArray, List.getElem_cons_zero, List.getElem_cons_succ, List.setIfInBounds_toArray, List.set_cons_zero, List.set_cons_succ]
            refine wpAnyH_take (i := 2) (v := ?_) rfl (by kernel_rfl) (by kernel_rfl) (by kernel_rfl) (fun _ _ _ h => h) (Or.inl ⟨by rfl, ?_⟩) (by assumption) ?_
            rotate_left
            · (intro w hSw; (try dsimp only at hSw); go_simp; try with_reducible rfl)
            simp only [Act.put, List.getElem_toArray, List.getElem_cons_zero, List.getElem_cons_succ, List.setIfInBounds_toArray, List.set_cons_zero, List.set_cons_succ]
            refine wpAnyH_take (i := 4) (v := ?_) rfl (by kernel_rfl) (by kernel_rfl) (by kernel_rfl) (fun _ _ _ h => h) (Or.inl ⟨by rfl, ?_⟩) (by assumption) ?_
            rotate_left
            · (intro w hSw; (try dsimp only at hSw); go_simp; try with_reducible rfl)
            simp only [Act.put, List.getElem_toArray, List.getElem_cons_zero, List.getElem_cons_succ, List.setIfInBounds_toArray, List.set_cons_zero, List.set_cons_succ]
            refine wpAnyH_ready (rs := [3]) (by kernel_rfl) (by simp) ?_
            refine AllReadyH.cons rfl (fun K hK => ?_) AllReadyH.nil
            go_simp
            go_at_call 19
            refine (HWI.out _).mono ?_
            rintro e8 w8 ⟨rfl, hw8⟩
            subst hw8
            dsimp only
            refine hK.out _ _ ?_ (fun hHeld => ?_)
            · ((try dsimp only); exact HCS7.out)
            clear hK K
            try simp only [Act.put, List.getElem_toArray, List.getElem_cons_zero, List.getElem_cons_succ, List.setIfInBounds_toArray, List.set_cons_zero, List.set_cons_succ]
            refine wpAnyH_ready (rs := [5]) (by kernel_rfl) (by simp) ?_
            refine AllReadyH.cons rfl (fun K hK => ?_) AllReadyH.nil
            go_simp
            go_at_call 15
            refine HIH.out.mono ?_
            rintro e8 w8 ⟨rfl, ov8, D8, nm8, hs8, hk8, hb8, hn8⟩
            have HS8 := Lib.hid hs8
            have HK8 := Lib.hid (keeps_drew hk8)
            have HB8 := Lib.hid hb8
            have HN8 := Lib.hid hn8
            clear hs8 hk8 hb8 hn8
            dsimp only
            refine hK.out _ _ ?_ (fun hHeld => ?_)
            · ((try dsimp only); exact cell_of HS8.out.cS 0)
            clear hK K
            try simp only [Act.put, List.getElem_toArray, List.getElem_cons_zero, List.getElem_cons_succ, List.setIfInBounds_toArray, List.set_cons_zero, List.set_cons_succ]
            refine wpAnyH_done (by kernel_rfl) ?_ _
            refine NoPanic.normal ?_
            have HK9 := Lib.hid (show Keeps (Wr c ov) w3 w8 from keeps_comp (keeps_comp HK5.out HP.out.2.1 (fun j hj hw => by
              rcases hw with hw | hw | hw
              · exact .inl hw
              · exact .inr (.inl hw)
              · exact .inr (.inr (HBK.out j hj hw)))) HK8.out (fun j hj hw => by
              rcases hw with hw | hw | hw
              · exact .inl hw
              · exact .inr (.inl hw)
              · exact .inr (.inr (HBK.out j hj (HP.out.2.2 j (by omega) hw)))))
            have HB9 := Lib.hid (show ∀ j, j < w3.heap.size → ov8.ownBlock = some j → ov.ownBlock = some j from fun j hj e => HBK.out j hj (HP.out.2.2 j (by omega) (HB8.out j (by show j < w7.heap.size; omega) e)))
            have hnn : nm8 ≤ nm + callsT (m + 1) := by
              have h1 := HN8.out
              have h2 := HT23.out.1
              have h3 := HT23.out.2.1
              have h4 := HT23.out.2.2
              omega
            have hn8' : nm8 ≤ nm + (k + 1) * callsT m := by
              have h1 := HN8.out
              have h3 := HT23.out.2.1
              omega
            cases b8 with
            | true =>
              have HR8 := Lib.hid (HR5.out.trans (if_pos rfl))
              go_wp2_with fail
              try rw [Exit.noGoto_ret]
              go_ret
              have hr := HR8.out
              subst hr
              exact ⟨rfl, ov8, D8, nm8, by simpa using HS8.out, keeps_comp (HK3.out.mono fun _ _ h => h.elim) HK9.out (fun _ _ h => h), fun j hj e => HB9.out j (by have := HK3.out.size; omega) e, hnn⟩
            | false =>
              have HR8 := Lib.hid (HR5.out.trans (if_neg (by simp)))
              have ho8 := HNIL.out rfl
              simp only at ho8
              subst ho8
              have hown8 := HS8.out.own
              simp only [List.append_nil] at hown8
              obtain ⟨gg, cap8, hv8, hg8a, hg8b⟩ := hown8.own.form (by simp)
              rw [show (t ++ [i]).length = t.length + 1 by simp] at hv8
              subst hv8
              have hB8' : B ≤ w8.heap.size := by have := HK8.out.size; omega
              have HSO := Lib.hid (HS8.out.setO hB8' hown8.pop rfl)
              have hcap8 : t.length + 1 ≤ cap8 := by
                rcases hown8.own.2 with ⟨e, _⟩ | ⟨g', cap', cur', e, _, _, hc, _⟩
                · cases e
                · obtain ⟨_, _, e3⟩ := Value.slice.inj e
                  rw [e3]; simpa using hc
              have c80 : ¬ cap8 = 0 := by omega
              have c81 : t.length ≤ cap8 := by omega
              have y8 : w8.cell? ⟨c.bO, 0, none⟩ = some (.slice (some ⟨gg, 0, none⟩) (t.length + 1) cap8) := cell_of HS8.out.cO 0
              have z8 : w8.frozen? ⟨c.bO, 0, none⟩ = false := free_of HS8.out.cO 0
              go_wp2_with fail
              go_roundw
              case rel => exact ⟨k + 1, nm8, D8, F8, .slice (some ⟨gg, 0, none⟩) t.length cap8, by omega, rfl, by go_num, HSO.out.1, keeps_comp HK9.out HSO.out.2 (fun j hj hw => by
                rcases hw with hw | hw | hw
                · exact .inl hw
                · exact .inr (.inl hw)
                · exact .inr (.inr (HB9.out j hj hw))), HB9.out, hn8', HR8.out⟩
              case measure => simp [intOf]; omega
        · obtain rfl : k = ml := by omega
          have hrk := HRK.out
          rw [List.drop_of_length_le (by rw [HML.out]; exact Nat.le_refl _)] at hrk
          rw [tryP] at hrk
          have HRE := Lib.hid hrk
          clear hrk
          have d1 : decide (k < k) = false := decide_eq_false (by omega)
          have hbw : ¬ Wr c ov w1.heap.size := fun hw => by
            rcases hw with hw | hw | hw
            · have := HS.out.hi.2.2.2.1; omega
            · have := HS.out.hi.2.2.2.2.2; omega
            · have := (HS.out.own.own.lt _ hw).2; omega
          have hbx := HKK.out.at HB3.out hbw
          have kb0 : wr.cell? ⟨w1.heap.size, 0, none⟩ = some (.int .u32 (used : Int)) := cell_of hbx 0
          have kb1 : wr.cell? ⟨w1.heap.size, 1, none⟩ = some (.string ⟨(keyN L).toArray⟩) := cell_of hbx 1
          have cFr : wr.cell? ⟨c.bF, 0, none⟩ = some (.map (some c.bM)) := cell_of HSK.out.cF 0
          have HMU := Lib.hid HSK.out.map
          have hT1 : k * callsT m ≤ m * callsT m := Nat.mul_le_mul_right _ hnll
          have hT3 : callsT (m + 1) = 1 + m * callsT m := rfl
          have hnb1 : nmk + 1 ≤ nm + callsT (m + 1) := by omega
          have hnb2 : nmk < maxLen := by unfold maxLen; omega
          clear hbx hT1 hT3 hnk
          go_wp2_with (at_mapUpdate; refine wpList_mapUpdate_own _ rfl _ _ _ 51 rfl 56 57 slaw Tryd.underlying51 _ c.bM nmk Dk rfl HMU.out hnb2 _ _ _ rfl rfl HKEY.out _ [] unitElem_mk ?_)
          intro w6 hown6 hgrow6
          have HF := Lib.hid (HSK.out.fail hu hkm hown6 hgrow6)
          clear hown6 hgrow6 kb0 kb1 cFr
          go_wp2_with fail
          try rw [Exit.noGoto_ret]
          go_ret
          have hr := HRE.out
          subst hr
          exact ⟨rfl, ovk, _, nmk + 1, by simpa using HF.out.1, keeps_comp (keeps_comp (HK3.out.mono fun _ _ h => h.elim) HKK.out (fun _ _ h => h)) HF.out.2 (fun j hj hw => by
            rcases hw with hw | hw | hw
            · exact .inl hw
            · exact .inr (.inl hw)
            · exact .inr (.inr (HBK.out j (by have := HK3.out.size; omega) hw))), fun j hj e => HBK.out j (by have := HK3.out.size; omega) e, hnb1⟩
end Go.Proofs.YtohajfkekkelhaaDoor
