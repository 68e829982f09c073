import Derived.Test.YthnmlklgbggmbaaGreatPlJz
import Derived.Test.YthnmlklgbggmbaaGreatSchPz
import Derived.Test.YthnmlklgbggmbaaGreatSchVz
import Derived.Test.YthnmlklgbggmbaaGreatBdAz
import Derived.BigQuiet
import Derived.Deep.QuietTactic
import Derived.Deep.RegionHeld3
import Derived.Test.YthnmlklgbggmbaaGreatBaseZ
namespace Go.Proofs.YthnmlklgbggmbaaGreat
open Go.ChangeShapes Go.WideShapes Go.ChangeAt Go.RowKit
set_option linter.unusedVariables false
set_option linter.unusedSimpArgs false
attribute [local irreducible] wpList
@[go_sem] theorem run_store_nilFunc (P : Program) (w : World) (a : Addr) (m : Mode) : (store a .nilFunc m).run P w = stored P w a .nilFunc m := run_store P w a _ m rfl
@[go_sem] theorem run_store_func (P : Program) (w : World) (a : Addr) (m : Mode) (fn : Fn) (x y : Array Value) : (store a (.func fn x y) m).run P w = stored P w a (.func fn x y) m := run_store P w a _ m rfl
/-- Cells of one block, set one behind the other. -/
def setsL (w : World) (b : Nat) : List (Nat × Value) → World
  | [] => w
  | (i, v) :: t => setsL (w.setCell ⟨b, i, none⟩ v) b t
def setsC (cs : Array Value) : List (Nat × Value) → Array Value
  | [] => cs
  | (i, v) :: t => setsC (cs.setIfInBounds i v) t
theorem setsL_heap : ∀ (l : List (Nat × Value)) {w : World} {b : Nat} {cs : Array Value} {T : TypeId}, w.heap[b]? = some (.cells cs T (0, 0)) → (setsL w b l).heap[b]? = some (.cells (setsC cs l) T (0, 0))
  | [], _, _, _, _, h => h
  | (i, v) :: t, _, _, _, _, h => setsL_heap t (heap_set h i v)
theorem setsL_keep : ∀ (l : List (Nat × Value)) (w : World) (b : Nat), Keeps (fun X => X = b) w (setsL w b l)
  | [], w, b => Keeps.refl _ w
  | (i, v) :: t, w, b => ((Keeps.refl (fun X => X = b) w).setCell (p := ⟨b, i, none⟩) (.inl rfl) v).trans (setsL_keep t _ b)
/-- What of level 0 a turn that reads zeros alone does not change. -/
structure DrP where
  g : Nat
  nO : Nat
  la : Option Addr
  nL : Nat
  lc : Nat
  t : Int
  aa : Option Addr
  nT : Nat
  ac : Nat
  n : Int
  s : Nat
  h : Nat
/-- Level 0's cells then. -/
@[reducible] def drC (p : DrP) (part op ad : Int) (f : Value) (task level : Int) : Array Value := #[.slice (some ⟨p.g, 0, none⟩) p.nO p.nO, .slice p.la p.nL p.lc, .int .i64 p.t, .slice p.aa p.nT p.ac, .int .i64 p.n, .pointer (some ⟨p.s, 0, none⟩), .int .u32 0, .slice (some ⟨p.h, 0, none⟩) p.nL p.nL, .int .i64 part, .int .i64 op, .int .i64 ad, .int .u32 0, f, .int .i64 task, .int .i64 level, .int .u32 0, .int .u32 0, .int .i64 0, .int .i64 0, .int .i64 0, .int .u32 0, .int .i64 0, .int .i64 0, .int .i64 0, .int .u32 0, .bool false, .int .u32 0]
/-- Level 0 lies in block b. -/
def IsDr (w : World) (b : Nat) (p : DrP) (part op ad : Int) (f : Value) (task level : Int) : Prop := w.heap[b]? = some (.cells (drC p part op ad f task level) 90 (0, 0))
section
variable {w w' : World} {b : Nat} {p : DrP} {part op ad : Int} {f : Value} {task level : Int}
theorem IsDr.at (h : IsDr w b p part op ad f task level) {S : Nat → Prop} (k : Keeps S w w') (hb : ¬ S b) : IsDr w' b p part op ad f task level := k.at h hb
theorem IsDr.cell (h : IsDr w b p part op ad f task level) (i : Nat) : w.cell? ⟨b, i, none⟩ = (drC p part op ad f task level)[i]? := cell_of h i
theorem IsDr.free (h : IsDr w b p part op ad f task level) (i : Nat) : w.frozen? ⟨b, i, none⟩ = false := free_of h i
theorem IsDr.lt (h : IsDr w b p part op ad f task level) : b < w.heap.size := lt_of h
end
theorem on_any (w : World) (b : Nat) (p : DrP) (part op ad : Int) (f : Value) (task level : Int) (h : IsDr w b p part op ad f task level) (r : Bool) (hr : (part != 0) = r) :
    Calls Tryz.prog 12 #[.pointer (some ⟨b, 0, none⟩)] w fun e w' => e = .returned (.bool r) ∧ w = w' := by
  have c8 : w.cell? ⟨b, 8, none⟩ = some (.int .i64 part) := h.cell 8
  clear h
  go_enter Tryz.func12, Tryz.ntmps12
  go_wp2_with fail
  go_ret
  exact ⟨by rw [← hr]; rfl, rfl⟩
theorem sched_any (w : World) (b : Nat) (p : DrP) (part op ad : Int) (f : Value) (task level : Int) (h : IsDr w b p part op ad f task level) :
    Calls Tryz.prog 9 #[.pointer (some ⟨b, 0, none⟩)] w fun e w' => e = .returned (.pointer (some ⟨p.s, 0, none⟩)) ∧ w = w' := by
  have c5 : w.cell? ⟨b, 5, none⟩ = some (.pointer (some ⟨p.s, 0, none⟩)) := h.cell 5
  clear h
  go_enter Tryz.func9, Tryz.ntmps9
  go_wp2_with fail
  go_ret
  exact ⟨rfl, rfl⟩
theorem seen_any (w : World) (b : Nat) (p : DrP) (part op ad : Int) (f : Value) (task level : Int) (h : IsDr w b p part op ad f task level) :
    Calls Tryz.prog 16 #[.pointer (some ⟨b, 0, none⟩)] w fun e w' => e = .returned (.int .u32 0) ∧ w = w' := by
  have c6 : w.cell? ⟨b, 6, none⟩ = some (.int .u32 0) := h.cell 6
  clear h
  go_enter Tryz.func16, Tryz.ntmps16
  go_wp2_with fail
  go_ret
  exact ⟨rfl, rfl⟩
/-- The next act is the reading of a cell. -/
theorem load_cell (w : World) (b : Nat) (p : DrP) (part op ad : Int) (f : Value) (task level : Int) (h : IsDr w b p part op ad f task level) (part' x : Int) (hx : x ≠ -1) :
    Calls Tryz.prog 47 #[.pointer (some ⟨b, 0, none⟩), .int .i64 part', .int .i64 x] w fun e w' => e = .returned (.tuple #[]) ∧ IsDr w' b p part' 1 x f task level ∧ Keeps (fun j => j = b) w w' := by
  have HH := Lib.hid (show w.heap[b]? = some (.cells (drC p part op ad f task level) 90 (0, 0)) from h)
  have c8 : w.cell? ⟨b, 8, none⟩ = some (.int .i64 part) := h.cell 8
  have c9 : w.cell? ⟨b, 9, none⟩ = some (.int .i64 op) := h.cell 9
  have c10 : w.cell? ⟨b, 10, none⟩ = some (.int .i64 ad) := h.cell 10
  have c11 : w.cell? ⟨b, 11, none⟩ = some (.int .u32 0) := h.cell 11
  have f8 := h.free 8
  have f9 := h.free 9
  have f10 := h.free 10
  have f11 := h.free 11
  have l0 := h.lt
  have e1 : (x != -1) = true := by simpa using hx
  clear h hx
  go_enter Tryz.func47, Tryz.ntmps47
  go_wp2_with fail
  go_end0
  exact ⟨rfl, (setsL_heap [(8, .int .i64 part'), (9, .int .i64 0), (10, .int .i64 0), (11, .int .u32 0), (9, .int .i64 1), (10, .int .i64 x), (11, .int .u32 0)] HH.out).trans (by kernel_rfl), setsL_keep [(8, .int .i64 part'), (9, .int .i64 0), (10, .int .i64 0), (11, .int .u32 0), (9, .int .i64 1), (10, .int .i64 x), (11, .int .u32 0)] w b⟩
/-- The next act is none. -/
theorem load_none (w : World) (b : Nat) (p : DrP) (part op ad : Int) (f : Value) (task level : Int) (h : IsDr w b p part op ad f task level) (part' : Int) :
    Calls Tryz.prog 47 #[.pointer (some ⟨b, 0, none⟩), .int .i64 part', .int .i64 (-1)] w fun e w' => e = .returned (.tuple #[]) ∧ IsDr w' b p part' 0 0 f task level ∧ Keeps (fun j => j = b) w w' := by
  have HH := Lib.hid (show w.heap[b]? = some (.cells (drC p part op ad f task level) 90 (0, 0)) from h)
  have c8 : w.cell? ⟨b, 8, none⟩ = some (.int .i64 part) := h.cell 8
  have c9 : w.cell? ⟨b, 9, none⟩ = some (.int .i64 op) := h.cell 9
  have c10 : w.cell? ⟨b, 10, none⟩ = some (.int .i64 ad) := h.cell 10
  have c11 : w.cell? ⟨b, 11, none⟩ = some (.int .u32 0) := h.cell 11
  have f8 := h.free 8
  have f9 := h.free 9
  have f10 := h.free 10
  have f11 := h.free 11
  have l0 := h.lt
  clear h
  go_enter Tryz.func47, Tryz.ntmps47
  go_wp2_with fail
  go_end0
  exact ⟨rfl, (setsL_heap [(8, .int .i64 part'), (9, .int .i64 0), (10, .int .i64 0), (11, .int .u32 0)] HH.out).trans (by kernel_rfl), setsL_keep [(8, .int .i64 part'), (9, .int .i64 0), (10, .int .i64 0), (11, .int .u32 0)] w b⟩
theorem act_any (w : World) (b : Nat) (p : DrP) (part op ad : Int) (f : Value) (task level : Int) (h : IsDr w b p part op ad f task level) (hp : (part != 0) = true) :
    Calls Tryz.prog 13 #[.pointer (some ⟨b, 0, none⟩)] w fun e w' => e = .returned (.tuple #[.agg #[.int .i64 op, .int .i64 ad, .int .u32 0], .bool true]) ∧ Keeps (fun _ => False) w w' := by
  have HO := Lib.hid (fun W (k : Keeps (fun _ => False) w W) => on_any W b p part op ad f task level (h.at k fun h => h) true hp)
  have HH := Lib.hid (fun W (k : Keeps (fun _ => False) w W) => h.at k fun h => h)
  clear h hp
  have HB := Lib.hid ((Has.start w).alloc (.cells #[.int .i64 0, .int .i64 0, .int .u32 0] 45))
  go_enter Tryz.func13, Tryz.ntmps13
  go_wp2_with fail
  refine (HO.out _ HB.out.keeps).mono ?_
  rintro e1 w1 ⟨rfl, rfl⟩
  have c9 : (w.alloc (.cells #[.int .i64 0, .int .i64 0, .int .u32 0] 45)).cell? ⟨b, 9, none⟩ = some (.int .i64 op) := (HH.out _ HB.out.keeps).cell 9
  have c10 : (w.alloc (.cells #[.int .i64 0, .int .i64 0, .int .u32 0] 45)).cell? ⟨b, 10, none⟩ = some (.int .i64 ad) := (HH.out _ HB.out.keeps).cell 10
  have c11 : (w.alloc (.cells #[.int .i64 0, .int .i64 0, .int .u32 0] 45)).cell? ⟨b, 11, none⟩ = some (.int .u32 0) := (HH.out _ HB.out.keeps).cell 11
  have lb : b < w.heap.size := (HH.out _ (Keeps.refl _ w)).lt
  go_wp2_with fail
  refine bodyPost_ret (v := .tuple #[.agg #[.int .i64 op, .int .i64 ad, .int .u32 0], .bool true]) (by simp [results, Tryz.results13, go_sem]) rfl ?_
  exact ⟨rfl, (Keeps.refl _ w).alloc _⟩
end Go.Proofs.YthnmlklgbggmbaaGreat
namespace Go.Proofs.YthnmlklgbggmbaaGreat
open Go.ChangeShapes Go.WideShapes Go.ChangeAt Go.RowKit
set_option linter.unusedVariables false
set_option linter.unusedSimpArgs false
attribute [local irreducible] wpList
/-- What level 0 reads beside its own block. -/
structure DrS (w : World) (b : Nat) (p : DrP) (c : CfD) : Prop where
  t : 0 ≤ p.t ∧ p.t ≤ 1000000
  nT : p.nT = c.nT
  nL : p.nL = c.nL
  asks : 0 < p.nT → ∃ ab ao, p.aa = some ⟨ab, ao, none⟩ ∧ ab ≠ b ∧ ab < w.heap.size ∧ ∀ i, i < p.nT → w.cell? ⟨ab, ao + i, none⟩ = some (.int .i64 (p.t + 1 + (i : Int)))
  lines : 0 < p.nL → ∃ lb lo, p.la = some ⟨lb, lo, none⟩ ∧ lb ≠ b ∧ lb < w.heap.size ∧ ∀ i, i < p.nL → w.rangeAt lb (lo + i * 6) (lineC (baseP c) c.lr i)
  heads : p.h ≠ b ∧ p.h < w.heap.size ∧ ∀ i, i < p.nL → w.cell? ⟨p.h, i, none⟩ = some (.int .u32 0)
theorem DrS.at {w w' : World} {b : Nat} {p : DrP} {c : CfD} (h : DrS w b p c) (k : Keeps (fun j => j = b) w w') : DrS w' b p c := by
  refine ⟨h.t, h.nT, h.nL, fun hp => ?_, fun hp => ?_, h.heads.1, Nat.lt_of_lt_of_le h.heads.2.1 k.size, fun i hi => (World.cell?_of_block (k.block p.h h.heads.2.1 h.heads.1)).trans (h.heads.2.2 i hi)⟩
  · obtain ⟨ab, ao, e, hn, hl, hc⟩ := h.asks hp
    exact ⟨ab, ao, e, hn, Nat.lt_of_lt_of_le hl k.size, fun i hi => (World.cell?_of_block (k.block ab hl hn)).trans (hc i hi)⟩
  · obtain ⟨lb, lo, e, hn, hl, hc⟩ := h.lines hp
    exact ⟨lb, lo, e, hn, Nat.lt_of_lt_of_le hl k.size, fun i hi j v hj => (World.cell?_of_block (k.block lb hl hn)).trans (hc i hi j v hj)⟩
theorem tail_line (a r : Int) : 0 ≤ singP (lnPl a r 0) 2 := by show (0 : Int) ≤ singP 1 2; decide
section
variable (w : World) (b : Nat) (p : DrP) (c : CfD) (part op ad : Int) (f : Value) (task : Int)
theorem unseen_zero (level : Int) (h : IsDr w b p part op ad f task level) :
    Calls Tryz.prog 48 #[.pointer (some ⟨b, 0, none⟩)] w fun e w' => e = .returned (.bool false) ∧ Keeps (fun _ => False) w w' := by
  have c6 : w.cell? ⟨b, 6, none⟩ = some (.int .u32 0) := h.cell 6
  have c15 : w.cell? ⟨b, 15, none⟩ = some (.int .u32 0) := h.cell 15
  clear h
  go_enter Tryz.func48, Tryz.ntmps48
  go_wp2_with fail
  go_quiet (fail)
  go_wp2_with fail
  go_ret
  exact ⟨rfl, (Keeps.refl _ w).drewN _⟩
theorem untaken_zero (i : Nat) (hi : i < p.nL) (hL : p.nL ≤ 31) (h : IsDr w b p part op ad f task (i : Int)) (hs : DrS w b p c) :
    Calls Tryz.prog 49 #[.pointer (some ⟨b, 0, none⟩)] w fun e w' => e = .returned (.bool false) ∧ Keeps (fun _ => False) w w' := by
  have c7 : w.cell? ⟨b, 7, none⟩ = some (.slice (some ⟨p.h, 0, none⟩) p.nL p.nL) := h.cell 7
  have c14 : w.cell? ⟨b, 14, none⟩ = some (.int .i64 (i : Int)) := h.cell 14
  have c15 : w.cell? ⟨b, 15, none⟩ = some (.int .u32 0) := h.cell 15
  have ch := hs.heads.2.2 i hi
  have b1 : (0 : Int) ≤ (i : Int) := by omega
  have b2 : (i : Int) < (p.nL : Int) := by omega
  clear h hs
  go_enter Tryz.func49, Tryz.ntmps49
  go_wp2_with fail
  go_quiet (fail)
  go_wp2_with fail
  go_ret
  exact ⟨rfl, (Keeps.refl _ w).drewN _⟩
theorem counter_tail (i : Nat) (hi : i < p.nL) (hL : p.nL ≤ 31) (h : IsDr w b p part op ad f task (i : Int)) (hs : DrS w b p c) (hr : rightS (oOf (lnPl (lnP (baseP c) c.lr i) (c.lr i))) = true) (hb : 0 ≤ lnP (baseP c) c.lr i ∧ lnP (baseP c) c.lr i ≤ 1000000) :
    Calls Tryz.prog 84 #[.pointer (some ⟨b, 0, none⟩), .int .i64 2] w fun e w' => (∃ x, e = .returned (.int .i64 x) ∧ 0 ≤ x) ∧ Keeps (fun _ => False) w w' := by
  have c1 : w.cell? ⟨b, 1, none⟩ = some (.slice p.la p.nL p.lc) := h.cell 1
  have c14 : w.cell? ⟨b, 14, none⟩ = some (.int .i64 (i : Int)) := h.cell 14
  obtain ⟨lb, lo, hla, hne, hlb, hc⟩ := hs.lines (by omega)
  rw [hla] at c1
  have r0 : w.cell? ⟨lb, lo + i * 6, none⟩ = some (.int .i64 1) := hc i hi 0 _ rfl
  have r1 : w.cell? ⟨lb, lo + i * 6 + 1, none⟩ = some (.int .i64 (lnP (baseP c) c.lr i)) := hc i hi 1 _ rfl
  have r2 : w.cell? ⟨lb, lo + i * 6 + 2, none⟩ = some (.int .i64 (c.lr i)) := hc i hi 2 _ rfl
  have r3 : w.cell? ⟨lb, lo + i * 6 + 3, none⟩ = some (.int .i64 1) := hc i hi 3 _ rfl
  have r4 : w.cell? ⟨lb, lo + i * 6 + 4, none⟩ = some (.int .i64 0) := hc i hi 4 _ rfl
  have b1 : (0 : Int) ≤ (i : Int) := by omega
  have b2 : (i : Int) < (p.nL : Int) := by omega
  have HC := Lib.hid (fun W => cell_some (lnPl (lnP (baseP c) c.lr i) (c.lr i)) 2 0 0 W hr hb (by omega))
  have lbb := h.lt
  have HF := Lib.hid (fun w' (k : Keeps (fun _ => False) w w') => show w'.cell? ⟨b, 1, none⟩ = some (.slice (some ⟨lb, lo, none⟩) p.nL p.lc) ∧ w'.cell? ⟨b, 14, none⟩ = some (.int .i64 (i : Int)) ∧ w'.cell? ⟨lb, lo + i * 6, none⟩ = some (.int .i64 1) ∧ w'.cell? ⟨lb, lo + i * 6 + 1, none⟩ = some (.int .i64 (lnP (baseP c) c.lr i)) ∧ w'.cell? ⟨lb, lo + i * 6 + 2, none⟩ = some (.int .i64 (c.lr i)) ∧ w'.cell? ⟨lb, lo + i * 6 + 3, none⟩ = some (.int .i64 1) ∧ w'.cell? ⟨lb, lo + i * 6 + 4, none⟩ = some (.int .i64 0) from ⟨(k.none.cell (p := ⟨b, 1, none⟩) lbb).trans c1, (k.none.cell (p := ⟨b, 14, none⟩) lbb).trans c14, (k.none.cell (p := ⟨lb, lo + i * 6, none⟩) hlb).trans r0, (k.none.cell (p := ⟨lb, lo + i * 6 + 1, none⟩) hlb).trans r1, (k.none.cell (p := ⟨lb, lo + i * 6 + 2, none⟩) hlb).trans r2, (k.none.cell (p := ⟨lb, lo + i * 6 + 3, none⟩) hlb).trans r3, (k.none.cell (p := ⟨lb, lo + i * 6 + 4, none⟩) hlb).trans r4⟩)
  clear h hs hc hla hlb hne hr hb
  go_enter Tryz.func84, Tryz.ntmps84
  go_wp2_with fail
  go_region_held3 (fun w' => w'.cell? ⟨b, 1, none⟩ = some (.slice (some ⟨lb, lo, none⟩) p.nL p.lc) ∧ w'.cell? ⟨b, 14, none⟩ = some (.int .i64 (i : Int)) ∧ w'.cell? ⟨lb, lo + i * 6, none⟩ = some (.int .i64 1) ∧ w'.cell? ⟨lb, lo + i * 6 + 1, none⟩ = some (.int .i64 (lnP (baseP c) c.lr i)) ∧ w'.cell? ⟨lb, lo + i * 6 + 2, none⟩ = some (.int .i64 (c.lr i)) ∧ w'.cell? ⟨lb, lo + i * 6 + 3, none⟩ = some (.int .i64 1) ∧ w'.cell? ⟨lb, lo + i * 6 + 4, none⟩ = some (.int .i64 0))
    (first
      | exact HF.out _ (Keeps.refl _ w).drew
      | exact HF.out _ HX.out.2
      | go_keep)
    (first
      | (go_at_call 140; refine (HC.out _).mono ?_; rintro e9 w9 ⟨⟨x, rfl, hx⟩, k9⟩; have HX := Lib.hid (And.intro (hx rfl (by decide) (tail_line _ _)) ((Keeps.refl (fun _ => False) w).drew.trans k9)); clear k9 hx)
      | fail)
  all_goals
    go_wp2_with fail
    go_ret
    exact ⟨⟨x, rfl, HX.out.1⟩, HX.out.2⟩
end
end Go.Proofs.YthnmlklgbggmbaaGreat
namespace Go.Proofs.YthnmlklgbggmbaaGreat
open Go.ChangeShapes Go.WideShapes Go.ChangeAt Go.RowKit
set_option linter.unusedVariables false
set_option linter.unusedSimpArgs false
attribute [local irreducible] wpList
theorem ScW.narrow2 {w w' : World} {P Q : Nat → Prop} {a : ScA} {M : ScM} (h : ScW w P a M) (hk : Keeps (fun _ => False) w w') (hq : ∀ k, k < w.heap.size → P k → Q k) (hn : ∀ k, w'.heap.size ≤ k → Q k) : ScW w' Q a M :=
  { h.quiet hk with
    delta := by
      obtain ⟨L, hd, ha, hl⟩ := h.delta
      exact ⟨L, hd.none hk, ha, fun i nd hi => hq _ (lt_of (hd.node i nd hi)) (hl i nd hi)⟩
    queue := by
      obtain ⟨N, b, hd, hg, hw, hl⟩ := h.queue
      refine ⟨N, b, hd.none hk, hg, hw, fun x hx => ?_⟩
      obtain ⟨i, hi⟩ := List.getElem?_of_mem hx
      exact hq _ (lt_of (hd.node i x hi)) (hl x hx)
    low := ⟨hq _ h.lt h.low.1, hq _ h.rank.lt h.low.2.1, by obtain ⟨L, hd, _⟩ := h.delta; exact hq _ hd.lt h.low.2.2.1, by obtain ⟨N, b, hd, _⟩ := h.queue; exact hq _ (lt_of hd.head) h.low.2.2.2.1, fun t ht => hq _ (h.task t ht).lt (h.low.2.2.2.2 t ht)⟩
    new := hn }
section
variable (w : World) (b : Nat) (p : DrP) (c : CfD) (part op ad : Int) (f : Value) (task : Int)
theorem unread_done (i : Nat) (hi : p.nL ≤ i) (h : IsDr w b p part op ad f task (i : Int)) :
    Calls Tryz.prog 50 #[.pointer (some ⟨b, 0, none⟩)] w fun e w' => e = .returned (.bool false) ∧ Keeps (fun _ => False) w w' := by
  have c1 : w.cell? ⟨b, 1, none⟩ = some (.slice p.la p.nL p.lc) := h.cell 1
  have c14 : w.cell? ⟨b, 14, none⟩ = some (.int .i64 (i : Int)) := h.cell 14
  have d1 : decide ((p.nL : Int) ≤ (i : Int)) = true := decide_eq_true (by omega)
  have d2 : decide (p.nL ≤ i) = true := decide_eq_true hi
  clear h hi
  go_enter Tryz.func50, Tryz.ntmps50
  go_wp2_with fail
  go_quiet (fail)
  go_wp2_with fail
  go_ret
  exact ⟨rfl, (Keeps.refl _ w).drewN _⟩
theorem unread_more (i : Nat) (hi : i < p.nL) (hL : p.nL ≤ 31) (h : IsDr w b p part op ad f task (i : Int)) (hs : DrS w b p c) (hr : rightS (oOf (lnPl (lnP (baseP c) c.lr i) (c.lr i))) = true) (hb : 0 ≤ lnP (baseP c) c.lr i ∧ lnP (baseP c) c.lr i ≤ 1000000) :
    Calls Tryz.prog 50 #[.pointer (some ⟨b, 0, none⟩)] w fun e w' => e = .returned (.bool true) ∧ (∃ x, IsDr w' b p 5 1 x f task (i : Int)) ∧ Keeps (fun j => j = b) w w' := by
  have c1 : w.cell? ⟨b, 1, none⟩ = some (.slice p.la p.nL p.lc) := h.cell 1
  have c14 : w.cell? ⟨b, 14, none⟩ = some (.int .i64 (i : Int)) := h.cell 14
  have d1 : decide ((p.nL : Int) ≤ (i : Int)) = false := decide_eq_false (by omega)
  have d2 : decide (p.nL ≤ i) = false := decide_eq_false (by omega)
  have HC := Lib.hid (fun W (k : Keeps (fun _ => False) w W) => counter_tail W b p c part op ad f task i hi hL (h.at k fun h => h) (hs.at (k.mono fun _ _ e => e.elim)) hr hb)
  have HI := Lib.hid (fun W (k : Keeps (fun _ => False) w W) => h.at k fun h => h)
  clear h hi hs hr hb
  go_enter Tryz.func50, Tryz.ntmps50
  go_wp2_with fail
  go_quiet (fail)
  rename_i nq
  have HK := Lib.hid ((Keeps.refl (fun _ => False) w).drewN nq)
  generalize w.drewN nq = w1 at HK ⊢
  go_wp2_with fail
  refine (HC.out _ HK.out).mono ?_
  rintro e2 w2 ⟨⟨x, rfl, hx⟩, k2⟩
  replace HK := Lib.hid (HK.out.trans k2)
  have HX := Lib.hid hx
  clear k2 hx
  go_wp2_with fail
  refine (load_cell w2 b p part op ad f task (i : Int) (HI.out _ HK.out) 5 x (by have := HX.out; omega)).mono ?_
  rintro e3 w3 ⟨rfl, h3, k3⟩
  have H3 := Lib.hid h3
  have HK3 := Lib.hid ((HK.out.mono fun _ _ e => e.elim).trans k3)
  clear h3 k3
  go_wp2_with fail
  go_ret
  exact ⟨rfl, ⟨x, H3.out⟩, HK3.out⟩
/-- Behind the lines there is no wait: the choice is next. -/
theorem begin_none (level : Int) (h : IsDr w b p part op ad f task level) :
    Calls Tryz.prog 52 #[.pointer (some ⟨b, 0, none⟩)] w fun e w' => e = .returned (.tuple #[]) ∧ IsDr w' b p 10 0 0 f task level ∧ Keeps (fun j => j = b) w w' := by
  have c17 : w.cell? ⟨b, 17, none⟩ = some (.int .i64 0) := h.cell 17
  have c18 : w.cell? ⟨b, 18, none⟩ = some (.int .i64 0) := h.cell 18
  have c19 : w.cell? ⟨b, 19, none⟩ = some (.int .i64 0) := h.cell 19
  have c20 : w.cell? ⟨b, 20, none⟩ = some (.int .u32 0) := h.cell 20
  have c21 : w.cell? ⟨b, 21, none⟩ = some (.int .i64 0) := h.cell 21
  have c22 : w.cell? ⟨b, 22, none⟩ = some (.int .i64 0) := h.cell 22
  have c23 : w.cell? ⟨b, 23, none⟩ = some (.int .i64 0) := h.cell 23
  have c24 : w.cell? ⟨b, 24, none⟩ = some (.int .u32 0) := h.cell 24
  have c25 : w.cell? ⟨b, 25, none⟩ = some (.bool false) := h.cell 25
  have f17 := h.free 17
  have f18 := h.free 18
  have f19 := h.free 19
  have f20 := h.free 20
  have l0 := h.lt
  have HI := Lib.hid (show IsDr (setsL w b [(17, .int .i64 0), (18, .int .i64 0), (19, .int .i64 0), (20, .int .u32 0)]) b p part op ad f task level from (setsL_heap [(17, .int .i64 0), (18, .int .i64 0), (19, .int .i64 0), (20, .int .u32 0)] h).trans (by kernel_rfl))
  have HK := Lib.hid (setsL_keep [(17, .int .i64 0), (18, .int .i64 0), (19, .int .i64 0), (20, .int .u32 0)] w b)
  clear h
  go_enter Tryz.func52, Tryz.ntmps52
  go_wp2_with fail
  refine (load_none _ b p part op ad f task level HI.out 10).mono ?_
  rintro e3 w3 ⟨rfl, h3, k3⟩
  have H3 := Lib.hid h3
  have HK3 := Lib.hid (HK.out.trans k3)
  clear h3 k3
  go_wp2_with fail
  first
    | (go_ret; exact ⟨rfl, H3.out, HK3.out⟩)
    | (go_end0; exact ⟨rfl, H3.out, HK3.out⟩)
    | (refine bodyPost_ret (results_none rfl _ _ _) rfl ?_; exact ⟨rfl, H3.out, HK3.out⟩)
end
end Go.Proofs.YthnmlklgbggmbaaGreat
namespace Go.Proofs.YthnmlklgbggmbaaGreat
open Go.ChangeShapes Go.WideShapes Go.ChangeAt Go.RowKit
set_option linter.unusedVariables false
set_option linter.unusedSimpArgs false
attribute [local irreducible] wpList
theorem ScW.dr {w w' : World} {P : Nat → Prop} {a : ScA} {M : ScM} {b : Nat} (h : ScW w P a M) (hb : Ty w b 90) (k : Keeps (fun j => j = b) w w') : ScW w' P a M :=
  h.keepTy (Ts := [90]) (keepsTy k fun j _ e => ⟨_, .head _, by subst e; exact hb⟩) (by intro T hT; obtain rfl := List.mem_singleton.1 hT; decide)
/-- What is written into a block of the run's own. -/
theorem Keeps.trans2 {w w1 w2 : World} {b : Nat} (h : Keeps (fun _ => False) w w1) (k : Keeps (fun j => j = b) w1 w2) (hb : w.heap.size ≤ b := by first | omega | exact Nat.le_refl _) : Keeps (fun _ => False) w w2 := h.far k (fun j e => by subst e; exact hb)
set_option maxRecDepth 20000 in
set_option maxHeartbeats 2000000 in
theorem snext_zero (w : World) (P : Nat → Prop) (a : ScA) (M : ScM) (h : ScW w P a M) (hW : M.W = []) (t : Int) :
    Calls Tryz.prog 51 #[.pointer (some ⟨a.s, 0, none⟩), .int .i64 t] w fun e w' => e = .returned (.tuple #[.agg #[.int .i64 0, .int .i64 0, .int .i64 0, .int .u32 0], .bool false]) ∧ Keeps (fun _ => False) w w' := by
  have c36 := h.cQ
  have ls := h.lt
  obtain ⟨N, hd, hq, hg, hN, _⟩ := h.queue
  obtain rfl : N = [] := by
    rw [hW] at hN
    exact List.map_eq_nil_iff.1 hN
  have HN := Lib.hid (fun W (k : Keeps (fun _ => False) w W) => show Calls Tryz.prog 91 #[.pointer (some ⟨a.Q, 0, none⟩), .int .i64 t] W fun e w' => e = .returned (.tuple #[.agg #[.int .i64 0, .int .i64 0, .int .i64 0, .int .u32 0], .bool false]) ∧ Below W.heap.size W w' from Next_scan (some ⟨a.Q, 0, none⟩) [] t ⟨0, 0, 0, 0, 0⟩ true W (.inr ⟨a.Q, hd, rfl, hq.none k⟩) rfl rfl)
  clear h hq hg hN
  go_enter Tryz.func51, Tryz.ntmps51
  go_wp2_with fail
  refine (HN.out _ ((Keeps.refl _ w).alloc _)).mono ?_
  rintro e2 w2 ⟨rfl, k2⟩
  have HK := Lib.hid (((Keeps.refl (fun _ => False) w).alloc (.cells #[.int .i64 0, .int .i64 0, .int .i64 0, .int .u32 0] 88)).trans (keeps_below k2))
  have hz : w2.heap[w.heap.size]? = some (.cells #[.int .i64 0, .int .i64 0, .int .i64 0, .int .u32 0] 88 (0, 0)) := (k2.block _ (lt_of (heap_new w _))).trans (heap_new w _)
  have z0 := cell_of hz 0
  have z1 := cell_of hz 1
  have z2 := cell_of hz 2
  have z3 := cell_of hz 3
  have y0 := free_of hz 0
  have y1 := free_of hz 1
  have y2 := free_of hz 2
  have y3 := free_of hz 3
  have lz := lt_of hz
  have HZ := Lib.hid hz
  clear k2 hz
  go_wp2_with fail
  have h9 : (setsL w2 w.heap.size [(0, .int .i64 0), (1, .int .i64 0), (2, .int .i64 0), (3, .int .u32 0)]).heap[w.heap.size]? = some (.cells #[.int .i64 0, .int .i64 0, .int .i64 0, .int .u32 0] 88 (0, 0)) := setsL_heap [(0, .int .i64 0), (1, .int .i64 0), (2, .int .i64 0), (3, .int .u32 0)] HZ.out
  have k9 := setsL_keep [(0, .int .i64 0), (1, .int .i64 0), (2, .int .i64 0), (3, .int .u32 0)] w2 w.heap.size
  change bodyPost _ _ _ _ _ (setsL w2 w.heap.size [(0, .int .i64 0), (1, .int .i64 0), (2, .int .i64 0), (3, .int .u32 0)])
  generalize setsL w2 w.heap.size [(0, .int .i64 0), (1, .int .i64 0), (2, .int .i64 0), (3, .int .u32 0)] = W9 at h9 k9 ⊢
  have k8 : Keeps (fun _ => False) w W9 := HK.out.trans2 k9
  have e0 : W9.cell? ⟨w.heap.size, 0, none⟩ = some (.int .i64 0) := cell_of h9 0
  have e1 : W9.cell? ⟨w.heap.size, 1, none⟩ = some (.int .i64 0) := cell_of h9 1
  have e2 : W9.cell? ⟨w.heap.size, 2, none⟩ = some (.int .i64 0) := cell_of h9 2
  have e3 : W9.cell? ⟨w.heap.size, 3, none⟩ = some (.int .u32 0) := cell_of h9 3
  clear z0 z1 z2 z3 y0 y1 y2 y3 lz
  refine bodyPost_ret (v := .tuple #[.agg #[.int .i64 0, .int .i64 0, .int .i64 0, .int .u32 0], .bool false]) (by simp [results, Tryz.results51, go_sem, e0, e1, e2, e3]) rfl ?_
  exact ⟨rfl, k8⟩
theorem setsL_size : ∀ (l : List (Nat × Value)) (w : World) (b : Nat), (setsL w b l).heap.size = w.heap.size
  | [], _, _ => rfl
  | (i, v) :: t, w, b => (setsL_size t _ b).trans (by simp)
/-- The frame of the choice: level 0's block, and what the scheduler is made of. -/
def DK (P : Nat → Prop) (b : Nat) (w w' : World) : Prop := Keeps (fun k => k = b ∨ (P k ∧ ∃ T, T ∈ SchTys ∧ Ty w k T)) w w'
theorem DK.of {P : Nat → Prop} {b : Nat} {w W1 w2 : World} (k1 : Keeps (fun j => j = b) w W1) (hz : W1.heap.size = w.heap.size) (k2 : KeepsS P W1 w2) : DK P b w w2 := by
  refine (k1.mono fun _ _ e => .inl e).trans (k2.mono fun k hk e => ?_)
  by_cases hb : k = b
  · exact .inl hb
  · obtain ⟨hP, T, hT, cs, fr, h⟩ := e
    exact .inr ⟨hP, T, hT, cs, fr, (k1.block k (by rw [← hz]; exact hk) hb).symm.trans h⟩
theorem DK.at {P : Nat → Prop} {b i : Nat} {w w' : World} {cs : Array Value} {T : TypeId} {fr : Nat × Nat} (h : DK P b w w') (hi : w.heap[i]? = some (.cells cs T fr)) (h1 : i ≠ b) (h2 : T ∉ SchTys) : w'.heap[i]? = some (.cells cs T fr) :=
  Keeps.at h hi fun e => by
    rcases e with e | ⟨_, T', hT, cs', fr', h'⟩
    · exact h1 e
    · rw [hi] at h'
      injection h' with h'
      injection h' with _ e2 _
      exact h2 (e2 ▸ hT)
theorem DK.toP {P : Nat → Prop} {b : Nat} {w w' : World} (h : DK P b w w') : Keeps (fun k => k = b ∨ P k) w w' := Keeps.mono h fun _ _ e => e.imp id And.left
section
variable (w : World) (b : Nat) (p : DrP) (c : CfD) (part op ad : Int) (f : Value) (task : Int)
set_option maxRecDepth 20000 in
set_option maxHeartbeats 2000000 in
/-- The choice of the one that is chosen ends the turn. -/
theorem dispatch_same (level : Int) (P : Nat → Prop) (a : ScA) (M : ScM) (h : IsDr w b p part op ad f task level) (hs : ScW w P a M) (hp : p.s = a.s) (hc : firstM M = M.cur) :
    Calls Tryz.prog 46 #[.pointer (some ⟨b, 0, none⟩)] w fun e w' => e = .returned (.slice none 0 0) ∧ IsDr w' b p 0 0 0 .nilFunc task level ∧ ScW w' P a M ∧ DK P b w w' := by
  have hM : dispM M = M := by unfold dispM; rw [hc]
  have HD := Lib.hid (fun W (k : Keeps (fun j => j = b) w W) => disp_any W P a M (hs.dr ⟨_, _, h⟩ k))
  rw [hM, hc] at HD
  have hb : (M.cur != M.cur) = false := by simp
  rw [hb] at HD
  have c5 : w.cell? ⟨b, 5, none⟩ = some (.pointer (some ⟨p.s, 0, none⟩)) := h.cell 5
  rw [hp] at c5
  have c8 : w.cell? ⟨b, 8, none⟩ = some (.int .i64 part) := h.cell 8
  have c9 : w.cell? ⟨b, 9, none⟩ = some (.int .i64 op) := h.cell 9
  have c10 : w.cell? ⟨b, 10, none⟩ = some (.int .i64 ad) := h.cell 10
  have c11 : w.cell? ⟨b, 11, none⟩ = some (.int .u32 0) := h.cell 11
  have c12 : w.cell? ⟨b, 12, none⟩ = some f := h.cell 12
  have f8 := h.free 8
  have f9 := h.free 9
  have f10 := h.free 10
  have f11 := h.free 11
  have f12 := h.free 12
  have l0 := h.lt
  have HI := Lib.hid (show IsDr (setsL w b [(8, .int .i64 0), (9, .int .i64 0), (10, .int .i64 0), (11, .int .u32 0), (12, .nilFunc)]) b p 0 0 0 .nilFunc task level from (setsL_heap [(8, .int .i64 0), (9, .int .i64 0), (10, .int .i64 0), (11, .int .u32 0), (12, .nilFunc)] h).trans (by kernel_rfl))
  have HK := Lib.hid (setsL_keep [(8, .int .i64 0), (9, .int .i64 0), (10, .int .i64 0), (11, .int .u32 0), (12, .nilFunc)] w b)
  clear h hs hc hM hb
  go_enter Tryz.func46, Tryz.ntmps46
  go_wp2_with fail
  refine (HD.out _ HK.out).mono ?_
  rintro e2 w2 ⟨rfl, hs2, k2⟩
  have HS2 := Lib.hid hs2
  have HI2 := Lib.hid (show IsDr w2 b p 0 0 0 .nilFunc task level from k2.at HI.out (by decide))
  have HK2 := Lib.hid (DK.of HK.out (setsL_size _ _ _) k2)
  clear hs2 k2
  go_wp2_with fail
  go_ret
  exact ⟨rfl, HI2.out, HS2.out, HK2.out⟩
end
end Go.Proofs.YthnmlklgbggmbaaGreat
