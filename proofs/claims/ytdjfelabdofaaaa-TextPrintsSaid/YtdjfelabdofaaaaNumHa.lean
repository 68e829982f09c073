import Derived.Test.YtdjfelabdofaaaaNumAz
import Derived.RangeFuncNested
import Derived.RangeFuncBound
import Derived.RangeFuncCalls
import Derived.RangeFuncLeaves
import Derived.RangeFuncBox
import Derived.Shelf.Abstract
import Derived.Shelf.RegionOpen
import Derived.OwnWalkIn
import Derived.TacticsInMore
import Derived.LoopNIn
import Derived.LoopIn
import Derived.Test.YtdjfelabdofaaaaScopeIn
import Derived.Test.YtdjfelabdofaaaaAppRun
import Derived.Maps.AppendAt
import Derived.Handy
import Derived.Deep.Onto
namespace Go.Proofs.Ytdjfelabdofaaaa
open Go.RowKit Go.Shelf
set_option linter.unusedVariables false
attribute [local go_sem] Oper.semAt_some
def strLen : Value → Nat
  | .string s => s.size
  | _ => 0
/-- Whole numbers as cells. -/
def cellsI (l : List Int) : List Value := l.map fun n => Value.int .i64 n
theorem info_int : (Try.prog.info? 3).map (fun i => (i.zero, i.size, i.bytes)) = some (some (.int .i64 0), 1, 8) := by kernel_rfl
theorem cellsI_snoc (l : List Int) (x : Int) : cellsI (l ++ [x]) = cellsI l ++ [.int .i64 x] := by simp [cellsI]
theorem keeps_others {W W' : World} (h : Keeps (fun _ => False) W W') : KeepsOthers W W' := ⟨h.size, fun _ _ hk _ => h.at hk (fun h => h)⟩
theorem row_keeps {W W' : World} {B : Nat} {e : TypeId} {k : Nat} {v : Value} {n : Nat} {xs : List Value} (h : W.ownsRow B e k v n xs) (hk : Keeps (fun _ => False) W W') : W'.ownsRow B e k v n xs :=
  h.kept (row := none) ⟨hk.os, hk.tape, hk.output, hk.size, fun j hj _ => hk.none.block j hj⟩ (by cases hv : v.ownBlock <;> simp)
theorem cell_one_new (w : World) (x : Value) (t : TypeId) : ∀ (j : Nat) u, [x][j]? = some u → (w.alloc (.cells #[x] t)).cell? ((⟨w.heap.size, 0, none⟩ : Addr).add j) = some u := by
  intro j u hj
  cases j with
  | zero => cases hj; rw [show ((⟨w.heap.size, 0, none⟩ : Addr).add 0) = ⟨w.heap.size, 0, none⟩ from rfl, cell_of (heap_new w _) 0]; rfl
  | succ j => simp at hj
theorem app_num {W : World} {z n₀ B : Nat} {v : Value} {M : List Int} (x : Int) (hv : Boxed W B 27 v) (hrow : W.ownsRow n₀ 3 1 v M.length (cellsI M)) (hn₀ : n₀ ≤ W.heap.size) (hz : z ≤ n₀) (hB : z ≤ B) (hm : M.length < 1000000) :
    ∃ g cap w1, appRun Try.prog #[27, 27] 27 #[v, .slice (some ⟨W.heap.size, 0, none⟩) 1 1] (W.alloc (.cells #[.int .i64 x] 3)) = .ok (.slice (some ⟨g, 0, none⟩) (M.length + 1) cap) w1 ∧
      Boxed w1 B 27 v ∧ Boxed (w1.setCell ⟨B, 0, none⟩ (.slice (some ⟨g, 0, none⟩) (M.length + 1) cap)) B 27 (.slice (some ⟨g, 0, none⟩) (M.length + 1) cap) ∧
      (w1.setCell ⟨B, 0, none⟩ (.slice (some ⟨g, 0, none⟩) (M.length + 1) cap)).ownsRow n₀ 3 1 (.slice (some ⟨g, 0, none⟩) (M.length + 1) cap) (M ++ [x]).length (cellsI (M ++ [x])) ∧
      KeepsOthers W (w1.setCell ⟨B, 0, none⟩ (.slice (some ⟨g, 0, none⟩) (M.length + 1) cap)) ∧ Below z W (w1.setCell ⟨B, 0, none⟩ (.slice (some ⟨g, 0, none⟩) (M.length + 1) cap)) ∧
      ∀ (k : Nat) (t : TypeId) (u : Value), k ≠ B → k < n₀ → Boxed W k t u → Boxed (w1.setCell ⟨B, 0, none⟩ (.slice (some ⟨g, 0, none⟩) (M.length + 1) cap)) k t u := by
  obtain ⟨i0, hi, hz0, hz1, hz2⟩ := info_parts info_int
  obtain ⟨v', w1, hrun, hown, hgrow, _⟩ := run_append_own (P := Try.prog) (W.alloc (.cells #[.int .i64 x] 3)) n₀ 27 27 3 i0 _ 1 8 Try.underlying27 hi hz0 hz1 hz2 rfl (by decide) v M.length (cellsI M) (hrow.alloc _) ⟨W.heap.size, 0, none⟩ 1 1 [.int .i64 x] rfl (cell_one_new W _ _) (by simp [Value.oneCell']) (by unfold maxLen; omega) (by omega) (by rw [World.size_alloc]; exact Nat.le_succ_of_le hn₀)
  obtain ⟨g, cap, rfl⟩ := ownsRow_succ hown
  obtain ⟨h1, h2, h3, h4, h5⟩ := hv.appended (by decide) (hrow.mono hz) (Nat.le_trans hz hn₀) hB (hown.mono hz) hgrow
  have h6 := hown.kept (grownBy_setCell' w1 B (.slice (some ⟨g, 0, none⟩) (M.length + 1) cap)) (.inr (h1.not_row (by decide) hown).symm)
  refine ⟨g, cap, w1, hrun, h1, h2, by rw [cellsI_snoc, List.length_append]; exact h6, h4, h5, fun k t u hk hkn hu => ?_⟩
  have a1 : Boxed w1 k t u := (hu.alloc _).kept hgrow (fun e => by have := (hrow.lt k e.symm).1; omega)
  exact heap_other a1 hk _
/-- The first fault among the parts. -/
def splF (a b : Int) : List (List UInt8) → Int
  | [] => 0
  | p :: ps => if (parP p a b).2 = 0 then splF a b ps else (parP p a b).2
def splN (a b : Int) (L : List (List UInt8)) : List Int := if splF a b L = 0 then L.map (fun p => (parP p a b).1) else []
theorem splF_all {a b : Int} : ∀ {L : List (List UInt8)}, (∀ p, p ∈ L → (parP p a b).2 = 0) → splF a b L = 0
  | [], _ => rfl
  | p :: ps, h => by unfold splF; rw [if_pos (h p List.mem_cons_self)]; exact splF_all fun q hq => h q (List.mem_cons_of_mem _ hq)
theorem splF_pre {a b : Int} {x : List UInt8} {t : List (List UInt8)} (hx : (parP x a b).2 ≠ 0) : ∀ {p0 : List (List UInt8)}, (∀ p, p ∈ p0 → (parP p a b).2 = 0) → splF a b (p0 ++ x :: t) = (parP x a b).2
  | [], _ => by show splF a b (x :: t) = _; unfold splF; rw [if_neg hx]
  | p :: ps, h => by
    show splF a b (p :: (ps ++ x :: t)) = _
    unfold splF
    rw [if_pos (h p List.mem_cons_self)]
    exact splF_pre hx fun q hq => h q (List.mem_cons_of_mem _ hq)
end Go.Proofs.Ytdjfelabdofaaaa
