import Derived.Test.YtjpbfmhfjlbcgaaRotorTk
import Derived.Test.YtjpbfmhfjlbcgaaRow
import Derived.Laws.AppendOwn
import Derived.Handy
import Derived.BigRegion
namespace Go.Proofs.Ytjpbfmhfjlbcgaa
open Go.ChangeShapes Go.WideShapes Go.ChangeAt Go.RowKit
set_option linter.unusedVariables false
set_option linter.unusedSimpArgs false
theorem nums_snoc' (F : Nat → Int) (n : Nat) : nums F n ++ [Value.int .i64 (F n)] = nums F (n + 1) := by
  unfold nums
  rw [List.range_succ, List.map_append]
  rfl
theorem Try.infoD : (Try.prog.info? 3).map (fun i => (i.zero, i.size, i.bytes)) = some (some (.int .i64 0), 1, 8) := by kernel_rfl
theorem own_apart {w : World} {base : Nat} {e t : TypeId} {size n g : Nat} {v : Value} {xs : List Value} {cs : Array Value} (h : w.ownsRow base e size v n xs) (hg : w.heap[g]? = some (.cells cs t (0, 0))) (hne : e ≠ t) : v.ownBlock ≠ some g := by
  rcases h.2 with ⟨rfl, _⟩ | ⟨g', cap, cur, rfl, _, hh, _⟩
  · simp [Value.ownBlock]
  · intro he
    have e1 : g' = g := by simpa [Value.ownBlock] using he
    subst e1
    rw [hg] at hh
    injection hh with hh
    injection hh with _ ht
    exact hne ht.symm
theorem grown_cells {w w' : World} {row : Option Nat} {g : Nat} {o : Obj} (h : w.grownBy w' row) (hg : w.heap[g]? = some o) (hne : row ≠ some g) : w'.heap[g]? = some o :=
  (h.block g (lt_of hg) (fun e => hne e.symm)).trans hg
/-- The choice's arithmetic at a point. -/
theorem choice_arith (u v p levels calm : Int) (hu : 0 ≤ u ∧ u ≤ 1000) (hv : 0 ≤ v ∧ v ≤ 1000) (hp : 0 < p ∧ p ≤ 1000) (hl : 0 ≤ levels ∧ levels ≤ 31) (hc : 1 ≤ calm ∧ calm ≤ 1000) :
    (IntKind.i64.wrap (u * p) = u * p ∧ wrap64 (u * p) = u * p) ∧ (IntKind.i64.wrap (u * p + v) = u * p + v ∧ wrap64 (u * p + v) = u * p + v) ∧ (IntKind.i64.wrap (calm + levels) = calm + levels ∧ wrap64 (calm + levels) = calm + levels) ∧ (u * p + v).tmod (calm + levels) = (u * p + v) % (calm + levels) ∧ 0 ≤ (u * p + v) % (calm + levels) ∧ (u * p + v) % (calm + levels) < calm + levels := by
  have h := mul_lim hu (show 0 ≤ p ∧ p ≤ 1000 by omega)
  generalize u * p = q at *
  have e1 := Int.emod_nonneg (q + v) (show calm + levels ≠ 0 by omega)
  have e2 := Int.emod_lt_of_pos (q + v) (show 0 < calm + levels by omega)
  have e3 : (q + v).tmod (calm + levels) = (q + v) % (calm + levels) := Int.tmod_eq_emod_of_nonneg (by omega)
  refine ⟨⟨wrap_in _ ⟨by omega, by omega⟩, ?_⟩, ⟨wrap_in _ ⟨by omega, by omega⟩, ?_⟩, ⟨wrap_in _ ⟨by omega, by omega⟩, ?_⟩, e3, e1, e2⟩
  all_goals rw [IntWalk.wrap64_in _ ⟨by omega, by omega⟩]
theorem own_keeps {w w' : World} {base : Nat} {e : TypeId} {size n : Nat} {v : Value} {xs : List Value} (h : w.ownsRow base e size v n xs) (k : Keeps (fun _ => False) w w') : w'.ownsRow base e size v n xs := by
  refine ⟨h.1, ?_⟩
  rcases h.2 with h2 | ⟨g', cap, cur, rfl, hb, hh, h3⟩
  · exact .inl h2
  · exact .inr ⟨g', cap, cur, rfl, hb, k.at hh fun h => h, h3⟩
theorem own_set {w : World} {base : Nat} {e t : TypeId} {size n g : Nat} {v : Value} {xs : List Value} {cs : Array Value} (h : w.ownsRow base e size v n xs) (hg : w.heap[g]? = some (.cells cs t (0, 0))) (hne : e ≠ t) (i : Nat) (u : Value) : (w.setCell ⟨g, i, none⟩ u).ownsRow base e size v n xs := by
  refine ⟨h.1, ?_⟩
  rcases h.2 with h2 | ⟨g', cap, cur, rfl, hb, hh, h3⟩
  · exact .inl h2
  · refine .inr ⟨g', cap, cur, rfl, hb, heap_other hh (fun e2 => ?_) _, h3⟩
    have e3 : g' = g := e2
    subst e3
    rw [hg] at hh
    injection hh with hh
    injection hh with _ ht
    exact hne ht.symm
/-- The reference's Take, behind k rounds. -/
structure TF (wo wr : World) (x y a b c d p : Int) (out : Value) (k : Nat) (CH : Nat → Int) : Prop where
  rb : RB 25 wo wr x y a b c d p
  own : wr.ownsRow wo.heap.size 3 1 out k (nums CH k)
section
variable {wo wr w2 : World} {x y a b c d p x' y' a' b' c' d' p' : Int} {out : Value} {k : Nat} {CH : Nat → Int}
theorem TF.none (h : TF wo wr x y a b c d p out k CH) (kk : Keeps (fun _ => False) wr w2) : TF wo w2 x y a b c d p out k CH := ⟨h.rb.none kk, own_keeps h.own kk⟩
theorem TF.put (h : TF wo wr x y a b c d p out k CH) : TF wo (((((((wr.setCell ⟨wo.heap.size, 0, Option.none⟩ (.int .i64 x')).setCell ⟨wo.heap.size, 1, Option.none⟩ (.int .i64 y')).setCell ⟨wo.heap.size, 2, Option.none⟩ (.int .i64 a')).setCell ⟨wo.heap.size, 3, Option.none⟩ (.int .i64 b')).setCell ⟨wo.heap.size, 4, Option.none⟩ (.int .i64 c')).setCell ⟨wo.heap.size, 5, Option.none⟩ (.int .i64 d')).setCell ⟨wo.heap.size, 6, Option.none⟩ (.int .i64 p')) x' y' a' b' c' d' p' out k CH := by
  have e0 := heap_set h.rb.one 0 (.int .i64 x')
  have e1 := heap_set e0 1 (.int .i64 y')
  have e2 := heap_set e1 2 (.int .i64 a')
  have e3 := heap_set e2 3 (.int .i64 b')
  have e4 := heap_set e3 4 (.int .i64 c')
  have e5 := heap_set e4 5 (.int .i64 d')
  exact ⟨h.rb.put, own_set (own_set (own_set (own_set (own_set (own_set (own_set h.own h.rb.one (by decide) 0 _) e0 (by decide) 1 _) e1 (by decide) 2 _) e2 (by decide) 3 _) e3 (by decide) 4 _) e4 (by decide) 5 _) e5 (by decide) 6 _⟩
theorem TF.fin (h : TF wo wr x y a b c d p out k CH) : (((((((wr.setCell ⟨wo.heap.size + 1, 0, Option.none⟩ (.int .i64 x')).setCell ⟨wo.heap.size + 1, 1, Option.none⟩ (.int .i64 y')).setCell ⟨wo.heap.size + 1, 2, Option.none⟩ (.int .i64 a')).setCell ⟨wo.heap.size + 1, 3, Option.none⟩ (.int .i64 b')).setCell ⟨wo.heap.size + 1, 4, Option.none⟩ (.int .i64 c')).setCell ⟨wo.heap.size + 1, 5, Option.none⟩ (.int .i64 d')).setCell ⟨wo.heap.size + 1, 6, Option.none⟩ (.int .i64 p')).drew.ownsRow wo.heap.size 3 1 out k (nums CH k) ∧ Keeps (fun _ => False) wo (((((((wr.setCell ⟨wo.heap.size + 1, 0, Option.none⟩ (.int .i64 x')).setCell ⟨wo.heap.size + 1, 1, Option.none⟩ (.int .i64 y')).setCell ⟨wo.heap.size + 1, 2, Option.none⟩ (.int .i64 a')).setCell ⟨wo.heap.size + 1, 3, Option.none⟩ (.int .i64 b')).setCell ⟨wo.heap.size + 1, 4, Option.none⟩ (.int .i64 c')).setCell ⟨wo.heap.size + 1, 5, Option.none⟩ (.int .i64 d')).setCell ⟨wo.heap.size + 1, 6, Option.none⟩ (.int .i64 p')).drew := by
  have e0 := heap_set h.rb.res 0 (.int .i64 x')
  have e1 := heap_set e0 1 (.int .i64 y')
  have e2 := heap_set e1 2 (.int .i64 a')
  have e3 := heap_set e2 3 (.int .i64 b')
  have e4 := heap_set e3 4 (.int .i64 c')
  have e5 := heap_set e4 5 (.int .i64 d')
  have ho := own_set (own_set (own_set (own_set (own_set (own_set (own_set h.own h.rb.res (by decide) 0 (.int .i64 x')) e0 (by decide) 1 (.int .i64 y')) e1 (by decide) 2 (.int .i64 a')) e2 (by decide) 3 (.int .i64 b')) e3 (by decide) 4 (.int .i64 c')) e4 (by decide) 5 (.int .i64 d')) e5 (by decide) 6 (.int .i64 p')
  exact ⟨own_keeps ho (Keeps.refl _ _).drew, h.rb.seven.drew⟩
theorem TF.more (h : TF wo wr x y a b c d p out k CH) {o : Obj} {v2 : Value} (hg : (wr.alloc o).grownBy w2 out.ownBlock) (ho : w2.ownsRow wo.heap.size 3 1 v2 (k + 1) (nums CH k ++ [.int .i64 (CH k)])) : TF wo w2 x y a b c d p v2 (k + 1) CH := by
  have hb := (h.rb.keeps.none.alloc h.rb.keeps.size o).grown hg (Nat.le_trans h.rb.keeps.size (by simp)) (fun q hq => (h.own.lt q hq).1)
  rw [nums_snoc'] at ho
  exact ⟨⟨Keeps.ofBelow hb, grown_cells hg (heap_old h.rb.one _) (own_apart h.own h.rb.one (by decide)), grown_cells hg (heap_old h.rb.res _) (own_apart h.own h.rb.res (by decide))⟩, ho⟩
end
end Go.Proofs.Ytjpbfmhfjlbcgaa
