import Derived.Test.YtdbplamhpkahaaaDeltaMath
import Derived.Test.YtdbplamhpkahaaaRow
import Derived.Laws.AppendOwn
import Derived.Deep.RegionLaw
import Derived.Deep.RegionWith
import Derived.Handy
namespace Go.Proofs.Ytdbplamhpkahaaa
open Go.ChangeShapes Go.WideShapes Go.ChangeAt Go.RowKit
set_option linter.unusedVariables false
/-- The task of the i-th node. -/
def tk (L : List Nd) (i : Nat) : Int := match L[i]? with | some a => a.t | none => 0
theorem tk_some {L : List Nd} {i : Nat} {a : Nd} (h : L[i]? = some a) : tk L i = a.t := by simp [tk, h]
theorem nums_snoc' (F : Nat → Int) (n : Nat) : nums F n ++ [Value.int .i64 (F n)] = nums F (n + 1) := by
  unfold nums
  rw [List.range_succ, List.map_append]
  rfl
theorem Try.infoD : (Try.prog.info? 3).map (fun i => (i.zero, i.size, i.bytes)) = some (some (.int .i64 0), 1, 8) := by kernel_rfl
theorem own_apart {w : World} {base : Nat} {e t : TypeId} {size n g : Nat} {v : Value} {xs : List Value} {cs : Array Value} (h : w.ownsRow base e size v n xs) (hg : w.heap[g]? = some (.cells cs t (0, 0))) (hne : e ≠ t) : v.ownBlock ≠ some g := by
  rcases h.2 with ⟨rfl, _⟩ | ⟨g', cap, cur, rfl, _, hh, _⟩
  · simp [Value.ownBlock]
  · intro he
    have e1 : g' = g := by simpa [Value.ownBlock] using he
    subst e1
    rw [hg] at hh
    injection hh with hh
    injection hh with _ ht
    exact hne ht.symm
theorem grown_cells {w w' : World} {row : Option Nat} {g : Nat} {o : Obj} (h : w.grownBy w' row) (hg : w.heap[g]? = some o) (hne : row ≠ some g) : w'.heap[g]? = some o :=
  (h.block g (lt_of hg) (fun e => hne e.symm)).trans hg
set_option maxRecDepth 20000 in
set_option maxHeartbeats 1000000 in
theorem dlist (D : Nat) (L : List Nd) (w : World) (h : IsDelta w D L) (hlen : L.length ≤ 1000) :
    Calls Try.prog 29 #[.pointer (some ⟨D, 0, none⟩)] w fun e w' => ∃ v, e = .returned v ∧ w'.ownsRow w.heap.size 3 1 v L.length (nums (tk L) L.length) ∧ Keeps (fun _ => False) w w' := by
  have H := Lib.hid h
  have lD := h.lt
  have d0 : w.cell? ⟨D, 0, none⟩ = some (.pointer (ptrOf L 0)) := cell_of h.head 0
  clear h
  go_enter Try.func29, Try.ntmps29
  go_wp2_with fail
  refine wp_scope_ghost 0 (fun m a' w' => ∃ (i : Nat) (v u5 u6 u7 u8 u9 u10 u11 u12 u13 u14 u15 u16 u17 u18 u19 u20 u21 u22 u23 u24 : Value), a' = { tmps := #[.pointer (some ⟨D, 0, none⟩), undef, .slice none 0 0, v, .pointer (ptrOf L i), u5, u6, u7, u8, u9, u10, u11, u12, u13, u14, u15, u16, u17, u18, u19, u20, u21, u22, u23, u24], defers := [] } ∧ i + m = L.length ∧ w'.ownsRow w.heap.size 3 1 v i (nums (tk L) i) ∧ Keeps (fun _ => False) w w') rfl ?_ ?_
  · rintro m a' w' ⟨i, v, u5, u6, u7, u8, u9, u10, u11, u12, u13, u14, u15, u16, u17, u18, u19, u20, u21, u22, u23, u24, rfl, him, hown, hK⟩
    have hI := H.out.none hK
    have HO := Lib.hid (And.intro hown hK)
    have hsz := hK.size
    clear hK d0
    cases hi : L[i]? with
    | none =>
      have hil : i = L.length := by have := get_ge hi; omega
      rw [ptrOf_none (get_ge hi)]
      have HL := Lib.hid hil
      clear hi hI hown hil
      go_wp2
      try simp only [Exit.jump]
      go_ret
      exact ⟨v, rfl, by rw [← HL.out]; exact HO.out.1, HO.out.2⟩
    | some a =>
      have hil := get_lt hi
      have hn := hI.node i a hi
      have n0 : w'.cell? ⟨a.g, 0, none⟩ = some (.int .i64 a.t) := cell_of hn 0
      have n2 : w'.cell? ⟨a.g, 2, none⟩ = some (.pointer (ptrOf L (i + 1))) := cell_of hn 2
      have ln := lt_of hn
      rw [ptrOf_some hi]
      have HT := Lib.hid (tk_some hi)
      have HN := Lib.hid hn
      obtain ⟨i0, hi0, hz0, hz1, hz2⟩ := info_parts Try.infoD
      clear hi hn hI hown
      go_wp2_with (at_builtin; refine wpList_append_own _ rfl (.tmp 14) (.tmp 19) 22 rfl w.heap.size 3 i0 (.int .i64 0) 1 8 Try.underlying22 hi0 hz0 hz1 hz2 rfl (by decide) _ _ _ rfl (HO.out.1.alloc _) ⟨w'.heap.size, 0, none⟩ 1 1 [.int .i64 a.t] rfl rfl (new_one _ _ _) (by simp [Value.oneCell']) (by unfold maxLen; omega) (by omega) (by simp; omega) ?_; intro v2 w2 hown2 hgrow _; have hb2 := (HO.out.2.none.alloc hsz (.cells #[Value.int .i64 a.t] 3)).grown hgrow (by simp; omega) (fun k hk => (HO.out.1.lt k hk).1); have hn2 := grown_cells hgrow (heap_old HN.out _) (fun e => own_apart HO.out.1 HN.out (by decide) e); have n3 : w2.cell? ⟨a.g, 2, none⟩ = some (.pointer (ptrOf L (i + 1))) := cell_of hn2 2; have ln2 := lt_of hn2; rw [← HT.out, nums_snoc'] at hown2; have H2 := Lib.hid (And.intro hown2 (Keeps.ofBelow hb2)); clear hown2 hgrow hb2 hn2)
      go_step3
      refine ⟨rfl, m - 1, by omega, ⟨i + 1, v2, _, _, _, _, _, _, _, _, _, _, _, _, _, _, _, _, _, _, _, _, rfl, by omega, H2.out.1, H2.out.2⟩⟩
  · intro hpass
    go_wp2_with fail
    go_step3
    rename_i K hK
    exact hK _ _ <| hpass _ _ _ ⟨0, _, _, _, _, _, _, _, _, _, _, _, _, _, _, _, _, _, _, _, _, _, rfl, Nat.zero_add _, World.ownsRow_nil _ _ _ _, Keeps.refl _ _⟩
theorem dlen (D : Nat) (L : List Nd) (w : World) (h : IsDelta w D L) (hlen : L.length ≤ 1000) :
    Calls Try.prog 28 #[.pointer (some ⟨D, 0, none⟩)] w fun e w' => e = .returned (.int .i64 (L.length : Int)) ∧ Keeps (fun _ => False) w w' := by
  have H := Lib.hid h
  clear h
  go_enter Try.func28, Try.ntmps28
  go_wp2_with fail
  refine (dlist D L w H.out hlen).mono ?_
  rintro e w' ⟨v, rfl, ho, hk⟩
  obtain ⟨a, c, rfl, _⟩ := Row.ofOwn ho
  clear ho
  go_wp2
  go_ret
  exact ⟨rfl, hk⟩
end Go.Proofs.Ytdbplamhpkahaaa
