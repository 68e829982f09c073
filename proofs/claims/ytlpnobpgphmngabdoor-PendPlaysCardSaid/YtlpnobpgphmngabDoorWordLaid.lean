import Derived.Test.YtlpnobpgphmngabDoorWordLow
import Derived.LaidMore
import Derived.LaidHandle
import Derived.Stop.Joined
namespace Go.Proofs.YtlpnobpgphmngabDoor
open Go.ChangeShapes Go.WideShapes Go.ChangeAt Go.RowKit
set_option linter.unusedVariables false
def tabLaid : List (String × DataW Unit) := [("math/bits.deBruijn32tab", Rows.laid_math_bits_deBruijn32tab)]
theorem tab_named : Tryd.prog.globalNamed "math/bits.deBruijn32tab" = some 0 := by kernel_rfl
theorem tab_type : (Tryd.prog.globals[0]?).map (·.type) = some 63 := by kernel_rfl
/-- What the tie gives: the table lies in its variable. -/
theorem tab_of {W : World} (h : laidMetH Tryd.prog tabLaid W) : TabAt 0 Lib.deBruijn32tab W ∧ 0 < W.heap.size := by
  rw [MakeChecks.laidMetH_plain _ _ _ (by kernel_rfl)] at h
  obtain ⟨ps, ⟨g0, t0, cs0, f0, p0, q0, hg0, ht0, hv0, hd0, _, _⟩, _, _⟩ := h
  obtain rfl := Option.some.inj (tab_named.symm.trans hg0)
  obtain rfl := Option.some.inj (tab_type.symm.trans ht0)
  obtain ⟨xs, m, _, hx, hl, hlen, hh⟩ := DataW.trod_array Tryd.underlying63 hd0
  have hagg : (Rows.laid_math_bits_deBruijn32tab : DataW Unit) = .agg (Lib.deBruijn32tab.map fun n : Nat => .lit (.int .u8 (n : Int))) := rfl
  rw [hagg] at hx
  have hL : (Lib.deBruijn32tab.map fun n : Nat => (DataW.lit (.int .u8 (n : Int)) : DataW Unit)) = xs.map (·.1) := by
    have := congrArg Prod.fst hx
    simpa using this
  have hce : Tryd.prog.cellsOf 5 = 1 := by kernel_rfl
  have hT : TabAt 0 Lib.deBruijn32tab W := by
    intro j hj
    have hj32 : j < 32 := hj
    have h1 := hh j hj32
    rw [hce, List.getElem?_eq_getElem (by omega)] at h1
    obtain ⟨n, h2, h3, _⟩ := DataW.trod_int Tryd.underlying5 h1
    have h4 : (xs.map (·.1))[j]? = some (DataW.lit (.int .u8 n)) := by
      rw [List.getElem?_map, List.getElem?_eq_getElem (by omega), h3]; rfl
    rw [← hL, List.getElem?_map, List.getElem?_eq_getElem hj] at h4
    have h5 : n = (Lib.deBruijn32tab[j] : Int) := by
      have := Option.some.inj h4
      injection this with this
      injection this with _ this
      exact this.symm
    rw [World.var?_cell tab_named hv0 j]
    have h6 : cs0.toList[j]? = some (.int .u8 n) := by
      have := congrArg (fun l => l[0]?) h2
      simpa using this
    rw [← Array.getElem?_toList, h6, h5]
    simp [List.getD_eq_getElem?_getD, hj]
    rfl
  refine ⟨hT, ?_⟩
  have h0 := hT 0 (by decide)
  unfold World.cell? at h0
  rcases Nat.lt_or_ge 0 W.heap.size with h1 | h1
  · exact h1
  · rw [Array.getElem?_eq_none h1] at h0
    simp at h0
end Go.Proofs.YtlpnobpgphmngabDoor
