import Derived.Test.YtffhmlngnnfaeaaDoorWord
import Derived.Test.YtffhmlngnnfaeaaDoorAgain
import Derived.Laws.AppendOwn
import Derived.Deep.RegionLaw
import Derived.Deep.RegionWith
import Derived.Handy
namespace Go.Proofs.YtffhmlngnnfaeaaDoor
open Go.ChangeShapes Go.WideShapes Go.ChangeAt Go.RowKit
set_option linter.unusedVariables false

/-- Numbers as cells. -/
def ints (l : List Nat) : List Value := l.map fun n : Nat => Value.int .i64 (n : Int)
theorem tabAt_below {B g : Nat} {tab : List Nat} {w w' : World} (h : TabAt g tab w) (hb : Below B w w') (hg : g < B) : TabAt g tab w' := fun j hj => (hb.cell (p := ⟨g, j, none⟩) hg).trans (h j hj)

theorem Tryd.info3 : (Tryd.prog.info? 3).map (fun i => (i.zero, i.size, i.bytes)) = some (some (.int .i64 0), 1, 8) := by kernel_rfl
theorem new_one (w : World) (x : Value) (E : TypeId) : ∀ (j : Nat) (u : Value), [x][j]? = some u → (w.alloc (.cells #[x] E)).cell? ((⟨w.heap.size, 0, none⟩ : Addr).add j) = some u := by
  intro j u h
  rcases j with _ | j
  · have e : (⟨w.heap.size, 0, none⟩ : Addr).add 0 = ⟨w.heap.size, 0, none⟩ := by simp [Addr.add]
    rw [e, World.cell?_alloc_at _ _ _ _ rfl]
    simpa using h
  · simp at h
theorem list_any (x : Nat) (w : World) (hx : x < 4294967296) (hT : TabAt 0 Lib.deBruijn32tab w) (hg : 0 < w.heap.size) :
    Calls Tryd.prog 20 #[.int .u32 x] w fun e w' => ∃ v, e = .returned v ∧ w'.ownsRow w.heap.size 3 1 v (bitsL x).length (ints (bitsL x)) ∧ Below w.heap.size w w' := by
  go_enter Tryd.func20, Tryd.ntmps20
  go_wp2
  refine wp_scope_again 0 (fun a' w' => ∃ (y : Nat) (v : Value) (done : List Nat) (u4 u5 u6 u7 u8 u9 u10 u11 u12 u13 u14 u15 : Value), a' = { tmps := #[.int .u32 y, undef, .slice none 0 0, v, u4, u5, u6, u7, u8, u9, u10, u11, u12, u13, u14, u15], defers := [] } ∧ y < 4294967296 ∧ w'.ownsRow w.heap.size 3 1 v done.length (ints done) ∧ Below w.heap.size w w' ∧ done ++ bitsL y = bitsL x)
    (fun a _ => (intOf (a.tmps.getD 0 undef)).toNat) rfl ?_ ?_
  · rintro a' w' ⟨y, v, done, u4, u5, u6, u7, u8, u9, u10, u11, u12, u13, u14, u15, rfl, hy, hown, hb, hd⟩
    by_cases h0 : y = 0
    · subst h0
      rw [bitsL_zero, List.append_nil] at hd
      go_wp2
      simp only [Exit.jump]
      go_ret
      subst hd
      exact ⟨v, rfl, hown, hb⟩
    · have hz : ((y : Int) == 0) = false := by simp; omega
      have hc := bitsL_cons hy h0
      have hand : bits .and .u32 (y : Int) ((y : Int) - 1) = ((y &&& (y - 1) : Nat) : Int) := by
        rw [show (y : Int) - 1 = ((y - 1 : Nat) : Int) by omega]
        exact u32_and_nat _ _ hy (by omega)
      have hl : done.length ≤ 32 := by
        have h1 := bitsL_len x
        rw [← hd, List.length_append] at h1
        omega
      have hle : y &&& (y - 1) < y := by
        have : y &&& (y - 1) ≤ y - 1 := Nat.and_le_right
        omega
      have y1 : 1 ≤ (y : Int) := by omega
      have HL := Lib.hid (low_any y w' hy h0 (tabAt_below hT hb hg))
      have HC := Lib.hid hc
      have HD := Lib.hid hd
      have hsz := hb.size
      obtain ⟨i0, hi, hz0, hz1, hz2⟩ := info_parts Tryd.info3
      clear hc hd
      go_wp2_with fail
      refine HL.out.mono ?_
      rintro e w1 ⟨rfl, rfl⟩
      go_wp2_with (at_builtin; refine wpList_append_own _ rfl (.tmp 7) (.tmp 10) 23 rfl w.heap.size 3 i0 (.int .i64 0) 1 8 Tryd.underlying23 hi hz0 hz1 hz2 rfl (by decide) _ _ _ rfl (hown.alloc _) ⟨w'.heap.size, 0, none⟩ 1 1 [.int .i64 (Lib.ctz 32 y)] rfl rfl ?c1 ?c2 ?c3 ?c4 ?c5 ?_)
      case c1 => exact new_one _ _ _
      case c2 => simp [Value.oneCell']
      case c3 => unfold maxLen; omega
      case c4 => omega
      case c5 => simp; omega
      intro v' w2 hown2 hgrow _
      have hb2 := (hb.alloc hb.size (.cells #[Value.int .i64 (Lib.ctz 32 y)] 3)).grown hgrow (by simp; omega) (fun k hk => (hown.lt k hk).1)
      have hown3 : w2.ownsRow w.heap.size 3 1 v' (done ++ [Lib.ctz 32 y]).length (ints (done ++ [Lib.ctz 32 y])) := by
        simpa [ints] using hown2
      have hd2 : (done ++ [Lib.ctz 32 y]) ++ bitsL (y &&& (y - 1)) = bitsL x := by
        rw [← HD.out, HC.out]; simp
      have HD2 := Lib.hid hd2
      clear hd2 hgrow hown2 hown HL HC 
      go_wp2
      go_step3
      refine ⟨rfl, ⟨y &&& (y - 1), v', done ++ [Lib.ctz 32 y], _, _, _, _, _, _, _, _, _, _, _, _, rfl, low_and_lt hy, hown3, hb2, HD2.out⟩, ?_⟩
      simp [intOf]
      omega
  · intro hpass
    go_wp2
    go_step3
    rename_i K hK
    exact hK _ _ <| hpass _ _ ⟨x, _, [], _, _, _, _, _, _, _, _, _, _, _, _, rfl, hx, World.ownsRow_nil _ _ _ _, Below.refl _ _, rfl⟩
end Go.Proofs.YtffhmlngnnfaeaaDoor
