import Derived.Test.YtkhmfjfclpehfaaGreatSpecB
import Derived.Test.YtkhmfjfclpehfaaGreatWordMath
namespace Go.Proofs.YtkhmfjfclpehfaaGreat
open Go.ChangeShapes Go.WideShapes Go.ChangeAt Go.RowKit
set_option linter.unusedVariables false
set_option linter.unusedSimpArgs false
/-- Do flags hold as a kind asks? 4: any; 5: all. -/
def holdsP (k : Int) (x y : Nat) : Bool := if k = 4 then (x &&& y) != 0 else (x &&& y) == y
theorem nat_beq (a b : Nat) : (((a : Nat) : Int) == ((b : Nat) : Int)) = (a == b) := by
  rw [Bool.eq_iff_iff, beq_iff_eq, beq_iff_eq]
  omega
theorem has_any (w : World) (P x y : Nat) (hx : x < 4294967296) (hy : y < 4294967296) (hP : w.cell? ⟨P, 0, none⟩ = some (.int .u32 (x : Int))) :
    Calls Tryz.prog 117 #[.int .u32 (y : Int), .pointer (some ⟨P, 0, none⟩)] w fun e w' => e = .returned (.bool ((x &&& y) == y)) ∧ w' = w := by
  have e : bits .and .u32 (x : Int) (y : Int) = ((x &&& y : Nat) : Int) := u32_and_nat _ _ hx hy
  have HE := Lib.hid ((congrArg (fun z : Int => z == (y : Int)) e).trans (nat_beq (x &&& y) y))
  clear e
  go_enter Tryz.func117, Tryz.ntmps117
  go_wp2_with fail
  go_ret
  exact ⟨ret_bool HE.out, rfl⟩
theorem holds_any (w : World) (k : Int) (hk : k = 4 ∨ k = 5) (x y : Nat) (hx : x < 4294967296) (hy : y < 4294967296) :
    Calls Tryz.prog 112 #[.int .i64 k, .int .u32 (x : Int), .int .u32 (y : Int)] w fun e w' => e = .returned (.bool (holdsP k x y)) ∧ Keeps (fun _ => False) w w' := by
  have e : bits .and .u32 (x : Int) (y : Int) = ((x &&& y : Nat) : Int) := u32_and_nat _ _ hx hy
  have HK := Lib.hid ((Keeps.refl (fun _ => False) w).alloc (.cells #[.int .u32 (x : Int)] 34))
  have c0 : (w.alloc (.cells #[.int .u32 (x : Int)] 34)).cell? ⟨w.heap.size, 0, none⟩ = some (.int .u32 (x : Int)) := cell_of (heap_new w _) 0
  have HH := Lib.hid (has_any _ w.heap.size x y hx hy c0)
  clear c0
  rcases hk with rfl | rfl
  · have HE := Lib.hid (show (bits .and .u32 (x : Int) (y : Int) != 0) = holdsP 4 x y by
      show (!(bits .and .u32 (x : Int) (y : Int) == 0)) = _
      rw [e]
      have h := nat_beq (x &&& y) 0
      show (!(((x &&& y : Nat) : Int) == ((0 : Nat) : Int))) = _
      rw [h]
      rfl)
    clear e HH
    go_enter Tryz.func112, Tryz.ntmps112
    go_wp2_with fail
    go_ret
    exact ⟨ret_bool HE.out, HK.out⟩
  · clear e
    go_enter Tryz.func112, Tryz.ntmps112
    go_wp2_with fail
    refine HH.out.mono ?_
    rintro e1 w1 ⟨rfl, rfl⟩
    go_wp2_with fail
    go_ret
    exact ⟨rfl, HK.out⟩
end Go.Proofs.YtkhmfjfclpehfaaGreat
