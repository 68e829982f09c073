import Derived.Test.YtffhmlngnnfaeaaDoorWordList
namespace Go.Proofs.YtffhmlngnnfaeaaDoor
open Go.ChangeShapes Go.WideShapes Go.ChangeAt Go.RowKit
set_option linter.unusedVariables false
theorem pop8_fin : ∀ n : Fin 256, Lib.pop8 (n.val : Int) = (pop 8 n.val : Int) := by decide +kernel
theorem pop8tab_at : ∀ n (h : n < Lib.pop8tab.size), Lib.pop8tab[n].toNat = pop 8 n := by decide +kernel
theorem ones_any (x : Nat) (w : World) (hx : x < 4294967296) :
    Calls Tryd.prog 30 #[.int .u32 x] w fun e w' => ∃ n, e = .returned (.int .i64 (bitsL x).length) ∧ w' = w.drewN n := by
  have b1 : bits .and .u32 ((x : Int) / 65536) 255 = ((x / 65536 % 256 : Nat) : Int) := by
    have := u32_and_nat (x / 65536) 255 (by omega) (by omega)
    rw [nat_mask8] at this
    exact this
  have b2 : bits .and .u32 ((x : Int) / 256) 255 = ((x / 256 % 256 : Nat) : Int) := by
    have := u32_and_nat (x / 256) 255 (by omega) (by omega)
    rw [nat_mask8] at this
    exact this
  have b3 : bits .and .u32 (x : Int) 255 = ((x % 256 : Nat) : Int) := by
    have := u32_and_nat x 255 (by omega) (by omega)
    rw [nat_mask8] at this
    exact this
  have hs : Lib.pop8tab.size = 256 := by decide +kernel
  have p1 : (x : Int) / 16777216 < (Lib.pop8tab.size : Int) := by rw [hs]; omega
  have p2 : ((x / 65536 % 256 : Nat) : Int) < (Lib.pop8tab.size : Int) := by rw [hs]; omega
  have p3 : ((x / 256 % 256 : Nat) : Int) < (Lib.pop8tab.size : Int) := by rw [hs]; omega
  have p4 : ((x % 256 : Nat) : Int) < (Lib.pop8tab.size : Int) := by rw [hs]; omega
  have p5 : 0 ≤ (x : Int) / 16777216 := by omega
  have HS := Lib.hid hs
  clear hs
  go_enter Tryd.func30, Tryd.ntmps30
  go_wp2_with fail
  go_quiet (fail)
  go_wp2
  go_ret
  refine ⟨_, ret_i64 ?_, rfl⟩
  have q1 := pop8tab_at (x / 16777216) (by rw [HS.out]; omega)
  have q2 : Lib.pop8 ((x : Int) / 65536 % 256) = (pop 8 (x / 65536 % 256) : Int) := pop8_fin ⟨x / 65536 % 256, by omega⟩
  have q3 : Lib.pop8 ((x : Int) / 256 % 256) = (pop 8 (x / 256 % 256) : Int) := pop8_fin ⟨x / 256 % 256, by omega⟩
  have q4 : Lib.pop8 ((x : Int) % 256) = (pop 8 (x % 256) : Int) := pop8_fin ⟨x % 256, by omega⟩
  have e := pop_bytes x
  have l := bitsL_len x
  have m : x / 16777216 % 256 = x / 16777216 := by omega
  rw [m] at e
  rw [q1, q2, q3, q4, e]
  omega
theorem count_any (x : Nat) (w : World) (hx : x < 4294967296) :
    Calls Tryd.prog 15 #[.int .u32 x] w fun e w' => ∃ n, e = .returned (.int .i64 (bitsL x).length) ∧ w' = w.drewN n := by
  go_enter Tryd.func15, Tryd.ntmps15
  go_wp2_with fail
  refine (ones_any x _ hx).mono ?_
  rintro e w' ⟨n, rfl, rfl⟩
  go_wp2
  go_ret
  exact ⟨n, rfl, rfl⟩
end Go.Proofs.YtffhmlngnnfaeaaDoor
