import Derived.Test.YtakaclkhnajpeaaHistA
namespace Go.Proofs.Ytakaclkhnajpeaa
open Go.ChangeShapes Go.WideShapes Go.ChangeAt Go.RowKit
set_option linter.unusedVariables false
set_option linter.unusedSimpArgs false
/-- What an open call's end and result, or a closed one's times must be. -/
def tailP (x : OpX) : Bool := if x 14 = 1 then decide (x 15 ≤ x 16) else (x 16 == 0) && ((x 9 == 0) && eq4 (x 10) (x 11) (x 12) (x 13) 0 0 0 0)
def singleP (x : OpX) : Bool := inR (x 0) (-99) 99 && (inR (x 1) 0 1073741824 && (inR (x 15) 0 1073741824 && (inR (x 16) 0 1073741824 && (inR (x 2) 0 99 && (inR (x 3) (-99) 99 && (inR (x 9) 0 99 && tailP x))))))
set_option maxRecDepth 100000 in
set_option maxHeartbeats 4000000 in
theorem single_any (w : World) (x : OpX) : Calls Try.prog 10 #[.agg (opA x)] w fun e w' => e = .returned (.bool (singleP x)) ∧ Keeps (fun _ => False) w w' := by
  have HP := Lib.hid (show singleP x = (inR (x 0) (-99) 99 && (inR (x 1) 0 1073741824 && (inR (x 15) 0 1073741824 && (inR (x 16) 0 1073741824 && (inR (x 2) 0 99 && (inR (x 3) (-99) 99 && (inR (x 9) 0 99 && tailP x))))))) from rfl)
  have HT := Lib.hid (show tailP x = if decide (x 14 = 1) = true then decide (x 15 ≤ x 16) else (x 16 == 0) && ((x 9 == 0) && eq4 (x 10) (x 11) (x 12) (x 13) 0 0 0 0) by unfold tailP; simp)
  have hq := fun w => eq_res (x 9) (x 10) (x 11) (x 12) (x 13) 0 0 0 0 0 w
  have hX : (opA x) = #[.int .i64 (x 0), .int .i64 (x 1), .int .i64 (x 2), .int .i64 (x 3), .int .u32 (x 4), .int .u32 (x 5), .int .u32 (x 6), .int .u32 (x 7), .int .u32 (x 8), .int .i64 (x 9), .int .u32 (x 10), .int .u32 (x 11), .int .u32 (x 12), .int .u32 (x 13), .bool (decide (x 14 = 1)), .int .i64 (x 15), .int .i64 (x 16)] := rfl
  rw [hX]
  clear hX
  have HW0 := Lib.hid (fun w => within_any w (x 0) (-99) 99)
  generalize inR (x 0) (-99) 99 = b0 at HP HW0
  have HW1 := Lib.hid (fun w => within_any w (x 1) 0 1073741824)
  generalize inR (x 1) 0 1073741824 = b1 at HP HW1
  have HW2 := Lib.hid (fun w => within_any w (x 15) 0 1073741824)
  generalize inR (x 15) 0 1073741824 = b2 at HP HW2
  have HW3 := Lib.hid (fun w => within_any w (x 16) 0 1073741824)
  generalize inR (x 16) 0 1073741824 = b3 at HP HW3
  have HW4 := Lib.hid (fun w => within_any w (x 2) 0 99)
  generalize inR (x 2) 0 99 = b4 at HP HW4
  have HW5 := Lib.hid (fun w => within_any w (x 3) (-99) 99)
  generalize inR (x 3) (-99) 99 = b5 at HP HW5
  have HW6 := Lib.hid (fun w => within_any w (x 9) 0 99)
  generalize inR (x 9) 0 99 = b6 at HP HW6
  generalize tailP x = tl at HP HT
  generalize eq4 (x 10) (x 11) (x 12) (x 13) 0 0 0 0 = e4 at HT hq
  generalize decide (x 14 = 1) = d at HT ⊢
  cases b0 with
  | false =>
    clear hq HT
    go_enter Try.func10, Try.ntmps10
    go_wp2_with fail
    refine (HW0.out _).mono ?_
    rintro e0 w0 ⟨rfl, rfl⟩
    go_wp2_with fail
    go_ret
    exact ⟨by rw [HP.out]; rfl, (Keeps.refl _ w).alloc _⟩
  | true =>
    cases b1 with
    | false =>
      clear hq HT
      go_enter Try.func10, Try.ntmps10
      go_wp2_with fail
      refine (HW0.out _).mono ?_
      rintro e0 w0 ⟨rfl, rfl⟩
      go_wp2_with fail
      refine (HW1.out _).mono ?_
      rintro e1 w1 ⟨rfl, rfl⟩
      go_wp2_with fail
      go_ret
      exact ⟨by rw [HP.out]; rfl, (Keeps.refl _ w).alloc _⟩
    | true =>
      cases b2 with
      | false =>
        clear hq HT
        go_enter Try.func10, Try.ntmps10
        go_wp2_with fail
        refine (HW0.out _).mono ?_
        rintro e0 w0 ⟨rfl, rfl⟩
        go_wp2_with fail
        refine (HW1.out _).mono ?_
        rintro e1 w1 ⟨rfl, rfl⟩
        go_wp2_with fail
        refine (HW2.out _).mono ?_
        rintro e2 w2 ⟨rfl, rfl⟩
        go_wp2_with fail
        go_ret
        exact ⟨by rw [HP.out]; rfl, (Keeps.refl _ w).alloc _⟩
      | true =>
        cases b3 with
        | false =>
          clear hq HT
          go_enter Try.func10, Try.ntmps10
          go_wp2_with fail
          refine (HW0.out _).mono ?_
          rintro e0 w0 ⟨rfl, rfl⟩
          go_wp2_with fail
          refine (HW1.out _).mono ?_
          rintro e1 w1 ⟨rfl, rfl⟩
          go_wp2_with fail
          refine (HW2.out _).mono ?_
          rintro e2 w2 ⟨rfl, rfl⟩
          go_wp2_with fail
          refine (HW3.out _).mono ?_
          rintro e3 w3 ⟨rfl, rfl⟩
          go_wp2_with fail
          go_ret
          exact ⟨by rw [HP.out]; rfl, (Keeps.refl _ w).alloc _⟩
        | true =>
          cases b4 with
          | false =>
            clear hq HT
            go_enter Try.func10, Try.ntmps10
            go_wp2_with fail
            refine (HW0.out _).mono ?_
            rintro e0 w0 ⟨rfl, rfl⟩
            go_wp2_with fail
            refine (HW1.out _).mono ?_
            rintro e1 w1 ⟨rfl, rfl⟩
            go_wp2_with fail
            refine (HW2.out _).mono ?_
            rintro e2 w2 ⟨rfl, rfl⟩
            go_wp2_with fail
            refine (HW3.out _).mono ?_
            rintro e3 w3 ⟨rfl, rfl⟩
            go_wp2_with fail
            refine (HW4.out _).mono ?_
            rintro e4 w4 ⟨rfl, rfl⟩
            go_wp2_with fail
            go_ret
            exact ⟨by rw [HP.out]; rfl, (Keeps.refl _ w).alloc _⟩
          | true =>
            cases b5 with
            | false =>
              clear hq HT
              go_enter Try.func10, Try.ntmps10
              go_wp2_with fail
              refine (HW0.out _).mono ?_
              rintro e0 w0 ⟨rfl, rfl⟩
              go_wp2_with fail
              refine (HW1.out _).mono ?_
              rintro e1 w1 ⟨rfl, rfl⟩
              go_wp2_with fail
              refine (HW2.out _).mono ?_
              rintro e2 w2 ⟨rfl, rfl⟩
              go_wp2_with fail
              refine (HW3.out _).mono ?_
              rintro e3 w3 ⟨rfl, rfl⟩
              go_wp2_with fail
              refine (HW4.out _).mono ?_
              rintro e4 w4 ⟨rfl, rfl⟩
              go_wp2_with fail
              refine (HW5.out _).mono ?_
              rintro e5 w5 ⟨rfl, rfl⟩
              go_wp2_with fail
              go_ret
              exact ⟨by rw [HP.out]; rfl, (Keeps.refl _ w).alloc _⟩
            | true =>
              cases b6 with
              | false =>
                clear hq HT
                go_enter Try.func10, Try.ntmps10
                go_wp2_with fail
                refine (HW0.out _).mono ?_
                rintro e0 w0 ⟨rfl, rfl⟩
                go_wp2_with fail
                refine (HW1.out _).mono ?_
                rintro e1 w1 ⟨rfl, rfl⟩
                go_wp2_with fail
                refine (HW2.out _).mono ?_
                rintro e2 w2 ⟨rfl, rfl⟩
                go_wp2_with fail
                refine (HW3.out _).mono ?_
                rintro e3 w3 ⟨rfl, rfl⟩
                go_wp2_with fail
                refine (HW4.out _).mono ?_
                rintro e4 w4 ⟨rfl, rfl⟩
                go_wp2_with fail
                refine (HW5.out _).mono ?_
                rintro e5 w5 ⟨rfl, rfl⟩
                go_wp2_with fail
                refine (HW6.out _).mono ?_
                rintro e6 w6 ⟨rfl, rfl⟩
                go_wp2_with fail
                go_ret
                exact ⟨by rw [HP.out]; rfl, (Keeps.refl _ w).alloc _⟩
              | true =>
                cases d with
                | true =>
                  rw [HT.out] at HP
                  clear hq HT
                  go_enter Try.func10, Try.ntmps10
                  go_wp2_with fail
                  refine (HW0.out _).mono ?_
                  rintro e0 w0 ⟨rfl, rfl⟩
                  go_wp2_with fail
                  refine (HW1.out _).mono ?_
                  rintro e1 w1 ⟨rfl, rfl⟩
                  go_wp2_with fail
                  refine (HW2.out _).mono ?_
                  rintro e2 w2 ⟨rfl, rfl⟩
                  go_wp2_with fail
                  refine (HW3.out _).mono ?_
                  rintro e3 w3 ⟨rfl, rfl⟩
                  go_wp2_with fail
                  refine (HW4.out _).mono ?_
                  rintro e4 w4 ⟨rfl, rfl⟩
                  go_wp2_with fail
                  refine (HW5.out _).mono ?_
                  rintro e5 w5 ⟨rfl, rfl⟩
                  go_wp2_with fail
                  refine (HW6.out _).mono ?_
                  rintro e6 w6 ⟨rfl, rfl⟩
                  go_wp2_with fail
                  go_ret
                  exact ⟨by rw [HP.out]; rfl, (Keeps.refl _ w).alloc _⟩
                | false =>
                  rw [HT.out] at HP
                  cases h16 : (x 16 == 0) with
                  | false =>
                    rw [h16] at HP
                    go_enter Try.func10, Try.ntmps10
                    go_wp2_with fail
                    refine (HW0.out _).mono ?_
                    rintro e0 w0 ⟨rfl, rfl⟩
                    go_wp2_with fail
                    refine (HW1.out _).mono ?_
                    rintro e1 w1 ⟨rfl, rfl⟩
                    go_wp2_with fail
                    refine (HW2.out _).mono ?_
                    rintro e2 w2 ⟨rfl, rfl⟩
                    go_wp2_with fail
                    refine (HW3.out _).mono ?_
                    rintro e3 w3 ⟨rfl, rfl⟩
                    go_wp2_with fail
                    refine (HW4.out _).mono ?_
                    rintro e4 w4 ⟨rfl, rfl⟩
                    go_wp2_with fail
                    refine (HW5.out _).mono ?_
                    rintro e5 w5 ⟨rfl, rfl⟩
                    go_wp2_with fail
                    refine (HW6.out _).mono ?_
                    rintro e6 w6 ⟨rfl, rfl⟩
                    go_wp2_with fail
                    go_ret
                    exact ⟨by rw [HP.out]; rfl, (Keeps.refl _ w).alloc _⟩
                  | true =>
                    rw [h16] at HP
                    go_enter Try.func10, Try.ntmps10
                    go_wp2_with fail
                    refine (HW0.out _).mono ?_
                    rintro e0 w0 ⟨rfl, rfl⟩
                    go_wp2_with fail
                    refine (HW1.out _).mono ?_
                    rintro e1 w1 ⟨rfl, rfl⟩
                    go_wp2_with fail
                    refine (HW2.out _).mono ?_
                    rintro e2 w2 ⟨rfl, rfl⟩
                    go_wp2_with fail
                    refine (HW3.out _).mono ?_
                    rintro e3 w3 ⟨rfl, rfl⟩
                    go_wp2_with fail
                    refine (HW4.out _).mono ?_
                    rintro e4 w4 ⟨rfl, rfl⟩
                    go_wp2_with fail
                    refine (HW5.out _).mono ?_
                    rintro e5 w5 ⟨rfl, rfl⟩
                    go_wp2_with fail
                    refine (HW6.out _).mono ?_
                    rintro e6 w6 ⟨rfl, rfl⟩
                    go_wp2_with fail
                    go_ret
                    exact ⟨by rw [HP.out]; rfl, (Keeps.refl _ w).alloc _⟩
end Go.Proofs.Ytakaclkhnajpeaa
