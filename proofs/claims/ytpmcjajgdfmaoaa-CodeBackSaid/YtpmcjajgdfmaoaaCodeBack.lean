import Derived.Test.YtpmcjajgdfmaoaaCodeP
import Derived.Test.YtpmcjajgdfmaoaaCodeM
namespace Go.Proofs.Ytpmcjajgdfmaoaa
open Go.ChangeShapes Go.WideShapes Go.ChangeAt Go.RowKit
set_option linter.unusedVariables false
set_option linter.unusedSimpArgs false
/-- Calls as an argument. -/
structure CallsAt (w : World) (a : Option Addr) (n : Nat) (L : List CallD) : Prop where
  len : L.length = n
  lies : 0 < n → ∃ b off, a = some ⟨b, off, none⟩ ∧ b < w.heap.size ∧ ∀ j v, (flatC L)[j]? = some v → w.cell? ⟨b, off + j, none⟩ = some v
theorem CallsAt.below {w w' : World} {a : Option Addr} {n : Nat} {L : List CallD} (h : CallsAt w a n L) (hb : Below w.heap.size w w') : CallsAt w' a n L :=
  ⟨h.len, fun hn => by
    obtain ⟨b, off, e, hl, hc⟩ := h.lies hn
    exact ⟨b, off, e, Nat.lt_of_lt_of_le hl hb.size, fun j v hj => (hb.cell (p := ⟨b, off + j, none⟩) hl).trans (hc j v hj)⟩⟩
theorem all_l (w : World) (a : Option Addr) (n c : Nat) (L : List CallD) (h : CallsAt w a n L) (hn : n ≤ 1000) (hok : ∀ x, x ∈ L → x.Ok) :
    Calls Try.prog 18 #[.slice a n c] w fun e w' => e = .returned (.string ⟨(allC L).toArray⟩) ∧ Below w.heap.size w w' := by
  rcases Nat.eq_zero_or_pos n with rfl | hp
  · obtain rfl := List.length_eq_zero_iff.1 h.len
    exact allc_none w a c
  · obtain ⟨b, off, rfl, hl, hc⟩ := h.lies hp
    exact allc_some w b off n c L h.len hn hok hl hc
theorem same_l (w : World) (B : Nat) (v : Value) (a : Option Addr) (n c : Nat) (L : List CallD) (h : CallsAt w a n L) (hn : n ≤ 1000) (h1 : w.ownsRow B 26 7 v L.length (flatC L)) :
    Calls Try.prog 16 #[v, .slice a n c] w fun e w' => e = .returned (.bool true) ∧ Keeps (fun _ => False) w w' := by
  have hL := h.len
  subst hL
  rcases L with _ | ⟨x, t⟩
  · rcases h1.2 with ⟨rfl, _⟩ | ⟨g, cap, cur, hv, hb⟩
    · exact rsamec_zero none a 0 c w
    · rw [hv]
      exact rsamec_zero _ a cap c w
  · obtain ⟨b, off, rfl, hl, hc⟩ := h.lies (by simp)
    obtain ⟨g, cap, rfl⟩ := ownsRow_succ (k := t.length) h1
    refine rsamec_some g 0 b off (t.length + 1) cap c (x :: t) w rfl (by simp at hn; omega) (fun j y hj => ?_) hc
    have q := h1.cells (g := g) rfl j y hj
    rw [addr_add] at q
    rw [show 0 + j = j by omega]
    exact q
/-- **What was printed is read again.** -/
theorem rows_back (w : World) (L : List CallD) (hn : L.length ≤ 1000) (hf : ∀ c, c ∈ L → c.Fit) :
    Calls Try.prog 17 #[.string ⟨(allC L).toArray⟩] w fun e w' => ∃ v, e = .returned v ∧ Below w.heap.size w w' ∧ Calls Try.prog 13 #[v] w' (ReadSays w' (L, 0, 0)) := by
  have hl := allC_len L fun c hc => (hf c hc).ok
  refine (all_any w (allC L) (by omega) (linesC 1 L) (lines_all L 1) (by rw [linesC_len]; omega) (fun x hx => ?_)).mono ?_
  · obtain ⟨c, hc, e⟩ := linesC_mem L 1 x hx
    rw [e]
    have := printC_len c (hf c hc).ok
    omega
  · rintro e w' ⟨v, R, rfl, hR, hown, hat, hB⟩
    refine ⟨v, rfl, hB, ?_⟩
    rw [rows_lines] at hR
    have h := read_rows w' _ v R (by have h := congrArg List.length hR; rw [List.length_map, rowsC_len] at h; omega) hown hat (fun r hr => by
      have hk : keyR r ∈ R.map keyR := List.mem_map_of_mem hr
      rw [hR] at hk
      obtain ⟨c, hc, e⟩ := rowsC_mem L 1 _ hk
      have e : r.ws = strsC c := e
      obtain ⟨h1, h2⟩ := strsC_small c (hf c hc).ok
      rw [e]
      refine ⟨by unfold maxLen; omega, fun i s hs => ?_⟩
      have := h2 s (List.mem_of_getElem? hs)
      omega)
    rw [hR, read_rowsC L 1 [] hf] at h
    exact h
set_option maxRecDepth 100000 in
set_option maxHeartbeats 2000000 in
theorem back_any (w : World) (a : Option Addr) (n c : Nat) (L : List CallD) (h : CallsAt w a n L) (hn : n ≤ maxLen) (hok : ∀ x, x ∈ L → x.Ok) :
    Calls Try.prog 5 #[.slice a n c] w fun e w' => e = .returned (.bool true) ∧ Below w.heap.size w w' := by
  unfold maxLen at hn
  by_cases h30 : 30 < n
  · have d1 : decide ((30 : Int) < (n : Int)) = true := decide_eq_true (by omega)
    clear h hok
    go_enter Try.func5, Try.ntmps5
    go_wp2_with fail
    refine (alive33_any _).mono ?_
    rintro e1 w1 ⟨rfl, k1⟩
    have HK := Lib.hid k1
    clear k1
    go_wp2_with fail
    go_ret
    exact ⟨rfl, HK.out⟩
  · have d1 : decide ((30 : Int) < (n : Int)) = false := decide_eq_false (by omega)
    have HR := Lib.hid h
    have HOK := Lib.hid hok
    have HA := Lib.hid (all_l w a n c L h (by omega) hok)
    have HRB := Lib.hid (fun hf w1 => rows_back w1 L (by have := h.len; omega) hf)
    generalize hS : (⟨(allC L).toArray⟩ : ByteArray) = S at HA HRB
    have g1 : ((0 : Int) == 0) = true := rfl
    clear h hok hS
    go_enter Try.func5, Try.ntmps5
    go_wp2_with fail
    obtain ⟨wo, rfl⟩ : ∃ wo : World, wo = w := ⟨_, rfl⟩
    go_loopw [3] (fun i wr => ∃ k : Nat, k ≤ n ∧ i = .int .i64 (k : Int) ∧ wr = wo ∧ ∀ j x, j < k → L[j]? = some x → x.Fit) (fun i _ => n - (intOf i).toNat)
    case atStart => exact ⟨0, by omega, rfl, rfl, fun j x hj => by omega⟩
    case round =>
      obtain ⟨k, hk, rfl, rfl, hfit⟩ := hrel
      by_cases hlt : k < n
      · obtain ⟨b, off, rfl, hb, hc⟩ := HR.out.lies (by omega)
        obtain ⟨r, hr⟩ : ∃ r, L[k]? = some r := ⟨_, List.getElem?_eq_getElem (by rw [HR.out.len]; exact hlt)⟩
        have HRO := Lib.hid (HOK.out r (List.mem_of_getElem? hr))
        have c0 : wr.cell? ⟨b, off + k * 7, none⟩ = some (.int .i64 r.k) := hc _ _ (flatC_at L k r 0 _ hr rfl)
        have c1 : wr.cell? ⟨b, off + k * 7 + 1, none⟩ = some (.int .i64 r.o) := by rw [Nat.add_assoc]; exact hc _ _ (flatC_at L k r 1 _ hr rfl)
        have HFT := Lib.hid hfit
        have HRK := Lib.hid hr
        have dk : decide (k < n) = true := decide_eq_true hlt
        clear hc hr hfit
        by_cases t1 : r.o < -2147483648
        · have e1 : decide (r.o < -2147483648) = true := decide_eq_true t1
          clear t1 HFT HRK
          go_wp2_with fail
          refine (alive33_any _).mono ?_
          rintro e1 w1 ⟨rfl, k1⟩
          have HK := Lib.hid k1
          clear k1
          go_wp2_with fail
          go_ret
          exact ⟨rfl, HK.out⟩
        have e1 : decide (r.o < -2147483648) = false := decide_eq_false t1
        by_cases t2 : 2147483648 ≤ r.o
        · have e2 : decide (2147483648 ≤ r.o) = true := decide_eq_true t2
          clear t1 t2 HFT HRK
          go_wp2_with fail
          refine (alive33_any _).mono ?_
          rintro e1 w1 ⟨rfl, k1⟩
          have HK := Lib.hid k1
          clear k1
          go_wp2_with fail
          go_ret
          exact ⟨rfl, HK.out⟩
        have e2 : decide (2147483648 ≤ r.o) = false := decide_eq_false t2
        by_cases t3 : r.k < -1125899906842624
        · have e3 : decide (r.k < -1125899906842624) = true := decide_eq_true t3
          clear t1 t2 t3 HFT HRK
          go_wp2_with fail
          refine (alive33_any _).mono ?_
          rintro e1 w1 ⟨rfl, k1⟩
          have HK := Lib.hid k1
          clear k1
          go_wp2_with fail
          go_ret
          exact ⟨rfl, HK.out⟩
        have e3 : decide (r.k < -1125899906842624) = false := decide_eq_false t3
        by_cases t4 : 1125899906842624 < r.k
        · have e4 : decide (1125899906842624 < r.k) = true := decide_eq_true t4
          clear t1 t2 t3 t4 HFT HRK
          go_wp2_with fail
          refine (alive33_any _).mono ?_
          rintro e1 w1 ⟨rfl, k1⟩
          have HK := Lib.hid k1
          clear k1
          go_wp2_with fail
          go_ret
          exact ⟨rfl, HK.out⟩
        have e4 : decide (1125899906842624 < r.k) = false := decide_eq_false t4
        have HF2 := Lib.hid (show ∀ j x, j < k + 1 → L[j]? = some x → x.Fit from fun j x hj hx => by
          by_cases e : j = k
          · subst e
            obtain rfl := Option.some.inj (HRK.out.symm.trans hx)
            exact ⟨by omega, by omega, HRO.out.v0, HRO.out.v1, HRO.out.v2, HRO.out.v3, HRO.out.n⟩
          · exact HFT.out j x (by omega) hx)
        clear t1 t2 t3 t4 HFT HRK
        go_wp2_with fail
        go_roundw
        case rel => exact ⟨k + 1, by omega, by go_num, by first | rfl | trivial, HF2.out⟩
        case measure => simp [intOf]; omega
      · obtain rfl : k = n := by omega
        have HFI := Lib.hid (show ∀ x, x ∈ L → x.Fit from fun x hx => by
          obtain ⟨j, hj, rfl⟩ := List.getElem_of_mem hx
          exact hfit j _ (by have := HR.out.len; omega) (List.getElem?_eq_getElem hj))
        clear hfit
        go_wp2_with fail
        refine HA.out.mono ?_
        rintro e1 w1 ⟨rfl, b1⟩
        have HB1 := Lib.hid b1
        have HRB1 := Lib.hid (HRB.out HFI.out w1)
        clear b1 HA HRB
        go_wp2_with fail
        refine HRB1.out.mono ?_
        rintro e2 w2 ⟨v2, rfl, b2, hrd⟩
        have HB2 := Lib.hid (HB1.out.trans (b2.mono HB1.out.size))
        have HRD := Lib.hid hrd
        clear b2 hrd HRB1
        go_wp2_with fail
        refine HRD.out.mono ?_
        rintro e3 w3 ⟨v3, rfl, o3, b3⟩
        have HB3 := Lib.hid (HB2.out.trans (b3.mono HB2.out.size))
        have HS := Lib.hid (same_l w3 _ v3 a k c L (HR.out.below HB3.out) (by omega) o3)
        clear o3 b3 HRD
        dsimp only
        go_wp2_with fail
        refine HS.out.mono ?_
        rintro e4 w4 ⟨rfl, k4⟩
        have HB4 := Lib.hid (HB3.out.trans (k4.none.mono HB3.out.size))
        clear k4
        go_wp2_with fail
        refine (alive33_any _).mono ?_
        rintro e5 w5 ⟨rfl, k5⟩
        have HB5 := Lib.hid (HB4.out.trans (k5.mono HB4.out.size))
        clear k5
        go_wp2_with fail
        go_ret
        exact ⟨rfl, HB5.out⟩
set_option maxRecDepth 100000 in
theorem codeBack_walk {H : Type} {enc : TypeId × Value → H} (W : World) (base : Nat) {v0 : Value} {d0 : DataW H} {p0 : List MemPlace}
    (k0 : Value.okWide Try.prog W .any base 37 v0) (h0 : DataW.Trod enc Try.prog W 0 (fun _ => true) true 37 v0 d0 p0) :
    Calls Try.prog 5 #[v0] W fun e w' => e = .returned (.bool true) ∧ Below W.heap.size W w' := by
  obtain ⟨a, n, c, L, hcs, hn, hl, hok, hlies⟩ := calls_open (reads_of h0)
  obtain ⟨a0, n0, c0, rfl⟩ := okWide_slice Try.underlying37 k0
  simp [Value.cells] at hcs
  obtain ⟨rfl, rfl, rfl⟩ := hcs
  exact back_any W a0 n0 c0 L ⟨hl, hlies⟩ hn hok
end Go.Proofs.Ytpmcjajgdfmaoaa
