import Derived.Test.YtpmcjajgdfmaoaaCodeO
namespace Go.Proofs.Ytpmcjajgdfmaoaa
open Go.ChangeShapes Go.WideShapes Go.ChangeAt Go.RowKit
set_option linter.unusedVariables false
set_option linter.unusedSimpArgs false
/-- A slice of strings, read. -/
theorem strs_of {w : World} {cs : List Value} (h : Reads Try.prog w 34 cs) :
    ∃ (a : Option Addr) (n c : Nat) (F : Nat → List UInt8), cs = [.slice a n c] ∧ n ≤ maxLen ∧ StrRow w a n F ∧ ∀ i, i < n → (F i).length ≤ maxLen := by
  obtain ⟨a, n, c, e, hl, hm, r⟩ := h.rows Try.underlying34 (n := 1) (by kernel_rfl) (by omega)
  rcases Nat.eq_zero_or_pos n with rfl | hp
  · exact ⟨a, 0, c, fun _ => [], e, by omega, (fun h => by omega), fun i hi => by omega⟩
  · obtain ⟨b, off, rfl, hb, hr⟩ := r hp
    obtain ⟨F, hF⟩ := Deep.choose_lt (n := n) (p := fun i (x : List UInt8) => w.cell? ⟨b, off + i, none⟩ = some (.string ⟨x.toArray⟩) ∧ x.length ≤ maxLen) (fun i hi => by
      obtain ⟨cs', _, hc, hrd⟩ := hr i hi
      obtain ⟨s, rfl, hs⟩ := hrd.string Try.underlying9
      have h0 := hc 0 (by omega)
      obtain ⟨x, rfl⟩ : ∃ l : List UInt8, s = ⟨l.toArray⟩ := ⟨s.data.toList, by apply ByteArray.ext; simp⟩
      rw [str_size] at hs
      refine ⟨x, ?_, hs⟩
      simpa using h0)
    exact ⟨_, n, c, F, e, by omega, fun _ => ⟨b, off, rfl, hb, fun i hi => (hF i hi).1⟩, fun i hi => (hF i hi).2⟩
theorem row03_of {w : World} {cs : List Value} (h : Reads Try.prog w 36 cs) :
    ∃ (N : Int) (a : Option Addr) (n c : Nat) (F : Nat → List UInt8), cs = [.int .i64 N, .slice a n c] ∧ n ≤ maxLen ∧ StrRow w a n F ∧ ∀ i, i < n → (F i).length ≤ maxLen := by
  obtain ⟨hl, hf⟩ := h.struct Try.underlying36
  have hc : Try.prog.cellsOf 36 = 2 := by kernel_rfl
  have hi : Try.prog.cellsOf 3 = 1 := by kernel_rfl
  have hs : Try.prog.cellsOf 34 = 1 := by kernel_rfl
  rw [hc] at hl
  match cs, hl with
  | [v0, v1], _ =>
    obtain ⟨N, hN, _⟩ := (h.field Try.underlying36 0 3 0 1 rfl hi).int Try.underlying3
    obtain ⟨a, n, c, F, hS, h1, h2, h3⟩ := strs_of (h.field Try.underlying36 1 34 1 1 rfl hs)
    simp at hN hS
    exact ⟨N, a, n, c, F, by simp [hN, hS], h1, h2, h3⟩
/-- Rows as an argument. -/
structure RowsIn (w : World) (a : Option Addr) (n : Nat) (L : List RowI) : Prop where
  len : L.length = n
  lies : 0 < n → ∃ b off, a = some ⟨b, off, none⟩ ∧ b < w.heap.size ∧ ∀ i r, L[i]? = some r → w.cell? ⟨b, off + i * 2, none⟩ = some (.int .i64 r.N) ∧ w.cell? ⟨b, off + i * 2 + 1, none⟩ = some (.slice r.A r.n r.c)
  ok : ∀ r, r ∈ L → r.Ok w
theorem RowsIn.below {w w' : World} {a : Option Addr} {n : Nat} {L : List RowI} (h : RowsIn w a n L) (hb : Below w.heap.size w w') : RowsIn w' a n L :=
  ⟨h.len, fun hn => by
    obtain ⟨b, off, e, hl, hc⟩ := h.lies hn
    exact ⟨b, off, e, Nat.lt_of_lt_of_le hl hb.size, fun i r hr => ⟨(hb.cell (p := ⟨b, off + i * 2, none⟩) hl).trans (hc i r hr).1, (hb.cell (p := ⟨b, off + i * 2 + 1, none⟩) hl).trans (hc i r hr).2⟩⟩, fun r hr => (h.ok r hr).below hb⟩
theorem rows_open {w : World} {cs : List Value} (h : Reads Try.prog w 33 cs) : ∃ (a : Option Addr) (n c : Nat) (L : List RowI), cs = [.slice a n c] ∧ n ≤ maxLen ∧ RowsIn w a n L := by
  obtain ⟨a, n, c, e, hl, hm, r⟩ := h.rows Try.underlying33 (n := 2) (by kernel_rfl) (by omega)
  rcases Nat.eq_zero_or_pos n with rfl | hp
  · exact ⟨a, 0, c, [], e, by omega, rfl, fun h => by omega, fun x hx => by (cases hx)⟩
  · obtain ⟨b, off, rfl, hb, hr⟩ := r hp
    haveI : Inhabited RowI := ⟨⟨0, none, 0, 0, fun _ => []⟩⟩
    obtain ⟨F, hF⟩ := Deep.choose_lt (n := n) (p := fun i (x : RowI) => x.Ok w ∧ w.cell? ⟨b, off + i * 2, none⟩ = some (.int .i64 x.N) ∧ w.cell? ⟨b, off + i * 2 + 1, none⟩ = some (.slice x.A x.n x.c)) (fun i hi => by
      obtain ⟨cs', _, hc, hrd⟩ := hr i hi
      obtain ⟨N, A, m, cc, G, rfl, h1, h2, h3⟩ := row03_of hrd
      exact ⟨⟨N, A, m, cc, G⟩, ⟨h1, h2, fun j hj => by have := h3 j hj; unfold maxLen at this; omega⟩, hc 0 (by omega), hc 1 (by omega)⟩)
    refine ⟨_, n, c, (List.range n).map F, e, by omega, by simp, fun _ => ⟨b, off, rfl, hb, fun i r hi => ?_⟩, fun x hx => ?_⟩
    · rw [List.getElem?_map] at hi
      obtain ⟨j, hj, rfl⟩ := Option.map_eq_some_iff.1 hi
      have hin : i < n := by
        rcases Nat.lt_or_ge i n with h | h
        · exact h
        · rw [List.getElem?_eq_none (by simpa using h)] at hj; cases hj
      rw [List.getElem?_range hin] at hj
      obtain rfl := Option.some.inj hj
      exact (hF _ hin).2
    · obtain ⟨i, hi, rfl⟩ := List.mem_map.1 hx
      exact (hF i (List.mem_range.1 hi)).1
theorem own_l (w : World) (a : Option Addr) (n c : Nat) (L : List RowI) (h : RowsIn w a n L) (hn : n ≤ 1000000) :
    Calls Try.prog 14 #[.slice a n c] w fun e w' => ∃ v, e = .returned v ∧ w'.ownsRow w.heap.size 57 2 v n (flatI L) ∧ Below w.heap.size w w' := by
  rcases Nat.eq_zero_or_pos n with rfl | hp
  · obtain rfl := List.length_eq_zero_iff.1 h.len
    exact own_none w a c
  · obtain ⟨b, off, rfl, hl, hc⟩ := h.lies hp
    exact own_some w b off n c L h.len hn hl hc
theorem rread_l (w : World) (a : Option Addr) (n c : Nat) (L : List RowI) (h : RowsIn w a n L) (hn : n ≤ 1000000) :
    Calls Try.prog 15 #[.slice a n c] w (ReadSays w (readL L [])) := by
  rcases Nat.eq_zero_or_pos n with rfl | hp
  · obtain rfl := List.length_eq_zero_iff.1 h.len
    exact rread_none w a c
  · obtain ⟨b, off, rfl, hl, hc⟩ := h.lies hp
    exact rread_some w b off n c L h.len hn hl hc h.ok
theorem read_v (w : World) (B : Nat) (v : Value) (n : Nat) (L : List RowI) (hL : L.length = n) (hn : n ≤ 1000000) (hown : w.ownsRow B 57 2 v n (flatI L)) (hok : ∀ r, r ∈ L → r.Ok w) :
    Calls Try.prog 13 #[v] w (ReadSays w (readL L [])) := by
  rcases n with _ | n
  · obtain rfl := List.length_eq_zero_iff.1 hL
    rcases hown.2 with ⟨rfl, _⟩ | ⟨g, cap, cur, hv, hb⟩
    · exact read_none w none 0
    · rw [hv]
      exact read_none w (some ⟨g, 0, none⟩) cap
  · obtain ⟨g, cap, rfl⟩ := ownsRow_succ hown
    refine read_some w g 0 (n + 1) cap L hL hn (hown.lt g rfl).2 (fun i r hr => ?_) hok
    obtain ⟨h1, h2⟩ := flatI_at L i r hr
    have q1 := hown.cells (g := g) rfl _ _ h1
    have q2 := hown.cells (g := g) rfl _ _ h2
    rw [addr_add] at q1 q2
    rw [show 0 + i * 2 = i * 2 by omega]
    exact ⟨q1, q2⟩
theorem same_v (w : World) (B B' : Nat) (v u : Value) (L : List CallD) (hn : L.length ≤ 1000000) (h1 : w.ownsRow B 26 7 v L.length (flatC L)) (h2 : w.ownsRow B' 26 7 u L.length (flatC L)) :
    Calls Try.prog 16 #[v, u] w fun e w' => e = .returned (.bool true) ∧ Keeps (fun _ => False) w w' := by
  have zero : ∀ {x : Value} {C : Nat}, w.ownsRow C 26 7 x 0 (flatC []) → ∃ a c, x = .slice a 0 c := by
    intro x C h
    rcases h.2 with ⟨rfl, _⟩ | ⟨g, cap, cur, hv, hb⟩
    · exact ⟨none, 0, rfl⟩
    · exact ⟨_, cap, hv⟩
  rcases L with _ | ⟨x, t⟩
  · obtain ⟨a, c, rfl⟩ := zero h1
    obtain ⟨b, d, rfl⟩ := zero h2
    exact rsamec_zero a b c d w
  · obtain ⟨g, cap, rfl⟩ := ownsRow_succ (k := t.length) h1
    obtain ⟨g', cap', rfl⟩ := ownsRow_succ (k := t.length) h2
    refine rsamec_some g 0 g' 0 (t.length + 1) cap cap' (x :: t) w rfl hn (fun j y hj => ?_) (fun j y hj => ?_)
    · have q := h1.cells (g := g) rfl j y hj
      rw [addr_add] at q
      rw [show 0 + j = j by omega]
      exact q
    · have q := h2.cells (g := g') rfl j y hj
      rw [addr_add] at q
      rw [show 0 + j = j by omega]
      exact q
theorem readL_len : ∀ (L : List RowI) (acc : List CallD), (readL L acc).1.length ≤ acc.length + L.length
  | [], acc => by show acc.length ≤ _; omega
  | r :: t, acc => by
    show (if (parseC r.n r.F).2 = 0 then readL t (acc ++ [(parseC r.n r.F).1]) else ([], r.N, (parseC r.n r.F).2)).1.length ≤ _
    split
    · have := readL_len t (acc ++ [(parseC r.n r.F).1])
      rw [List.length_append, List.length_singleton] at this
      rw [List.length_cons]
      omega
    · simp
set_option maxRecDepth 100000 in
set_option maxHeartbeats 2000000 in
theorem reads_any (w : World) (a : Option Addr) (n c : Nat) (L : List RowI) (h : RowsIn w a n L) (hn : n ≤ maxLen) :
    Calls Try.prog 4 #[.slice a n c] w fun e w' => e = .returned (.bool true) ∧ Below w.heap.size w w' := by
  unfold maxLen at hn
  by_cases h30 : 30 < n
  · have d1 : decide ((30 : Int) < (n : Int)) = true := decide_eq_true (by omega)
    clear h
    go_enter Try.func4, Try.ntmps4
    go_wp2_with fail
    refine (alive33_any _).mono ?_
    rintro e1 w1 ⟨rfl, k1⟩
    have HK := Lib.hid k1
    clear k1
    go_wp2_with fail
    go_ret
    exact ⟨rfl, HK.out⟩
  · have d1 : decide ((30 : Int) < (n : Int)) = false := decide_eq_false (by omega)
    have HR := Lib.hid h
    have HO := Lib.hid (own_l w a n c L h (by omega))
    have HRD := Lib.hid (fun w1 (hb : Below w.heap.size w w1) B v (hown : w1.ownsRow B 57 2 v n (flatI L)) => read_v w1 B v n L h.len (by omega) hown fun r hr => (h.ok r hr).below hb)
    have HRR := Lib.hid (fun w1 (hb : Below w.heap.size w w1) => rread_l w1 a n c L (h.below hb) (by omega))
    have HLN := Lib.hid (show (readL L []).1.length ≤ 1000000 by have := readL_len L []; have := h.len; simp at *; omega)
    clear h
    generalize readL L [] = p at HRD HRR HLN
    obtain ⟨pl, pn, pf⟩ := p
    have g1 : (pn == pn) = true := beq_self_eq_true pn
    have g2 : (pf == pf) = true := beq_self_eq_true pf
    go_enter Try.func4, Try.ntmps4
    go_wp2_with fail
    obtain ⟨wo, rfl⟩ : ∃ wo : World, wo = w := ⟨_, rfl⟩
    go_loopw [3] (fun i wr => ∃ k : Nat, k ≤ n ∧ i = .int .i64 (k : Int) ∧ wr = wo) (fun i _ => n - (intOf i).toNat)
    case atStart => exact ⟨0, by omega, rfl, rfl⟩
    case round =>
      obtain ⟨k, hk, rfl, rfl⟩ := hrel
      by_cases hlt : k < n
      · obtain ⟨b, off, rfl, hb, hc⟩ := HR.out.lies (by omega)
        obtain ⟨r, hr⟩ : ∃ r, L[k]? = some r := ⟨_, List.getElem?_eq_getElem (by rw [HR.out.len]; exact hlt)⟩
        have c1 : wr.cell? ⟨b, off + k * 2 + 1, none⟩ = some (.slice r.A r.n r.c) := (hc k r hr).2
        clear hc hr
        by_cases h20 : 20 < r.n
        · have d2 : decide ((20 : Int) < (r.n : Int)) = true := decide_eq_true (by omega)
          go_wp2_with fail
          refine (alive33_any _).mono ?_
          rintro e1 w1 ⟨rfl, k1⟩
          have HK := Lib.hid k1
          clear k1
          go_wp2_with fail
          go_ret
          exact ⟨rfl, HK.out⟩
        · have d2 : decide ((20 : Int) < (r.n : Int)) = false := decide_eq_false (by omega)
          go_wp2_with fail
          go_roundw
          case rel => exact ⟨k + 1, by omega, by go_num, trivial⟩
          case measure => simp [intOf]; omega
      · obtain rfl : k = n := by omega
        go_wp2_with fail
        refine HO.out.mono ?_
        rintro e1 w1 ⟨v1, rfl, o1, b1⟩
        have HRD1 := Lib.hid (HRD.out w1 b1 _ v1 o1)
        have HB1 := Lib.hid b1
        clear o1 b1 HO HRD
        go_wp2_with fail
        refine HRD1.out.mono ?_
        rintro e2 w2 ⟨v2, rfl, o2, b2⟩
        have HB2 := Lib.hid (HB1.out.trans (b2.mono HB1.out.size))
        have HO2 := Lib.hid o2
        clear o2 b2 HRD1
        dsimp only
        go_wp2_with fail
        refine (HRR.out _ HB2.out).mono ?_
        rintro e3 w3 ⟨v3, rfl, o3, b3⟩
        have HB3 := Lib.hid (HB2.out.trans (b3.mono HB2.out.size))
        have HS := Lib.hid (same_v w3 _ _ v2 v3 pl HLN.out (row_on HO2.out b3) o3)
        clear o3 b3
        dsimp only
        go_wp2_with fail
        refine HS.out.mono ?_
        rintro e4 w4 ⟨rfl, k4⟩
        have HB4 := Lib.hid (HB3.out.trans (k4.none.mono HB3.out.size))
        clear k4
        go_wp2_with fail
        refine (alive33_any _).mono ?_
        rintro e5 w5 ⟨rfl, k5⟩
        have HB5 := Lib.hid (HB4.out.trans (k5.mono HB4.out.size))
        clear k5
        go_wp2_with fail
        go_ret
        exact ⟨rfl, HB5.out⟩
set_option maxRecDepth 100000 in
theorem codeReads_walk {H : Type} {enc : TypeId × Value → H} (W : World) (base : Nat) {v0 : Value} {d0 : DataW H} {p0 : List MemPlace}
    (k0 : Value.okWide Try.prog W .any base 33 v0) (h0 : DataW.Trod enc Try.prog W 0 (fun _ => true) true 33 v0 d0 p0) :
    Calls Try.prog 4 #[v0] W fun e w' => e = .returned (.bool true) ∧ Below W.heap.size W w' := by
  obtain ⟨a, n, c, L, hcs, hn, hr⟩ := rows_open (reads_of h0)
  obtain ⟨a0, n0, c0, rfl⟩ := okWide_slice Try.underlying33 k0
  simp [Value.cells] at hcs
  obtain ⟨rfl, rfl, rfl⟩ := hcs
  exact reads_any W a0 n0 c0 L hr hn
end Go.Proofs.Ytpmcjajgdfmaoaa
