import Derived.Test.YtdjfelabdofaaaaCodeK
import Derived.Test.YtdjfelabdofaaaaNumM
import Derived.Test.YtdjfelabdofaaaaCfD
import Derived.Test.YtdjfelabdofaaaaBldC
import Derived.Test.YtdjfelabdofaaaaTextO
import Derived.Test.YtdjfelabdofaaaaRAll
namespace Go.Proofs.Ytdjfelabdofaaaa
open Go.ChangeShapes Go.WideShapes Go.ChangeAt Go.RowKit
set_option linter.unusedVariables false
set_option linter.unusedSimpArgs false
/-- A row of a script: a head and numbers. -/
def rowT (h : List UInt8) (F : Nat → Int) (n : Nat) : List UInt8 := h ++ [32] ++ joinN [32] F n ++ [10]
def hObj : List UInt8 := [111, 98, 106, 101, 99, 116]
def hTick : List UInt8 := [116, 105, 99, 107, 101, 114]
def hTask : List UInt8 := [116, 97, 115, 107]
def hLvl : List UInt8 := [108, 101, 118, 101, 108]
def hCh : List UInt8 := [99, 104, 111, 111, 115, 101]
def objF (c : CfD) (i j : Nat) : Int := if j < 6 then c.ob i j else c.oi i (j - 6)
def tskF (c : CfD) (i j : Nat) : Int := if j = 0 then c.tp i else if c.tb i then 1 else 0
/-- The texts of the parts, counted. -/
def objT (c : CfD) : Nat → List UInt8
  | 0 => []
  | k + 1 => objT c k ++ rowT hObj (objF c k) 10
def tskT (c : CfD) (TC : Nat → List CallD) : Nat → List UInt8
  | 0 => []
  | k + 1 => tskT c TC k ++ (rowT hTask (tskF c k) 2 ++ allC (TC k))
def lvlT (c : CfD) (LC : Nat → List CallD) : Nat → List UInt8
  | 0 => []
  | k + 1 => lvlT c LC k ++ (rowT hLvl (fun _ => c.lr k) 1 ++ allC (LC k))
def chT (n : Nat) (F : Nat → Int) : Nat → List UInt8
  | 0 => []
  | k + 1 => chT n F k ++ rowT hCh (fun j => F (20 * k + j)) (min 20 (n - 20 * k))
def headT (c : CfD) : List UInt8 := objT c c.nO ++ rowT hTick (fun _ => c.tick) 1
def textT (c : CfD) (TC LC : Nat → List CallD) (n : Nat) (F : Nat → Int) : List UInt8 :=
  headT c ++ tskT c TC c.nT ++ lvlT c LC c.nL ++ chT n F ((n + 19) / 20)
theorem rowT_len (h : List UInt8) (F : Nat → Int) (n : Nat) (hh : h.length ≤ 100) (hF : ∀ i, i < n → -9223372036854775808 ≤ F i ∧ F i ≤ 9223372036854775807) : (rowT h F n).length ≤ 102 + n * 22 := by
  have := joinN_len [32] F 1 (by simp) n hF
  unfold rowT
  simp only [List.length_append, List.length_singleton]
  omega
/-- A list's numbers, where a row asks them. -/
structure IntsAt (w : World) (A : Option Addr) (n : Nat) (F : Nat → Int) : Prop where
  le : n ≤ 1000
  fit : ∀ i, i < n → -9223372036854775808 ≤ F i ∧ F i ≤ 9223372036854775807
  at_ : ∃ g o, A = some ⟨g, o, none⟩ ∧ g < w.heap.size ∧ ∀ i, i < n → w.cell? ⟨g, o + i, none⟩ = some (.int .i64 (F i))
set_option maxRecDepth 20000 in
set_option maxHeartbeats 2000000 in
theorem prow_any (w : World) (B p : Nat) (bs : List Value) (h : List UInt8) (A : Option Addr) (n c : Nat) (F : Nat → Int) (hb : Lib.IsBuilder 48 5 B p bs w) (hlen : bs.length ≤ 100000000) (hh : h.length ≤ 100) (hA : IntsAt w A n F) (hBw : B ≤ w.heap.size) :
    Calls Try.prog 16 #[.string ⟨h.toArray⟩, .slice A n c, .pointer (some ⟨p, 0, none⟩)] w fun e w' => e = .returned (.tuple #[]) ∧ Lib.IsBuilder 48 5 B p (bs ++ Lib.byteCells (rowT h F n)) w' ∧ Below B w w' ∧ ApartB p w w' := by
  obtain ⟨g, o, rfl, hg, hc⟩ := hA.at_
  have hn := hA.le
  have hJl := joinN_len [32] F 1 (by simp) n hA.fit
  have HJ := Lib.hid (fun w => join_some w g o n c F [32] hn (by simp) hA.fit)
  have HC := Lib.hid hc
  have HB := Lib.hid hb
  have HBw := Lib.hid hBw
  have hS1 := fun w => run_string_add_sum (P := Try.prog) w ⟨h.toArray⟩ ⟨#[32]⟩ (by rw [str_size]; show _ + 1 ≤ _; omega)
  have e1 : (ByteArray.mk h.toArray) ++ (ByteArray.mk #[32]) = ⟨(h ++ [32]).toArray⟩ := str_app h [32]
  rw [e1] at hS1
  have hS2 := fun w => run_string_add_sum (P := Try.prog) w ⟨(h ++ [32]).toArray⟩ ⟨(joinN [32] F n).toArray⟩ (by rw [str_size, str_size, List.length_append, List.length_singleton]; omega)
  rw [str_app] at hS2
  have hS3 := fun w => run_string_add_sum (P := Try.prog) w ⟨(h ++ [32] ++ joinN [32] F n).toArray⟩ ⟨#[10]⟩ (by rw [str_size, List.length_append, List.length_append, List.length_singleton]; show _ + 1 ≤ _; omega)
  have e3 : (ByteArray.mk (h ++ [32] ++ joinN [32] F n).toArray) ++ (ByteArray.mk #[10]) = ⟨(rowT h F n).toArray⟩ := str_app _ [10]
  rw [e3] at hS3
  have HZ := Lib.hid (show (⟨(rowT h F n).toArray⟩ : ByteArray).size ≤ 102 + n * 22 by rw [str_size]; exact rowT_len h F n hh hA.fit)
  have HSC := Lib.hid (strCells_mk (rowT h F n))
  clear hc hb hBw e1 e3 hA hJl
  generalize rowT h F n = R at hS3 HZ HSC ⊢
  generalize joinN [32] F n = J at hS2 hS3 HJ
  generalize h ++ [32] ++ J = X at hS2 hS3
  generalize h ++ [32] = Y at hS1 hS2
  go_enter Try.func16, Try.ntmps16
  go_wp2_with fail
  refine (HJ.out _ hg HC.out).mono ?_
  rintro e1 w1 ⟨rfl, k1⟩
  have HB1 := Lib.hid (show Lib.IsBuilder 48 5 B p bs w1 from builder_keeps HB.out (below_keeps k1))
  have HK := Lib.hid (k1.mono HBw.out)
  have HAp := Lib.hid (show ApartB p w w1 from ApartB.keeps (below_keeps k1))
  have HW1 := Lib.hid (Nat.le_trans HBw.out k1.size)
  clear k1
  go_wp2_with fail
  refine (writes_all _ _ _ _ _ HB1.out (by have := HZ.out; omega) HW1.out).mono ?_
  rintro e2 w2 ⟨rfl, hb2, k2, q2⟩
  have HE := Lib.hid (And.intro (Or.inr hb2 : Lib.IsBuilder 48 5 B p _ w2) (And.intro (HK.out.trans k2) (HAp.out.trans q2)))
  clear hb2 k2 q2
  rw [HSC.out] at HE
  go_wp2_with fail
  go_end0
  exact ⟨rfl, HE.out⟩
end Go.Proofs.Ytdjfelabdofaaaa
namespace Go.Proofs.Ytdjfelabdofaaaa
open Go.ChangeShapes Go.WideShapes Go.ChangeAt Go.RowKit
set_option linter.unusedVariables false
set_option linter.unusedSimpArgs false
/-- Where choices lie. -/
def ChAt (w : World) (A : Option Addr) (N : Nat) (F : Nat → Int) : Prop := 0 < N → ∃ g o, A = some ⟨g, o, none⟩ ∧ g < w.heap.size ∧ ∀ i, i < N → w.cell? ⟨g, o + i, none⟩ = some (.int .i64 (F i))
theorem ChAt.keeps {w w' : World} {A : Option Addr} {N : Nat} {F : Nat → Int} (h : ChAt w A N F) (k : Keeps (fun _ => False) w w') : ChAt w' A N F := fun hn => by
  obtain ⟨g, o, e, hg, hc⟩ := h hn
  exact ⟨g, o, e, Nat.lt_of_lt_of_le hg k.size, fun i hi => (k.none.cell (p := ⟨g, o + i, Option.none⟩) hg).trans (hc i hi)⟩
/-- A configuration in its box, with its codes and the choices. -/
structure TX (w : World) (B : Nat) (c : CfD) (TC LC : Nat → List CallD) (A : Option Addr) (N : Nat) (F : Nat → Int) : Prop where
  box : w.heap[B]? = some (.cells c.cells 26 (0, 0))
  tx : TxIn w c TC LC
  ch : ChAt w A N F
theorem TX.keeps {w w' : World} {B : Nat} {c : CfD} {TC LC : Nat → List CallD} {A : Option Addr} {N : Nat} {F : Nat → Int} (h : TX w B c TC LC A N F) (k : Keeps (fun _ => False) w w') : TX w' B c TC LC A N F :=
  ⟨k.at h.box fun h => h, h.tx.keeps k, h.ch.keeps k⟩
/-- Small. -/
structure TxS (c : CfD) (N : Nat) (F : Nat → Int) : Prop where
  ok : TxOk c
  t : c.nT ≤ 20
  l : c.nL ≤ 40
  o : c.nO ≤ 20
  tl : ∀ i, i < c.nT → c.tl i ≤ 70
  ll : ∀ i, i < c.nL → c.ll i ≤ 70
  n : N ≤ 300
  f : ∀ i, i < N → -9223372036854775808 ≤ F i ∧ F i ≤ 9223372036854775807
theorem objF_ok {c : CfD} (h : TxOk c) {i : Nat} (hi : i < c.nO) (j : Nat) (hj : j < 10) : -9223372036854775808 ≤ objF c i j ∧ objF c i j ≤ 9223372036854775807 := by
  unfold objF
  split
  · exact h.ok.ob i hi j (by assumption)
  · have := h.oi i hi (j - 6) (by omega)
    omega
theorem tskF_ok {c : CfD} (h : TxOk c) {i : Nat} (hi : i < c.nT) (j : Nat) : -9223372036854775808 ≤ tskF c i j ∧ tskF c i j ≤ 9223372036854775807 := by
  unfold tskF
  split
  · exact h.tp i hi
  · split <;> omega
theorem objT_len {c : CfD} (h : TxOk c) : ∀ k, k ≤ c.nO → (objT c k).length ≤ k * 400
  | 0, _ => Nat.le_refl _
  | k + 1, hk => by
    have h1 := objT_len h k (by omega)
    have h2 := rowT_len hObj (objF c k) 10 (by decide) fun j hj => objF_ok h (by omega) j hj
    show (objT c k ++ rowT hObj (objF c k) 10).length ≤ _
    rw [List.length_append]
    omega
theorem tskT_len {c : CfD} {w : World} {TC LC : Nat → List CallD} (h : TxOk c) (hx : TxIn w c TC LC) (hl : ∀ i, i < c.nT → c.tl i ≤ 70) : ∀ k, k ≤ c.nT → (tskT c TC k).length ≤ k * 12000
  | 0, _ => Nat.le_refl _
  | k + 1, hk => by
    have h1 := tskT_len h hx hl k (by omega)
    have h2 := rowT_len hTask (tskF c k) 2 (by decide) fun j _ => tskF_ok h (by omega) j
    have h3 := allC_len (TC k) (hx.tc k (by omega)).2.1
    have h4 := (hx.tc k (by omega)).1
    have h5 := hl k (by omega)
    show (tskT c TC k ++ (rowT hTask (tskF c k) 2 ++ allC (TC k))).length ≤ _
    rw [List.length_append, List.length_append]
    omega
theorem lvlT_len {c : CfD} {w : World} {TC LC : Nat → List CallD} (h : TxOk c) (hx : TxIn w c TC LC) (hl : ∀ i, i < c.nL → c.ll i ≤ 70) : ∀ k, k ≤ c.nL → (lvlT c LC k).length ≤ k * 12000
  | 0, _ => Nat.le_refl _
  | k + 1, hk => by
    have h1 := lvlT_len h hx hl k (by omega)
    have h2 := rowT_len hLvl (fun _ => c.lr k) 1 (by decide) fun j _ => h.ok.lr k (by omega)
    have h3 := allC_len (LC k) (hx.lc k (by omega)).2.1
    have h4 := (hx.lc k (by omega)).1
    have h5 := hl k (by omega)
    show (lvlT c LC k ++ (rowT hLvl (fun _ => c.lr k) 1 ++ allC (LC k))).length ≤ _
    rw [List.length_append, List.length_append]
    omega
theorem chT_len {N : Nat} {F : Nat → Int} (hF : ∀ i, i < N → -9223372036854775808 ≤ F i ∧ F i ≤ 9223372036854775807) : ∀ k, (chT N F k).length ≤ k * 600
  | 0 => Nat.le_refl _
  | k + 1 => by
    have h1 := chT_len hF k
    have h2 := rowT_len hCh (fun j => F (20 * k + j)) (min 20 (N - 20 * k)) (by decide) fun j hj => hF _ (by omega)
    show (chT N F k ++ rowT hCh (fun j => F (20 * k + j)) (min 20 (N - 20 * k))).length ≤ _
    rw [List.length_append]
    omega
/-- The code of a task or a level, as the program and the reference print it. -/
theorem allc_at (w : World) (a : Option Addr) (n c : Nat) (L : List CallD) (h : CodeAt w a n L) (hn : n ≤ 70) :
    Calls Try.prog 19 #[.slice a n c] w fun e w' => e = .returned (.string ⟨(allC L).toArray⟩) ∧ Below w.heap.size w w' := by
  rcases Nat.eq_zero_or_pos n with rfl | hp
  · have := h.1
    obtain rfl : L = [] := List.eq_nil_of_length_eq_zero this
    exact allc_none w a c
  · obtain ⟨b, off, rfl, hb, hc⟩ := h.2.2 hp
    exact allc_some w b off n c L h.1 (by omega) h.2.1 hb hc
theorem rallc_at (w : World) (a : Option Addr) (n c : Nat) (L : List CallD) (h : CodeAt w a n L) (hn : n ≤ 70) :
    Calls Try.prog 23 #[.slice a n c] w fun e w' => e = .returned (.string ⟨(allC L).toArray⟩) ∧ Below w.heap.size w w' := by
  rcases Nat.eq_zero_or_pos n with rfl | hp
  · have := h.1
    obtain rfl : L = [] := List.eq_nil_of_length_eq_zero this
    exact rallc_none w a c
  · obtain ⟨b, off, rfl, hb, hc⟩ := h.2.2 hp
    exact rallc_some w b off n c L h.1 (by omega) h.2.1 hb hc
theorem obj_cells {w : World} {c : CfD} (h : CfIn w c) {k : Nat} (hk : k < c.nO) : ∃ b off, c.oa = some ⟨b, off, none⟩ ∧ b < w.heap.size ∧
    w.cell? ⟨b, off + k * 10, none⟩ = some (.int .i64 (c.ob k 0)) ∧ w.cell? ⟨b, off + k * 10 + 1, none⟩ = some (.int .i64 (c.ob k 1)) ∧ w.cell? ⟨b, off + k * 10 + 2, none⟩ = some (.int .i64 (c.ob k 2)) ∧ w.cell? ⟨b, off + k * 10 + 3, none⟩ = some (.int .i64 (c.ob k 3)) ∧ w.cell? ⟨b, off + k * 10 + 4, none⟩ = some (.int .i64 (c.ob k 4)) ∧ w.cell? ⟨b, off + k * 10 + 5, none⟩ = some (.int .i64 (c.ob k 5)) ∧
    w.cell? ⟨b, off + k * 10 + 6, none⟩ = some (.int .u32 (c.oi k 0)) ∧ w.cell? ⟨b, off + k * 10 + 7, none⟩ = some (.int .u32 (c.oi k 1)) ∧ w.cell? ⟨b, off + k * 10 + 8, none⟩ = some (.int .u32 (c.oi k 2)) ∧ w.cell? ⟨b, off + k * 10 + 9, none⟩ = some (.int .u32 (c.oi k 3)) := by
  obtain ⟨b, off, e, hb, hc⟩ := h.o (by omega)
  have := hc k hk
  exact ⟨b, off, e, hb, this 0 (by omega), this 1 (by omega), this 2 (by omega), this 3 (by omega), this 4 (by omega), this 5 (by omega), this 6 (by omega), this 7 (by omega), this 8 (by omega), this 9 (by omega)⟩
end Go.Proofs.Ytdjfelabdofaaaa
namespace Go.Proofs.Ytdjfelabdofaaaa
open Go.ChangeShapes Go.WideShapes Go.ChangeAt Go.RowKit
set_option linter.unusedVariables false
set_option linter.unusedSimpArgs false
def fitB (n : Int) : Bool := decide (-2147483648 ≤ n) && decide (n < 2147483648)
set_option maxRecDepth 100000 in
theorem fits_any (w : World) (n : Int) : Calls Try.prog 11 #[.int .i64 n] w fun e w' => e = .returned (.bool (fitB n)) ∧ w' = w := by
  unfold fitB
  by_cases h : -2147483648 ≤ n
  · have d0 : decide (-2147483648 ≤ n) = true := decide_eq_true h
    have d0' : ¬ n < -2147483648 := by omega
    rw [d0]
    go_enter Try.func11, Try.ntmps11
    go_wp2_with fail
    go_ret
    exact ⟨by simp, rfl⟩
  · have d0 : decide (-2147483648 ≤ n) = false := decide_eq_false h
    rw [d0]
    go_enter Try.func11, Try.ntmps11
    go_wp2_with fail
    go_ret
    exact ⟨by simp, rfl⟩
def callB (x : CallD) : Prop := fitB x.o = true ∧ -1125899906842624 ≤ x.k ∧ x.k ≤ 1125899906842624
set_option maxRecDepth 100000 in
set_option maxHeartbeats 2000000 in
theorem calls_any (w : World) (a : Option Addr) (n c : Nat) (L : List CallD) (h : CodeAt w a n L) (hn : n ≤ 70) :
    Calls Try.prog 25 #[.slice a n c] w fun e w' => ∃ b, e = .returned (.bool b) ∧ (b = true → ∀ x, x ∈ L → callB x) ∧ w' = w := by
  have HH := Lib.hid h
  have hl := h.1
  clear h
  go_enter Try.func25, Try.ntmps25
  go_wp2_with fail
  go_loop [3] (fun i => ∃ k : Nat, k ≤ n ∧ i = .int .i64 (k : Int) ∧ ∀ j x, j < k → L[j]? = some x → callB x) (fun i => n - (intOf i).toNat)
  case atStart => exact ⟨0, by omega, rfl, fun j x hj => by omega⟩
  case round =>
    obtain ⟨k, hk, rfl, hall⟩ := hrel
    have HALL := Lib.hid hall
    clear hall
    by_cases hlt : k < n
    · obtain ⟨b, off, rfl, hb, hc⟩ := HH.out.2.2 (by omega)
      obtain ⟨r, hr⟩ : ∃ r, L[k]? = some r := ⟨_, List.getElem?_eq_getElem (by omega)⟩
      have c0 : w.cell? ⟨b, off + k * 7, none⟩ = some (.int .i64 r.k) := hc _ _ (flatC_at L k r 0 _ hr rfl)
      have c1 : w.cell? ⟨b, off + k * 7 + 1, none⟩ = some (.int .i64 r.o) := by rw [Nat.add_assoc]; exact hc _ _ (flatC_at L k r 1 _ hr rfl)
      have HR := Lib.hid hr
      have HFT := Lib.hid (fun w => fits_any w r.o)
      clear hc hr
      cases hf : fitB r.o with
      | false =>
        rw [hf] at HFT
        go_wp2_with (go_at_call 11; refine (HFT.out _).mono ?_; rintro e1 w1 ⟨rfl, rfl⟩)
        go_ret
        exact ⟨_, rfl, (fun h => by cases h), rfl⟩
      | true =>
        have HF := Lib.hid hf
        rw [hf] at HFT
        clear hf
        by_cases h1 : r.k < -1125899906842624
        · go_wp2_with (go_at_call 11; refine (HFT.out _).mono ?_; rintro e1 w1 ⟨rfl, rfl⟩)
          go_ret
          exact ⟨_, rfl, (fun h => by cases h), rfl⟩
        · by_cases h2 : 1125899906842624 < r.k
          · go_wp2_with (go_at_call 11; refine (HFT.out _).mono ?_; rintro e1 w1 ⟨rfl, rfl⟩)
            go_ret
            exact ⟨_, rfl, (fun h => by cases h), rfl⟩
          · have HB := Lib.hid (And.intro h1 h2)
            go_wp2_with (go_at_call 11; refine (HFT.out _).mono ?_; rintro e1 w1 ⟨rfl, rfl⟩)
            go_round
            case rel =>
              refine ⟨k + 1, by omega, by go_num, fun j x hj hx => ?_⟩
              rcases Nat.lt_or_ge j k with hjk | hjk
              · exact HALL.out j x hjk hx
              · obtain rfl : j = k := by omega
                have := HR.out
                rw [hx] at this
                obtain rfl := Option.some.inj this
                have hb := HB.out
                exact ⟨HF.out, by omega, by omega⟩
            case measure => simp [intOf]; omega
    · obtain rfl : k = n := by omega
      go_wp2_with fail
      go_ret
      refine Or.inr ⟨rfl, fun x hx => ?_, rfl⟩
      obtain ⟨j, hj⟩ := List.getElem?_of_mem hx
      exact HALL.out j x (by have := (List.getElem?_eq_some_iff.1 hj).1; omega) hj
end Go.Proofs.Ytdjfelabdofaaaa
