import Derived.Test.YtooicndgdnbelaaRows
import Derived.Test.YtooicndgdnbelaaBits
import Derived.Test.YtooicndgdnbelaaShelf
import Derived.WalkKit
import Derived.ProofKit
import Derived.OpenShut
import Derived.WalkLawsBesides
import Derived.WalkSpells
import Derived.Lib.Hide
import Derived.Outline
namespace Go.Proofs.Ytooicndgdnbelaa
open Go.ChangeShapes Go.WideShapes Go.ChangeAt Go.RowKit
set_option linter.unusedVariables false

theorem ret_u32 {a b : Int} (h : a = b) : Ending.returned (.int .u32 a) = .returned (.int .u32 b) := by rw [h]
theorem ret_i64 {a b : Int} (h : a = b) : Ending.returned (.int .i64 a) = .returned (.int .i64 b) := by rw [h]
theorem ret_bool {a b : Bool} (h : a = b) : Ending.returned (.bool a) = .returned (.bool b) := by rw [h]

theorem ahead_any (a b : Int) (w : World) (h1 : 0 ≤ a) (h2 : a < 4294967296) (h3 : 0 ≤ b) (h4 : b < 4294967296) :
    Calls Try.prog 21 #[.int .u32 a, .int .u32 b] w fun e w' => e = .returned (.int .u32 ((a - b) % 4294967296)) ∧ w = w' := by
  go_enter Try.func21, Try.ntmps21
  go_wp2
  go_ret
  exact ⟨rfl, rfl⟩
theorem rahead_any (a b : Int) (w : World) (h1 : 0 ≤ a) (h2 : a < 4294967296) (h3 : 0 ≤ b) (h4 : b < 4294967296) :
    Calls Try.prog 22 #[.int .u32 a, .int .u32 b] w fun e w' => e = .returned (.int .u32 ((a - b) % 4294967296)) ∧ w = w' := by
  go_enter Try.func22, Try.ntmps22
  go_wp2
  go_ret
  exact ⟨ret_u32 (by omega), rfl⟩
theorem more_any (a : Int) (w : World) (h1 : 0 ≤ a) (h2 : a < 4294967296) :
    Calls Try.prog 25 #[.int .u32 a] w fun e w' => e = .returned (.int .u32 (min (a + 1) 4294967295)) ∧ w = w' := by
  by_cases h : a = 4294967295
  · subst h
    go_enter Try.func25, Try.ntmps25
    go_wp2
    go_ret
    exact ⟨rfl, rfl⟩
  · go_enter Try.func25, Try.ntmps25
    go_wp2
    go_ret
    exact ⟨ret_u32 (by omega), rfl⟩
theorem rmore_any (a : Int) (w : World) (h1 : 0 ≤ a) (h2 : a < 4294967296) :
    Calls Try.prog 26 #[.int .u32 a] w fun e w' => e = .returned (.int .u32 (min (a + 1) 4294967295)) ∧ w = w' := by
  by_cases h : a = 4294967295
  · subst h
    go_enter Try.func26, Try.ntmps26
    go_wp2
    go_ret
    exact ⟨rfl, rfl⟩
  · go_enter Try.func26, Try.ntmps26
    go_wp2
    go_ret
    exact ⟨ret_u32 (by omega), rfl⟩
theorem power_any (a : Int) (w : World) (h1 : -9223372036854775808 ≤ a) (h2 : a ≤ 9223372036854775807) :
    Calls Try.prog 27 #[.int .i64 a] w fun e w' => e = .returned (.bool (pow2 a)) ∧ w = w' := by
  by_cases c1 : 1 ≤ a
  · by_cases c2 : a ≤ 2147483648
    · go_enter Try.func27, Try.ntmps27
      go_wp2
      go_ret
      exact ⟨ret_bool (pow2_bits a c1 c2), rfl⟩
    · go_enter Try.func27, Try.ntmps27
      go_wp2
      go_ret
      exact ⟨ret_bool (pow2_high a (by omega)).symm, rfl⟩
  · go_enter Try.func27, Try.ntmps27
    go_wp2
    go_ret
    exact ⟨ret_bool (pow2_low a (by omega)).symm, rfl⟩
theorem rpower_any (a : Int) (w : World) (h1 : -9223372036854775808 ≤ a) (h2 : a ≤ 9223372036854775807) :
    Calls Try.prog 28 #[.int .i64 a] w fun e w' => e = .returned (.bool (pow2 a)) ∧ w = w' := by
  go_enter Try.func28, Try.ntmps28
  go_wp2
  go_loop [3] (fun k => ∃ p : Int, 1 ≤ p ∧ p ≤ 4294967296 ∧ k = .int .i64 p ∧ PowInv a p) (fun k => (4294967297 - intOf k).toNat)
  case atStart => exact ⟨1, by omega, by omega, rfl, PowInv.one a⟩
  case round =>
    obtain ⟨p, hp1, hp2, rfl, hi⟩ := hrel
    by_cases hle : p ≤ 2147483648
    · by_cases he : a = p
      · subst he
        have hit := hi.hit hle
        have H := Lib.hid hit
        clear hit hi
        go_wp2
        go_ret
        exact ⟨ret_bool H.out.symm, rfl⟩
      · have ht := hi.twice he
        clear hi
        go_wp2
        go_round
        case rel => exact ⟨2 * p, by omega, by omega, rfl, ht⟩
        case measure => simp [intOf]; omega
    · have miss := hi.miss (by omega)
      have H := Lib.hid miss
      clear miss hi
      go_wp2
      go_ret
      exact ⟨ret_bool H.out.symm, rfl⟩

theorem before_any (a b : Int) (w : World) (h1 : 0 ≤ a) (h2 : a < 4294967296) (h3 : 0 ≤ b) (h4 : b < 4294967296) :
    Calls Try.prog 23 #[.int .u32 a, .int .u32 b] w fun e w' => e = .returned (.bool (decide (2147483648 ≤ (a - b) % 4294967296))) ∧ w = w' := by
  go_enter Try.func23, Try.ntmps23
  go_wp2_with (go_at_call 21; refine (ahead_any _ _ _ (by omega) (by omega) (by omega) (by omega)).mono ?_; rintro e w' ⟨rfl, rfl⟩)
  go_ret
  exact ⟨rfl, rfl⟩
theorem rbefore_any (a b : Int) (w : World) (h1 : 0 ≤ a) (h2 : a < 4294967296) (h3 : 0 ≤ b) (h4 : b < 4294967296) :
    Calls Try.prog 24 #[.int .u32 a, .int .u32 b] w fun e w' => e = .returned (.bool (decide (2147483648 ≤ (a - b) % 4294967296))) ∧ w = w' := by
  go_enter Try.func24, Try.ntmps24
  go_wp2_with (go_at_call 22; refine (rahead_any _ _ _ (by omega) (by omega) (by omega) (by omega)).mono ?_; rintro e w' ⟨rfl, rfl⟩)
  go_ret
  exact ⟨rfl, rfl⟩

/-- The word in which only bit i is 1. -/
def bitW (i : Int) : Nat := if 0 ≤ i ∧ i < 32 then 2 ^ i.toNat else 0
theorem bitW_lt (i : Int) : bitW i < 4294967296 := by
  unfold bitW
  split
  · have : 2 ^ i.toNat < 2 ^ 32 := (Nat.pow_lt_pow_iff_right (by omega)).2 (by omega)
    omega
  · omega

theorem bit_any (i : Int) (w : World) (h1 : -9223372036854775808 ≤ i) (h2 : i ≤ 9223372036854775807) :
    Calls Try.prog 57 #[.int .i64 i] w fun e w' => e = .returned (.int .u32 (bitW i)) ∧ w = w' := by
  by_cases c1 : i < 0
  · have hb : bitW i = 0 := by unfold bitW; rw [if_neg (by omega)]
    go_enter Try.func57, Try.ntmps57
    go_wp2
    go_ret
    exact ⟨ret_u32 (by first | rfl | rw [hb]; rfl), rfl⟩
  · by_cases c2 : 32 ≤ i
    · have hb : bitW i = 0 := by unfold bitW; rw [if_neg (by omega)]
      go_enter Try.func57, Try.ntmps57
      go_wp2
      go_ret
      exact ⟨ret_u32 (by first | rfl | rw [hb]; rfl), rfl⟩
    · have hb : (2 : Int) ^ i.toNat % 4294967296 = (bitW i : Int) := by
        have h := bitW_lt i
        unfold bitW at h ⊢
        rw [if_pos (by omega)] at h ⊢
        have e : (2 : Int) ^ i.toNat = ((2 ^ i.toNat : Nat) : Int) := by simp
        rw [e]
        generalize (2 ^ i.toNat : Nat) = p at h ⊢
        omega
      have H := Lib.hid hb
      clear hb
      go_enter Try.func57, Try.ntmps57
      go_wp2
      go_ret
      exact ⟨ret_u32 H.out, rfl⟩

theorem high_any (x : Nat) (w : World) (h : x < 4294967296) :
    Calls Try.prog 43 #[.int .u32 x] w fun e w' => e = .returned (.int .i64 ((Lib.bitLen x : Int) - 1)) ∧ w = w' := by
  have hb : Lib.bitLen x ≤ 64 := Lib.bitLen_le x 64 (by omega) (by omega)
  go_enter Try.func43, Try.ntmps43
  go_wp2_with (go_at_call 56; refine (Try.bits_Len32 _ _ (by omega) (by omega)).mono ?_; rintro e w' ⟨rfl, rfl⟩)
  go_ret
  exact ⟨by simp, rfl⟩

def hasB (x : Nat) (i : Int) : Bool := (x &&& bitW i) != 0
theorem has_any (x : Nat) (i : Int) (w : World) (h : x < 4294967296) (h1 : -9223372036854775808 ≤ i) (h2 : i ≤ 9223372036854775807) :
    Calls Try.prog 44 #[.int .u32 x, .int .i64 i] w fun e w' => e = .returned (.bool (hasB x i)) ∧ w = w' := by
  have hb := bitW_lt i
  have e : bits .and .u32 (bitW i : Int) (x : Int) = ((x &&& bitW i : Nat) : Int) := by rw [u32_and_nat _ _ hb h, Nat.and_comm]
  go_enter Try.func44, Try.ntmps44
  go_wp2_with (go_at_call 57; refine (bit_any _ _ (by omega) (by omega)).mono ?_; rintro e w' ⟨rfl, rfl⟩)
  go_ret
  exact ⟨ret_bool (by unfold hasB; rw [Bool.eq_iff_iff]; simp), rfl⟩

/-- The word with the bits of a list of numbers. -/
def ofW (l : List Int) : Nat := l.foldl (fun w i => w ||| bitW i) 0
theorem or_lt (a b : Nat) (h1 : a < 4294967296) (h2 : b < 4294967296) : a ||| b < 4294967296 := by
  have := Nat.or_lt_two_pow (n := 32) h1 h2
  exact this
theorem with_any (x : Nat) (i : Int) (w : World) (h : x < 4294967296) (h1 : -9223372036854775808 ≤ i) (h2 : i ≤ 9223372036854775807) :
    Calls Try.prog 59 #[.int .u32 x, .int .i64 i] w fun e w' => e = .returned (.int .u32 ((x ||| bitW i : Nat) : Int)) ∧ w = w' := by
  have hb := bitW_lt i
  have e : bits .or .u32 (x : Int) (bitW i : Int) = ((x ||| bitW i : Nat) : Int) := u32_or_nat _ _ h hb
  go_enter Try.func59, Try.ntmps59
  go_wp2_with (go_at_call 57; refine (bit_any _ _ (by omega) (by omega)).mono ?_; rintro e w' ⟨rfl, rfl⟩)
  go_ret
  exact ⟨ret_u32 rfl, rfl⟩
theorem ofW_lt (l : List Int) : ofW l < 4294967296 := by
  suffices h : ∀ (l : List Int) (a : Nat), a < 4294967296 → l.foldl (fun w i => w ||| bitW i) a < 4294967296 from h l 0 (by omega)
  intro l
  induction l with
  | nil => intro a h; exact h
  | cons i l ih => intro a h; exact ih _ (or_lt _ _ h (bitW_lt i))
theorem ofW_snoc (l : List Int) (i : Int) : ofW (l ++ [i]) = ofW l ||| bitW i := by
  unfold ofW; rw [List.foldl_append]; rfl
theorem bitW_out (i : Int) (h : ¬ (0 ≤ i ∧ i < 32)) : bitW i = 0 := if_neg h
theorem take_snoc (l : List Int) (k : Nat) (h : k < l.length) : l.take (k + 1) = l.take k ++ [l.getD k 0] := by
  rw [List.take_succ_eq_append_getElem h, List.getD_eq_getElem?_getD, List.getElem?_eq_getElem h]; rfl

theorem known_any (i : Int) (w : World) (h1 : -9223372036854775808 ≤ i) (h2 : i ≤ 9223372036854775807) :
    Calls Try.prog 58 #[.int .i64 i] w fun e w' => e = .returned (.bool (decide (0 ≤ i) && decide (i < 32))) ∧ w = w' := by
  by_cases c1 : 0 ≤ i
  · go_enter Try.func58, Try.ntmps58
    go_wp2
    go_ret
    exact ⟨ret_bool (by simp [c1]), rfl⟩
  · go_enter Try.func58, Try.ntmps58
    go_wp2
    go_ret
    exact ⟨ret_bool (by rw [eq_comm, Bool.eq_false_iff]; simp; omega), rfl⟩
theorem known_yes (i : Int) (w : World) (h1 : 0 ≤ i) (h2 : i < 32) :
    Calls Try.prog 58 #[.int .i64 i] w fun e w' => e = .returned (.bool true) ∧ w = w' :=
  (known_any i w (by omega) (by omega)).mono fun _ _ ⟨he, hw⟩ => ⟨he.trans (ret_bool (by simp [h1, h2])), hw⟩
theorem known_no (i : Int) (w : World) (h1 : -9223372036854775808 ≤ i) (h2 : i ≤ 9223372036854775807) (h : ¬ (0 ≤ i ∧ i < 32)) :
    Calls Try.prog 58 #[.int .i64 i] w fun e w' => e = .returned (.bool false) ∧ w = w' :=
  (known_any i w h1 h2).mono fun _ _ ⟨he, hw⟩ => ⟨he.trans (ret_bool (by rw [Bool.eq_false_iff]; simp; omega)), hw⟩

theorem of_any (a : Option Addr) (cap : Nat) (l : List Int) (w : World) (hm : l.length ≤ maxLen) (hl : ∀ x ∈ l, -9223372036854775808 ≤ x ∧ x ≤ 9223372036854775807)
    (ha : 0 < l.length → ∃ b off, a = some ⟨b, off, none⟩ ∧ ∀ j, j < l.length → w.cell? ⟨b, off + j, none⟩ = some (.int .i64 (l.getD j 0))) :
    Calls Try.prog 45 #[.slice a l.length cap] w fun e w' => e = .returned (.int .u32 (ofW l)) ∧ w = w' := by
  unfold maxLen at hm
  go_enter Try.func45, Try.ntmps45
  go_wp2
  go_loop [4, 9] (fun x i => ∃ k : Nat, k ≤ l.length ∧ i = .int .i64 k ∧ x = .int .u32 (ofW (l.take k))) (fun _ i => l.length - (intOf i).toNat)
  case atStart => exact ⟨0, Nat.zero_le _, rfl, rfl⟩
  case round =>
    obtain ⟨k, hk, rfl, rfl⟩ := hrel
    by_cases hlt : k < l.length
    · obtain ⟨b, off, rfl, hc⟩ := ha (by omega)
      have hcell := hc k hlt
      have hx := hl (l.getD k 0) (by rw [List.getD_eq_getElem?_getD, List.getElem?_eq_getElem hlt]; exact List.getElem_mem hlt)
      have hs := ofW_lt (l.take k)
      have hn : ofW (l.take (k + 1)) = ofW (l.take k) ||| bitW (l.getD k 0) := by rw [take_snoc _ _ hlt, ofW_snoc]
      have ho := bitW_out (l.getD k 0)
      generalize l.getD k 0 = x at hcell hx hn ho
      have HN := Lib.hid hn
      have HO := Lib.hid ho
      clear hn ho hc hl ha
      by_cases hr : 0 ≤ x ∧ x < 32
      · obtain ⟨hr1, hr2⟩ := hr
        go_wp2_with (first | (go_at_call 58; refine (known_yes _ _ (by omega) (by omega)).mono ?_; rintro e w' ⟨rfl, rfl⟩) | (go_at_call 59; refine (with_any _ _ _ (by omega) (by omega) (by omega)).mono ?_; rintro e w' ⟨rfl, rfl⟩))
        go_round
        case rel => exact ⟨k + 1, by omega, by go_num, by rw [HN.out]⟩
        case measure => simp [intOf]; omega
      · go_wp2_with (go_at_call 58; refine (known_no _ _ (by omega) (by omega) hr).mono ?_; rintro e w' ⟨rfl, rfl⟩)
        go_round
        case rel => exact ⟨k + 1, by omega, by go_num, by rw [HN.out, HO.out hr]; simp⟩
        case measure => simp [intOf]; omega
    · go_wp2
      go_ret
      exact ⟨ret_u32 (by rw [List.take_of_length_le (by omega)]), rfl⟩

theorem alive_any (w : World) :
    Calls Try.prog 29 #[] w fun e w' => e = .returned (.bool true) ∧ Below w.heap.size w w' := by
  have k1 : ((Lib.bitLen 0 : Nat) : Int) - 1 = -1 := by decide
  have k2 : hasB 4 2 = true := by decide
  have k3 : ((ofW [0, 2] : Nat) : Int) = 5 := by decide
  have hc : ∀ j, j < [(0 : Int), 2].length → (w.alloc (.cells #[.int .i64 0, .int .i64 2] 3)).cell? ⟨w.heap.size, 0 + j, none⟩ = some (.int .i64 ([(0 : Int), 2].getD j 0)) := fun j hj => by
    rw [World.cell?_alloc_at _ _ _ _ rfl]
    match j, hj with
    | 0, _ => rfl
    | 1, _ => rfl
  have HC := Lib.hid hc
  clear hc
  go_enter Try.func29, Try.ntmps29
  go_wp2_with fail
  refine (ahead_any _ _ _ (by omega) (by omega) (by omega) (by omega)).mono ?_
  rintro e w' ⟨rfl, rfl⟩
  go_wp2_with fail
  refine (high_any 0 _ (by omega)).mono ?_
  rintro e w' ⟨rfl, rfl⟩
  go_wp2_with fail
  refine (has_any 4 2 _ (by omega) (by omega) (by omega)).mono ?_
  rintro e w' ⟨rfl, rfl⟩
  go_wp2_with fail
  refine (of_any (some ⟨w.heap.size, 0, none⟩) 2 [0, 2] _ (by unfold maxLen; decide) (by decide) (fun _ => ⟨_, _, rfl, HC.out⟩)).mono ?_
  rintro e w' ⟨rfl, rfl⟩
  go_wp2
  go_ret
  exact ⟨rfl, (Below.refl _ _).alloc (Nat.le_refl _) _⟩
end Go.Proofs.Ytooicndgdnbelaa
