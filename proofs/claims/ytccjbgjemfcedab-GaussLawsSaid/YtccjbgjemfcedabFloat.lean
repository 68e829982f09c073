import Ieee.Arith
namespace Go.Proofs.Ytccjbgjemfcedab
open Ieee

/-- x, a word of 64 bits, stands for the whole number n. -/
def IsF (x : Nat) (n : Int) : Prop :=
  ∃ s m e, double.read x = .number s m e ∧ ∃ k : Nat, 0 ≤ e + k ∧ signed s m (e + k).toNat = n * 2 ^ k
/-- What a datum stands for. -/
def IsD (d : Datum) (n : Int) : Prop :=
  ∃ s m e, d = .number s m e ∧ ∃ k : Nat, 0 ≤ e + k ∧ signed s m (e + k).toNat = n * 2 ^ k

theorem signed_mul (s : Bool) (m u : Nat) : signed s m u = (if s then -1 else 1) * (m : Int) * 2 ^ u := by
  unfold signed
  rw [Nat.shiftLeft_eq]
  cases s <;> simp [Int.neg_mul]
theorem signed_add (s : Bool) (m u v : Nat) : signed s m (u + v) = signed s m u * 2 ^ v := by
  rw [signed_mul, signed_mul, Int.pow_add, Int.mul_assoc, Int.mul_assoc, Int.mul_assoc]
theorem two_pow_pos (t : Nat) : (0 : Int) < 2 ^ t := Int.pow_pos (by omega)
theorem IsD.all {s : Bool} {m : Nat} {e : Int} {n : Int} (h : ∃ k : Nat, 0 ≤ e + k ∧ signed s m (e + k).toNat = n * 2 ^ k) (k : Nat) (hk : 0 ≤ e + k) : signed s m (e + k).toNat = n * 2 ^ k := by
  obtain ⟨j, hj, h⟩ := h
  rcases Nat.le_total j k with h1 | h1
  · have e1 : (e + k).toNat = (e + j).toNat + (k - j) := by omega
    have e2 : k = j + (k - j) := by omega
    conv => rhs; rw [e2, Int.pow_add, ← Int.mul_assoc, ← h]
    rw [e1, signed_add]
  · have e1 : (e + j).toNat = (e + k).toNat + (j - k) := by omega
    have e2 : j = k + (j - k) := by omega
    rw [e1, signed_add] at h
    have h3 : n * 2 ^ j = n * 2 ^ k * 2 ^ (j - k) := by rw [Int.mul_assoc, ← Int.pow_add, ← e2]
    rw [h3] at h
    exact Int.eq_of_mul_eq_mul_right (by have := two_pow_pos (j - k); omega) h
theorem IsD.sum {a b : Datum} {x y : Int} (ha : IsD a x) (hb : IsD b y) : ∃ d, a.sum b = some d ∧ IsD d (x + y) := by
  obtain ⟨s, m, i, rfl, h1⟩ := ha
  obtain ⟨t, n, j, rfl, h2⟩ := hb
  refine ⟨_, rfl, _, _, _, rfl, (i.natAbs + j.natAbs), by omega, ?_⟩
  have g1 := IsD.all h1 (i.natAbs + j.natAbs) (by omega)
  have g2 := IsD.all h2 (i.natAbs + j.natAbs) (by omega)
  rw [Int.add_mul, ← g1, ← g2]
  generalize hk : i.natAbs + j.natAbs = k at *
  have hu : 0 ≤ min i j + k := by omega
  have e1 : (i + k).toNat = (i - min i j).toNat + (min i j + k).toNat := by omega
  have e2 : (j + k).toNat = (j - min i j).toNat + (min i j + k).toNat := by omega
  rw [e1, e2, signed_add, signed_add, ← Int.add_mul, signed_mul]
  congr 1
  generalize signed s m (i - min i j).toNat + signed t n (j - min i j).toNat = z
  by_cases hz : z = 0
  · subst hz; simp
  · by_cases hn : z < 0
    · simp [hz, hn]; omega
    · simp [hz, hn]; omega
theorem IsD.product {a b : Datum} {x y : Int} (ha : IsD a x) (hb : IsD b y) : ∃ d, a.product b = some d ∧ IsD d (x * y) := by
  obtain ⟨s, m, i, rfl, k1, h1, g1⟩ := ha
  obtain ⟨t, n, j, rfl, k2, h2, g2⟩ := hb
  refine ⟨_, rfl, _, _, _, rfl, k1 + k2, by omega, ?_⟩
  have e1 : (i + j + ((k1 + k2 : Nat) : Int)).toNat = (i + k1).toNat + (j + k2).toNat := by omega
  rw [e1, Int.pow_add]
  have : x * y * (2 ^ k1 * 2 ^ k2) = (x * 2 ^ k1) * (y * 2 ^ k2) := by
    rw [Int.mul_assoc, Int.mul_assoc]; congr 1; rw [← Int.mul_assoc, ← Int.mul_assoc, Int.mul_comm y]
  rw [this, ← g1, ← g2, signed_mul, signed_mul, signed_mul, Int.pow_add]
  cases s <;> cases t <;> simp <;> grind
theorem IsD.opposite {a : Datum} {x : Int} (ha : IsD a x) : IsD a.opposite (-x) := by
  obtain ⟨s, m, i, rfl, k1, h1, g1⟩ := ha
  refine ⟨_, _, _, rfl, k1, h1, ?_⟩
  rw [Int.neg_mul, ← g1, signed_mul, signed_mul]
  cases s <;> simp [Int.neg_mul]
theorem IsD.order {a b : Datum} {x y : Int} (ha : IsD a x) (hb : IsD b y) : a.order b = some (compare x y) := by
  obtain ⟨s, m, i, rfl, h1⟩ := ha
  obtain ⟨t, n, j, rfl, h2⟩ := hb
  have g1 := IsD.all h1 (i.natAbs + j.natAbs) (by omega)
  have g2 := IsD.all h2 (i.natAbs + j.natAbs) (by omega)
  generalize hk : i.natAbs + j.natAbs = k at *
  have hu : 0 ≤ min i j + k := by omega
  have e1 : (i + k).toNat = (i - min i j).toNat + (min i j + k).toNat := by omega
  have e2 : (j + k).toNat = (j - min i j).toNat + (min i j + k).toNat := by omega
  rw [e1, signed_add] at g1
  rw [e2, signed_add] at g2
  simp only [Datum.order, Option.some.injEq]
  generalize signed s m (i - min i j).toNat = p at *
  generalize signed t n (j - min i j).toNat = q at *
  have p1 := two_pow_pos (min i j + k).toNat
  have p2 := two_pow_pos k
  have key : (p < q ↔ x < y) ∧ (p = q ↔ x = y) := by
    constructor
    · rw [← Int.mul_lt_mul_right p1, g1, g2, Int.mul_lt_mul_right p2]
    · constructor
      · rintro rfl
        exact Int.eq_of_mul_eq_mul_right (by omega) (g1.symm.trans g2)
      · rintro rfl
        exact Int.eq_of_mul_eq_mul_right (by omega) (g1.trans g2.symm)
  simp only [compare, compareOfLessAndEq, key]
theorem cut_zero (n : Nat) (s : Bool) : Toward.even.cut s n 0 = n := by
  simp [Toward.cut, Nat.mod_one]
theorem cut_exact (way : Toward) (s : Bool) (n q drop : Nat) (h : n = q * 2 ^ drop) (hq : q ≠ 0) : way.cut s n drop = q := by
  have h2 : drop ≤ n.log2 := by
    have : 2 ^ drop ≤ n := by rw [h]; exact Nat.le_mul_of_pos_left _ (by omega)
    have hp : 0 < 2 ^ drop := Nat.two_pow_pos _
    exact (Nat.le_log2 (by omega)).2 this
  have hp : 0 < 2 ^ drop := Nat.two_pow_pos _
  have hg : 1 <<< min drop (n.log2 + 2) = 2 ^ drop := by
    rw [Nat.min_eq_left (by omega), Nat.shiftLeft_eq, Nat.one_mul]
  unfold Toward.cut
  rw [hg]
  have hr : n % 2 ^ drop = 0 := by rw [h]; exact Nat.mul_mod_left _ _
  have hl : n / 2 ^ drop = q := by rw [h]; exact Nat.mul_div_cancel _ hp
  simp only [hr, hl]
  cases way <;> simp
theorem cut_none (way : Toward) (s : Bool) (drop : Nat) : way.cut s 0 drop = 0 := by
  unfold Toward.cut
  have : 0 < 1 <<< min drop (Nat.log2 0 + 2) := by rw [Nat.shiftLeft_eq]; exact Nat.mul_pos (by omega) (Nat.two_pow_pos _)
  cases way <;> simp
theorem IsD.toInt {a : Datum} {x : Int} (ha : IsD a x) : a.toInt .zero = some x := by
  obtain ⟨s, m, i, rfl, h⟩ := ha
  simp only [Datum.toInt, Datum.integral]
  have key : signed s (Toward.zero.cut s (m <<< i.toNat) (-i).toNat) 0 = x := by
    by_cases hi : 0 ≤ i
    · have g := IsD.all h 0 (by omega)
      have e1 : (-i).toNat = 0 := by omega
      rw [e1]
      have e2 : Toward.zero.cut s (m <<< i.toNat) 0 = m <<< i.toNat := by simp [Toward.cut]
      rw [e2]
      simp at g
      rw [← g]
      simp [signed]
    · have g := IsD.all h (-i).toNat (by omega)
      have e1 : i.toNat = 0 := by omega
      have e3 : (i + ((-i).toNat : Int)).toNat = 0 := by omega
      rw [e1]
      rw [e3] at g
      simp only [Nat.shiftLeft_zero]
      have hm : m = x.natAbs * 2 ^ (-i).toNat := by
        have : (signed s m 0).natAbs = m := by unfold signed; cases s <;> simp
        rw [← this, g, Int.natAbs_mul, Int.natAbs_pow]
        rfl
      by_cases hx : x = 0
      · subst hx
        simp at hm
        subst hm
        rw [cut_none]; simp [signed]
      · rw [cut_exact _ _ _ _ _ hm (by omega)]
        have p2 := two_pow_pos (-i).toNat
        rw [signed_mul] at g ⊢
        simp only [Int.pow_zero, Int.mul_one] at g ⊢
        rw [hm] at g
        have : (if s = true then (-1 : Int) else 1) * (x.natAbs : Int) * 2 ^ (-i).toNat = x * 2 ^ (-i).toNat := by
          rw [← g]; simp [Int.mul_assoc]
        exact Int.eq_of_mul_eq_mul_right (by omega) this
  rw [key]

theorem read_word (s : Bool) (c Q : Nat) (hQ1 : 4503599627370496 ≤ Q) (hQ2 : Q < 9007199254740992) (hc : c ≤ 1100) :
    double.read (double.word s (c * 4503599627370496 + Q)) = .number s Q (-1074 + c) := by
  have e2 : double.leastPlace = -1074 := by decide
  have e3 : double.binade = 4503599627370496 := by decide
  have e4 : double.infRung = 9218868437227405312 := by decide
  have e5 : double.signWeight = 9223372036854775808 := by decide
  have hr : (c * 4503599627370496 + Q) / 4503599627370496 = c + 1 := by omega
  have hr2 : (c * 4503599627370496 + Q) % 4503599627370496 = Q - 4503599627370496 := by omega
  have hlt : ¬ c * 4503599627370496 + Q < 4503599627370496 := by omega
  have hlt2 : c * 4503599627370496 + Q < 9218868437227405312 := by omega
  have hm : double.word s (c * 4503599627370496 + Q) % double.signWeight = c * 4503599627370496 + Q := by
    unfold Format.word; rw [e5]; cases s <;> simp <;> omega
  have hd : (double.word s (c * 4503599627370496 + Q) / double.signWeight % 2 == 1) = s := by
    unfold Format.word; rw [e5]; cases s
    · simp; omega
    · simp; omega
  unfold Format.read
  simp only [hm, hd]
  rw [e3, e4, e2, if_neg hlt, if_pos hlt2, hr, hr2]
  have a1 : 4503599627370496 + (Q - 4503599627370496) = Q := by omega
  have a2 : (c + 1 - 1 : Nat) = c := by omega
  rw [a1, a2]
theorem nearest_word (s : Bool) (m : Nat) (e last : Int) (Q c : Nat) (hm : ¬ m = 0) (hlast : max (e + m.log2 - double.fractionBits) double.leastPlace = last)
    (hkept : Toward.even.cut s (m <<< (e - last).toNat) (last - e).toNat = Q) (hc : last = -1074 + (c : Int)) (hc2 : c ≤ 1100) (hQ : Q < 9007199254740992) :
    double.nearest s m e = double.word s (c * 4503599627370496 + Q) := by
  have e6 : (last - -1074).toNat = c := by omega
  have hmin : min (c * 4503599627370496 + Q) 9218868437227405312 = c * 4503599627370496 + Q := Nat.min_eq_left (by omega)
  have e2 : double.leastPlace = -1074 := by decide
  have e3 : double.binade = 4503599627370496 := by decide
  have e4 : double.infRung = 9218868437227405312 := by decide
  unfold Format.nearest
  rw [if_neg hm, hlast]
  show double.word s (min ((last - double.leastPlace).toNat * double.binade + Toward.even.cut s (m <<< (e - last).toNat) (last - e).toNat) double.infRung) = _
  rw [hkept, e2, e3, e4, e6, hmin]
/-- The nearest word to a whole number within 2^53 stands for it. -/
theorem nearest_exact (s : Bool) (m : Nat) (e : Int) (n : Int) (h : ∃ k : Nat, 0 ≤ e + k ∧ signed s m (e + k).toNat = n * 2 ^ k) (hn : n.natAbs ≤ 9007199254740992) : IsD (double.read (double.nearest s m e)) n := by
  by_cases hm : m = 0
  · subst hm
    obtain ⟨k, _, g⟩ := h
    rw [signed_mul] at g
    have hz : n = 0 := by
      have p := two_pow_pos k
      have : n * 2 ^ k = 0 := by rw [← g]; simp
      rcases Int.mul_eq_zero.1 this with h | h
      · exact h
      · omega
    subst hz
    refine ⟨s, 0, double.leastPlace, ?_, 1074, by decide, by simp only [signed, Nat.zero_shiftLeft, Int.zero_mul]; cases s <;> rfl⟩
    unfold Format.nearest
    rw [if_pos rfl]
    cases s <;> decide
  · have hp : ∀ t : Nat, 0 < 2 ^ t := fun t => Nat.two_pow_pos t
    -- the sizes alone
    have hs : n = (if s then -1 else 1) * (n.natAbs : Int) ∧ ∀ k : Nat, 0 ≤ e + k → m * 2 ^ (e + k).toNat = n.natAbs * 2 ^ k := by
      have hall : ∀ k : Nat, 0 ≤ e + k → m * 2 ^ (e + k).toNat = n.natAbs * 2 ^ k := by
        intro k hk
        have g := IsD.all h k hk
        have : (signed s m (e + k).toNat).natAbs = m * 2 ^ (e + k).toNat := by
          unfold signed; rw [Nat.shiftLeft_eq]; cases s <;> simp only [Bool.false_eq_true, if_false, if_true, Int.natAbs_neg, Int.natAbs_natCast]
        rw [← this, g, Int.natAbs_mul, Int.natAbs_pow]; rfl
      refine ⟨?_, hall⟩
      obtain ⟨k, hk, g⟩ := h
      have p := two_pow_pos k
      have hn0 : n ≠ 0 := by
        intro h0
        have h1 := hall k hk
        rw [h0] at h1
        simp only [Int.natAbs_zero, Nat.zero_mul] at h1
        rcases Nat.mul_eq_zero.1 h1 with h2 | h2
        · exact hm h2
        · have := hp (e + k).toNat; omega
      rw [signed_mul] at g
      have hmp : (0 : Int) < (m : Int) * 2 ^ (e + k).toNat := Int.mul_pos (by omega) (two_pow_pos _)
      cases s
      · simp at g ⊢
        rw [g] at hmp
        have := Int.pos_of_mul_pos_left hmp p
        omega
      · simp [Int.neg_mul] at g ⊢
        have : 0 < (-n) * 2 ^ k := by rw [Int.neg_mul, ← g]; omega
        have := Int.pos_of_mul_pos_left this p
        omega
    obtain ⟨hsign, hall⟩ := hs
    generalize hN : n.natAbs = N at *
    have hN0 : N ≠ 0 := by
      intro h0
      have h1 := hall e.natAbs (by omega)
      rw [h0, Nat.zero_mul] at h1
      rcases Nat.mul_eq_zero.1 h1 with h2 | h2
      · exact hm h2
      · have := hp (e + e.natAbs).toNat; omega
    have hL1 : 2 ^ N.log2 ≤ N := Nat.log2_self_le hN0
    have hL2 : N < 2 ^ (N.log2 + 1) := Nat.lt_log2_self
    have hlog : e + m.log2 = N.log2 := by
      have h1 := hall e.natAbs (by omega)
      have m1 : 2 ^ m.log2 ≤ m := Nat.log2_self_le hm
      have m2 : m < 2 ^ (m.log2 + 1) := Nat.lt_log2_self
      have a1 : 2 ^ (m.log2 + (e + e.natAbs).toNat) ≤ m * 2 ^ (e + e.natAbs).toNat := by rw [Nat.pow_add]; exact Nat.mul_le_mul_right _ m1
      have a2 : m * 2 ^ (e + e.natAbs).toNat < 2 ^ (m.log2 + 1 + (e + e.natAbs).toNat) := by rw [Nat.pow_add]; exact Nat.mul_lt_mul_of_pos_right m2 (hp _)
      have b1 : 2 ^ (N.log2 + e.natAbs) ≤ N * 2 ^ e.natAbs := by rw [Nat.pow_add]; exact Nat.mul_le_mul_right _ hL1
      have b2 : N * 2 ^ e.natAbs < 2 ^ (N.log2 + 1 + e.natAbs) := by rw [Nat.pow_add]; exact Nat.mul_lt_mul_of_pos_right hL2 (hp _)
      have c1 := (Nat.pow_lt_pow_iff_right (a := 2) (by omega)).1 (Nat.lt_of_le_of_lt a1 (h1 ▸ b2))
      have c2 := (Nat.pow_lt_pow_iff_right (a := 2) (by omega)).1 (Nat.lt_of_le_of_lt b1 (h1 ▸ a2))
      omega
    have hLle : N.log2 ≤ 53 := by
      have : 2 ^ N.log2 < 2 ^ 54 := by omega
      have := (Nat.pow_lt_pow_iff_right (a := 2) (by omega)).1 this
      omega
    generalize hLd : N.log2 = L at *
    -- the significand
    obtain ⟨Q, hQ1, hQ2, hQ⟩ : ∃ Q, 4503599627370496 ≤ Q ∧ Q < 9007199254740992 ∧ ∀ k : Nat, 0 ≤ (L : Int) - 52 + k → Q * 2 ^ ((L : Int) - 52 + k).toNat = N * 2 ^ k := by
      by_cases hl : L ≤ 52
      · refine ⟨N * 2 ^ (52 - L), ?_, ?_, ?_⟩
        · have : 2 ^ L * 2 ^ (52 - L) ≤ N * 2 ^ (52 - L) := Nat.mul_le_mul_right _ hL1
          rw [← Nat.pow_add, show L + (52 - L) = 52 by omega] at this
          exact this
        · have : N * 2 ^ (52 - L) < 2 ^ (L + 1) * 2 ^ (52 - L) := Nat.mul_lt_mul_of_pos_right hL2 (hp _)
          rw [← Nat.pow_add, show L + 1 + (52 - L) = 53 by omega] at this
          exact this
        · intro k hk
          rw [Nat.mul_assoc, ← Nat.pow_add]
          congr 2
          omega
      · obtain rfl : L = 53 := by omega
        have : N = 2 ^ 53 := by omega
        refine ⟨2 ^ 52, by decide, by decide, fun k hk => ?_⟩
        rw [this, ← Nat.pow_add, ← Nat.pow_add]
        congr 1
        omega
    have hlast : max (e + m.log2 - double.fractionBits) double.leastPlace = (L : Int) - 52 := by
      rw [hlog]
      have e1 : ((double.fractionBits : Nat) : Int) = 52 := rfl
      have e2 : double.leastPlace = -1074 := by decide
      rw [e1, e2]
      omega
    have hkept : Toward.even.cut s (m <<< (e - ((L : Int) - 52)).toNat) ((L : Int) - 52 - e).toNat = Q := by
      have h1 := hall (e.natAbs + 52) (by omega)
      have h2 := hQ (e.natAbs + 52) (by omega)
      rw [← h2] at h1
      by_cases hge : (L : Int) - 52 ≤ e
      · have e1 : ((L : Int) - 52 - e).toNat = 0 := by omega
        have e2 : (e + ((e.natAbs + 52 : Nat) : Int)).toNat = (e - ((L : Int) - 52)).toNat + ((L : Int) - 52 + ((e.natAbs + 52 : Nat) : Int)).toNat := by omega
        rw [e1, cut_zero, Nat.shiftLeft_eq]
        rw [e2, Nat.pow_add, ← Nat.mul_assoc] at h1
        exact Nat.eq_of_mul_eq_mul_right (hp _) h1
      · have e1 : (e - ((L : Int) - 52)).toNat = 0 := by omega
        have e2 : ((L : Int) - 52 + ((e.natAbs + 52 : Nat) : Int)).toNat = ((L : Int) - 52 - e).toNat + (e + ((e.natAbs + 52 : Nat) : Int)).toNat := by omega
        rw [e1, Nat.shiftLeft_zero]
        rw [e2, Nat.pow_add, ← Nat.mul_assoc] at h1
        exact cut_exact _ _ _ _ _ (Nat.eq_of_mul_eq_mul_right (hp _) h1) (by omega)
    obtain ⟨c, hc, hc2⟩ : ∃ c : Nat, (L : Int) - 52 = -1074 + (c : Int) ∧ c ≤ 1100 := ⟨((L : Int) + 1022).toNat, by omega, by omega⟩
    have hread : double.read (double.nearest s m e) = .number s Q ((L : Int) - 52) := by
      rw [nearest_word s m e _ Q c hm hlast hkept hc hc2 hQ2, read_word s c Q hQ1 hQ2 hc2, hc]
    refine ⟨_, _, _, hread, 52, by omega, ?_⟩
    have g := hQ 52 (by omega)
    rw [signed_mul, hsign, Int.mul_assoc, Int.mul_assoc]
    congr 1
    exact_mod_cast g
theorem isF_iff (x : Nat) (n : Int) : IsF x n ↔ IsD (double.read x) n := by
  constructor
  · rintro ⟨s, m, e, h, k⟩; exact ⟨s, m, e, h, k⟩
  · rintro ⟨s, m, e, h, k⟩; exact ⟨s, m, e, h, k⟩
theorem IsD.write {d : Datum} {n : Int} (h : IsD d n) (hn : n.natAbs ≤ 9007199254740992) : IsF (double.write d) n := by
  obtain ⟨s, m, e, rfl, h⟩ := h
  exact (isF_iff _ _).2 (nearest_exact s m e n h hn)
theorem IsF.ofInt (n : Int) (hn : n.natAbs ≤ 9007199254740992) : IsF (double.write (.number (n < 0) n.natAbs 0)) n := by
  refine IsD.write ⟨_, _, _, rfl, 0, by omega, ?_⟩ hn
  simp only [signed, Nat.shiftLeft_eq]
  by_cases h : n < 0 <;> simp [h] <;> omega
theorem IsF.add {x y : Nat} {a b : Int} (hx : IsF x a) (hy : IsF y b) (h : (a + b).natAbs ≤ 9007199254740992) : ∃ r, double.add x y = some r ∧ IsF r (a + b) := by
  obtain ⟨d, e, hd⟩ := IsD.sum ((isF_iff _ _).1 hx) ((isF_iff _ _).1 hy)
  exact ⟨_, by rw [Format.add, e]; rfl, hd.write h⟩
theorem IsF.sub {x y : Nat} {a b : Int} (hx : IsF x a) (hy : IsF y b) (h : (a - b).natAbs ≤ 9007199254740992) : ∃ r, double.sub x y = some r ∧ IsF r (a - b) := by
  obtain ⟨d, e, hd⟩ := IsD.sum ((isF_iff _ _).1 hx) ((isF_iff _ _).1 hy).opposite
  exact ⟨_, by rw [Format.sub, e]; rfl, hd.write h⟩
theorem IsF.mul {x y : Nat} {a b : Int} (hx : IsF x a) (hy : IsF y b) (h : (a * b).natAbs ≤ 9007199254740992) : ∃ r, double.mul x y = some r ∧ IsF r (a * b) := by
  obtain ⟨d, e, hd⟩ := IsD.product ((isF_iff _ _).1 hx) ((isF_iff _ _).1 hy)
  exact ⟨_, by rw [Format.mul, e]; rfl, hd.write h⟩
theorem IsF.order {x y : Nat} {a b : Int} (hx : IsF x a) (hy : IsF y b) : double.order x y = some (compare a b) := IsD.order ((isF_iff _ _).1 hx) ((isF_iff _ _).1 hy)
theorem IsF.toInt {x : Nat} {a : Int} (hx : IsF x a) : (double.read x).toInt .zero = some a := IsD.toInt ((isF_iff _ _).1 hx)
end Go.Proofs.Ytccjbgjemfcedab
