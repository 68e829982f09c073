import Derived.Test.YtlpnobpgphmngaaCellPlaysA
namespace Go.Proofs.Ytlpnobpgphmngaa
open Go.ChangeShapes Go.WideShapes Go.ChangeAt Go.RowKit
set_option linter.unusedVariables false
set_option linter.unusedSimpArgs false
/-- Steps that came in. -/
def Steps (w : World) (a : Option Addr) (n : Nat) (K I : Nat → Int) (U : Nat → Nat) : Prop := 0 < n → ∃ b off, a = some ⟨b, off, none⟩ ∧ b < w.heap.size ∧ ∀ i, i < n → w.cell? ⟨b, off + i * 3, none⟩ = some (.int .i64 (K i)) ∧ w.cell? ⟨b, off + i * 3 + 1, none⟩ = some (.int .i64 (I i)) ∧ w.cell? ⟨b, off + i * 3 + 2, none⟩ = some (.int .u32 (U i : Nat))
set_option maxRecDepth 20000 in
set_option maxHeartbeats 2000000 in
theorem cellPlays_plain (a0 a1 : Option Addr) (n n1 cap cap1 : Nat) (N : Nat → Nat) (K I : Nat → Int) (U : Nat → Nat) (w : World) (hn : n ≤ 60) (hn1 : n1 ≤ 60) (hs : Src w a0 n cap N) (ht : Steps w a1 n1 K I U) (hN : ∀ k, k < n → N k < 4294967296) (hU : ∀ k, k < n1 → U k < 4294967296) :
    Calls Try.prog 8 #[.slice a0 n cap, .slice a1 n1 cap1] w fun e w' => e = .returned (.bool true) ∧ Below w.heap.size w w' := by
  have hd : decide (60 < (n : Int)) = false := decide_eq_false (by omega)
  have hd1 : decide (60 < (n1 : Int)) = false := decide_eq_false (by omega)
  have HS := Lib.hid hs
  have HTT := Lib.hid ht
  have HN := Lib.hid hN
  have HU := Lib.hid hU
  clear hs ht hN hU
  go_enter Try.func8, Try.ntmps8
  go_wp2_with fail
  refine (of_src a0 n cap N w hn HS.out).mono ?_
  rintro e w1 ⟨rfl, m1, k1⟩
  have M1 := Lib.hid (And.intro m1 k1)
  clear m1 k1
  go_wp2_with fail
  refine (rof_src a0 n cap N w1 hn (HS.out.none M1.out.2)).mono ?_
  rintro e w2 ⟨a, c, rfl, r2, k2⟩
  have hB : CB w (w2.alloc (.cells #[.slice a n c, .int .i64 (0 : Int), .int .i64 (0 : Int)] 81)) (w.heap.size + 1) w.heap.size w2.heap.size n N 0 0 a c := by
    have s1 := lt_of M1.out.1.1
    have s2 := k2.size
    have kk : Keeps (fun _ => False) w (w2.alloc (.cells #[.slice a n c, .int .i64 (0 : Int), .int .i64 (0 : Int)] 81)) := (M1.out.2.trans k2).alloc _
    exact ⟨kk.none, by omega, Nat.le_refl _, by omega, by omega, by omega, (M1.out.1.none k2).none ((Keeps.refl _ _).alloc _), heap_new _ _, (r2.q.mono fun g hg hl => by omega).none ((Keeps.refl _ _).alloc _)⟩
  have HB0 := Lib.hid hB
  clear hB r2 k2 M1
  go_wp2_with fail
  generalize hw0 : World.alloc _ _ = w0 at *
  clear hw0
  generalize w.heap.size + 1 = b at *
  generalize hq : w2.heap.size = x at *
  clear hq
  obtain ⟨q, hq⟩ : ∃ q, q = w.heap.size := ⟨_, rfl⟩
  have HB : Hid (CB w w0 b q x n N 0 0 a c) := Lib.hid (by rw [hq]; exact HB0.out)
  clear HB0 hq
  go_loopw [7] (fun i wr => ∃ (k l s c : Nat) (N : Nat → Nat) (a : Option Addr), k ≤ n1 ∧ l ≤ k ∧ s ≤ k ∧ i = .int .i64 k ∧ (∀ z, z < n → N z < 4294967296) ∧ CB w wr b q x n N l s a c) (fun i _ => n1 - (intOf i).toNat)
  case atStart => exact ⟨0, 0, 0, c, N, a, by omega, by omega, by omega, rfl, HN.out, HB.out⟩
  case round =>
    obtain ⟨k, l, s, c, N, a, hk, hl, hss, rfl, hN, hB⟩ := hrel
    clear HB HN HS
    have HB := Lib.hid hB
    have HN := Lib.hid hN
    clear hB hN
    by_cases hlt : k < n1
    · obtain ⟨bs, off, rfl, hbs, hsc⟩ := HTT.out (by omega)
      have hsc2 : ∀ wr, Below w.heap.size w wr → wr.cell? ⟨bs, off + k * 3, none⟩ = some (.int .i64 (K k)) ∧ wr.cell? ⟨bs, off + k * 3 + 1, none⟩ = some (.int .i64 (I k)) ∧ wr.cell? ⟨bs, off + k * 3 + 2, none⟩ = some (.int .u32 (U k : Nat)) := fun wr h => by
        obtain ⟨g1, g2, g3⟩ := hsc k hlt
        exact ⟨(h.cell (p := ⟨bs, off + k * 3, none⟩) hbs).trans g1, (h.cell (p := ⟨bs, off + k * 3 + 1, none⟩) hbs).trans g2, (h.cell (p := ⟨bs, off + k * 3 + 2, none⟩) hbs).trans g3⟩
      have HSC := Lib.hid hsc2
      obtain ⟨v3, v4, v5⟩ := hsc2 _ HB.out.below
      have lbs : bs < wr.heap.size := Nat.lt_of_lt_of_le hbs HB.out.below.size
      have hbx : bs ≠ x := by have := HB.out.nx; omega
      obtain ⟨V, ok, N', l', s', q1, q2, q3, q4, q5⟩ := step_both (K k) (I k) (U k) n l s N hn (by omega) (by omega) HN.out (HU.out k hlt)
      have HST := Lib.hid (And.intro (And.intro q1 q4) q5)
      clear hsc hsc2 q1 q4 q5
      go_wp2_with fail
      refine (HST.out.1.2 b q _ HB.out.mem).mono ?_
      rintro e w1 ⟨rfl, m1, k1⟩
      have HH := Lib.hid (HB.out.half m1 k1)
      have y0 := HH.out.x0
      have y1 := HH.out.x1
      have y2 := HH.out.x2
      obtain ⟨y3, y4, y5⟩ := HSC.out _ HH.out.below
      have lx := lt_of HH.out.ref
      have lb : bs < w1.heap.size := Nat.lt_of_lt_of_le hbs HH.out.below.size
      have lbb := lt_of HH.out.mem.1
      have lqq := lt_of HH.out.mem.2.1
      have hnx := HH.out.nx
      have hsz := HH.out.below.size
      clear m1 k1 v3 v4 v5 lbs
      go_wp2_with fail
      go_region_held3 (fun w' => w'.cell? ⟨x, 0, none⟩ = some (.slice a n c) ∧ w'.cell? ⟨x, 1, none⟩ = some (.int .i64 (l : Int)) ∧ w'.cell? ⟨x, 2, none⟩ = some (.int .i64 (s : Int)) ∧ w'.cell? ⟨bs, off + k * 3, none⟩ = some (.int .i64 (K k)) ∧ w'.cell? ⟨bs, off + k * 3 + 1, none⟩ = some (.int .i64 (I k)) ∧ w'.cell? ⟨bs, off + k * 3 + 2, none⟩ = some (.int .u32 (U k : Nat)))
          (first
            | go_keep
            | exact ⟨y0, y1, y2, y3, y4, y5⟩
            | exact ⟨cell_far3 y0 (by simp; omega), cell_far3 y1 (by simp; omega), cell_far3 y2 (by simp; omega), cell_far3 y3 (by simp; omega), cell_far3 y4 (by simp; omega), cell_far3 y5 (by simp; omega)⟩)
          ((go_at_call 53; refine (HST.out.2 (fun g => g ≠ b ∧ g ≠ q ∧ g ≠ x ∧ g < w1.heap.size) a c _ ((HH.out.row.mono (fun g hg hl => ⟨hg.1, hg.2.1, hg.2.2, hl⟩)).none (by first | exact (Keeps.refl _ _).drew | exact ((Keeps.refl _ _).alloc _).drew))).mono ?_; rintro e w2 ⟨a', c', rfl, row2, k2⟩; have HH2 := Lib.hid (HH.out.none (w2 := w2) (by first | exact (Keeps.refl _ _).drew.trans k2 | exact ((Keeps.refl _ _).alloc _).drew.trans k2)); have y0 := HH2.out.x0; have y1 := HH2.out.x1; have y2 := HH2.out.x2; obtain ⟨y3, y4, y5⟩ := HSC.out _ HH2.out.below; have fx0 := free_of HH2.out.ref 0; have fx1 := free_of HH2.out.ref 1; have fx2 := free_of HH2.out.ref 2; have lx2 := lt_of HH2.out.ref; have G2 := Lib.hid (And.intro row2 k2); have s2 := k2.size; obtain ⟨zs, zc, zf⟩ := new_at3 k2 w1.heap.size; (try simp at zs); (try simp at zc); (try simp at zf); clear row2))
      · go_upto_region 10 with (fail)
        have hB2 := HH2.out.after (a' := a') (c' := c') G2.out.1 (fun g hg hl => by rcases hg with hg | hg; exact ⟨hg.1, hg.2.1, hg.2.2.1⟩; (have hg' : w1.heap.size ≤ g := hg; omega)) (.cells #[.slice a' n c', .int .i64 (l' : Int), .int .i64 (s' : Int)] 81)
        have HB2 := Lib.hid hB2
        clear hB2
        generalize hW : World.alloc _ _ = W at *
        clear hW
        go_wp2_with fail
        have x0 := HB2.out.x0
        have x1 := HB2.out.x1
        have x2 := HB2.out.x2
        refine (count_anyC b q n l' s' N' _ HB2.out.mem).mono ?_
        rintro e w5 ⟨rfl, nd, rfl⟩
        go_wp2
        go_roundw
        case rel => exact ⟨k + 1, l', s', c', N', a', by omega, by omega, by omega, by go_num, HST.out.1.1, HB2.out.none ((Keeps.refl _ _).drewN nd)⟩
        case measure => simp [intOf]; omega
      · go_upto_region 10 with (fail)
        have hB2 := HH2.out.ahead (a' := a') (c' := c') (y := w1.heap.size) G2.out.1 (by omega) (by omega) (by omega) (by omega) (fun g hg hl => by rcases hg with hg | hg; exact ⟨by have := hg.2.2.2; omega, hg.1, hg.2.1, hg.2.2.1⟩; (have hg' : w1.heap.size + 1 ≤ g := (by simpa using hg); omega)) (.slice a' n c') (.int .i64 (l' : Int)) (.int .i64 (s' : Int))
        have HB2 := Lib.hid hB2
        clear hB2
        generalize hW : World.setCell _ _ _ = W at *
        clear hW
        go_wp2_with fail
        have x0 := HB2.out.x0
        have x1 := HB2.out.x1
        have x2 := HB2.out.x2
        refine (count_anyC b q n l' s' N' _ HB2.out.mem).mono ?_
        rintro e w5 ⟨rfl, nd, rfl⟩
        go_wp2
        go_roundw
        case rel => exact ⟨k + 1, l', s', c', N', a', by omega, by omega, by omega, by go_num, HST.out.1.1, HB2.out.none ((Keeps.refl _ _).drewN nd)⟩
        case measure => simp [intOf]; omega
    · obtain rfl : k = n1 := by omega
      go_wp2_with fail
      have hq2 := HB.out.none (Keeps.refl _ _).drew
      have HB1 := Lib.hid hq2
      have x0 := hq2.x0
      have lx := lt_of HB.out.ref
      clear hq2 HN HU HTT
      go_region_held3 (fun w' => w'.cell? ⟨x, 0, none⟩ = some (.slice a n c))
        (first
          | go_keep
          | exact HB1.out.x0)
        (first
          | (go_at_call 55; refine (all_any b q n N _ HB1.out.mem.mem).mono ?_; rintro e w2 ⟨rfl, hg, k2⟩; replace HB1 := Lib.hid (HB1.out.none k2); have HG := Lib.hid hg; clear k2 hg)
          | (go_at_call 29; refine (rwords_any _ n _ _ a N _ hn HG.out (fun hp => by obtain ⟨g, ha, _, _, hc⟩ := HB1.out.row hp; exact ⟨g, ha, hc⟩)).mono ?_; rintro e w2 ⟨rfl, k2⟩; replace HB1 := Lib.hid (HB1.out.none k2); clear k2)
          | (go_at_call 56; refine (len_any b q n N _ HB1.out.mem.mem).mono ?_; rintro e w2 ⟨rfl, rfl⟩)
          | (go_at_call 50; refine (of_row6 _ a n c N _ hn HB1.out.row).mono ?_; rintro e w2 ⟨rfl, m2, k2⟩; replace HB1 := Lib.hid (HB1.out.none k2); have HM2 := Lib.hid m2; clear k2 m2)
          | (go_at_call 57; refine (same_any b q _ _ n N _ HB1.out.mem.mem HM2.out.mem).mono ?_; rintro e w2 ⟨rfl, nd, rfl⟩; replace HB1 := Lib.hid (HB1.out.none ((Keeps.refl _ _).drewN nd)))
          | (go_at_call 49; refine (alive06_any _).mono ?_; rintro e w2 ⟨rfl, hb2⟩; replace HB1 := Lib.hid (HB1.out.none (Keeps.ofBelow hb2)); clear hb2))
      go_wp2
      go_ret
      exact ⟨rfl, HB1.out.below⟩
set_option maxRecDepth 20000 in
theorem cellPlays_large (a0 a1 : Option Addr) (n n1 cap cap1 : Nat) (w : World) (hm : n ≤ maxLen) (hm1 : n1 ≤ maxLen) (h : 60 < n ∨ 60 < n1) :
    Calls Try.prog 8 #[.slice a0 n cap, .slice a1 n1 cap1] w fun e w' => e = .returned (.bool true) ∧ Below w.heap.size w w' := by
  unfold maxLen at hm hm1
  by_cases h1 : 60 < n
  · have hd : decide (60 < (n : Int)) = true := decide_eq_true (by omega)
    go_enter Try.func8, Try.ntmps8
    go_wp2_with fail
    refine (alive06_any _).mono ?_
    rintro e w6 ⟨rfl, hb⟩
    go_wp2
    go_ret
    exact ⟨rfl, hb⟩
  · have hd : decide (60 < (n : Int)) = false := decide_eq_false (by omega)
    have hd1 : decide (60 < (n1 : Int)) = true := decide_eq_true (by omega)
    go_enter Try.func8, Try.ntmps8
    go_wp2_with fail
    refine (alive06_any _).mono ?_
    rintro e w6 ⟨rfl, hb⟩
    go_wp2
    go_ret
    exact ⟨rfl, hb⟩
set_option maxRecDepth 100000 in
theorem step06 {w : World} {cs : List Value} (h : Reads Try.prog w 86 cs) :
    ∃ (k i : Int) (u : Nat), cs = [.int .i64 k, .int .i64 i, .int .u32 u] ∧ u < 4294967296 := by
  obtain ⟨hl, hf⟩ := h.struct Try.underlying86
  have hc : Try.prog.cellsOf 86 = 3 := by kernel_rfl
  have hi : Try.prog.cellsOf 3 = 1 := by kernel_rfl
  have hu : Try.prog.cellsOf 26 = 1 := by kernel_rfl
  rw [hc] at hl
  match cs, hl with
  | [v0, v1, v2], _ =>
    obtain ⟨s, hs, _⟩ := (h.field Try.underlying86 0 3 0 1 rfl hi).int Try.underlying3
    obtain ⟨f, hf, _⟩ := (h.field Try.underlying86 1 3 1 1 rfl hi).int Try.underlying3
    obtain ⟨m, hm, hw⟩ := (h.field Try.underlying86 2 26 2 1 rfl hu).int Try.underlying26
    have hb := bounds_u32 hw
    obtain ⟨y, rfl⟩ := Int.eq_ofNat_of_zero_le hb.1
    simp at hs hf hm
    exact ⟨s, f, y, by simp [hs, hf, hm], by omega⟩
theorem Reads.nil_or {P : Program} {w : World} {t e : TypeId} {cs : List Value} (h : Reads P w t cs) (ht : P.underlying t = some (.slice e)) : cs = [.slice none 0 0] ∨ ∃ a len cap, cs = [.slice (some a) len cap] := by
  obtain ⟨H, enc, fuel, x, hf⟩ := h
  rcases Deep.open_slice ht hf with ⟨h, _⟩ | ⟨a, len, cap, m, n, D, Pl, h, _⟩
  · exact .inl h
  · exact .inr ⟨a, len, cap, h⟩
set_option maxRecDepth 100000 in
theorem cellPlays_walk {H : Type} {enc : TypeId × Value → H} (W : World) (base : Nat) {v0 v1 : Value} {d0 d1 : DataW H} {p0 p1 : List MemPlace}
    (k0 : Value.okWide Try.prog W .any base 46 v0) (h0 : DataW.Trod enc Try.prog W 0 (fun _ => true) true 46 v0 d0 p0)
    (k1 : Value.okWide Try.prog W .any base 77 v1) (h1 : DataW.Trod enc Try.prog W 0 (fun _ => true) true 77 v1 d1 p1) :
    Calls Try.prog 8 #[v0, v1] W fun e w' => e = .returned (.bool true) ∧ Below W.heap.size W w' := by
  obtain ⟨a0, n0, c0, rfl⟩ := okWide_slice Try.underlying46 k0
  obtain ⟨a1, n1, c1, rfl⟩ := okWide_slice Try.underlying77 k1
  obtain ⟨a, n, c, e, hl0, hm0, r0⟩ := (reads_of h0).rows Try.underlying46 (n := 1) (by kernel_rfl) (by omega)
  simp [Value.cells] at e
  obtain ⟨rfl, rfl, rfl⟩ := e
  obtain ⟨a, n, c, e, hl1, hm1, r1⟩ := (reads_of h1).rows Try.underlying77 (n := 3) (by kernel_rfl) (by omega)
  simp [Value.cells] at e
  obtain ⟨rfl, rfl, rfl⟩ := e
  by_cases hal : 60 < n0 ∨ 60 < n1
  · exact cellPlays_large _ _ _ _ _ _ W (by omega) (by omega) hal
  · have q0 : ∃ N : Nat → Nat, (∀ i, i < n0 → N i < 4294967296) ∧ Src W a0 n0 c0 N := by
      rcases (reads_of h0).nil_or Try.underlying46 with e | ⟨ad, len, cap, e⟩
      · simp [Value.cells] at e
        obtain ⟨rfl, rfl, rfl⟩ := e
        exact ⟨fun _ => 0, fun _ _ => by omega, .inl ⟨rfl, rfl, rfl⟩⟩
      · simp [Value.cells] at e
        obtain ⟨rfl, rfl, rfl⟩ := e
        rcases Nat.eq_zero_or_pos n0 with rfl | hp
        · exact ⟨fun _ => 0, fun _ _ => by omega, .inr ⟨ad, rfl, fun h => by omega⟩⟩
        · obtain ⟨b, off, hab, hb, hr⟩ := r0 hp
          obtain ⟨N, hN⟩ := Deep.choose_lt (n := n0) (p := fun i (x : Nat) => x < 4294967296 ∧ W.cell? ⟨b, off + i, none⟩ = some (.int .u32 x)) (fun i hi => by
            obtain ⟨cs', _, hc, hrd⟩ := hr i hi
            obtain ⟨x, rfl, hx⟩ := hrd.int Try.underlying26
            have hb := bounds_u32 hx
            obtain ⟨y, rfl⟩ := Int.eq_ofNat_of_zero_le hb.1
            have := hc 0 (by omega)
            simp at this
            exact ⟨y, by omega, this⟩)
          injection hab with hab
          exact ⟨N, fun i hi => (hN i hi).1, .inr ⟨ad, rfl, fun _ => ⟨b, off, hab, hb, fun i hi => (hN i hi).2⟩⟩⟩
    have q1 : ∃ (K I : Nat → Int) (U : Nat → Nat), (∀ i, i < n1 → U i < 4294967296) ∧ Steps W a1 n1 K I U := by
      rcases Nat.eq_zero_or_pos n1 with rfl | hp
      · exact ⟨fun _ => 0, fun _ => 0, fun _ => 0, fun i hi => by omega, fun h => by omega⟩
      · obtain ⟨b, off, rfl, hb, hr⟩ := r1 hp
        obtain ⟨F, hF⟩ := Deep.choose_lt (n := n1) (p := fun i (f : Int × Int × Nat) => f.2.2 < 4294967296 ∧ W.cell? ⟨b, off + i * 3, none⟩ = some (.int .i64 f.1) ∧ W.cell? ⟨b, off + i * 3 + 1, none⟩ = some (.int .i64 f.2.1) ∧ W.cell? ⟨b, off + i * 3 + 2, none⟩ = some (.int .u32 (f.2.2 : Nat))) (fun i hi => by
          obtain ⟨cs', _, hc, hrd⟩ := hr i hi
          obtain ⟨k, j, u, rfl, hu⟩ := step06 hrd
          have c0 := hc 0 (by omega)
          have c1 := hc 1 (by omega)
          have c2 := hc 2 (by omega)
          simp at c0 c1 c2
          exact ⟨(k, j, u), hu, c0, c1, c2⟩)
        exact ⟨fun i => (F i).1, fun i => (F i).2.1, fun i => (F i).2.2, fun i hi => (hF i hi).1, fun _ => ⟨b, off, rfl, hb, fun i hi => (hF i hi).2⟩⟩
    obtain ⟨N, hN, hs⟩ := q0
    obtain ⟨K, I, U, hU, ht⟩ := q1
    exact cellPlays_plain a0 a1 n0 n1 c0 c1 N K I U W (by omega) (by omega) hs ht hN hU
end Go.Proofs.Ytlpnobpgphmngaa
