import Derived.Test.YtohajfkekkelhaaDoorLinKz
import Derived.Test.YtohajfkekkelhaaDoorCertAz
import Derived.Test.YtohajfkekkelhaaDoorLinNz
import Derived.Test.YtohajfkekkelhaaDoorLinAz
namespace Go.Proofs.YtohajfkekkelhaaDoor
open Go.ChangeShapes Go.WideShapes Go.ChangeAt Go.RowKit Go.Lib
set_option linter.unusedVariables false
set_option linter.unusedSimpArgs false
theorem rowN_len : ∀ r : List W4, (rowN r).length = r.length * 16
  | [] => rfl
  | v :: t => by
    show (valN v ++ rowN t).length = _
    rw [List.length_append, rowN_len t, valN_len]
    show 16 + t.length * 16 = (t.length + 1) * 16
    omega
theorem key_len : ∀ (L : List ItemD), (∀ y, y ∈ L → y.row.length ≤ 64) → L.length ≤ 1000 → (keyN L).length ≤ 2000000 := fun L h hl => by
  have key : ∀ L : List ItemD, (∀ y, y ∈ L → y.row.length ≤ 64) → (keyN L).length ≤ L.length * 1044 := fun L => by
    induction L with
    | nil => intro _; exact Nat.le_refl _
    | cons x t ih =>
      intro h
      show (itemN x ++ keyN t).length ≤ (t.length + 1) * 1044
      have h1 := ih fun y hy => h y (.tail _ hy)
      have h2 := h x (.head _)
      have h3 : (itemN x).length = 20 + x.row.length * 16 := by
        unfold itemN
        rw [List.length_append, List.length_append, numN_len, rowN_len, valN_len]
        omega
      rw [List.length_append, h3]
      omega
  have := key L h
  omega
/-- The string of a key's bytes. -/
theorem conv_key {w : World} {B : Nat} {v : Value} {l : List UInt8} (h : w.ownsRow B 5 1 v l.length (byteCells l)) : (convert 72 9 v).run Tryd.prog w = .ok (.string ⟨l.toArray⟩) w := by
  rcases h.2 with ⟨rfl, h0⟩ | ⟨g, cap, cur, rfl, hg, hcur, hc, hm, hs, ht⟩
  · have : l = [] := List.eq_nil_of_length_eq_zero h0
    subst this
    exact run_convert_nil_bytes w _ _ 5 0 Tryd.underlying72 Tryd.underlying5 Tryd.underlying9
  · exact run_convert_bytes_back w _ _ 5 ⟨g, 0, none⟩ cap l Tryd.underlying72 Tryd.underlying5 Tryd.underlying9 (bytes_of_row hcur (by simpa using ht))
set_option maxRecDepth 20000 in
set_option maxHeartbeats 8000000 in
theorem key_any (w : World) (g c : Nat) (L : List ItemD) (h : StateAt w g L) (ok : ∀ x, x ∈ L → x.Ok) (hn : L.length ≤ 1000) :
    Calls Tryd.prog 16 #[.slice (some ⟨g, 0, none⟩) L.length c] w fun e w' => e = .returned (.string ⟨(keyN L).toArray⟩) ∧ Below w.heap.size w w' := by
  have HH := Lib.hid (And.intro h ok)
  have hgl := h.lt
  obtain ⟨n, hne⟩ : ∃ n, L.length = n := ⟨_, rfl⟩
  have HN := Lib.hid hne
  rw [hne] at hn ⊢
  clear h ok hne
  go_enter Tryd.func16, Tryd.ntmps16
  go_wp2_with fail
  go_loopw [3, 10] (fun s i wr => ∃ (k : Nat) (kv : Value), k ≤ n ∧ i = .int .i64 (k : Int) ∧ s = kv ∧ wr.ownsRow w.heap.size 5 1 kv (keyN (L.take k)).length (byteCells (keyN (L.take k))) ∧ Below w.heap.size w wr) (fun _ i _ => n - (intOf i).toNat)
  case atStart => exact ⟨0, _, by omega, rfl, rfl, World.ownsRow_nil _ _ _ _, Below.refl _ w⟩
  case round =>
    obtain ⟨k, kv, hk, rfl, hsv, hown, hB⟩ := hrel
    obtain rfl := hsv.symm
    have HS := Lib.hid (And.intro hown hB)
    clear hown hB
    by_cases hlt : k < n
    · obtain ⟨x, hx⟩ : ∃ x, L[k]? = some x := ⟨_, List.getElem?_eq_getElem (by rw [HN.out]; exact hlt)⟩
      have okx := HH.out.2 x (List.mem_of_getElem? hx)
      obtain ⟨ax, cx, hr15, hle, hmax, hnil, hrin⟩ := HH.out.1.at' k x hx
      have hklen : (keyN (L.take k)).length ≤ 2000000 := key_len _ (fun y hy => (HH.out.2 y (List.mem_of_mem_take hy)).len) (Nat.le_trans (List.length_take_le _ _) (by omega))
      have hkey : keyN (L.take (k + 1)) = keyN (L.take k) ++ itemN x := by rw [List.take_add_one, hx]; unfold keyN; rw [List.flatMap_append]; simp
      have HK := Lib.hid hkey
      have hgr : g < wr.heap.size := Nat.lt_of_lt_of_le hgl HS.out.2.size
      have HR := Lib.hid (show wr.rangeAt g (k * 15) [.int .i64 (x.o 0), .int .i64 (x.o 1), .int .i64 (x.o 2), .int .i64 (x.o 3), .int .i64 (x.o 4), .int .i64 (x.o 5), .int .u32 (x.oi 0), .int .u32 (x.oi 1), .int .u32 (x.oi 2), .int .u32 (x.oi 3), .slice ax x.row.length cx, .int .u32 x.v.a, .int .u32 x.v.b, .int .u32 x.v.c, .int .u32 x.v.d] from range_below hr15 HS.out.2 hgl)
      have HX := Lib.hid (And.intro okx (And.intro hrin hx))
      have hrl : x.row.length ≤ 64 := okx.len
      have hwl : IntKind.u32.wrap ((x.row.length : Nat) : Int) = ((x.row.length : Nat) : Int) := by simp [IntKind.wrap, IntKind.signed, IntKind.bits]; omega
      have HOB := Lib.hid (HS.out.1.alloc (.cells #[.int .i64 (x.o 0), .int .i64 (x.o 1), .int .i64 (x.o 2), .int .i64 (x.o 3), .int .i64 (x.o 4), .int .i64 (x.o 5), .int .u32 (x.oi 0), .int .u32 (x.oi 1), .int .u32 (x.oi 2), .int .u32 (x.oi 3), .slice ax x.row.length cx, .int .u32 x.v.a, .int .u32 x.v.b, .int .u32 x.v.c, .int .u32 x.v.d] 75))
      have HBB := Lib.hid (heap_new wr (.cells #[.int .i64 (x.o 0), .int .i64 (x.o 1), .int .i64 (x.o 2), .int .i64 (x.o 3), .int .i64 (x.o 4), .int .i64 (x.o 5), .int .u32 (x.oi 0), .int .u32 (x.oi 1), .int .u32 (x.oi 2), .int .u32 (x.oi 3), .slice ax x.row.length cx, .int .u32 x.v.a, .int .u32 x.v.b, .int .u32 x.v.c, .int .u32 x.v.d] 75))
      have HN0 := Lib.hid (number_any (wr.alloc (.cells #[.int .i64 (x.o 0), .int .i64 (x.o 1), .int .i64 (x.o 2), .int .i64 (x.o 3), .int .i64 (x.o 4), .int .i64 (x.o 5), .int .u32 (x.oi 0), .int .u32 (x.oi 1), .int .u32 (x.oi 2), .int .u32 (x.oi 3), .slice ax x.row.length cx, .int .u32 x.v.a, .int .u32 x.v.b, .int .u32 x.v.c, .int .u32 x.v.d] 75)) w.heap.size kv _ HOB.out (by have := HS.out.2.size; simp; omega) (by omega) x.row.length (by omega))
      have d1 : decide (k < n) = true := decide_eq_true hlt
      have d2 : decide ((k : Int) < (n : Int)) = true := decide_eq_true (by omega)
      have hbz := HS.out.2.size
      clear hx okx hrin hr15 hkey
      go_wp2_with (refine wpList_load_mid rfl 75 (.tmp 12) rfl g (k * 15) rfl [.int .i64 (x.o 0), .int .i64 (x.o 1), .int .i64 (x.o 2), .int .i64 (x.o 3), .int .i64 (x.o 4), .int .i64 (x.o 5), .int .u32 (x.oi 0), .int .u32 (x.oi 1), .int .u32 (x.oi 2), .int .u32 (x.oi 3), .slice ax x.row.length cx, .int .u32 x.v.a, .int .u32 x.v.b, .int .u32 x.v.c, .int .u32 x.v.d] _ HR.out Tryd.underlying75 rfl item_infoK ?_)
      refine HN0.out.mono ?_
      rintro e2 w2 ⟨v2, rfl, h2⟩
      have HB2 := Lib.hid (h2.keep HOB.out HBB.out (by decide))
      have HS2 := Lib.hid (And.intro h2.own (h2.below HOB.out (HS.out.2.alloc HS.out.2.size _) (by simp; omega)))
      have hb2 : wr.heap.size < w2.heap.size := lt_of HB2.out
      clear h2 HN0
      have c10 : w2.cell? ⟨wr.heap.size, 10, none⟩ = some (.slice ax x.row.length cx) := cell_of HB2.out 10
      go_wp2_with fail
      go_loopw [3, 23] (fun s i W => ∃ (q : Nat) (kv' : Value), q ≤ x.row.length ∧ i = .int .i64 (q : Int) ∧ s = kv' ∧ W.ownsRow w.heap.size 5 1 kv' (keyN (L.take k) ++ numN x.row.length ++ rowN (x.row.take q)).length (byteCells (keyN (L.take k) ++ numN x.row.length ++ rowN (x.row.take q))) ∧ W.heap[wr.heap.size]? = some (.cells #[.int .i64 (x.o 0), .int .i64 (x.o 1), .int .i64 (x.o 2), .int .i64 (x.o 3), .int .i64 (x.o 4), .int .i64 (x.o 5), .int .u32 (x.oi 0), .int .u32 (x.oi 1), .int .u32 (x.oi 2), .int .u32 (x.oi 3), .slice ax x.row.length cx, .int .u32 x.v.a, .int .u32 x.v.b, .int .u32 x.v.c, .int .u32 x.v.d] 75 (0, 0)) ∧ Below w.heap.size w W) (fun _ i _ => x.row.length - (intOf i).toNat)
      case atStart => exact ⟨0, v2, by omega, rfl, rfl, by simpa [rowN] using HS2.out.1, HB2.out, HS2.out.2⟩
      case round =>
        rename World => W
        obtain ⟨q, kv', hq, rfl, hsv, hown, hbx, hB⟩ := hrel
        obtain rfl := hsv.symm
        have HT := Lib.hid (And.intro hown (And.intro hbx hB))
        have hrow16 : (rowN (x.row.take q)).length ≤ 1024 := by
          rw [rowN_len]
          have := List.length_take_le q x.row
          omega
        have hTl : (keyN (L.take k) ++ numN x.row.length ++ rowN (x.row.take q)).length ≤ 9000000 := by rw [List.length_append, List.length_append, numN_len]; omega
        have hbW : wr.heap.size < W.heap.size := lt_of hbx
        have hBW := hB.size
        clear hown hB c10
        by_cases hqlt : q < x.row.length
        · obtain ⟨y, hy⟩ : ∃ y, x.row[q]? = some y := ⟨_, List.getElem?_eq_getElem hqlt⟩
          obtain ⟨b, off, rfl, hbl, hrc⟩ := HX.out.2.1 (by omega)
          have oky := HX.out.1.row y (List.mem_of_getElem? hy)
          have HRY := Lib.hid (show W.rangeAt b (off + q * 4) [.int .u32 y.a, .int .u32 y.b, .int .u32 y.c, .int .u32 y.d] from range_below (hrc q y hy) HT.out.2.2 hbl)
          have HOW := Lib.hid (HT.out.1.alloc (.cells #[.int .u32 y.a, .int .u32 y.b, .int .u32 y.c, .int .u32 y.d] 41))
          have HBW := Lib.hid (heap_old HT.out.2.1 (.cells #[.int .u32 y.a, .int .u32 y.b, .int .u32 y.c, .int .u32 y.d] 41))
          have HNV := Lib.hid (value_any (W.alloc (.cells #[.int .u32 y.a, .int .u32 y.b, .int .u32 y.c, .int .u32 y.d] 41)) w.heap.size kv' _ HOW.out (by simp; omega) hTl y oky)
          have HRN := Lib.hid (show keyN (L.take k) ++ numN x.row.length ++ rowN (x.row.take (q + 1)) = keyN (L.take k) ++ numN x.row.length ++ rowN (x.row.take q) ++ valN y by rw [List.take_add_one, hy]; unfold rowN; rw [List.flatMap_append]; simp)
          have f1 : decide (q < x.row.length) = true := decide_eq_true hqlt
          have f2 : decide ((q : Int) < (x.row.length : Int)) = true := decide_eq_true (by omega)
          clear hy oky hrc hbx
          go_wp2_with (refine wpList_load_mid rfl 41 (.tmp 25) rfl b (off + q * 4) rfl [.int .u32 y.a, .int .u32 y.b, .int .u32 y.c, .int .u32 y.d] _ HRY.out Tryd.underlying41 rfl val_infoK ?_)
          refine HNV.out.mono ?_
          rintro e3 w3 ⟨v3, rfl, h3⟩
          have HB3 := Lib.hid (h3.keep HOW.out HBW.out (by decide))
          have HS3 := Lib.hid (And.intro h3.own (h3.below HOW.out (HT.out.2.2.alloc HT.out.2.2.size _) (by simp; omega)))
          clear h3 HNV
          go_wp2_with fail
          go_roundw
          case rel => exact ⟨q + 1, v3, by omega, by go_num, rfl, by rw [HRN.out]; exact HS3.out.1, HB3.out, HS3.out.2⟩
          case measure => simp [intOf]; omega
        · obtain rfl : q = x.row.length := by omega
          have f1 : decide (x.row.length < x.row.length) = false := decide_eq_false (by omega)
          have c11 : W.cell? ⟨wr.heap.size, 11, none⟩ = some (.int .u32 x.v.a) := cell_of hbx 11
          have c12 : W.cell? ⟨wr.heap.size, 12, none⟩ = some (.int .u32 x.v.b) := cell_of hbx 12
          have c13 : W.cell? ⟨wr.heap.size, 13, none⟩ = some (.int .u32 x.v.c) := cell_of hbx 13
          have c14 : W.cell? ⟨wr.heap.size, 14, none⟩ = some (.int .u32 x.v.d) := cell_of hbx 14
          have HNV := Lib.hid (value_any W w.heap.size kv' _ HT.out.1 hBW hTl x.v HX.out.1.v)
          have HRN := Lib.hid (show keyN (L.take (k + 1)) = keyN (L.take k) ++ numN x.row.length ++ rowN (x.row.take x.row.length) ++ valN x.v by rw [HK.out, List.take_length]; unfold itemN; simp only [List.append_assoc])
          clear hbx
          go_wp2_with fail
          refine HNV.out.mono ?_
          rintro e3 w3 ⟨v3, rfl, h3⟩
          have HS3 := Lib.hid (And.intro h3.own (h3.below HT.out.1 HT.out.2.2 hBW))
          clear h3 HNV c11 c12 c13 c14
          go_wp2_with fail
          go_roundw
          case rel => exact ⟨k + 1, v3, by omega, by go_num, rfl, by rw [HRN.out]; exact HS3.out.1, HS3.out.2⟩
          case measure => simp [intOf]; omega
    · obtain rfl : k = n := by omega
      have f1 : decide (k < k) = false := decide_eq_false (by omega)
      have hfin := HS.out.1
      rw [List.take_of_length_le (by rw [HN.out]; exact Nat.le_refl _)] at hfin
      have hcv := conv_key hfin
      clear hfin
      go_wp2_with (simp only [hcv])
      go_ret
      exact ⟨rfl, HS.out.2⟩
end Go.Proofs.YtohajfkekkelhaaDoor
namespace Go.Proofs.YtohajfkekkelhaaDoor
open Go.ChangeShapes Go.WideShapes Go.ChangeAt Go.RowKit
set_option linter.unusedVariables false
set_option linter.unusedSimpArgs false
set_option maxRecDepth 20000 in
set_option maxHeartbeats 8000000 in
theorem lfollow_any (w : World) (g c : Nat) (L : List ItemD) (h : StateAt w g L) (ok : ∀ x, x ∈ L → x.Ok) (hn : L.length ≤ 1000) (x : OpX) (hx : OpOk x) :
    Calls Tryd.prog 18 #[.slice (some ⟨g, 0, none⟩) L.length c, .agg (opA x)] w (AllowsIn w L.length (followP L x)) := by
  have HB0 := Lib.hid (show Below w.heap.size w (w.alloc (.cells #[.int .i64 (x 0), .int .i64 (x 1), .int .i64 (x 2), .int .i64 (x 3), .int .u32 (x 4), .int .u32 (x 5), .int .u32 (x 6), .int .u32 (x 7), .int .u32 (x 8), .int .i64 (x 9), .int .u32 (x 10), .int .u32 (x 11), .int .u32 (x 12), .int .u32 (x 13), .bool (decide (x 14 = 1)), .int .i64 (x 15), .int .i64 (x 16)] 47)) from (Below.refl _ w).alloc (Nat.le_refl _) _)
  have HA := Lib.hid (allows_any (w.alloc (.cells #[.int .i64 (x 0), .int .i64 (x 1), .int .i64 (x 2), .int .i64 (x 3), .int .u32 (x 4), .int .u32 (x 5), .int .u32 (x 6), .int .u32 (x 7), .int .u32 (x 8), .int .i64 (x 9), .int .u32 (x 10), .int .u32 (x 11), .int .u32 (x 12), .int .u32 (x 13), .bool (decide (x 14 = 1)), .int .i64 (x 15), .int .i64 (x 16)] 47)) g c L (h.below HB0.out) ok hn (x 2) (x 3) (x 8) (opV4 x) (opV4_ok hx) (opR5 x))
  have HD := Lib.hid (do_any (w.alloc (.cells #[.int .i64 (x 0), .int .i64 (x 1), .int .i64 (x 2), .int .i64 (x 3), .int .u32 (x 4), .int .u32 (x 5), .int .u32 (x 6), .int .u32 (x 7), .int .u32 (x 8), .int .i64 (x 9), .int .u32 (x 10), .int .u32 (x 11), .int .u32 (x 12), .int .u32 (x 13), .bool (decide (x 14 = 1)), .int .i64 (x 15), .int .i64 (x 16)] 47)) g c L (h.below HB0.out) ok hn (x 2) (x 3) (x 8) (opV4 x) (opV4_ok hx))
  have hr := range_op w x
  have c14 : (w.alloc (.cells #[.int .i64 (x 0), .int .i64 (x 1), .int .i64 (x 2), .int .i64 (x 3), .int .u32 (x 4), .int .u32 (x 5), .int .u32 (x 6), .int .u32 (x 7), .int .u32 (x 8), .int .i64 (x 9), .int .u32 (x 10), .int .u32 (x 11), .int .u32 (x 12), .int .u32 (x 13), .bool (decide (x 14 = 1)), .int .i64 (x 15), .int .i64 (x 16)] 47)).cell? ⟨w.heap.size, 14, none⟩ = some (.bool (decide (x 14 = 1))) := by simp
  have HR7 := Lib.hid (show (w.alloc (.cells #[.int .i64 (x 0), .int .i64 (x 1), .int .i64 (x 2), .int .i64 (x 3), .int .u32 (x 4), .int .u32 (x 5), .int .u32 (x 6), .int .u32 (x 7), .int .u32 (x 8), .int .i64 (x 9), .int .u32 (x 10), .int .u32 (x 11), .int .u32 (x 12), .int .u32 (x 13), .bool (decide (x 14 = 1)), .int .i64 (x 15), .int .i64 (x 16)] 47)).rangeAt w.heap.size 2 [.int .i64 (x 2), .int .i64 (x 3), .int .u32 (x 4), .int .u32 (x 5), .int .u32 (x 6), .int .u32 (x 7), .int .u32 (x 8)] from fun j v hv => by
    have hj : j < 7 := (List.getElem?_eq_some_iff.1 hv).1
    have := hr (2 + j) v (by rcases (by omega : j = 0 ∨ j = 1 ∨ j = 2 ∨ j = 3 ∨ j = 4 ∨ j = 5 ∨ j = 6) with rfl | rfl | rfl | rfl | rfl | rfl | rfl <;> exact hv)
    rwa [show 0 + (2 + j) = 2 + j by omega] at this)
  have HR5 := Lib.hid (show (w.alloc (.cells #[.int .i64 (x 0), .int .i64 (x 1), .int .i64 (x 2), .int .i64 (x 3), .int .u32 (x 4), .int .u32 (x 5), .int .u32 (x 6), .int .u32 (x 7), .int .u32 (x 8), .int .i64 (x 9), .int .u32 (x 10), .int .u32 (x 11), .int .u32 (x 12), .int .u32 (x 13), .bool (decide (x 14 = 1)), .int .i64 (x 15), .int .i64 (x 16)] 47)).rangeAt w.heap.size 9 [.int .i64 (x 9), .int .u32 (x 10), .int .u32 (x 11), .int .u32 (x 12), .int .u32 (x 13)] from fun j v hv => by
    have hj : j < 5 := (List.getElem?_eq_some_iff.1 hv).1
    have := hr (9 + j) v (by rcases (by omega : j = 0 ∨ j = 1 ∨ j = 2 ∨ j = 3 ∨ j = 4) with rfl | rfl | rfl | rfl | rfl <;> exact hv)
    rwa [show 0 + (9 + j) = 9 + j by omega] at this)
  have HF := Lib.hid (show followP L x = if decide (x 14 = 1) = true then allowsP L (x 2) (x 3) (opV4 x) (opR5 x) else ((doP L (x 2) (x 3) (opV4 x)).1, true) from rfl)
  have hX : (opA x) = #[.int .i64 (x 0), .int .i64 (x 1), .int .i64 (x 2), .int .i64 (x 3), .int .u32 (x 4), .int .u32 (x 5), .int .u32 (x 6), .int .u32 (x 7), .int .u32 (x 8), .int .i64 (x 9), .int .u32 (x 10), .int .u32 (x 11), .int .u32 (x 12), .int .u32 (x 13), .bool (decide (x 14 = 1)), .int .i64 (x 15), .int .i64 (x 16)] := rfl
  rw [hX]
  obtain ⟨n, hne⟩ : ∃ n, L.length = n := ⟨_, rfl⟩
  rw [hne] at HA HD ⊢
  generalize followP L x = Z at *
  generalize hP : doP L (x 2) (x 3) (opV4 x) = P at *
  generalize hQ : allowsP L (x 2) (x 3) (opV4 x) (opR5 x) = R at *
  obtain ⟨L', d⟩ := P
  generalize decide (x 14 = 1) = q at *
  clear h ok hn hx hX hne hP hQ hr
  cases q with
  | true =>
    rw [if_pos rfl] at HF
    go_enter Tryd.func18, Tryd.ntmps18
    go_wp2_with (first
      | (refine wpList_load_mid rfl 43 (.tmp 11) rfl w.heap.size 2 rfl [.int .i64 (x 2), .int .i64 (x 3), .int .u32 (x 4), .int .u32 (x 5), .int .u32 (x 6), .int .u32 (x 7), .int .u32 (x 8)] _ HR7.out Tryd.underlying43 rfl call_info ?_)
      | (refine wpList_load_mid rfl 45 (.tmp 13) rfl w.heap.size 9 rfl [.int .i64 (x 9), .int .u32 (x 10), .int .u32 (x 11), .int .u32 (x 12), .int .u32 (x 13)] _ HR5.out Tryd.underlying45 rfl res_info ?_))
    refine HA.out.mono ?_
    rintro e1 w1 ⟨b1, g1, c1, rfl, hs1⟩
    have HB1 := Lib.hid (HB0.out.trans (b1.mono HB0.out.size))
    have HS1 := Lib.hid hs1
    clear b1 hs1
    go_wp2_with fail
    refine bodyPost_ret (v := .tuple #[.slice (some ⟨g1, 0, none⟩) n c1, .bool R.2]) (by simp [results, Tryd.results18, go_sem]) rfl ?_
    rw [HF.out]
    exact ⟨HB1.out, g1, c1, rfl, HS1.out⟩
  | false =>
    rw [if_neg (by simp)] at HF
    go_enter Tryd.func18, Tryd.ntmps18
    go_wp2_with (refine wpList_load_mid rfl 43 (.tmp 20) rfl w.heap.size 2 rfl [.int .i64 (x 2), .int .i64 (x 3), .int .u32 (x 4), .int .u32 (x 5), .int .u32 (x 6), .int .u32 (x 7), .int .u32 (x 8)] _ HR7.out Tryd.underlying43 rfl call_info ?_)
    refine HD.out.mono ?_
    rintro e1 w1 ⟨b1, g1, c1, rfl, hs1⟩
    have HB1 := Lib.hid (HB0.out.trans (b1.mono HB0.out.size))
    have HS1 := Lib.hid hs1
    clear b1 hs1
    go_wp2_with fail
    refine bodyPost_ret (v := .tuple #[.slice (some ⟨g1, 0, none⟩) n c1, .bool true]) (by simp [results, Tryd.results18, go_sem]) rfl ?_
    rw [HF.out]
    exact ⟨HB1.out.alloc HB1.out.size _, g1, c1, rfl, HS1.out.below ((Below.refl _ w1).alloc (Nat.le_refl _) _)⟩
end Go.Proofs.YtohajfkekkelhaaDoor
namespace Go.Proofs.YtohajfkekkelhaaDoor
open Go.ChangeShapes Go.WideShapes Go.ChangeAt Go.RowKit
set_option linter.unusedVariables false
set_option linter.unusedSimpArgs false
theorem done_lt (Lo : List OpX) (k : Nat) (h : k ≤ 32) : doneW Lo k < 4294967296 := by
  have : doneW Lo k < 2 ^ 32 := Nat.lt_pow_two_of_testBit _ fun j hj => by
    rw [done_bit]
    simp
    omega
  omega
set_option maxRecDepth 20000 in
set_option maxHeartbeats 8000000 in
theorem done_any (w : World) (a : Option Addr) (n c : Nat) (Lo : List OpX) (h : OpsArg w a n Lo) (hn : n ≤ 24) :
    Calls Tryd.prog 14 #[.slice a n c] w fun e w' => e = .returned (.int .u32 (doneW Lo n : Int)) ∧ Keeps (fun _ => False) w w' := by
  have HH := Lib.hid h
  have hlen := h.len
  clear h
  go_enter Tryd.func14, Tryd.ntmps14
  go_wp2_with fail
  go_loopw [3, 8] (fun s i wr => ∃ k : Nat, k ≤ n ∧ i = .int .i64 (k : Int) ∧ s = .int .u32 (doneW Lo k : Int) ∧ Keeps (fun _ => False) w wr) (fun _ i _ => n - (intOf i).toNat)
  case atStart => exact ⟨0, by omega, rfl, rfl, Keeps.refl _ _⟩
  case round =>
    obtain ⟨k, hk, rfl, rfl, hkw⟩ := hrel
    have HK := Lib.hid hkw
    by_cases hlt : k < n
    · obtain ⟨lb, loff, rfl, hlb, hlc⟩ := HH.out.lies (by omega)
      obtain ⟨x, hx⟩ : ∃ x, Lo[k]? = some x := ⟨_, List.getElem?_eq_getElem (by rw [hlen]; exact hlt)⟩
      have gx : getX Lo k = x := by unfold getX; rw [hx]; rfl
      have HX := Lib.hid (show wr.rangeAt lb (loff + k * 17) [.int .i64 (x 0), .int .i64 (x 1), .int .i64 (x 2), .int .i64 (x 3), .int .u32 (x 4), .int .u32 (x 5), .int .u32 (x 6), .int .u32 (x 7), .int .u32 (x 8), .int .i64 (x 9), .int .u32 (x 10), .int .u32 (x 11), .int .u32 (x 12), .int .u32 (x 13), .bool (decide (x 14 = 1)), .int .i64 (x 15), .int .i64 (x 16)] from range_keeps (hlc k x hx) hkw hlb)
      have hw32 : doneW Lo k < 4294967296 := done_lt Lo k (by omega)
      have HD := Lib.hid (show doneW Lo (k + 1) = if decide (x 14 = 1) = true then doneW Lo k ||| 2 ^ k else doneW Lo k by rw [← gx]; rfl)
      have HW := Lib.hid (fun W => with_any (doneW Lo k) (k : Int) W hw32)
      have hsb : setB (doneW Lo k) (k : Int) = doneW Lo k ||| 2 ^ k := by unfold setB bitW; rw [if_pos (by omega), Int.toNat_natCast]
      rw [hsb] at HW
      have d1 : decide (k < n) = true := decide_eq_true hlt
      have d2 : decide ((k : Int) < (n : Int)) = true := decide_eq_true (by omega)
      clear hkw hx gx hlc hsb
      generalize hz : decide (x 14 = 1) = z at *
      clear hz
      have HKA := Lib.hid (HK.out.alloc (.cells #[.int .i64 (x 0), .int .i64 (x 1), .int .i64 (x 2), .int .i64 (x 3), .int .u32 (x 4), .int .u32 (x 5), .int .u32 (x 6), .int .u32 (x 7), .int .u32 (x 8), .int .i64 (x 9), .int .u32 (x 10), .int .u32 (x 11), .int .u32 (x 12), .int .u32 (x 13), .bool z, .int .i64 (x 15), .int .i64 (x 16)] 47))
      obtain ⟨dk, hdk⟩ : ∃ dk, doneW Lo (k + 1) = dk := ⟨_, rfl⟩
      have HDK := Lib.hid hdk
      rw [hdk] at HD
      clear hdk
      cases z with
      | true =>
        have HD2 := Lib.hid (HD.out.trans (if_pos rfl))
        go_wp2_with (refine wpList_load_mid rfl 47 (.tmp 11) rfl lb (loff + k * 17) rfl [.int .i64 (x 0), .int .i64 (x 1), .int .i64 (x 2), .int .i64 (x 3), .int .u32 (x 4), .int .u32 (x 5), .int .u32 (x 6), .int .u32 (x 7), .int .u32 (x 8), .int .i64 (x 9), .int .u32 (x 10), .int .u32 (x 11), .int .u32 (x 12), .int .u32 (x 13), .bool true, .int .i64 (x 15), .int .i64 (x 16)] _ HX.out Tryd.underlying47 rfl op_info ?_)
        refine (HW.out _).mono ?_
        rintro e2 w2 ⟨rfl, hw2⟩
        subst hw2
        go_wp2_with fail
        go_roundw
        case rel => exact ⟨k + 1, by omega, by go_num, by rw [HDK.out, HD2.out], HKA.out⟩
        case measure => simp [intOf]; omega
      | false =>
        have HD2 := Lib.hid (HD.out.trans (if_neg (by simp)))
        go_wp2_with (refine wpList_load_mid rfl 47 (.tmp 11) rfl lb (loff + k * 17) rfl [.int .i64 (x 0), .int .i64 (x 1), .int .i64 (x 2), .int .i64 (x 3), .int .u32 (x 4), .int .u32 (x 5), .int .u32 (x 6), .int .u32 (x 7), .int .u32 (x 8), .int .i64 (x 9), .int .u32 (x 10), .int .u32 (x 11), .int .u32 (x 12), .int .u32 (x 13), .bool false, .int .i64 (x 15), .int .i64 (x 16)] _ HX.out Tryd.underlying47 rfl op_info ?_)
        go_roundw
        case rel => exact ⟨k + 1, by omega, by go_num, by rw [HDK.out, HD2.out], HKA.out⟩
        case measure => simp [intOf]; omega
    · obtain rfl : k = n := by omega
      have f1 : decide (k < k) = false := decide_eq_false (by omega)
      go_wp2_with fail
      go_ret
      exact ⟨rfl, HK.out⟩
end Go.Proofs.YtohajfkekkelhaaDoor
namespace Go.Proofs.YtohajfkekkelhaaDoor
open Go.ChangeShapes Go.WideShapes Go.ChangeAt Go.RowKit Go.Maps
set_option linter.unusedVariables false
set_option linter.unusedSimpArgs false
/-- How many failures a search may add. -/
def callsT : Nat → Nat
  | 0 => 0
  | m + 1 => 1 + m * callsT m
/-- The blocks of what the search has captured: the calls that are done, the failures, the history, the order, the search itself; the map. -/
structure Cap where
  bA : Nat
  bF : Nat
  bL : Nat
  bO : Nat
  bS : Nat
  bM : Nat
@[reducible] def Cap.ptrs (c : Cap) : Array Value := #[.pointer (some ⟨c.bA, 0, none⟩), .pointer (some ⟨c.bF, 0, none⟩), .pointer (some ⟨c.bL, 0, none⟩), .pointer (some ⟨c.bO, 0, none⟩), .pointer (some ⟨c.bS, 0, none⟩)]
/-- What a search may write. -/
def Wr (c : Cap) (ov : Value) : Nat → Prop := fun j => j = c.bO ∨ j = c.bM ∨ ov.ownBlock = some j
structure SrW (W0 W : World) (c : Cap) (B : Nat) (la : Option Addr) (n lc ans : Nat) (ov : Value) (t : List Nat) (D : DataW Unit) (nm : Nat) (F : Fail) : Prop where
  cA : W.heap[c.bA]? = some (.cells #[.int .u32 (ans : Int)] 39 (0, 0))
  cF : W.heap[c.bF]? = some (.cells #[.map (some c.bM)] 51 (0, 0))
  cL : W.heap[c.bL]? = some (.cells #[.slice la n lc] 23 (0, 0))
  cO : W.heap[c.bO]? = some (.cells #[ov] 26 (0, 0))
  cS : W.heap[c.bS]? = some (.cells #[.func (.func 15) #[] c.ptrs] 52 (0, 0))
  own : OwnI W B ov t
  map : W.ownsMap Tryd.prog 56 unitElem c.bM nm D
  rel : FailR D F
  below : Below W0.heap.size W0 W
  lo : W0.heap.size ≤ c.bO ∧ W0.heap.size ≤ c.bM ∧ W0.heap.size ≤ B
  hi : c.bA < B ∧ c.bF < B ∧ c.bL < B ∧ c.bO < B ∧ c.bS < B ∧ c.bM < B
  ne : c.bO ≠ c.bA ∧ c.bO ≠ c.bF ∧ c.bO ≠ c.bL ∧ c.bO ≠ c.bS ∧ c.bO ≠ c.bM
  nm' : c.bM ≠ c.bA ∧ c.bM ≠ c.bF ∧ c.bM ≠ c.bL ∧ c.bM ≠ c.bS
theorem keeps_comp {S T : Nat → Prop} {a b c : World} (h1 : Keeps S a b) (h2 : Keeps T b c) (hT : ∀ k, k < a.heap.size → T k → S k) : Keeps S a c :=
  ⟨h2.os.trans h1.os, h2.tape.trans h1.tape, h2.output.trans h1.output, Nat.le_trans h1.size h2.size, fun k hk hs => by
    rw [h2.block k (Nat.lt_of_lt_of_le hk h1.size) (fun h => hs (hT k hk h))]
    exact h1.block k hk hs⟩
theorem OwnI.keeps {w w' : World} {B : Nat} {v : Value} {t : List Nat} (h : OwnI w B v t) (hk : ∀ g, v.ownBlock = some g → w'.heap[g]? = w.heap[g]?) : OwnI w' B v t := by
  refine ⟨?_, fun g hg j u hu => h.all g hg j u (by rw [← World.cell?_of_block (a := ⟨g, j, none⟩) (hk g hg)]; exact hu)⟩
  rcases h.own.2 with h0 | ⟨g, cap, cur, rfl, hg, hcur, r⟩
  · exact ⟨h.own.1, .inl h0⟩
  · exact ⟨h.own.1, .inr ⟨g, cap, cur, rfl, hg, by rw [hk g rfl]; exact hcur, r⟩⟩
section
variable {W0 W W' : World} {c : Cap} {B : Nat} {la : Option Addr} {n lc ans : Nat} {ov : Value} {t : List Nat} {D : DataW Unit} {nm : Nat} {F : Fail}
theorem SrW.keep (h : SrW W0 W c B la n lc ans ov t D nm F) (hk : Keeps (fun _ => False) W W') : SrW W0 W' c B la n lc ans ov t D nm F :=
  ⟨hk.at h.cA fun h => h, hk.at h.cF fun h => h, hk.at h.cL fun h => h, hk.at h.cO fun h => h, hk.at h.cS fun h => h,
    h.own.keeps fun g hg => hk.block g (h.own.own.lt g hg).2 fun h => h, h.map.kept (row := none) ⟨hk.os, hk.tape, hk.output, hk.size, fun j hj _ => hk.block j hj fun h => h⟩ (by simp), h.rel, h.below.trans (hk.none.mono h.below.size), h.lo, h.hi, h.ne, h.nm'⟩
theorem SrW.state (h : SrW W0 W c B la n lc ans ov t D nm F) {g : Nat} {L : List ItemD} (hs : StateAt W g L) (hk : Keeps (Wr c ov) W W') : StateAt W' g L := by
  have hmap : ∃ es ck, W.heap[c.bM]? = some (.map es ck) := by
    obtain ⟨es, ck, hb, _⟩ := h.map
    exact ⟨es, ck, hb⟩
  have key : ∀ (b o : Nat) (u : Value), 0 < o → W.cell? ⟨b, o, none⟩ = some u → (∀ z, u ≠ .int .i64 z) → b < W.heap.size → W'.heap[b]? = W.heap[b]? := fun b o u ho hu hz hb => hk.block b hb fun hw => by
    rcases hw with rfl | rfl | hw
    · rw [cell_of h.cO] at hu
      obtain ⟨o, rfl⟩ : ∃ k, o = k + 1 := ⟨o - 1, by omega⟩
      simp at hu
    · obtain ⟨es, ck, hm⟩ := hmap
      simp [World.cell?, hm] at hu
    · obtain ⟨z, hz'⟩ := h.own.all b hw o u hu
      exact hz z hz'
  refine ⟨Nat.lt_of_lt_of_le hs.lt hk.size, fun k x hx => ?_⟩
  obtain ⟨a, cc, hr, h1, h2, h3, h4⟩ := hs.at' k x hx
  have hg := key g (k * 15 + 10) (.slice a x.row.length cc) (by omega) (hr 10 _ rfl) (fun z e => by cases e) hs.lt
  refine ⟨a, cc, fun j v hv => by rw [World.cell?_of_block (a := ⟨g, k * 15 + j, none⟩) hg]; exact hr j v hv, h1, h2, h3, fun hp => ?_⟩
  obtain ⟨b, off, e, hb, hc⟩ := h4 hp
  obtain ⟨y, hy⟩ : ∃ y, x.row[0]? = some y := ⟨_, List.getElem?_eq_getElem hp⟩
  have hbb := key b (off + 0 * 4 + 1) (.int .u32 y.b) (by omega) (hc 0 y hy 1 _ rfl) (fun z e => by cases e) hb
  exact ⟨b, off, e, Nat.lt_of_lt_of_le hb hk.size, fun q z hz j u hu => by rw [World.cell?_of_block (a := ⟨b, off + q * 4 + j, none⟩) hbb]; exact hc q z hz j u hu⟩
/-- A call is appended to the order. -/
theorem SrW.push {o : Obj} {w2 : World} {v' : Value} {i : Nat} (h : SrW W0 W c B la n lc ans ov t D nm F) (ho : OwnI w2 B v' (t ++ [i])) (hg : (W.alloc o).grownBy w2 ov.ownBlock) (hat : v'.ownBlock = ov.ownBlock ∨ v'.ownBlock = some (W.alloc o).heap.size) :
    SrW W0 (w2.setCell ⟨c.bO, 0, none⟩ v') c B la n lc ans v' (t ++ [i]) D nm F ∧ Keeps (Wr c ov) W (w2.setCell ⟨c.bO, 0, none⟩ v') ∧ (∀ k, k < W.heap.size → v'.ownBlock = some k → ov.ownBlock = some k) := by
  have hgk : Keeps (fun j => ov.ownBlock = some j) W w2 := ⟨hg.os, hg.tape, hg.output, Nat.le_trans (by simp) hg.size, fun k hk hs => by
    rw [hg.block k (by simp; omega) (fun e => hs e.symm)]
    exact ((Keeps.refl (fun _ => False) W).alloc o).block k hk fun h => h⟩
  have hnb : ∀ b, b < B → ov.ownBlock ≠ some b := fun b hb e => by have := (h.own.own.lt b e).1; omega
  have hnv : v'.ownBlock ≠ some c.bO := fun e => by
    have := (ho.own.lt c.bO e).1
    have := h.hi.2.2.2.1
    omega
  have hkk : Keeps (Wr c ov) W (w2.setCell ⟨c.bO, 0, none⟩ v') := (hgk.mono fun k _ e => .inr (.inr e)).setCell (p := ⟨c.bO, 0, none⟩) (.inl (.inl rfl)) _
  have hback : ∀ k, k < W.heap.size → v'.ownBlock = some k → ov.ownBlock = some k := fun k hk e => by
    rcases hat with h1 | h1
    · rw [← h1]; exact e
    · rw [h1] at e
      injection e with e
      rw [World.size_alloc] at e
      omega
  refine ⟨⟨heap_other (hgk.at h.cA (hnb _ h.hi.1)) (by exact h.ne.1.symm) _, heap_other (hgk.at h.cF (hnb _ h.hi.2.1)) (by exact h.ne.2.1.symm) _, heap_other (hgk.at h.cL (hnb _ h.hi.2.2.1)) (by exact h.ne.2.2.1.symm) _, ?_, heap_other (hgk.at h.cS (hnb _ h.hi.2.2.2.2.1)) (by exact h.ne.2.2.2.1.symm) _,
    ho.keeps fun g hg => ?_, ?_, h.rel, ?_, h.lo, h.hi, h.ne, h.nm'⟩, hkk, hback⟩
  · exact heap_set (hgk.at h.cO (hnb _ h.hi.2.2.2.1)) 0 v'
  · exact ((Keeps.refl (fun j => j = c.bO) w2).setCell (p := ⟨c.bO, 0, none⟩) (.inl rfl) v').block g (ho.own.lt g hg).2 (fun e => hnv (by rw [← e]; exact hg))
  · refine World.ownsMap.setCell (h.map.kept (row := ov.ownBlock) ⟨hgk.os, hgk.tape, hgk.output, hgk.size, fun j hj hne => hgk.block j hj fun e => hne e.symm⟩ (fun e => hnb _ h.hi.2.2.2.2.2 e.symm)) (a := ⟨c.bO, 0, none⟩) (by exact h.ne.2.2.2.2.symm) _
  · exact h.below.trans (hkk.below h.below.size fun k hk hw => by
      rcases hw with rfl | rfl | hw
      · exact h.lo.1
      · exact h.lo.2.1
      · exact Nat.le_trans h.lo.2.2 (h.own.own.lt k hw).1)
end
end Go.Proofs.YtohajfkekkelhaaDoor
namespace Go.Proofs.YtohajfkekkelhaaDoor
open Go.ChangeShapes Go.WideShapes Go.ChangeAt Go.RowKit Go.Maps
set_option linter.unusedVariables false
set_option linter.unusedSimpArgs false
theorem zeroU (w : World) : (zeroValue 57).run Tryd.prog w = .ok (.agg #[]) w := by kernel_rfl
section
variable {W0 W W' : World} {c : Cap} {B : Nat} {la : Option Addr} {n lc ans : Nat} {ov : Value} {t : List Nat} {D : DataW Unit} {nm : Nat} {F : Fail}
theorem SrW.setO (h : SrW W0 W c B la n lc ans ov t D nm F) (hB : B ≤ W.heap.size) {pv : Value} {t' : List Nat} (ho : OwnI W B pv t') (hp : pv.ownBlock = ov.ownBlock) :
    SrW W0 (W.setCell ⟨c.bO, 0, none⟩ pv) c B la n lc ans pv t' D nm F ∧ Keeps (Wr c ov) W (W.setCell ⟨c.bO, 0, none⟩ pv) := by
  have hnv : pv.ownBlock ≠ some c.bO := fun e => by
    have := (ho.own.lt c.bO e).1
    have := h.hi.2.2.2.1
    omega
  have hkk : Keeps (Wr c ov) W (W.setCell ⟨c.bO, 0, none⟩ pv) := (Keeps.refl _ W).setCell (p := ⟨c.bO, 0, none⟩) (.inl (.inl rfl)) _
  refine ⟨⟨heap_other h.cA (by exact h.ne.1.symm) _, heap_other h.cF (by exact h.ne.2.1.symm) _, heap_other h.cL (by exact h.ne.2.2.1.symm) _, heap_set h.cO 0 pv, heap_other h.cS (by exact h.ne.2.2.2.1.symm) _,
    ho.keeps fun g hg => ((Keeps.refl (fun j => j = c.bO) W).setCell (p := ⟨c.bO, 0, none⟩) (.inl rfl) pv).block g (ho.own.lt g hg).2 (fun e => hnv (by rw [← e]; exact hg)), ?_, h.rel, ?_, h.lo, h.hi, h.ne, h.nm'⟩, hkk⟩
  · exact World.ownsMap.setCell h.map (a := ⟨c.bO, 0, none⟩) (by exact h.ne.2.2.2.2.symm) _
  · exact h.below.trans (hkk.below h.below.size fun k hk hw => by
      rcases hw with rfl | rfl | hw
      · exact h.lo.1
      · exact h.lo.2.1
      · exact Nat.le_trans h.lo.2.2 (h.own.own.lt k hw).1)
theorem OwnI.pop {g cap : Nat} {i : Nat} (h : OwnI W B (.slice (some ⟨g, 0, none⟩) (t.length + 1) cap) (t ++ [i])) : OwnI W B (.slice (some ⟨g, 0, none⟩) t.length cap) t := by
  refine ⟨⟨by simp [ints], ?_⟩, h.all⟩
  rcases h.own.2 with ⟨e, _⟩ | ⟨g', cap', cur, e, hg, hcur, hc, hm, hs, ht⟩
  · cases e
  · obtain ⟨e1, _, e3⟩ := Value.slice.inj e
    cases e1
    subst e3
    refine .inr ⟨g, cap, cur, rfl, hg, hcur, by simp at hc; omega, hm, hs, ?_⟩
    have e2 := congrArg (List.take t.length) ht
    rw [List.take_take] at e2
    simp [ints] at e2
    simpa [ints] using e2
theorem SrW.fail {w2 : World} {u : Nat} {key : List UInt8} (h : SrW W0 W c B la n lc ans ov t D nm F) (hu : u < 4294967296) (hk : key.length ≤ maxLen) (hm : w2.ownsMap Tryd.prog 56 unitElem c.bM (nm + 1) (D.put (keyL u key) (.agg []))) (hg : W.grownBy w2 (some c.bM)) :
    SrW W0 w2 c B la n lc ans ov t (D.put (keyL u key) (.agg [])) (nm + 1) ((u, key) :: F) ∧ Keeps (Wr c ov) W w2 := by
  have hgk : Keeps (fun j => j = c.bM) W w2 := ⟨hg.os, hg.tape, hg.output, hg.size, fun k hk hs => hg.block k hk (fun e => by cases e; exact hs rfl)⟩
  have hkk : Keeps (Wr c ov) W w2 := hgk.mono fun k _ e => .inr (.inl e)
  refine ⟨⟨hgk.at h.cA h.nm'.1.symm, hgk.at h.cF h.nm'.2.1.symm, hgk.at h.cL h.nm'.2.2.1.symm, hgk.at h.cO h.ne.2.2.2.2, hgk.at h.cS h.nm'.2.2.2.symm,
    h.own.keeps fun g hg' => hgk.block g (h.own.own.lt g hg').2 (fun e => by have := (h.own.own.lt g hg').1; have := h.hi.2.2.2.2.2; omega), hm, h.rel.put hu hk _, ?_, h.lo, h.hi, h.ne, h.nm'⟩, hkk⟩
  exact h.below.trans (hkk.below h.below.size fun k hk hw => by
      rcases hw with rfl | rfl | hw
      · exact h.lo.1
      · exact h.lo.2.1
      · exact Nat.le_trans h.lo.2.2 (h.own.own.lt k hw).1)
theorem SrW.grownO {o : Obj} {w2 : World} (h : SrW W0 W c B la n lc ans ov t D nm F) (hg : (W.alloc o).grownBy w2 ov.ownBlock) : w2.heap[c.bO]? = some (.cells #[ov] 26 (0, 0)) := by
  rw [hg.block c.bO (by have := lt_of h.cO; simp; omega) (fun e => by have := (h.own.own.lt c.bO e.symm).1; have := h.hi.2.2.2.1; omega)]
  exact heap_old h.cO o
end
theorem free_less {n used i : Nat} (hi : i < n) (hu : used.testBit i = false) : (freeL n (used ||| 2 ^ i)).length + 1 = (freeL n used).length := by
  have h1 : freeL n (used ||| 2 ^ i) = (freeL n used).filter (fun j => j != i) := by
    unfold freeL
    rw [List.filter_filter]
    refine List.filter_congr fun j _ => ?_
    rw [bit_put]
    by_cases e : j = i
    · simp [e]
    · simp [e]
  have hnd : (freeL n used).Nodup := by unfold freeL; exact List.Pairwise.filter _ List.nodup_range
  have hm : i ∈ freeL n used := mem_free.2 ⟨hi, hu⟩
  rw [h1, ← List.Nodup.erase_eq_filter hnd i, List.length_erase_of_mem hm]
  have := List.length_pos_of_mem hm
  omega
theorem keeps_drew {S : Nat → Prop} {a b : World} (h : Keeps S a.drew b) : Keeps S a b := ⟨h.os, h.tape, h.output, h.size, h.block⟩
theorem try_nil {Lo : List OpX} {go : Nat → List ItemD → Fail → Bool × List Nat × Fail} (used : Nat) (L : List ItemD) : ∀ (r : List Nat) (F : Fail), (tryP Lo go used L r F).1 = false → (tryP Lo go used L r F).2.1 = []
  | [], F, _ => rfl
  | i :: r, F, h => by
    unfold tryP at h ⊢
    by_cases h1 : (followP L (getX Lo i)).2 = true
    · rw [if_pos h1] at h ⊢
      by_cases h2 : (go (used ||| 2 ^ i) (followP L (getX Lo i)).1 F).1 = true
      · rw [if_pos h2] at h; cases h
      · rw [if_neg h2] at h ⊢
        exact try_nil used L r _ h
    · rw [if_neg h1] at h ⊢
      exact try_nil used L r F h
theorem search_nil {Lo : List OpX} {ans : Nat} : ∀ (m used : Nat) (L : List ItemD) (F : Fail), (searchP Lo ans m used L F).1 = false → (searchP Lo ans m used L F).2.1 = []
  | 0, _, _, _, _ => rfl
  | m + 1, used, L, F, h => by
    unfold searchP at h ⊢
    by_cases h1 : used &&& ans = ans
    · rw [if_pos h1] at h; cases h
    · rw [if_neg h1] at h ⊢
      by_cases h2 : failedB F used (keyN L) = true
      · rw [if_pos h2]
      · rw [if_neg h2] at h ⊢
        exact try_nil used L _ F h
/-- What a search leaves. -/
def SrOut (W0 W : World) (c : Cap) (B : Nat) (la : Option Addr) (n lc ans : Nat) (ov : Value) (t : List Nat) (nm m : Nat) (R : Bool × List Nat × Fail) (e : Ending) (W' : World) : Prop :=
  e = .returned (.bool R.1) ∧ ∃ ov' D' nm', SrW W0 W' c B la n lc ans ov' (t ++ R.2.1) D' nm' R.2.2 ∧ Keeps (Wr c ov) W W' ∧ (∀ k, k < W.heap.size → ov'.ownBlock = some k → ov.ownBlock = some k) ∧ nm' ≤ nm + callsT m
set_option maxRecDepth 100000 in
set_option maxHeartbeats 16000000 in
theorem search_step (W0 : World) (c : Cap) (B : Nat) (la : Option Addr) (n lc ans : Nat) (ha : ans < 4294967296) (Lo : List OpX) (hops : OpsArg W0 la n Lo) (hn : n ≤ 24) (hT : TabAt 0 Lib.deBruijn32tab W0) (hg : 0 < W0.heap.size) (m : Nat)
    (ih : ∀ (W : World) (used : Nat) (hu : used < 4294967296) (L : List ItemD) (g cap : Nat) (ov : Value) (t : List Nat) (D : DataW Unit) (nm : Nat) (F : Fail), SrW W0 W c B la n lc ans ov t D nm F → B ≤ W.heap.size → StateAt W g L → (∀ x, x ∈ L → x.Ok) → L.length ≤ 1000 → (freeL n used).length < m → t.length + m ≤ 100 → nm + callsT m ≤ 100000000 →
      Calls Tryd.prog 15 #[.int .u32 (used : Int), .slice (some ⟨g, 0, none⟩) L.length cap, .pointer (some ⟨c.bA, 0, none⟩), .pointer (some ⟨c.bF, 0, none⟩), .pointer (some ⟨c.bL, 0, none⟩), .pointer (some ⟨c.bO, 0, none⟩), .pointer (some ⟨c.bS, 0, none⟩)] W (SrOut W0 W c B la n lc ans ov t nm m (searchP Lo ans m used L F)))
    (W : World) (used : Nat) (hu : used < 4294967296) (L : List ItemD) (g cap : Nat) (ov : Value) (t : List Nat) (D : DataW Unit) (nm : Nat) (F : Fail) (h : SrW W0 W c B la n lc ans ov t D nm F) (hB : B ≤ W.heap.size) (hs : StateAt W g L) (ok : ∀ x, x ∈ L → x.Ok) (hl : L.length ≤ 1000) (hf : (freeL n used).length < m + 1) (htl : t.length + (m + 1) ≤ 100) (hnm : nm + callsT (m + 1) ≤ 100000000) :
    Calls Tryd.prog 15 #[.int .u32 (used : Int), .slice (some ⟨g, 0, none⟩) L.length cap, .pointer (some ⟨c.bA, 0, none⟩), .pointer (some ⟨c.bF, 0, none⟩), .pointer (some ⟨c.bL, 0, none⟩), .pointer (some ⟨c.bO, 0, none⟩), .pointer (some ⟨c.bS, 0, none⟩)] W (SrOut W0 W c B la n lc ans ov t nm (m + 1) (searchP Lo ans (m + 1) used L F)) := by
  have hn24 := hn
  have hlo := hops.len
  have hand : bits .and .u32 (used : Int) (ans : Int) = ((used &&& ans : Nat) : Int) := u32_and_nat _ _ hu ha
  have HR := Lib.hid (show searchP Lo ans (m + 1) used L F = if used &&& ans = ans then (true, [], F) else if failedB F used (keyN L) = true then (false, [], F) else tryP Lo (searchP Lo ans m) used L (firstL Lo used) F from rfl)
  generalize searchP Lo ans (m + 1) used L F = R at *
  have HS := Lib.hid h
  have HST := Lib.hid hs
  have HOK := Lib.hid ok
  have HOPS := Lib.hid hops
  have HTB := Lib.hid (And.intro hT hg)
  have hk2 : (keyN L).length ≤ 2000000 := key_len L (fun y hy => (ok y hy).len) (by omega)
  have hkm : (keyN L).length ≤ maxLen := by unfold maxLen; omega
  have HKEY := Lib.hid (keyOf_is hu hkm)
  have HAS := Lib.hid (h.rel.2 used (keyN L) hu hkm)
  have cA0 : W.cell? ⟨c.bA, 0, none⟩ = some (.int .u32 (ans : Int)) := cell_of h.cA 0
  have HKN := Lib.hid (key_any W g cap L hs ok (by omega))
  obtain ⟨n0, hne⟩ : ∃ n0, L.length = n0 := ⟨_, rfl⟩
  have HN0 := Lib.hid hne
  rw [hne] at HKN hl ⊢
  clear h hs ok hops hT hg hne
  have hdummy : True := trivial
  by_cases hfin : used &&& ans = ans
  · have e1 : (((used &&& ans : Nat) : Int) == (ans : Int)) = true := by rw [hfin]; simp
    have HRT := Lib.hid (HR.out.trans (if_pos hfin))
    clear HR
    go_enter Tryd.func15, Tryd.ntmps15
    go_wp2_with fail
    go_step3
    go_wp2_with fail
    rw [Exit.noGoto_ret]
    go_ret
    have hr := HRT.out
    subst hr
    exact ⟨rfl, ov, D, nm, by simpa using HS.out, Keeps.refl _ _, fun _ _ h => h, Nat.le_add_right _ _⟩
  · have e1 : (((used &&& ans : Nat) : Int) == (ans : Int)) = false := by rw [beq_eq_false_iff_ne]; omega
    have HR2 := Lib.hid (HR.out.trans (if_neg hfin))
    clear HR
    cases hfb : failedB F used (keyN L) with
    | true =>
      have HRT := Lib.hid (HR2.out.trans (if_pos hfb))
      clear HR2
      have hhas := HAS.out.trans hfb
      go_enter Tryd.func15, Tryd.ntmps15
      go_wp2_with fail
      go_step3
      go_wp2_with fail
      refine HKN.out.mono ?_
      rintro e1 w1 ⟨rfl, b1⟩
      have HS1 := Lib.hid ((HS.out.keep (Keeps.ofBelow b1)).keep ((Keeps.refl _ w1).alloc (.cells #[.int .u32 (used : Int), .string ⟨(keyN L).toArray⟩] 56)))
      have HS2 := Lib.hid (HS1.out.keep ((Keeps.refl _ _).alloc (.cells #[] 57)))
      have HK2 := Lib.hid (show Keeps (fun _ => False) W ((w1.alloc (.cells #[.int .u32 (used : Int), .string ⟨(keyN L).toArray⟩] 56)).alloc (.cells #[] 57)) from ((Keeps.ofBelow b1).alloc _).alloc _)
      have HB2 := Lib.hid (heap_old (heap_new w1 (.cells #[.int .u32 (used : Int), .string ⟨(keyN L).toArray⟩] 56)) (.cells #[] 57))
      have HM1 := Lib.hid HS1.out.map
      have hwsz : W.heap.size ≤ w1.heap.size := b1.size
      have cF1 : (w1.alloc (.cells #[.int .u32 (used : Int), .string ⟨(keyN L).toArray⟩] 56)).cell? ⟨c.bF, 0, none⟩ = some (.map (some c.bM)) := cell_of HS1.out.cF 0
      clear b1 cA0
      go_wp2_with (at_lookup; refine wpList_lookup_own_unit _ rfl _ _ 51 rfl 56 57 slaw Tryd.underlying51 (zeroU _) c.bM nm D rfl HM1.out _ _ rfl HKEY.out ?_)
      rw [Exit.noGoto_ret]
      go_ret
      have hr := HRT.out
      subst hr
      exact ⟨rfl, ov, D, nm, by simpa using HS2.out, HK2.out.mono (fun _ _ h => h.elim), fun _ _ h => h, Nat.le_add_right _ _⟩
    | false =>
      have HRT := Lib.hid (HR2.out.trans (if_neg (by rw [hfb]; simp)))
      clear HR2
      have hhas := HAS.out.trans hfb
      go_enter Tryd.func15, Tryd.ntmps15
      go_wp2_with fail
      go_step3
      go_wp2_with fail
      refine HKN.out.mono ?_
      rintro e1 w1 ⟨rfl, b1⟩
      have HS1 := Lib.hid ((HS.out.keep (Keeps.ofBelow b1)).keep ((Keeps.refl _ w1).alloc (.cells #[.int .u32 (used : Int), .string ⟨(keyN L).toArray⟩] 56)))
      have HS2 := Lib.hid (HS1.out.keep ((Keeps.refl _ _).alloc (.cells #[] 57)))
      have HK2 := Lib.hid (show Keeps (fun _ => False) W ((w1.alloc (.cells #[.int .u32 (used : Int), .string ⟨(keyN L).toArray⟩] 56)).alloc (.cells #[] 57)) from ((Keeps.ofBelow b1).alloc _).alloc _)
      have HB2 := Lib.hid (heap_old (heap_new w1 (.cells #[.int .u32 (used : Int), .string ⟨(keyN L).toArray⟩] 56)) (.cells #[] 57))
      have HM1 := Lib.hid HS1.out.map
      have hwsz : W.heap.size ≤ w1.heap.size := b1.size
      have cF1 : (w1.alloc (.cells #[.int .u32 (used : Int), .string ⟨(keyN L).toArray⟩] 56)).cell? ⟨c.bF, 0, none⟩ = some (.map (some c.bM)) := cell_of HS1.out.cF 0
      clear b1 cA0
      go_wp2_with (at_lookup; refine wpList_lookup_own_unit _ rfl _ _ 51 rfl 56 57 slaw Tryd.underlying51 (zeroU _) c.bM nm D rfl HM1.out _ _ rfl HKEY.out ?_)
      go_step3
      generalize ((w1.alloc (.cells #[.int .u32 (used : Int), .string ⟨(keyN L).toArray⟩] 56)).alloc (.cells #[] 57)) = w2 at *
      have hw2 : w1.heap.size < w2.heap.size := lt_of HB2.out
      have HNX := Lib.hid (next_any w2 la n lc Lo (HOPS.out.below HS2.out.below) hn used hu (tabAt_below HTB.out.1 HS2.out.below HTB.out.2) (Nat.lt_of_lt_of_le HTB.out.2 HS2.out.below.size))
      have cL2 : w2.cell? ⟨c.bL, 0, none⟩ = some (.slice la n lc) := cell_of HS2.out.cL 0
      clear hhas cF1
      obtain ⟨nl, hnl⟩ : ∃ nl, firstL Lo used = nl := ⟨_, rfl⟩
      have HNL := Lib.hid (show ∀ i, i ∈ nl → i < n ∧ used.testBit i = false from fun i hi => by
        rw [← hnl] at hi
        have := (mem_first.1 hi).1
        rw [hlo] at this; exact this)
      have HFR := Lib.hid (show ∀ i, i ∈ nl → (freeL n (used ||| 2 ^ i)).length < m from fun i hi => by
        have h1 := free_less (n := n) (used := used) (i := i) ((HNL.out i hi).1) ((HNL.out i hi).2)
        omega)
      have hnll : nl.length ≤ m := by
        rw [← hnl]
        unfold firstL
        rw [hlo]
        exact Nat.le_trans (List.length_filter_le _ _) (by omega)
      rw [hnl] at HNX HRT
      clear hnl
      obtain ⟨ml, hml⟩ : ∃ ml, nl.length = ml := ⟨_, rfl⟩
      have HML := Lib.hid hml
      rw [hml] at HNX hnll
      clear hml
      go_wp2_with fail
      refine HNX.out.mono ?_
      rintro e3 w3 ⟨nv, rfl, hno, hnb⟩
      obtain ⟨va, vc, rfl⟩ := slice_own hno
      have HNO := Lib.hid hno
      have HS3 := Lib.hid (HS2.out.keep (Keeps.ofBelow hnb))
      have HB3 := Lib.hid ((Keeps.ofBelow hnb).at HB2.out fun h => h)
      have HK3 := Lib.hid (HK2.out.trans (Keeps.ofBelow hnb))
      have hw3 : w2.heap.size ≤ w3.heap.size := hnb.size
      clear hno hnb cL2 HNX
      go_wp2_with fail
      go_loopw [13, 38] (fun f s wr => ∃ (k nmk : Nat) (Dk : DataW Unit) (Fk : Fail) (ovk : Value), k ≤ ml ∧ f = .bool false ∧ s = .int .i64 (k : Int) ∧ SrW W0 wr c B la n lc ans ovk t Dk nmk Fk ∧ Keeps (Wr c ov) w3 wr ∧ (∀ j, j < w3.heap.size → ovk.ownBlock = some j → ov.ownBlock = some j) ∧ nmk ≤ nm + k * callsT m ∧ R = tryP Lo (searchP Lo ans m) used L (nl.drop k) Fk) (fun _ s _ => ml - (intOf s).toNat)
      case atStart => exact ⟨0, nm, D, F, ov, by omega, rfl, rfl, HS3.out, Keeps.refl _ _, fun _ _ h => h, by omega, HRT.out⟩
      case round =>
        clear HRT
        obtain ⟨k, nmk, Dk, Fk, ovk, hk, rfl, rfl, hsk, hkk, hbk, hnk, hrk⟩ := hrel
        have HSK := Lib.hid hsk
        have HKK := Lib.hid hkk
        have HBK := Lib.hid hbk
        have HRK := Lib.hid hrk
        clear hsk hkk hbk hrk
        have hwr : w3.heap.size ≤ wr.heap.size := HKK.out.size
        have HSTW := Lib.hid (HS3.out.state (HST.out.below (HK3.out.none)) HKK.out)
        by_cases hlt : k < ml
        · obtain ⟨i, hi⟩ : ∃ i, nl[k]? = some i := ⟨_, List.getElem?_eq_getElem (by rw [HML.out]; exact hlt)⟩
          have himem : i ∈ nl := List.mem_of_getElem? hi
          have hin := (HNL.out i himem).1
          have hdrop : nl.drop k = i :: nl.drop (k + 1) := by
            rw [List.drop_eq_getElem_cons (by rw [HML.out]; exact hlt)]
            congr 1
            rw [List.getElem?_eq_getElem (by rw [HML.out]; exact hlt)] at hi
            exact Option.some.inj hi
          have hrk := HRK.out
          rw [hdrop, tryP] at hrk
          have HRI := Lib.hid hrk
          clear hrk hdrop
          obtain ⟨ng, ncap, hv1, hng1, hng2⟩ := HNO.out.form (by omega)
          obtain ⟨hva, -, -⟩ := Value.slice.inj hv1
          subst hva
          clear hv1
          have hngw : ¬ Wr c ov ng := fun hw => by
            rcases hw with rfl | rfl | hw
            · have := HS.out.hi.2.2.2.1; omega
            · have := HS.out.hi.2.2.2.2.2; omega
            · have := (HS.out.own.own.lt ng hw).2; omega
          have ck : wr.cell? ⟨ng, k, none⟩ = some (.int .i64 (i : Int)) := by
            rw [World.cell?_of_block (a := ⟨ng, k, none⟩) (HKK.out.block ng hng2 hngw), HNO.out.cellAt k (by omega)]
            unfold ints
            rw [List.getElem?_map, hi]; rfl
          have cLr : wr.cell? ⟨c.bL, 0, none⟩ = some (.slice la n lc) := cell_of HSK.out.cL 0
          have HOW := Lib.hid (HOPS.out.below HSK.out.below)
          obtain ⟨lb, loff, hla, hlb, hlc⟩ := HOW.out.lies (by omega)
          obtain ⟨x, hx⟩ : ∃ x, Lo[i]? = some x := ⟨_, List.getElem?_eq_getElem (by rw [hlo]; exact hin)⟩
          have gx : getX Lo i = x := by unfold getX; rw [hx]; rfl
          have okx := HOPS.out.ok x (List.mem_of_getElem? hx)
          have HX := Lib.hid (hlc i x hx)
          have HFO := Lib.hid (lfollow_any wr g cap L HSTW.out HOK.out (by rw [HN0.out]; omega) x okx)
          have HFL := Lib.hid (And.intro (followP_ok HOK.out okx) (followP_len L x))
          rw [HN0.out] at HFO HFL
          rw [gx] at HRI
          subst hla
          generalize followP L x = FP at *
          obtain ⟨L5, m5⟩ := FP
          have d1 : decide (k < ml) = true := decide_eq_true hlt
          have d2 : decide ((k : Int) < (ml : Int)) = true := decide_eq_true (by omega)
          have f3 : decide (i < n) = true := decide_eq_true hin
          have f6 : decide ((i : Int) < 0) = false := decide_eq_false (by omega)
          have f8 : decide ((n : Int) ≤ (i : Int)) = false := decide_eq_false (by omega)
          have f10 : decide (n ≤ i) = false := decide_eq_false (by omega)
          clear hx gx okx hlc hi
          go_wp2_with (refine wpList_load_mid rfl 47 (.tmp 46) rfl lb (loff + i * 17) rfl (opL x) _ HX.out Tryd.underlying47 rfl op_info ?_)
          refine HFO.out.mono ?_
          rintro e5 w5 ⟨b5, g5, c5, rfl, hs5⟩
          have HS5 := Lib.hid (HSK.out.keep (Keeps.ofBelow b5))
          have HT5 := Lib.hid hs5
          have HK5 := Lib.hid (HKK.out.trans ((Keeps.ofBelow b5).mono fun _ _ h => h.elim))
          have hw5 : wr.heap.size ≤ w5.heap.size := b5.size
          clear b5 hs5 HFO ck cLr
          cases m5 with
          | false =>
            have HR5 := Lib.hid (HRI.out.trans (if_neg (by simp)))
            go_wp2_with fail
            go_roundw
            case rel => exact ⟨k + 1, nmk, Dk, Fk, ovk, by omega, rfl, by go_num, HS5.out, HK5.out, HBK.out, Nat.le_trans hnk (Nat.add_le_add_left (Nat.mul_le_mul_right _ (by omega)) _), HR5.out⟩
            case measure => simp [intOf]; omega
          | true =>
            have HR5 := Lib.hid (HRI.out.trans (if_pos rfl))
            have cO5 : w5.cell? ⟨c.bO, 0, none⟩ = some ovk := cell_of HS5.out.cO 0
            have HOA := Lib.hid ((HS5.out.keep ((Keeps.refl _ w5).alloc (.cells #[.int .i64 (i : Int)] 3))).own)
            go_wp2_with (at_builtin; refine wpList_append_int _ rfl (.tmp 53) (.tmp 55) rfl rfl HOA.out ?a1 ?a2 w5.heap.size 1 i rfl ?a3 ?_)
            case a1 => rw [World.size_alloc]; omega
            case a2 => omega
            case a3 => exact heap_new w5 _
            intro v6 w6 hown6 hgrow6 hat6
            obtain ⟨a6, c6, hv6⟩ := slice_own hown6.own
            rw [show (t ++ [i]).length = t.length + 1 by simp] at hv6
            subst hv6
            have y0 : w6.cell? ⟨c.bO, 0, none⟩ = some ovk := cell_of (HS5.out.grownO hgrow6) 0
            have z0 : w6.frozen? ⟨c.bO, 0, none⟩ = false := free_of (HS5.out.grownO hgrow6) 0
            have HP := Lib.hid (HS5.out.push hown6 hgrow6 (by rw [World.size_alloc]; exact hat6))
            have hw6 : w5.heap.size < w6.heap.size := Nat.lt_of_lt_of_le (by simp) hgrow6.size
            clear hown6 hgrow6 hat6
            go_wp2_with fail
            clear y0 z0 cO5
            obtain ⟨w7, hw7⟩ : ∃ w7, w7 = (w6.setCell ⟨c.bO, 0, none⟩ (.slice a6 (t.length + 1) c6)) := ⟨_, rfl⟩
            rw [← hw7] at HP ⊢
            clear hw7
            have HS7 := Lib.hid (HP.out.1.keep ((Keeps.refl _ w7).drew))
            have HT7 := Lib.hid (show StateAt w7.drew g5 L5 from (HS5.out.state HT5.out HP.out.2.1).below (((Keeps.refl (fun _ => False) w7).drew).none))
            have hB7 : B ≤ w7.drew.heap.size := Nat.le_trans (by omega) HP.out.2.1.size
            have hi32 : i < 32 := by omega
            have hu' : used ||| 2 ^ i < 4294967296 := Nat.or_lt_two_pow (n := 32) hu (Nat.pow_lt_pow_right (by omega) hi32)
            have hsb : setB used (i : Int) = used ||| 2 ^ i := by unfold setB bitW; rw [if_pos (by omega), Int.toNat_natCast]
            have HWI := Lib.hid (fun W => with_any used (i : Int) W hu)
            rw [hsb] at HWI
            clear hsb
            have hT1 : (k + 1) * callsT m ≤ m * callsT m := Nat.mul_le_mul_right _ (by omega)
            have hT2 : (k + 1) * callsT m = k * callsT m + callsT m := Nat.succ_mul _ _
            have hT3 : callsT (m + 1) = 1 + m * callsT m := rfl
            have hnm7 : nmk + callsT m ≤ 100000000 := by rw [hT3] at hnm; omega
            have HIH := Lib.hid (ih w7.drew (used ||| 2 ^ i) hu' L5 g5 c5 (.slice a6 (t.length + 1) c6) (t ++ [i]) Dk nmk Fk HS7.out hB7 HT7.out HFL.out.1 (by rw [HFL.out.2]; omega) (HFR.out i himem) (by simp; omega) hnm7)
            rw [HFL.out.2] at HIH
            have HT23 := Lib.hid (And.intro hT1 (And.intro hT2 hT3))
            clear hT1 hT2 hT3
            have HNIL := Lib.hid (search_nil (Lo := Lo) (ans := ans) m (used ||| 2 ^ i) L5 Fk)
            generalize searchP Lo ans m (used ||| 2 ^ i) L5 Fk = P at *
            obtain ⟨b8, o8, F8⟩ := P
            have hcs7 : w7.drew.cell? ⟨c.bS, 0, none⟩ = some (.func (.func 15) #[] c.ptrs) := cell_of HS7.out.cS 0
            have HCS7 := Lib.hid hcs7
            clear hcs7
            have hw67 : w5.heap.size ≤ w7.heap.size := HP.out.2.1.size
            refine wp_region_noPanic ?_
            refine wp_region_held_drew (S := (fun W => W.cell? ⟨c.bS, 0, none⟩ = some (.func (.func 15) #[] c.ptrs))) (by kernel_rfl) ?_ (fun hHeld => ?_)
            · exact HCS7.out
            refine wpAnyH_take (i := 0) (v := ?_) rfl (by kernel_rfl) (by kernel_rfl) (by kernel_rfl) (fun _ _ _ h => h) (Or.inl ⟨by rfl, ?_⟩) (by assumption) ?_
            rotate_left
            · (intro w hSw; (try dsimp only at hSw); go_simp; try with_reducible rfl)
            simp only [Act.put, List.getElem_toArray, List.getElem_cons_zero, List.getElem_cons_succ, List.setIfInBounds_toArray, List.set_cons_zero, List.set_cons_succ]
            refine wpAnyH_take (i := 1) (v := ?_) rfl (by kernel_rfl) (by kernel_rfl) (by kernel_rfl) (fun _ _ _ h => h) (Or.inl ⟨by rfl, ?_⟩) (by assumption) ?_
            rotate_left
            · (intro w hSw; (try dsimp only at hSw); go_simp; try with_reducible rfl)
            simp only [Act.put, List.getElem_toArray, List.getElem_cons_zero, List.getElem_cons_succ, List.setIfInBounds_toArray, List.set_cons_zero, List.set_cons_succ]
            refine wpAnyH_take (i := 2) (v := ?_) rfl (by kernel_rfl) (by kernel_rfl) (by kernel_rfl) (fun _ _ _ h => h) (Or.inl ⟨by rfl, ?_⟩) (by assumption) ?_
            rotate_left
            · (intro w hSw; (try dsimp only at hSw); go_simp; try with_reducible rfl)
            simp only [Act.put, List.getElem_toArray, List.getElem_cons_zero, List.getElem_cons_succ, List.setIfInBounds_toArray, List.set_cons_zero, List.set_cons_succ]
            refine wpAnyH_take (i := 4) (v := ?_) rfl (by kernel_rfl) (by kernel_rfl) (by kernel_rfl) (fun _ _ _ h => h) (Or.inl ⟨by rfl, ?_⟩) (by assumption) ?_
            rotate_left
            · (intro w hSw; (try dsimp only at hSw); go_simp; try with_reducible rfl)
            simp only [Act.put, List.getElem_toArray, List.getElem_cons_zero, List.getElem_cons_succ, List.setIfInBounds_toArray, List.set_cons_zero, List.set_cons_succ]
            refine wpAnyH_ready (rs := [3]) (by kernel_rfl) (by simp) ?_
            refine AllReadyH.cons rfl (fun K hK => ?_) AllReadyH.nil
            go_simp
            go_at_call 19
            refine (HWI.out _).mono ?_
            rintro e8 w8 ⟨rfl, hw8⟩
            subst hw8
            dsimp only
            refine hK.out _ _ ?_ (fun hHeld => ?_)
            · ((try dsimp only); exact HCS7.out)
            clear hK K
            try simp only [Act.put, List.getElem_toArray, List.getElem_cons_zero, List.getElem_cons_succ, List.setIfInBounds_toArray, List.set_cons_zero, List.set_cons_succ]
            refine wpAnyH_ready (rs := [5]) (by kernel_rfl) (by simp) ?_
            refine AllReadyH.cons rfl (fun K hK => ?_) AllReadyH.nil
            go_simp
            go_at_call 15
            refine HIH.out.mono ?_
            rintro e8 w8 ⟨rfl, ov8, D8, nm8, hs8, hk8, hb8, hn8⟩
            have HS8 := Lib.hid hs8
            have HK8 := Lib.hid (keeps_drew hk8)
            have HB8 := Lib.hid hb8
            have HN8 := Lib.hid hn8
            clear hs8 hk8 hb8 hn8
            dsimp only
            refine hK.out _ _ ?_ (fun hHeld => ?_)
            · ((try dsimp only); exact cell_of HS8.out.cS 0)
            clear hK K
            try simp only [Act.put, List.getElem_toArray, List.getElem_cons_zero, List.getElem_cons_succ, List.setIfInBounds_toArray, List.set_cons_zero, List.set_cons_succ]
            refine wpAnyH_done (by kernel_rfl) ?_ _
            refine NoPanic.normal ?_
            have HK9 := Lib.hid (show Keeps (Wr c ov) w3 w8 from keeps_comp (keeps_comp HK5.out HP.out.2.1 (fun j hj hw => by
              rcases hw with hw | hw | hw
              · exact .inl hw
              · exact .inr (.inl hw)
              · exact .inr (.inr (HBK.out j hj hw)))) HK8.out (fun j hj hw => by
              rcases hw with hw | hw | hw
              · exact .inl hw
              · exact .inr (.inl hw)
              · exact .inr (.inr (HBK.out j hj (HP.out.2.2 j (by omega) hw)))))
            have HB9 := Lib.hid (show ∀ j, j < w3.heap.size → ov8.ownBlock = some j → ov.ownBlock = some j from fun j hj e => HBK.out j hj (HP.out.2.2 j (by omega) (HB8.out j (by show j < w7.heap.size; omega) e)))
            have hnn : nm8 ≤ nm + callsT (m + 1) := by
              have h1 := HN8.out
              have h2 := HT23.out.1
              have h3 := HT23.out.2.1
              have h4 := HT23.out.2.2
              omega
            have hn8' : nm8 ≤ nm + (k + 1) * callsT m := by
              have h1 := HN8.out
              have h3 := HT23.out.2.1
              omega
            cases b8 with
            | true =>
              have HR8 := Lib.hid (HR5.out.trans (if_pos rfl))
              go_wp2_with fail
              try rw [Exit.noGoto_ret]
              go_ret
              have hr := HR8.out
              subst hr
              exact ⟨rfl, ov8, D8, nm8, by simpa using HS8.out, keeps_comp (HK3.out.mono fun _ _ h => h.elim) HK9.out (fun _ _ h => h), fun j hj e => HB9.out j (by have := HK3.out.size; omega) e, hnn⟩
            | false =>
              have HR8 := Lib.hid (HR5.out.trans (if_neg (by simp)))
              have ho8 := HNIL.out rfl
              simp only at ho8
              subst ho8
              have hown8 := HS8.out.own
              simp only [List.append_nil] at hown8
              obtain ⟨gg, cap8, hv8, hg8a, hg8b⟩ := hown8.own.form (by simp)
              rw [show (t ++ [i]).length = t.length + 1 by simp] at hv8
              subst hv8
              have hB8' : B ≤ w8.heap.size := by have := HK8.out.size; omega
              have HSO := Lib.hid (HS8.out.setO hB8' hown8.pop rfl)
              have hcap8 : t.length + 1 ≤ cap8 := by
                rcases hown8.own.2 with ⟨e, _⟩ | ⟨g', cap', cur', e, _, _, hc, _⟩
                · cases e
                · obtain ⟨_, _, e3⟩ := Value.slice.inj e
                  rw [e3]; simpa using hc
              have c80 : ¬ cap8 = 0 := by omega
              have c81 : t.length ≤ cap8 := by omega
              have y8 : w8.cell? ⟨c.bO, 0, none⟩ = some (.slice (some ⟨gg, 0, none⟩) (t.length + 1) cap8) := cell_of HS8.out.cO 0
              have z8 : w8.frozen? ⟨c.bO, 0, none⟩ = false := free_of HS8.out.cO 0
              go_wp2_with fail
              go_roundw
              case rel => exact ⟨k + 1, nm8, D8, F8, .slice (some ⟨gg, 0, none⟩) t.length cap8, by omega, rfl, by go_num, HSO.out.1, keeps_comp HK9.out HSO.out.2 (fun j hj hw => by
                rcases hw with hw | hw | hw
                · exact .inl hw
                · exact .inr (.inl hw)
                · exact .inr (.inr (HB9.out j hj hw))), HB9.out, hn8', HR8.out⟩
              case measure => simp [intOf]; omega
        · obtain rfl : k = ml := by omega
          have hrk := HRK.out
          rw [List.drop_of_length_le (by rw [HML.out]; exact Nat.le_refl _)] at hrk
          rw [tryP] at hrk
          have HRE := Lib.hid hrk
          clear hrk
          have d1 : decide (k < k) = false := decide_eq_false (by omega)
          have hbw : ¬ Wr c ov w1.heap.size := fun hw => by
            rcases hw with hw | hw | hw
            · have := HS.out.hi.2.2.2.1; omega
            · have := HS.out.hi.2.2.2.2.2; omega
            · have := (HS.out.own.own.lt _ hw).2; omega
          have hbx := HKK.out.at HB3.out hbw
          have kb0 : wr.cell? ⟨w1.heap.size, 0, none⟩ = some (.int .u32 (used : Int)) := cell_of hbx 0
          have kb1 : wr.cell? ⟨w1.heap.size, 1, none⟩ = some (.string ⟨(keyN L).toArray⟩) := cell_of hbx 1
          have cFr : wr.cell? ⟨c.bF, 0, none⟩ = some (.map (some c.bM)) := cell_of HSK.out.cF 0
          have HMU := Lib.hid HSK.out.map
          have hT1 : k * callsT m ≤ m * callsT m := Nat.mul_le_mul_right _ hnll
          have hT3 : callsT (m + 1) = 1 + m * callsT m := rfl
          have hnb1 : nmk + 1 ≤ nm + callsT (m + 1) := by omega
          have hnb2 : nmk < maxLen := by unfold maxLen; omega
          clear hbx hT1 hT3 hnk
          go_wp2_with (at_mapUpdate; refine wpList_mapUpdate_own _ rfl _ _ _ 51 rfl 56 57 slaw Tryd.underlying51 _ c.bM nmk Dk rfl HMU.out hnb2 _ _ _ rfl rfl HKEY.out _ [] unitElem_mk ?_)
          intro w6 hown6 hgrow6
          have HF := Lib.hid (HSK.out.fail hu hkm hown6 hgrow6)
          clear hown6 hgrow6 kb0 kb1 cFr
          go_wp2_with fail
          try rw [Exit.noGoto_ret]
          go_ret
          have hr := HRE.out
          subst hr
          exact ⟨rfl, ovk, _, nmk + 1, by simpa using HF.out.1, keeps_comp (keeps_comp (HK3.out.mono fun _ _ h => h.elim) HKK.out (fun _ _ h => h)) HF.out.2 (fun j hj hw => by
            rcases hw with hw | hw | hw
            · exact .inl hw
            · exact .inr (.inl hw)
            · exact .inr (.inr (HBK.out j (by have := HK3.out.size; omega) hw))), fun j hj e => HBK.out j (by have := HK3.out.size; omega) e, hnb1⟩
end Go.Proofs.YtohajfkekkelhaaDoor
