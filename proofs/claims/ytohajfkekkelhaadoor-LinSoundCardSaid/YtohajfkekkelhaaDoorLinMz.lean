import Derived.Test.YtohajfkekkelhaaDoorLinKz
import Derived.Test.YtohajfkekkelhaaDoorCertD
import Derived.Test.YtohajfkekkelhaaDoorLinNz
import Derived.Test.YtohajfkekkelhaaDoorLinAz
namespace Go.Proofs.YtohajfkekkelhaaDoor
open Go.ChangeShapes Go.WideShapes Go.ChangeAt Go.RowKit Go.Lib
set_option linter.unusedVariables false
set_option linter.unusedSimpArgs false
theorem rowN_len : ∀ r : List W4, (rowN r).length = r.length * 16
  | [] => rfl
  | v :: t => by
    show (valN v ++ rowN t).length = _
    rw [List.length_append, rowN_len t, valN_len]
    show 16 + t.length * 16 = (t.length + 1) * 16
    omega
theorem key_len : ∀ (L : List ItemD), (∀ y, y ∈ L → y.row.length ≤ 64) → L.length ≤ 1000 → (keyN L).length ≤ 2000000 := fun L h hl => by
  have key : ∀ L : List ItemD, (∀ y, y ∈ L → y.row.length ≤ 64) → (keyN L).length ≤ L.length * 1044 := fun L => by
    induction L with
    | nil => intro _; exact Nat.le_refl _
    | cons x t ih =>
      intro h
      show (itemN x ++ keyN t).length ≤ (t.length + 1) * 1044
      have h1 := ih fun y hy => h y (.tail _ hy)
      have h2 := h x (.head _)
      have h3 : (itemN x).length = 20 + x.row.length * 16 := by
        unfold itemN
        rw [List.length_append, List.length_append, numN_len, rowN_len, valN_len]
        omega
      rw [List.length_append, h3]
      omega
  have := key L h
  omega
/-- The string of a key's bytes. -/
theorem conv_key {w : World} {B : Nat} {v : Value} {l : List UInt8} (h : w.ownsRow B 5 1 v l.length (byteCells l)) : (convert 72 9 v).run Tryd.prog w = .ok (.string ⟨l.toArray⟩) w := by
  rcases h.2 with ⟨rfl, h0⟩ | ⟨g, cap, cur, rfl, hg, hcur, hc, hm, hs, ht⟩
  · have : l = [] := List.eq_nil_of_length_eq_zero h0
    subst this
    exact run_convert_nil_bytes w _ _ 5 0 Tryd.underlying72 Tryd.underlying5 Tryd.underlying9
  · exact run_convert_bytes_back w _ _ 5 ⟨g, 0, none⟩ cap l Tryd.underlying72 Tryd.underlying5 Tryd.underlying9 (bytes_of_row hcur (by simpa using ht))
set_option maxRecDepth 20000 in
set_option maxHeartbeats 8000000 in
theorem key_any (w : World) (g c : Nat) (L : List ItemD) (h : StateAt w g L) (ok : ∀ x, x ∈ L → x.Ok) (hn : L.length ≤ 1000) :
    Calls Tryd.prog 16 #[.slice (some ⟨g, 0, none⟩) L.length c] w fun e w' => e = .returned (.string ⟨(keyN L).toArray⟩) ∧ Below w.heap.size w w' := by
  have HH := Lib.hid (And.intro h ok)
  have hgl := h.lt
  obtain ⟨n, hne⟩ : ∃ n, L.length = n := ⟨_, rfl⟩
  have HN := Lib.hid hne
  rw [hne] at hn ⊢
  clear h ok hne
  go_enter Tryd.func16, Tryd.ntmps16
  go_wp2_with fail
  go_loopw [3, 10] (fun s i wr => ∃ (k : Nat) (kv : Value), k ≤ n ∧ i = .int .i64 (k : Int) ∧ s = kv ∧ wr.ownsRow w.heap.size 5 1 kv (keyN (L.take k)).length (byteCells (keyN (L.take k))) ∧ Below w.heap.size w wr) (fun _ i _ => n - (intOf i).toNat)
  case atStart => exact ⟨0, _, by omega, rfl, rfl, World.ownsRow_nil _ _ _ _, Below.refl _ w⟩
  case round =>
    obtain ⟨k, kv, hk, rfl, hsv, hown, hB⟩ := hrel
    obtain rfl := hsv.symm
    have HS := Lib.hid (And.intro hown hB)
    clear hown hB
    by_cases hlt : k < n
    · obtain ⟨x, hx⟩ : ∃ x, L[k]? = some x := ⟨_, List.getElem?_eq_getElem (by rw [HN.out]; exact hlt)⟩
      have okx := HH.out.2 x (List.mem_of_getElem? hx)
      obtain ⟨ax, cx, hr15, hle, hmax, hnil, hrin⟩ := HH.out.1.at' k x hx
      have hklen : (keyN (L.take k)).length ≤ 2000000 := key_len _ (fun y hy => (HH.out.2 y (List.mem_of_mem_take hy)).len) (Nat.le_trans (List.length_take_le _ _) (by omega))
      have hkey : keyN (L.take (k + 1)) = keyN (L.take k) ++ itemN x := by rw [List.take_add_one, hx]; unfold keyN; rw [List.flatMap_append]; simp
      have HK := Lib.hid hkey
      have hgr : g < wr.heap.size := Nat.lt_of_lt_of_le hgl HS.out.2.size
      have HR := Lib.hid (show wr.rangeAt g (k * 15) [.int .i64 (x.o 0), .int .i64 (x.o 1), .int .i64 (x.o 2), .int .i64 (x.o 3), .int .i64 (x.o 4), .int .i64 (x.o 5), .int .u32 (x.oi 0), .int .u32 (x.oi 1), .int .u32 (x.oi 2), .int .u32 (x.oi 3), .slice ax x.row.length cx, .int .u32 x.v.a, .int .u32 x.v.b, .int .u32 x.v.c, .int .u32 x.v.d] from range_below hr15 HS.out.2 hgl)
      have HX := Lib.hid (And.intro okx (And.intro hrin hx))
      have hrl : x.row.length ≤ 64 := okx.len
      have hwl : IntKind.u32.wrap ((x.row.length : Nat) : Int) = ((x.row.length : Nat) : Int) := by simp [IntKind.wrap, IntKind.signed, IntKind.bits]; omega
      have HOB := Lib.hid (HS.out.1.alloc (.cells #[.int .i64 (x.o 0), .int .i64 (x.o 1), .int .i64 (x.o 2), .int .i64 (x.o 3), .int .i64 (x.o 4), .int .i64 (x.o 5), .int .u32 (x.oi 0), .int .u32 (x.oi 1), .int .u32 (x.oi 2), .int .u32 (x.oi 3), .slice ax x.row.length cx, .int .u32 x.v.a, .int .u32 x.v.b, .int .u32 x.v.c, .int .u32 x.v.d] 75))
      have HBB := Lib.hid (heap_new wr (.cells #[.int .i64 (x.o 0), .int .i64 (x.o 1), .int .i64 (x.o 2), .int .i64 (x.o 3), .int .i64 (x.o 4), .int .i64 (x.o 5), .int .u32 (x.oi 0), .int .u32 (x.oi 1), .int .u32 (x.oi 2), .int .u32 (x.oi 3), .slice ax x.row.length cx, .int .u32 x.v.a, .int .u32 x.v.b, .int .u32 x.v.c, .int .u32 x.v.d] 75))
      have HN0 := Lib.hid (number_any (wr.alloc (.cells #[.int .i64 (x.o 0), .int .i64 (x.o 1), .int .i64 (x.o 2), .int .i64 (x.o 3), .int .i64 (x.o 4), .int .i64 (x.o 5), .int .u32 (x.oi 0), .int .u32 (x.oi 1), .int .u32 (x.oi 2), .int .u32 (x.oi 3), .slice ax x.row.length cx, .int .u32 x.v.a, .int .u32 x.v.b, .int .u32 x.v.c, .int .u32 x.v.d] 75)) w.heap.size kv _ HOB.out (by have := HS.out.2.size; simp; omega) (by omega) x.row.length (by omega))
      have d1 : decide (k < n) = true := decide_eq_true hlt
      have d2 : decide ((k : Int) < (n : Int)) = true := decide_eq_true (by omega)
      have hbz := HS.out.2.size
      clear hx okx hrin hr15 hkey
      go_wp2_with (refine wpList_load_mid rfl 75 (.tmp 12) rfl g (k * 15) rfl [.int .i64 (x.o 0), .int .i64 (x.o 1), .int .i64 (x.o 2), .int .i64 (x.o 3), .int .i64 (x.o 4), .int .i64 (x.o 5), .int .u32 (x.oi 0), .int .u32 (x.oi 1), .int .u32 (x.oi 2), .int .u32 (x.oi 3), .slice ax x.row.length cx, .int .u32 x.v.a, .int .u32 x.v.b, .int .u32 x.v.c, .int .u32 x.v.d] _ HR.out Tryd.underlying75 rfl item_infoK ?_)
      refine HN0.out.mono ?_
      rintro e2 w2 ⟨v2, rfl, h2⟩
      have HB2 := Lib.hid (h2.keep HOB.out HBB.out (by decide))
      have HS2 := Lib.hid (And.intro h2.own (h2.below HOB.out (HS.out.2.alloc HS.out.2.size _) (by simp; omega)))
      have hb2 : wr.heap.size < w2.heap.size := lt_of HB2.out
      clear h2 HN0
      have c10 : w2.cell? ⟨wr.heap.size, 10, none⟩ = some (.slice ax x.row.length cx) := cell_of HB2.out 10
      go_wp2_with fail
      go_loopw [3, 23] (fun s i W => ∃ (q : Nat) (kv' : Value), q ≤ x.row.length ∧ i = .int .i64 (q : Int) ∧ s = kv' ∧ W.ownsRow w.heap.size 5 1 kv' (keyN (L.take k) ++ numN x.row.length ++ rowN (x.row.take q)).length (byteCells (keyN (L.take k) ++ numN x.row.length ++ rowN (x.row.take q))) ∧ W.heap[wr.heap.size]? = some (.cells #[.int .i64 (x.o 0), .int .i64 (x.o 1), .int .i64 (x.o 2), .int .i64 (x.o 3), .int .i64 (x.o 4), .int .i64 (x.o 5), .int .u32 (x.oi 0), .int .u32 (x.oi 1), .int .u32 (x.oi 2), .int .u32 (x.oi 3), .slice ax x.row.length cx, .int .u32 x.v.a, .int .u32 x.v.b, .int .u32 x.v.c, .int .u32 x.v.d] 75 (0, 0)) ∧ Below w.heap.size w W) (fun _ i _ => x.row.length - (intOf i).toNat)
      case atStart => exact ⟨0, v2, by omega, rfl, rfl, by simpa [rowN] using HS2.out.1, HB2.out, HS2.out.2⟩
      case round =>
        rename World => W
        obtain ⟨q, kv', hq, rfl, hsv, hown, hbx, hB⟩ := hrel
        obtain rfl := hsv.symm
        have HT := Lib.hid (And.intro hown (And.intro hbx hB))
        have hrow16 : (rowN (x.row.take q)).length ≤ 1024 := by
          rw [rowN_len]
          have := List.length_take_le q x.row
          omega
        have hTl : (keyN (L.take k) ++ numN x.row.length ++ rowN (x.row.take q)).length ≤ 9000000 := by rw [List.length_append, List.length_append, numN_len]; omega
        have hbW : wr.heap.size < W.heap.size := lt_of hbx
        have hBW := hB.size
        clear hown hB c10
        by_cases hqlt : q < x.row.length
        · obtain ⟨y, hy⟩ : ∃ y, x.row[q]? = some y := ⟨_, List.getElem?_eq_getElem hqlt⟩
          obtain ⟨b, off, rfl, hbl, hrc⟩ := HX.out.2.1 (by omega)
          have oky := HX.out.1.row y (List.mem_of_getElem? hy)
          have HRY := Lib.hid (show W.rangeAt b (off + q * 4) [.int .u32 y.a, .int .u32 y.b, .int .u32 y.c, .int .u32 y.d] from range_below (hrc q y hy) HT.out.2.2 hbl)
          have HOW := Lib.hid (HT.out.1.alloc (.cells #[.int .u32 y.a, .int .u32 y.b, .int .u32 y.c, .int .u32 y.d] 41))
          have HBW := Lib.hid (heap_old HT.out.2.1 (.cells #[.int .u32 y.a, .int .u32 y.b, .int .u32 y.c, .int .u32 y.d] 41))
          have HNV := Lib.hid (value_any (W.alloc (.cells #[.int .u32 y.a, .int .u32 y.b, .int .u32 y.c, .int .u32 y.d] 41)) w.heap.size kv' _ HOW.out (by simp; omega) hTl y oky)
          have HRN := Lib.hid (show keyN (L.take k) ++ numN x.row.length ++ rowN (x.row.take (q + 1)) = keyN (L.take k) ++ numN x.row.length ++ rowN (x.row.take q) ++ valN y by rw [List.take_add_one, hy]; unfold rowN; rw [List.flatMap_append]; simp)
          have f1 : decide (q < x.row.length) = true := decide_eq_true hqlt
          have f2 : decide ((q : Int) < (x.row.length : Int)) = true := decide_eq_true (by omega)
          clear hy oky hrc hbx
          go_wp2_with (refine wpList_load_mid rfl 41 (.tmp 25) rfl b (off + q * 4) rfl [.int .u32 y.a, .int .u32 y.b, .int .u32 y.c, .int .u32 y.d] _ HRY.out Tryd.underlying41 rfl val_infoK ?_)
          refine HNV.out.mono ?_
          rintro e3 w3 ⟨v3, rfl, h3⟩
          have HB3 := Lib.hid (h3.keep HOW.out HBW.out (by decide))
          have HS3 := Lib.hid (And.intro h3.own (h3.below HOW.out (HT.out.2.2.alloc HT.out.2.2.size _) (by simp; omega)))
          clear h3 HNV
          go_wp2_with fail
          go_roundw
          case rel => exact ⟨q + 1, v3, by omega, by go_num, rfl, by rw [HRN.out]; exact HS3.out.1, HB3.out, HS3.out.2⟩
          case measure => simp [intOf]; omega
        · obtain rfl : q = x.row.length := by omega
          have f1 : decide (x.row.length < x.row.length) = false := decide_eq_false (by omega)
          have c11 : W.cell? ⟨wr.heap.size, 11, none⟩ = some (.int .u32 x.v.a) := cell_of hbx 11
          have c12 : W.cell? ⟨wr.heap.size, 12, none⟩ = some (.int .u32 x.v.b) := cell_of hbx 12
          have c13 : W.cell? ⟨wr.heap.size, 13, none⟩ = some (.int .u32 x.v.c) := cell_of hbx 13
          have c14 : W.cell? ⟨wr.heap.size, 14, none⟩ = some (.int .u32 x.v.d) := cell_of hbx 14
          have HNV := Lib.hid (value_any W w.heap.size kv' _ HT.out.1 hBW hTl x.v HX.out.1.v)
          have HRN := Lib.hid (show keyN (L.take (k + 1)) = keyN (L.take k) ++ numN x.row.length ++ rowN (x.row.take x.row.length) ++ valN x.v by rw [HK.out, List.take_length]; unfold itemN; simp only [List.append_assoc])
          clear hbx
          go_wp2_with fail
          refine HNV.out.mono ?_
          rintro e3 w3 ⟨v3, rfl, h3⟩
          have HS3 := Lib.hid (And.intro h3.own (h3.below HT.out.1 HT.out.2.2 hBW))
          clear h3 HNV c11 c12 c13 c14
          go_wp2_with fail
          go_roundw
          case rel => exact ⟨k + 1, v3, by omega, by go_num, rfl, by rw [HRN.out]; exact HS3.out.1, HS3.out.2⟩
          case measure => simp [intOf]; omega
    · obtain rfl : k = n := by omega
      have f1 : decide (k < k) = false := decide_eq_false (by omega)
      have hfin := HS.out.1
      rw [List.take_of_length_le (by rw [HN.out]; exact Nat.le_refl _)] at hfin
      have hcv := conv_key hfin
      clear hfin
      go_wp2_with (simp only [hcv])
      go_ret
      exact ⟨rfl, HS.out.2⟩
end Go.Proofs.YtohajfkekkelhaaDoor
namespace Go.Proofs.YtohajfkekkelhaaDoor
open Go.ChangeShapes Go.WideShapes Go.ChangeAt Go.RowKit
set_option linter.unusedVariables false
set_option linter.unusedSimpArgs false
set_option maxRecDepth 20000 in
set_option maxHeartbeats 8000000 in
theorem lfollow_any (w : World) (g c : Nat) (L : List ItemD) (h : StateAt w g L) (ok : ∀ x, x ∈ L → x.Ok) (hn : L.length ≤ 1000) (x : OpX) (hx : OpOk x) :
    Calls Tryd.prog 18 #[.slice (some ⟨g, 0, none⟩) L.length c, .agg (opA x)] w (AllowsIn w L.length (followP L x)) := by
  have HB0 := Lib.hid (show Below w.heap.size w (w.alloc (.cells #[.int .i64 (x 0), .int .i64 (x 1), .int .i64 (x 2), .int .i64 (x 3), .int .u32 (x 4), .int .u32 (x 5), .int .u32 (x 6), .int .u32 (x 7), .int .u32 (x 8), .int .i64 (x 9), .int .u32 (x 10), .int .u32 (x 11), .int .u32 (x 12), .int .u32 (x 13), .bool (decide (x 14 = 1)), .int .i64 (x 15), .int .i64 (x 16)] 47)) from (Below.refl _ w).alloc (Nat.le_refl _) _)
  have HA := Lib.hid (allows_any (w.alloc (.cells #[.int .i64 (x 0), .int .i64 (x 1), .int .i64 (x 2), .int .i64 (x 3), .int .u32 (x 4), .int .u32 (x 5), .int .u32 (x 6), .int .u32 (x 7), .int .u32 (x 8), .int .i64 (x 9), .int .u32 (x 10), .int .u32 (x 11), .int .u32 (x 12), .int .u32 (x 13), .bool (decide (x 14 = 1)), .int .i64 (x 15), .int .i64 (x 16)] 47)) g c L (h.below HB0.out) ok hn (x 2) (x 3) (x 8) (opV4 x) (opV4_ok hx) (opR5 x))
  have HD := Lib.hid (do_any (w.alloc (.cells #[.int .i64 (x 0), .int .i64 (x 1), .int .i64 (x 2), .int .i64 (x 3), .int .u32 (x 4), .int .u32 (x 5), .int .u32 (x 6), .int .u32 (x 7), .int .u32 (x 8), .int .i64 (x 9), .int .u32 (x 10), .int .u32 (x 11), .int .u32 (x 12), .int .u32 (x 13), .bool (decide (x 14 = 1)), .int .i64 (x 15), .int .i64 (x 16)] 47)) g c L (h.below HB0.out) ok hn (x 2) (x 3) (x 8) (opV4 x) (opV4_ok hx))
  have hr := range_op w x
  have c14 : (w.alloc (.cells #[.int .i64 (x 0), .int .i64 (x 1), .int .i64 (x 2), .int .i64 (x 3), .int .u32 (x 4), .int .u32 (x 5), .int .u32 (x 6), .int .u32 (x 7), .int .u32 (x 8), .int .i64 (x 9), .int .u32 (x 10), .int .u32 (x 11), .int .u32 (x 12), .int .u32 (x 13), .bool (decide (x 14 = 1)), .int .i64 (x 15), .int .i64 (x 16)] 47)).cell? ⟨w.heap.size, 14, none⟩ = some (.bool (decide (x 14 = 1))) := by simp
  have HR7 := Lib.hid (show (w.alloc (.cells #[.int .i64 (x 0), .int .i64 (x 1), .int .i64 (x 2), .int .i64 (x 3), .int .u32 (x 4), .int .u32 (x 5), .int .u32 (x 6), .int .u32 (x 7), .int .u32 (x 8), .int .i64 (x 9), .int .u32 (x 10), .int .u32 (x 11), .int .u32 (x 12), .int .u32 (x 13), .bool (decide (x 14 = 1)), .int .i64 (x 15), .int .i64 (x 16)] 47)).rangeAt w.heap.size 2 [.int .i64 (x 2), .int .i64 (x 3), .int .u32 (x 4), .int .u32 (x 5), .int .u32 (x 6), .int .u32 (x 7), .int .u32 (x 8)] from fun j v hv => by
    have hj : j < 7 := (List.getElem?_eq_some_iff.1 hv).1
    have := hr (2 + j) v (by rcases (by omega : j = 0 ∨ j = 1 ∨ j = 2 ∨ j = 3 ∨ j = 4 ∨ j = 5 ∨ j = 6) with rfl | rfl | rfl | rfl | rfl | rfl | rfl <;> exact hv)
    rwa [show 0 + (2 + j) = 2 + j by omega] at this)
  have HR5 := Lib.hid (show (w.alloc (.cells #[.int .i64 (x 0), .int .i64 (x 1), .int .i64 (x 2), .int .i64 (x 3), .int .u32 (x 4), .int .u32 (x 5), .int .u32 (x 6), .int .u32 (x 7), .int .u32 (x 8), .int .i64 (x 9), .int .u32 (x 10), .int .u32 (x 11), .int .u32 (x 12), .int .u32 (x 13), .bool (decide (x 14 = 1)), .int .i64 (x 15), .int .i64 (x 16)] 47)).rangeAt w.heap.size 9 [.int .i64 (x 9), .int .u32 (x 10), .int .u32 (x 11), .int .u32 (x 12), .int .u32 (x 13)] from fun j v hv => by
    have hj : j < 5 := (List.getElem?_eq_some_iff.1 hv).1
    have := hr (9 + j) v (by rcases (by omega : j = 0 ∨ j = 1 ∨ j = 2 ∨ j = 3 ∨ j = 4) with rfl | rfl | rfl | rfl | rfl <;> exact hv)
    rwa [show 0 + (9 + j) = 9 + j by omega] at this)
  have HF := Lib.hid (show followP L x = if decide (x 14 = 1) = true then allowsP L (x 2) (x 3) (opV4 x) (opR5 x) else ((doP L (x 2) (x 3) (opV4 x)).1, true) from rfl)
  have hX : (opA x) = #[.int .i64 (x 0), .int .i64 (x 1), .int .i64 (x 2), .int .i64 (x 3), .int .u32 (x 4), .int .u32 (x 5), .int .u32 (x 6), .int .u32 (x 7), .int .u32 (x 8), .int .i64 (x 9), .int .u32 (x 10), .int .u32 (x 11), .int .u32 (x 12), .int .u32 (x 13), .bool (decide (x 14 = 1)), .int .i64 (x 15), .int .i64 (x 16)] := rfl
  rw [hX]
  obtain ⟨n, hne⟩ : ∃ n, L.length = n := ⟨_, rfl⟩
  rw [hne] at HA HD ⊢
  generalize followP L x = Z at *
  generalize hP : doP L (x 2) (x 3) (opV4 x) = P at *
  generalize hQ : allowsP L (x 2) (x 3) (opV4 x) (opR5 x) = R at *
  obtain ⟨L', d⟩ := P
  generalize decide (x 14 = 1) = q at *
  clear h ok hn hx hX hne hP hQ hr
  cases q with
  | true =>
    rw [if_pos rfl] at HF
    go_enter Tryd.func18, Tryd.ntmps18
    go_wp2_with (first
      | (refine wpList_load_mid rfl 43 (.tmp 11) rfl w.heap.size 2 rfl [.int .i64 (x 2), .int .i64 (x 3), .int .u32 (x 4), .int .u32 (x 5), .int .u32 (x 6), .int .u32 (x 7), .int .u32 (x 8)] _ HR7.out Tryd.underlying43 rfl call_info ?_)
      | (refine wpList_load_mid rfl 45 (.tmp 13) rfl w.heap.size 9 rfl [.int .i64 (x 9), .int .u32 (x 10), .int .u32 (x 11), .int .u32 (x 12), .int .u32 (x 13)] _ HR5.out Tryd.underlying45 rfl res_info ?_))
    refine HA.out.mono ?_
    rintro e1 w1 ⟨b1, g1, c1, rfl, hs1⟩
    have HB1 := Lib.hid (HB0.out.trans (b1.mono HB0.out.size))
    have HS1 := Lib.hid hs1
    clear b1 hs1
    go_wp2_with fail
    refine bodyPost_ret (v := .tuple #[.slice (some ⟨g1, 0, none⟩) n c1, .bool R.2]) (by simp [results, Tryd.results18, go_sem]) rfl ?_
    rw [HF.out]
    exact ⟨HB1.out, g1, c1, rfl, HS1.out⟩
  | false =>
    rw [if_neg (by simp)] at HF
    go_enter Tryd.func18, Tryd.ntmps18
    go_wp2_with (refine wpList_load_mid rfl 43 (.tmp 20) rfl w.heap.size 2 rfl [.int .i64 (x 2), .int .i64 (x 3), .int .u32 (x 4), .int .u32 (x 5), .int .u32 (x 6), .int .u32 (x 7), .int .u32 (x 8)] _ HR7.out Tryd.underlying43 rfl call_info ?_)
    refine HD.out.mono ?_
    rintro e1 w1 ⟨b1, g1, c1, rfl, hs1⟩
    have HB1 := Lib.hid (HB0.out.trans (b1.mono HB0.out.size))
    have HS1 := Lib.hid hs1
    clear b1 hs1
    go_wp2_with fail
    refine bodyPost_ret (v := .tuple #[.slice (some ⟨g1, 0, none⟩) n c1, .bool true]) (by simp [results, Tryd.results18, go_sem]) rfl ?_
    rw [HF.out]
    exact ⟨HB1.out.alloc HB1.out.size _, g1, c1, rfl, HS1.out.below ((Below.refl _ w1).alloc (Nat.le_refl _) _)⟩
end Go.Proofs.YtohajfkekkelhaaDoor
namespace Go.Proofs.YtohajfkekkelhaaDoor
open Go.ChangeShapes Go.WideShapes Go.ChangeAt Go.RowKit
set_option linter.unusedVariables false
set_option linter.unusedSimpArgs false
theorem done_lt (Lo : List OpX) (k : Nat) (h : k ≤ 32) : doneW Lo k < 4294967296 := by
  have : doneW Lo k < 2 ^ 32 := Nat.lt_pow_two_of_testBit _ fun j hj => by
    rw [done_bit]
    simp
    omega
  omega
set_option maxRecDepth 20000 in
set_option maxHeartbeats 8000000 in
theorem done_any (w : World) (a : Option Addr) (n c : Nat) (Lo : List OpX) (h : OpsArg w a n Lo) (hn : n ≤ 24) :
    Calls Tryd.prog 14 #[.slice a n c] w fun e w' => e = .returned (.int .u32 (doneW Lo n : Int)) ∧ Keeps (fun _ => False) w w' := by
  have HH := Lib.hid h
  have hlen := h.len
  clear h
  go_enter Tryd.func14, Tryd.ntmps14
  go_wp2_with fail
  go_loopw [3, 8] (fun s i wr => ∃ k : Nat, k ≤ n ∧ i = .int .i64 (k : Int) ∧ s = .int .u32 (doneW Lo k : Int) ∧ Keeps (fun _ => False) w wr) (fun _ i _ => n - (intOf i).toNat)
  case atStart => exact ⟨0, by omega, rfl, rfl, Keeps.refl _ _⟩
  case round =>
    obtain ⟨k, hk, rfl, rfl, hkw⟩ := hrel
    have HK := Lib.hid hkw
    by_cases hlt : k < n
    · obtain ⟨lb, loff, rfl, hlb, hlc⟩ := HH.out.lies (by omega)
      obtain ⟨x, hx⟩ : ∃ x, Lo[k]? = some x := ⟨_, List.getElem?_eq_getElem (by rw [hlen]; exact hlt)⟩
      have gx : getX Lo k = x := by unfold getX; rw [hx]; rfl
      have HX := Lib.hid (show wr.rangeAt lb (loff + k * 17) [.int .i64 (x 0), .int .i64 (x 1), .int .i64 (x 2), .int .i64 (x 3), .int .u32 (x 4), .int .u32 (x 5), .int .u32 (x 6), .int .u32 (x 7), .int .u32 (x 8), .int .i64 (x 9), .int .u32 (x 10), .int .u32 (x 11), .int .u32 (x 12), .int .u32 (x 13), .bool (decide (x 14 = 1)), .int .i64 (x 15), .int .i64 (x 16)] from range_keeps (hlc k x hx) hkw hlb)
      have hw32 : doneW Lo k < 4294967296 := done_lt Lo k (by omega)
      have HD := Lib.hid (show doneW Lo (k + 1) = if decide (x 14 = 1) = true then doneW Lo k ||| 2 ^ k else doneW Lo k by rw [← gx]; rfl)
      have HW := Lib.hid (fun W => with_any (doneW Lo k) (k : Int) W hw32)
      have hsb : setB (doneW Lo k) (k : Int) = doneW Lo k ||| 2 ^ k := by unfold setB bitW; rw [if_pos (by omega), Int.toNat_natCast]
      rw [hsb] at HW
      have d1 : decide (k < n) = true := decide_eq_true hlt
      have d2 : decide ((k : Int) < (n : Int)) = true := decide_eq_true (by omega)
      clear hkw hx gx hlc hsb
      generalize hz : decide (x 14 = 1) = z at *
      clear hz
      have HKA := Lib.hid (HK.out.alloc (.cells #[.int .i64 (x 0), .int .i64 (x 1), .int .i64 (x 2), .int .i64 (x 3), .int .u32 (x 4), .int .u32 (x 5), .int .u32 (x 6), .int .u32 (x 7), .int .u32 (x 8), .int .i64 (x 9), .int .u32 (x 10), .int .u32 (x 11), .int .u32 (x 12), .int .u32 (x 13), .bool z, .int .i64 (x 15), .int .i64 (x 16)] 47))
      obtain ⟨dk, hdk⟩ : ∃ dk, doneW Lo (k + 1) = dk := ⟨_, rfl⟩
      have HDK := Lib.hid hdk
      rw [hdk] at HD
      clear hdk
      cases z with
      | true =>
        have HD2 := Lib.hid (HD.out.trans (if_pos rfl))
        go_wp2_with (refine wpList_load_mid rfl 47 (.tmp 11) rfl lb (loff + k * 17) rfl [.int .i64 (x 0), .int .i64 (x 1), .int .i64 (x 2), .int .i64 (x 3), .int .u32 (x 4), .int .u32 (x 5), .int .u32 (x 6), .int .u32 (x 7), .int .u32 (x 8), .int .i64 (x 9), .int .u32 (x 10), .int .u32 (x 11), .int .u32 (x 12), .int .u32 (x 13), .bool true, .int .i64 (x 15), .int .i64 (x 16)] _ HX.out Tryd.underlying47 rfl op_info ?_)
        refine (HW.out _).mono ?_
        rintro e2 w2 ⟨rfl, hw2⟩
        subst hw2
        go_wp2_with fail
        go_roundw
        case rel => exact ⟨k + 1, by omega, by go_num, by rw [HDK.out, HD2.out], HKA.out⟩
        case measure => simp [intOf]; omega
      | false =>
        have HD2 := Lib.hid (HD.out.trans (if_neg (by simp)))
        go_wp2_with (refine wpList_load_mid rfl 47 (.tmp 11) rfl lb (loff + k * 17) rfl [.int .i64 (x 0), .int .i64 (x 1), .int .i64 (x 2), .int .i64 (x 3), .int .u32 (x 4), .int .u32 (x 5), .int .u32 (x 6), .int .u32 (x 7), .int .u32 (x 8), .int .i64 (x 9), .int .u32 (x 10), .int .u32 (x 11), .int .u32 (x 12), .int .u32 (x 13), .bool false, .int .i64 (x 15), .int .i64 (x 16)] _ HX.out Tryd.underlying47 rfl op_info ?_)
        go_roundw
        case rel => exact ⟨k + 1, by omega, by go_num, by rw [HDK.out, HD2.out], HKA.out⟩
        case measure => simp [intOf]; omega
    · obtain rfl : k = n := by omega
      have f1 : decide (k < k) = false := decide_eq_false (by omega)
      go_wp2_with fail
      go_ret
      exact ⟨rfl, HK.out⟩
end Go.Proofs.YtohajfkekkelhaaDoor
