import Derived.Test.YtakaclkhnajpeaaHistD
namespace Go.Proofs.Ytakaclkhnajpeaa
open Go.ChangeShapes Go.WideShapes Go.ChangeAt Go.RowKit
set_option linter.unusedVariables false
set_option linter.unusedSimpArgs false
theorem ixA0 (w : World) (p0 p1 p2 p3 : Option Addr) : (Instr.index 63 (.agg #[.pointer p0, .pointer p1, .pointer p2, .pointer p3]) (.int .i64 0)).run Try.prog w = .ok (.pointer p0) w := by kernel_rfl
theorem ixA1 (w : World) (p0 p1 p2 p3 : Option Addr) : (Instr.index 63 (.agg #[.pointer p0, .pointer p1, .pointer p2, .pointer p3]) (.int .i64 1)).run Try.prog w = .ok (.pointer p1) w := by kernel_rfl
theorem ixA2 (w : World) (p0 p1 p2 p3 : Option Addr) : (Instr.index 63 (.agg #[.pointer p0, .pointer p1, .pointer p2, .pointer p3]) (.int .i64 2)).run Try.prog w = .ok (.pointer p2) w := by kernel_rfl
theorem ixA3 (w : World) (p0 p1 p2 p3 : Option Addr) : (Instr.index 63 (.agg #[.pointer p0, .pointer p1, .pointer p2, .pointer p3]) (.int .i64 3)).run Try.prog w = .ok (.pointer p3) w := by kernel_rfl
theorem ixB0 (w : World) (p0 p1 p2 p3 p4 : Option Addr) : (Instr.index 65 (.agg #[.pointer p0, .pointer p1, .pointer p2, .pointer p3, .pointer p4]) (.int .i64 0)).run Try.prog w = .ok (.pointer p0) w := by kernel_rfl
theorem ixB1 (w : World) (p0 p1 p2 p3 p4 : Option Addr) : (Instr.index 65 (.agg #[.pointer p0, .pointer p1, .pointer p2, .pointer p3, .pointer p4]) (.int .i64 1)).run Try.prog w = .ok (.pointer p1) w := by kernel_rfl
theorem ixB2 (w : World) (p0 p1 p2 p3 p4 : Option Addr) : (Instr.index 65 (.agg #[.pointer p0, .pointer p1, .pointer p2, .pointer p3, .pointer p4]) (.int .i64 2)).run Try.prog w = .ok (.pointer p2) w := by kernel_rfl
theorem ixB3 (w : World) (p0 p1 p2 p3 p4 : Option Addr) : (Instr.index 65 (.agg #[.pointer p0, .pointer p1, .pointer p2, .pointer p3, .pointer p4]) (.int .i64 3)).run Try.prog w = .ok (.pointer p3) w := by kernel_rfl
theorem ixB4 (w : World) (p0 p1 p2 p3 p4 : Option Addr) : (Instr.index 65 (.agg #[.pointer p0, .pointer p1, .pointer p2, .pointer p3, .pointer p4]) (.int .i64 4)).run Try.prog w = .ok (.pointer p4) w := by kernel_rfl
theorem ixC0 (w : World) (p0 p1 p2 p3 : Option Addr) : (Instr.index 66 (.agg #[.pointer p0, .pointer p1, .pointer p2, .pointer p3]) (.int .i64 0)).run Try.prog w = .ok (.pointer p0) w := by kernel_rfl
theorem ixC1 (w : World) (p0 p1 p2 p3 : Option Addr) : (Instr.index 66 (.agg #[.pointer p0, .pointer p1, .pointer p2, .pointer p3]) (.int .i64 1)).run Try.prog w = .ok (.pointer p1) w := by kernel_rfl
theorem ixC2 (w : World) (p0 p1 p2 p3 : Option Addr) : (Instr.index 66 (.agg #[.pointer p0, .pointer p1, .pointer p2, .pointer p3]) (.int .i64 2)).run Try.prog w = .ok (.pointer p2) w := by kernel_rfl
theorem ixC3 (w : World) (p0 p1 p2 p3 : Option Addr) : (Instr.index 66 (.agg #[.pointer p0, .pointer p1, .pointer p2, .pointer p3]) (.int .i64 3)).run Try.prog w = .ok (.pointer p3) w := by kernel_rfl
theorem ixD0 (w : World) (p0 p1 : Option Addr) : (Instr.index 67 (.agg #[.pointer p0, .pointer p1]) (.int .i64 0)).run Try.prog w = .ok (.pointer p0) w := by kernel_rfl
theorem ixD1 (w : World) (p0 p1 : Option Addr) : (Instr.index 67 (.agg #[.pointer p0, .pointer p1]) (.int .i64 1)).run Try.prog w = .ok (.pointer p1) w := by kernel_rfl
theorem res_call (w : World) (T : Array Value) (b : Nat) (cs : List Value) (r : Bool) (h2 : T.getD 2 undef = .pointer (some ⟨b, 0, none⟩)) (h3 : T.getD 3 undef = .bool r) (h : (loadVar 38 ⟨b, 0, none⟩).run Try.prog w = .ok (.agg cs.toArray) w) :
    (results Try.f13 T).run Try.prog w = .ok (.tuple #[.agg cs.toArray, .bool r]) w := by
  simp only [Array.getD_eq_getD_getElem?] at h2 h3
  simp [results, Try.results13, h2, h3, asAddr, h, Sem.run_bind, Sem.run_pure]
theorem opL_one (x : OpX) : ∀ v ∈ opL x, v.oneCell' = true := by
  intro v hv
  simp only [opL, List.mem_cons, List.not_mem_nil, or_false] at hv
  rcases hv with rfl | rfl | rfl | rfl | rfl | rfl | rfl | rfl | rfl | rfl | rfl | rfl | rfl | rfl | rfl | rfl | rfl <;> rfl
theorem below_setCells (w : World) (b : Nat) : ∀ (vs : List Value) (o B : Nat), B ≤ b → Below B w (w.setCells b o vs)
  | [], _, B, _ => Below.refl B w
  | v :: t, o, B, h => by
    rw [World.setCells]
    exact ((Below.refl B w).setCell (p := ⟨b, o, none⟩) h v).trans (below_setCells (w.setCell ⟨b, o, none⟩ v) b t (o + 1) B h)
theorem opA_zero (F : Nat → List UInt8) : opA (zx F 0) = #[.int .i64 0, .int .i64 0, .int .i64 0, .int .i64 0, .int .u32 0, .int .u32 0, .int .u32 0, .int .u32 0, .int .u32 0, .int .i64 0, .int .u32 0, .int .u32 0, .int .u32 0, .int .u32 0, .bool false, .int .i64 0, .int .i64 0] := by simp [opA, opL, zx]
theorem CB.on {w wr w' : World} {N : Int} {A : Option Addr} {c : Nat} {F : Nat → List UInt8} {k m : Nat} (h : CB w wr N A c F k m) (q : Keeps (fun _ => False) wr w') : CB w w' N A c F k m :=
  ⟨q.at h.row fun h => h, q.at h.res fun h => h, q.at h.at' fun h => h, q.at h.rt fun h => h, q.at h.op fun h => h, h.below.trans (q.none.mono h.below.size)⟩
theorem CB.held {w wr : World} {N : Int} {A : Option Addr} {c : Nat} {F : Nat → List UInt8} {k m : Nat} {r : Bool} (h : CB w wr N A c F k m) (hr : rightP F k = r) : wr.rangeAt (w.heap.size + 4) 0 (opL (zx F m)) ∧ wr.cell? ⟨w.heap.size + 3, 0, none⟩ = some (.bool r) :=
  ⟨fun j v hv => by rw [cell_of h.op (0 + j), show 0 + j = j by omega]; simpa [opA] using hv, by rw [← hr]; exact cell_of h.rt 0⟩
set_option maxRecDepth 100000 in
set_option maxHeartbeats 20000000 in
/-- **A line's call.** -/
theorem call_any (w : World) (N : Int) (A : Option Addr) (c : Nat) (F : Nat → List UInt8) (hr : StrRow w A 17 F) (hF : ∀ i, i < 17 → (F i).length ≤ 9223372036854775807) :
    Calls Try.prog 13 #[.agg #[.int .i64 N, .slice A 17 c]] w fun e w' => e = .returned (.tuple #[.agg (opA (zx F 17)), .bool (rightP F 17 && singleP (zx F 17))]) ∧ Below w.heap.size w w' := by
  have HR := Lib.hid hr
  have HF := Lib.hid hF
  clear hr hF
  have HC := Lib.hid (show CB w (((((w.alloc (.cells #[.int .i64 N, .slice A 17 c] 45)).alloc (.cells #[.int .i64 0, .int .i64 0, .int .i64 0, .int .i64 0, .int .u32 0, .int .u32 0, .int .u32 0, .int .u32 0, .int .u32 0, .int .i64 0, .int .u32 0, .int .u32 0, .int .u32 0, .int .u32 0, .bool false, .int .i64 0, .int .i64 0] 38)).alloc (.cells #[.int .i64 0] 3)).alloc (.cells #[.bool true] 4)).alloc (.cells #[.int .i64 0, .int .i64 0, .int .i64 0, .int .i64 0, .int .u32 0, .int .u32 0, .int .u32 0, .int .u32 0, .int .u32 0, .int .i64 0, .int .u32 0, .int .u32 0, .int .u32 0, .int .u32 0, .bool false, .int .i64 0, .int .i64 0] 38)) N A c F 0 0 by
    rw [← opA_zero F]
    have s1 : (w.alloc (.cells #[.int .i64 N, .slice A 17 c] 45)).heap.size = w.heap.size + 1 := by simp
    have s2 : ((w.alloc (.cells #[.int .i64 N, .slice A 17 c] 45)).alloc (.cells (opA (zx F 0)) 38)).heap.size = w.heap.size + 2 := by simp
    have s3 : (((w.alloc (.cells #[.int .i64 N, .slice A 17 c] 45)).alloc (.cells (opA (zx F 0)) 38)).alloc (.cells #[.int .i64 0] 3)).heap.size = w.heap.size + 3 := by simp
    have s4 : ((((w.alloc (.cells #[.int .i64 N, .slice A 17 c] 45)).alloc (.cells (opA (zx F 0)) 38)).alloc (.cells #[.int .i64 0] 3)).alloc (.cells #[.bool true] 4)).heap.size = w.heap.size + 4 := by simp
    have h1 := heap_new w (.cells #[.int .i64 N, .slice A 17 c] 45)
    have h2 := heap_new (w.alloc (.cells #[.int .i64 N, .slice A 17 c] 45)) (.cells (opA (zx F 0)) 38)
    have h3 := heap_new ((w.alloc (.cells #[.int .i64 N, .slice A 17 c] 45)).alloc (.cells (opA (zx F 0)) 38)) (.cells #[.int .i64 0] 3)
    have h4 := heap_new (((w.alloc (.cells #[.int .i64 N, .slice A 17 c] 45)).alloc (.cells (opA (zx F 0)) 38)).alloc (.cells #[.int .i64 0] 3)) (.cells #[.bool true] 4)
    have h5 := heap_new ((((w.alloc (.cells #[.int .i64 N, .slice A 17 c] 45)).alloc (.cells (opA (zx F 0)) 38)).alloc (.cells #[.int .i64 0] 3)).alloc (.cells #[.bool true] 4)) (.cells (opA (zx F 0)) 38)
    rw [s1] at h2
    rw [s2] at h3
    rw [s3] at h4
    rw [s4] at h5
    exact ⟨heap_old (heap_old (heap_old (heap_old h1 _) _) _) _, heap_old (heap_old (heap_old h2 _) _) _, heap_old (heap_old h3 _) _, heap_old h4 _, h5,
      ((((Keeps.refl (fun _ => False) w).alloc _).alloc _).alloc _).alloc _ |>.alloc _ |>.none⟩)
  go_enter Try.func13, Try.ntmps13
  go_wp2_with fail
  generalize (((((w.alloc (.cells #[.int .i64 N, .slice A 17 c] 45)).alloc (.cells #[.int .i64 0, .int .i64 0, .int .i64 0, .int .i64 0, .int .u32 0, .int .u32 0, .int .u32 0, .int .u32 0, .int .u32 0, .int .i64 0, .int .u32 0, .int .u32 0, .int .u32 0, .int .u32 0, .bool false, .int .i64 0, .int .i64 0] 38)).alloc (.cells #[.int .i64 0] 3)).alloc (.cells #[.bool true] 4)).alloc (.cells #[.int .i64 0, .int .i64 0, .int .i64 0, .int .i64 0, .int .u32 0, .int .u32 0, .int .u32 0, .int .u32 0, .int .u32 0, .int .i64 0, .int .u32 0, .int .u32 0, .int .u32 0, .int .u32 0, .bool false, .int .i64 0, .int .i64 0] 38)) = W0 at *
  go_loopw [29, 9] (fun i _ wr => ∃ k : Nat, k ≤ 4 ∧ i = .int .i64 (k : Int) ∧ CB w wr N A c F (0 + k) (0 + k)) (fun i _ _ => 4 - (intOf i).toNat)
  case atStart => exact ⟨0, by omega, rfl, HC.out⟩
  case round =>
    clear HC
    obtain ⟨k, hk, rfl, hc⟩ := hrel
    rcases (show k = 0 ∨ k = 1 ∨ k = 2 ∨ k = 3 ∨ k = 4 by omega) with rfl | rfl | rfl | rfl | rfl
    · have HC := Lib.hid (show CB w wr N A c F 0 0 from hc)
      have ixk := ixA0
      clear hc
      go_wp2_with fail
      refine (next_any w _ N A c F 0 0 (-99) 1073741824 HC.out (by omega) HR.out HF.out rfl rfl).mono ?_
      rintro e0 w0 ⟨rfl, hc⟩
      have cc := cell_of hc.op 0
      have cc : w0.cell? ⟨w.heap.size + 1 + 1 + 1 + 1, 0, none⟩ = some (.int .i64 0) := cc
      have ff : w0.frozen? ⟨w.heap.size + 1 + 1 + 1 + 1, 0, none⟩ = false := free_of hc.op 0
      have HS := Lib.hid (CB.store hc (.int .i64 (yvH F 0)) 0 (zx_0 F))
      clear hc
      go_wp2_with fail
      go_roundw
      case rel => first | exact ⟨1, by omega, by first | rfl | go_num, HS.out⟩ | exact ⟨_, _, _, _, _, _, _, _, _, ⟨1, by omega, by first | rfl | go_num, HS.out⟩, rfl⟩
      case measure => simp [intOf]
    · have HC := Lib.hid (show CB w wr N A c F 1 1 from hc)
      have ixk := ixA1
      clear hc
      go_wp2_with fail
      refine (next_any w _ N A c F 1 1 (-99) 1073741824 HC.out (by omega) HR.out HF.out rfl rfl).mono ?_
      rintro e1 w1 ⟨rfl, hc⟩
      have cc := cell_of hc.op 1
      have cc : w1.cell? ⟨w.heap.size + 1 + 1 + 1 + 1, 1, none⟩ = some (.int .i64 0) := cc
      have ff : w1.frozen? ⟨w.heap.size + 1 + 1 + 1 + 1, 1, none⟩ = false := free_of hc.op 1
      have HS := Lib.hid (CB.store hc (.int .i64 (yvH F 1)) 1 (zx_1 F))
      clear hc
      go_wp2_with fail
      go_roundw
      case rel => first | exact ⟨2, by omega, by first | rfl | go_num, HS.out⟩ | exact ⟨_, _, _, _, _, _, _, _, _, ⟨2, by omega, by first | rfl | go_num, HS.out⟩, rfl⟩
      case measure => simp [intOf]
    · have HC := Lib.hid (show CB w wr N A c F 2 2 from hc)
      have ixk := ixA2
      clear hc
      go_wp2_with fail
      refine (next_any w _ N A c F 2 2 (-99) 1073741824 HC.out (by omega) HR.out HF.out rfl rfl).mono ?_
      rintro e2 w2 ⟨rfl, hc⟩
      have cc := cell_of hc.op 2
      have cc : w2.cell? ⟨w.heap.size + 1 + 1 + 1 + 1, 2, none⟩ = some (.int .i64 0) := cc
      have ff : w2.frozen? ⟨w.heap.size + 1 + 1 + 1 + 1, 2, none⟩ = false := free_of hc.op 2
      have HS := Lib.hid (CB.store hc (.int .i64 (yvH F 2)) 2 (zx_2 F))
      clear hc
      go_wp2_with fail
      go_roundw
      case rel => first | exact ⟨3, by omega, by first | rfl | go_num, HS.out⟩ | exact ⟨_, _, _, _, _, _, _, _, _, ⟨3, by omega, by first | rfl | go_num, HS.out⟩, rfl⟩
      case measure => simp [intOf]
    · have HC := Lib.hid (show CB w wr N A c F 3 3 from hc)
      have ixk := ixA3
      clear hc
      go_wp2_with fail
      refine (next_any w _ N A c F 3 3 (-99) 1073741824 HC.out (by omega) HR.out HF.out rfl rfl).mono ?_
      rintro e3 w3 ⟨rfl, hc⟩
      have cc := cell_of hc.op 3
      have cc : w3.cell? ⟨w.heap.size + 1 + 1 + 1 + 1, 3, none⟩ = some (.int .i64 0) := cc
      have ff : w3.frozen? ⟨w.heap.size + 1 + 1 + 1 + 1, 3, none⟩ = false := free_of hc.op 3
      have HS := Lib.hid (CB.store hc (.int .i64 (yvH F 3)) 3 (zx_3 F))
      clear hc
      go_wp2_with fail
      go_roundw
      case rel => first | exact ⟨4, by omega, by first | rfl | go_num, HS.out⟩ | exact ⟨_, _, _, _, _, _, _, _, _, ⟨4, by omega, by first | rfl | go_num, HS.out⟩, rfl⟩
      case measure => simp [intOf]
    · have HC := Lib.hid (show CB w wr N A c F 4 4 from hc)
      clear hc
      go_wp2_with fail
      go_loopw [52, 11] (fun i _ wr => ∃ k : Nat, k ≤ 5 ∧ i = .int .i64 (k : Int) ∧ CB w wr N A c F (4 + k) (4 + k)) (fun i _ _ => 5 - (intOf i).toNat)
      case atStart => exact ⟨0, by omega, rfl, HC.out⟩
      case round =>
        clear HC
        obtain ⟨k, hk, rfl, hc⟩ := hrel
        rcases (show k = 0 ∨ k = 1 ∨ k = 2 ∨ k = 3 ∨ k = 4 ∨ k = 5 by omega) with rfl | rfl | rfl | rfl | rfl | rfl
        · have HC := Lib.hid (show CB w wr N A c F 4 4 from hc)
          have ixk := ixB0
          clear hc
          go_wp2_with fail
          refine (next_any w _ N A c F 4 4 0 4294967295 HC.out (by omega) HR.out HF.out rfl rfl).mono ?_
          rintro e4 w4 ⟨rfl, hc⟩
          have cc := cell_of hc.op 4
          have cc : w4.cell? ⟨w.heap.size + 1 + 1 + 1 + 1, 4, none⟩ = some (.int .u32 0) := cc
          have ff : w4.frozen? ⟨w.heap.size + 1 + 1 + 1 + 1, 4, none⟩ = false := free_of hc.op 4
          have yb := yvH_bound F 4 (by omega)
          have HS := Lib.hid (CB.store hc (.int .u32 (yvH F 4)) 4 (zx_4 F))
          clear hc
          go_wp2_with fail
          go_roundw
          case rel => first | exact ⟨1, by omega, by first | rfl | go_num, HS.out⟩ | exact ⟨_, _, _, _, _, _, _, _, _, _, ⟨1, by omega, by first | rfl | go_num, HS.out⟩, rfl⟩
          case measure => simp [intOf]
        · have HC := Lib.hid (show CB w wr N A c F 5 5 from hc)
          have ixk := ixB1
          clear hc
          go_wp2_with fail
          refine (next_any w _ N A c F 5 5 0 4294967295 HC.out (by omega) HR.out HF.out rfl rfl).mono ?_
          rintro e5 w5 ⟨rfl, hc⟩
          have cc := cell_of hc.op 5
          have cc : w5.cell? ⟨w.heap.size + 1 + 1 + 1 + 1, 5, none⟩ = some (.int .u32 0) := cc
          have ff : w5.frozen? ⟨w.heap.size + 1 + 1 + 1 + 1, 5, none⟩ = false := free_of hc.op 5
          have yb := yvH_bound F 5 (by omega)
          have HS := Lib.hid (CB.store hc (.int .u32 (yvH F 5)) 5 (zx_5 F))
          clear hc
          go_wp2_with fail
          go_roundw
          case rel => first | exact ⟨2, by omega, by first | rfl | go_num, HS.out⟩ | exact ⟨_, _, _, _, _, _, _, _, _, _, ⟨2, by omega, by first | rfl | go_num, HS.out⟩, rfl⟩
          case measure => simp [intOf]
        · have HC := Lib.hid (show CB w wr N A c F 6 6 from hc)
          have ixk := ixB2
          clear hc
          go_wp2_with fail
          refine (next_any w _ N A c F 6 6 0 4294967295 HC.out (by omega) HR.out HF.out rfl rfl).mono ?_
          rintro e6 w6 ⟨rfl, hc⟩
          have cc := cell_of hc.op 6
          have cc : w6.cell? ⟨w.heap.size + 1 + 1 + 1 + 1, 6, none⟩ = some (.int .u32 0) := cc
          have ff : w6.frozen? ⟨w.heap.size + 1 + 1 + 1 + 1, 6, none⟩ = false := free_of hc.op 6
          have yb := yvH_bound F 6 (by omega)
          have HS := Lib.hid (CB.store hc (.int .u32 (yvH F 6)) 6 (zx_6 F))
          clear hc
          go_wp2_with fail
          go_roundw
          case rel => first | exact ⟨3, by omega, by first | rfl | go_num, HS.out⟩ | exact ⟨_, _, _, _, _, _, _, _, _, _, ⟨3, by omega, by first | rfl | go_num, HS.out⟩, rfl⟩
          case measure => simp [intOf]
        · have HC := Lib.hid (show CB w wr N A c F 7 7 from hc)
          have ixk := ixB3
          clear hc
          go_wp2_with fail
          refine (next_any w _ N A c F 7 7 0 4294967295 HC.out (by omega) HR.out HF.out rfl rfl).mono ?_
          rintro e7 w7 ⟨rfl, hc⟩
          have cc := cell_of hc.op 7
          have cc : w7.cell? ⟨w.heap.size + 1 + 1 + 1 + 1, 7, none⟩ = some (.int .u32 0) := cc
          have ff : w7.frozen? ⟨w.heap.size + 1 + 1 + 1 + 1, 7, none⟩ = false := free_of hc.op 7
          have yb := yvH_bound F 7 (by omega)
          have HS := Lib.hid (CB.store hc (.int .u32 (yvH F 7)) 7 (zx_7 F))
          clear hc
          go_wp2_with fail
          go_roundw
          case rel => first | exact ⟨4, by omega, by first | rfl | go_num, HS.out⟩ | exact ⟨_, _, _, _, _, _, _, _, _, _, ⟨4, by omega, by first | rfl | go_num, HS.out⟩, rfl⟩
          case measure => simp [intOf]
        · have HC := Lib.hid (show CB w wr N A c F 8 8 from hc)
          have ixk := ixB4
          clear hc
          go_wp2_with fail
          refine (next_any w _ N A c F 8 8 0 4294967295 HC.out (by omega) HR.out HF.out rfl rfl).mono ?_
          rintro e8 w8 ⟨rfl, hc⟩
          have cc := cell_of hc.op 8
          have cc : w8.cell? ⟨w.heap.size + 1 + 1 + 1 + 1, 8, none⟩ = some (.int .u32 0) := cc
          have ff : w8.frozen? ⟨w.heap.size + 1 + 1 + 1 + 1, 8, none⟩ = false := free_of hc.op 8
          have yb := yvH_bound F 8 (by omega)
          have HS := Lib.hid (CB.store hc (.int .u32 (yvH F 8)) 8 (zx_8 F))
          clear hc
          go_wp2_with fail
          go_roundw
          case rel => first | exact ⟨5, by omega, by first | rfl | go_num, HS.out⟩ | exact ⟨_, _, _, _, _, _, _, _, _, _, ⟨5, by omega, by first | rfl | go_num, HS.out⟩, rfl⟩
          case measure => simp [intOf]
        · have HC := Lib.hid (show CB w wr N A c F 9 9 from hc)
          clear hc
          go_wp2_with fail
          refine (next_any w _ N A c F 9 9 0 99 HC.out (by omega) HR.out HF.out rfl rfl).mono ?_
          rintro e9 w9 ⟨rfl, hc⟩
          have cc := cell_of hc.op 9
          have cc : w9.cell? ⟨w.heap.size + 1 + 1 + 1 + 1, 9, none⟩ = some (.int .i64 0) := cc
          have ff : w9.frozen? ⟨w.heap.size + 1 + 1 + 1 + 1, 9, none⟩ = false := free_of hc.op 9
          have HS := Lib.hid (CB.store hc (.int .i64 (yvH F 9)) 9 (zx_9 F))
          clear hc
          go_wp2_with fail
          replace HC := HS
          clear HS cc ff
          go_wp2_with fail
          go_loopw [78, 13] (fun i _ wr => ∃ k : Nat, k ≤ 4 ∧ i = .int .i64 (k : Int) ∧ CB w wr N A c F (10 + k) (10 + k)) (fun i _ _ => 4 - (intOf i).toNat)
          case atStart => exact ⟨0, by omega, rfl, HC.out⟩
          case round =>
            clear HC
            obtain ⟨k, hk, rfl, hc⟩ := hrel
            rcases (show k = 0 ∨ k = 1 ∨ k = 2 ∨ k = 3 ∨ k = 4 by omega) with rfl | rfl | rfl | rfl | rfl
            · have HC := Lib.hid (show CB w wr N A c F 10 10 from hc)
              have ixk := ixC0
              clear hc
              go_wp2_with fail
              refine (next_any w _ N A c F 10 10 0 4294967295 HC.out (by omega) HR.out HF.out rfl rfl).mono ?_
              rintro e10 w10 ⟨rfl, hc⟩
              have cc := cell_of hc.op 10
              have cc : w10.cell? ⟨w.heap.size + 1 + 1 + 1 + 1, 10, none⟩ = some (.int .u32 0) := cc
              have ff : w10.frozen? ⟨w.heap.size + 1 + 1 + 1 + 1, 10, none⟩ = false := free_of hc.op 10
              have yb := yvH_bound F 10 (by omega)
              have HS := Lib.hid (CB.store hc (.int .u32 (yvH F 10)) 10 (zx_10 F))
              clear hc
              go_wp2_with fail
              go_roundw
              case rel => first | exact ⟨1, by omega, by first | rfl | go_num, HS.out⟩ | exact ⟨_, _, _, _, _, _, _, _, _, _, ⟨1, by omega, by first | rfl | go_num, HS.out⟩, rfl⟩
              case measure => simp [intOf]
            · have HC := Lib.hid (show CB w wr N A c F 11 11 from hc)
              have ixk := ixC1
              clear hc
              go_wp2_with fail
              refine (next_any w _ N A c F 11 11 0 4294967295 HC.out (by omega) HR.out HF.out rfl rfl).mono ?_
              rintro e11 w11 ⟨rfl, hc⟩
              have cc := cell_of hc.op 11
              have cc : w11.cell? ⟨w.heap.size + 1 + 1 + 1 + 1, 11, none⟩ = some (.int .u32 0) := cc
              have ff : w11.frozen? ⟨w.heap.size + 1 + 1 + 1 + 1, 11, none⟩ = false := free_of hc.op 11
              have yb := yvH_bound F 11 (by omega)
              have HS := Lib.hid (CB.store hc (.int .u32 (yvH F 11)) 11 (zx_11 F))
              clear hc
              go_wp2_with fail
              go_roundw
              case rel => first | exact ⟨2, by omega, by first | rfl | go_num, HS.out⟩ | exact ⟨_, _, _, _, _, _, _, _, _, _, ⟨2, by omega, by first | rfl | go_num, HS.out⟩, rfl⟩
              case measure => simp [intOf]
            · have HC := Lib.hid (show CB w wr N A c F 12 12 from hc)
              have ixk := ixC2
              clear hc
              go_wp2_with fail
              refine (next_any w _ N A c F 12 12 0 4294967295 HC.out (by omega) HR.out HF.out rfl rfl).mono ?_
              rintro e12 w12 ⟨rfl, hc⟩
              have cc := cell_of hc.op 12
              have cc : w12.cell? ⟨w.heap.size + 1 + 1 + 1 + 1, 12, none⟩ = some (.int .u32 0) := cc
              have ff : w12.frozen? ⟨w.heap.size + 1 + 1 + 1 + 1, 12, none⟩ = false := free_of hc.op 12
              have yb := yvH_bound F 12 (by omega)
              have HS := Lib.hid (CB.store hc (.int .u32 (yvH F 12)) 12 (zx_12 F))
              clear hc
              go_wp2_with fail
              go_roundw
              case rel => first | exact ⟨3, by omega, by first | rfl | go_num, HS.out⟩ | exact ⟨_, _, _, _, _, _, _, _, _, _, ⟨3, by omega, by first | rfl | go_num, HS.out⟩, rfl⟩
              case measure => simp [intOf]
            · have HC := Lib.hid (show CB w wr N A c F 13 13 from hc)
              have ixk := ixC3
              clear hc
              go_wp2_with fail
              refine (next_any w _ N A c F 13 13 0 4294967295 HC.out (by omega) HR.out HF.out rfl rfl).mono ?_
              rintro e13 w13 ⟨rfl, hc⟩
              have cc := cell_of hc.op 13
              have cc : w13.cell? ⟨w.heap.size + 1 + 1 + 1 + 1, 13, none⟩ = some (.int .u32 0) := cc
              have ff : w13.frozen? ⟨w.heap.size + 1 + 1 + 1 + 1, 13, none⟩ = false := free_of hc.op 13
              have yb := yvH_bound F 13 (by omega)
              have HS := Lib.hid (CB.store hc (.int .u32 (yvH F 13)) 13 (zx_13 F))
              clear hc
              go_wp2_with fail
              go_roundw
              case rel => first | exact ⟨4, by omega, by first | rfl | go_num, HS.out⟩ | exact ⟨_, _, _, _, _, _, _, _, _, _, ⟨4, by omega, by first | rfl | go_num, HS.out⟩, rfl⟩
              case measure => simp [intOf]
            · have HC := Lib.hid (show CB w wr N A c F 14 14 from hc)
              clear hc
              go_wp2_with fail
              refine (next_any w _ N A c F 14 14 0 1 HC.out (by omega) HR.out HF.out rfl rfl).mono ?_
              rintro e14 w14 ⟨rfl, hc⟩
              have cc := cell_of hc.op 14
              have cc : w14.cell? ⟨w.heap.size + 1 + 1 + 1 + 1, 14, none⟩ = some (.bool false) := cc
              have ff : w14.frozen? ⟨w.heap.size + 1 + 1 + 1 + 1, 14, none⟩ = false := free_of hc.op 14
              have HS := Lib.hid (CB.store hc (.bool (decide (yvH F 14 = 1))) 14 (zx_14 F))
              clear hc
              go_wp2_with fail
              replace HC := HS
              clear HS cc ff
              go_wp2_with fail
              go_loopw [94, 15] (fun i _ wr => ∃ k : Nat, k ≤ 2 ∧ i = .int .i64 (k : Int) ∧ CB w wr N A c F (15 + k) (15 + k)) (fun i _ _ => 2 - (intOf i).toNat)
              case atStart => exact ⟨0, by omega, rfl, HC.out⟩
              case round =>
                clear HC
                obtain ⟨k, hk, rfl, hc⟩ := hrel
                rcases (show k = 0 ∨ k = 1 ∨ k = 2 by omega) with rfl | rfl | rfl
                · have HC := Lib.hid (show CB w wr N A c F 15 15 from hc)
                  have ixk := ixD0
                  clear hc
                  go_wp2_with fail
                  refine (next_any w _ N A c F 15 15 0 1073741824 HC.out (by omega) HR.out HF.out rfl rfl).mono ?_
                  rintro e15 w15 ⟨rfl, hc⟩
                  have cc := cell_of hc.op 15
                  have cc : w15.cell? ⟨w.heap.size + 1 + 1 + 1 + 1, 15, none⟩ = some (.int .i64 0) := cc
                  have ff : w15.frozen? ⟨w.heap.size + 1 + 1 + 1 + 1, 15, none⟩ = false := free_of hc.op 15
                  have HS := Lib.hid (CB.store hc (.int .i64 (yvH F 15)) 15 (zx_15 F))
                  clear hc
                  go_wp2_with fail
                  go_roundw
                  case rel => first | exact ⟨1, by omega, by first | rfl | go_num, HS.out⟩ | exact ⟨_, _, _, _, _, _, _, _, _, ⟨1, by omega, by first | rfl | go_num, HS.out⟩, rfl⟩
                  case measure => simp [intOf]
                · have HC := Lib.hid (show CB w wr N A c F 16 16 from hc)
                  have ixk := ixD1
                  clear hc
                  go_wp2_with fail
                  refine (next_any w _ N A c F 16 16 0 1073741824 HC.out (by omega) HR.out HF.out rfl rfl).mono ?_
                  rintro e16 w16 ⟨rfl, hc⟩
                  have cc := cell_of hc.op 16
                  have cc : w16.cell? ⟨w.heap.size + 1 + 1 + 1 + 1, 16, none⟩ = some (.int .i64 0) := cc
                  have ff : w16.frozen? ⟨w.heap.size + 1 + 1 + 1 + 1, 16, none⟩ = false := free_of hc.op 16
                  have HS := Lib.hid (CB.store hc (.int .i64 (yvH F 16)) 16 (zx_16 F))
                  clear hc
                  go_wp2_with fail
                  go_roundw
                  case rel => first | exact ⟨2, by omega, by first | rfl | go_num, HS.out⟩ | exact ⟨_, _, _, _, _, _, _, _, _, ⟨2, by omega, by first | rfl | go_num, HS.out⟩, rfl⟩
                  case measure => simp [intOf]
                · have HC := Lib.hid (show CB w wr N A c F 17 17 from hc)
                  clear hc
                  go_wp2_with fail
                  cases hrt : rightP F 17 with
                  | false =>
                    refine wp_region_noPanic ?_
                    refine wp_region_held_drew (S := (fun W => W.rangeAt (w.heap.size + 4) 0 (opL (zx F 17)) ∧ W.cell? ⟨w.heap.size + 3, 0, none⟩ = some (.bool false))) (by kernel_rfl) ?_ (fun hHeld => ?_)
                    · exact HC.out.held hrt
                    refine wpAnyH_take (i := 0) (v := .agg (opL (zx F 17)).toArray) rfl (by kernel_rfl) (by kernel_rfl) (by kernel_rfl) (fun _ _ _ h => h) (yieldsIf_load_mid (by rfl) 38 _ rfl (w.heap.size + 4) 0 rfl (opL (zx F 17)) _ (fun w h => h.1) Try.underlying38 rfl op_info) (by assumption) ?_
                    simp only [Act.put, List.getElem_toArray, List.getElem_cons_zero, List.getElem_cons_succ, List.setIfInBounds_toArray, List.set_cons_zero, List.set_cons_succ]
                    refine wpAnyH_take (i := 1) (v := ?_) rfl (by kernel_rfl) (by kernel_rfl) (by kernel_rfl) (fun _ _ _ h => h) (Or.inl ⟨by rfl, ?_⟩) (by assumption) ?_
                    rotate_left
                    · (intro w hSw; (try dsimp only at hSw); go_simp; try with_reducible rfl)
                    simp only [Act.put, List.getElem_toArray, List.getElem_cons_zero, List.getElem_cons_succ, List.setIfInBounds_toArray, List.set_cons_zero, List.set_cons_succ]
                    refine wpAnyH_take (i := 2) (v := ?_) rfl (by kernel_rfl) (by kernel_rfl) (by kernel_rfl) (fun _ _ _ h => h) (Or.inl ⟨by rfl, ?_⟩) (by assumption) ?_
                    rotate_left
                    · (intro w hSw; (try dsimp only at hSw); go_simp; try with_reducible rfl)
                    simp only [Act.put, List.getElem_toArray, List.getElem_cons_zero, List.getElem_cons_succ, List.setIfInBounds_toArray, List.set_cons_zero, List.set_cons_succ]
                    refine wpAnyH_take (i := 3) (v := undef) rfl (by kernel_rfl) (by kernel_rfl) (by kernel_rfl) (fun _ _ _ h => h) (Or.inr ⟨by rfl, rfl⟩) (by assumption) ?_
                    simp only [Act.put, List.getElem_toArray, List.getElem_cons_zero, List.getElem_cons_succ, List.setIfInBounds_toArray, List.set_cons_zero, List.set_cons_succ]
                    refine wpAnyH_ready (rs := [4]) (by kernel_rfl) (by simp) ?_
                    refine AllReadyH.cons rfl (fun K hK => ?_) AllReadyH.nil
                    go_simp
                    replace HC := Lib.hid (HC.out.on ((Keeps.refl (fun _ => False) wr).drew))
                    refine hK.out _ _ ?_ (fun hHeld => ?_)
                    · ((try dsimp only); exact HC.out.held hrt)
                    clear hK K
                    try simp only [Act.put, List.getElem_toArray, List.getElem_cons_zero, List.getElem_cons_succ, List.setIfInBounds_toArray, List.set_cons_zero, List.set_cons_succ]
                    refine wpAnyH_take (i := 5) (v := ?_) rfl (by kernel_rfl) (by kernel_rfl) (by kernel_rfl) (fun _ _ _ h => h) (Or.inl ⟨by rfl, ?_⟩) (by assumption) ?_
                    rotate_left
                    · (intro w hSw; (try dsimp only at hSw); go_simp; try with_reducible rfl)
                    simp only [Act.put, List.getElem_toArray, List.getElem_cons_zero, List.getElem_cons_succ, List.setIfInBounds_toArray, List.set_cons_zero, List.set_cons_succ]
                    have hth : World.there wr.drew (w.heap.size + 1) 0 17 := fun j hj => ⟨by rw [show wr.drew.cell? ⟨w.heap.size + 1, 0 + j, none⟩ = (opA (zx F 0))[0 + j]? from cell_of HC.out.res (0 + j), show 0 + j = j by omega]; exact Option.isSome_iff_exists.2 ⟨_, Array.getElem?_eq_getElem (by show j < 17; exact hj)⟩, free_of HC.out.res (0 + j)⟩
                    have HTH := Lib.hid hth
                    clear hth
                    refine wpAnyH_ready (rs := [6]) (by kernel_rfl) (by simp) ?_
                    refine AllReadyH.cons rfl (fun K hK => ?_) AllReadyH.nil
                    refine wp_store_mid 38 _ _ rfl (w.heap.size + 1) 0 (opL (zx F 17)).toArray rfl rfl HTH.out op_info (all_oneCell_toArray (opL_one _)) ?_
                    refine hK.out _ _ ?_ (fun hHeld => ?_)
                    · exact ⟨World.rangeAt_setCells_apart (HC.out.held hrt).1 _ _ _ (Or.inl (by omega)), (World.cell?_setCells_out _ _ _ _ _ (fun hb _ => absurd hb (by show w.heap.size + 3 ≠ w.heap.size + 1; omega))).trans (HC.out.held hrt).2⟩
                    clear hK K
                    try simp only [Act.put, List.getElem_toArray, List.getElem_cons_zero, List.getElem_cons_succ, List.setIfInBounds_toArray, List.set_cons_zero, List.set_cons_succ]
                    refine wpAnyH_take (i := 7) (v := ?_) rfl (by kernel_rfl) (by kernel_rfl) (by kernel_rfl) (fun _ _ _ h => h) (Or.inl ⟨by rfl, ?_⟩) (by assumption) ?_
                    rotate_left
                    · (intro w hSw; (try dsimp only at hSw); go_simp; try with_reducible rfl)
                    simp only [Act.put, List.getElem_toArray, List.getElem_cons_zero, List.getElem_cons_succ, List.setIfInBounds_toArray, List.set_cons_zero, List.set_cons_succ]
                    refine wpAnyH_done (by kernel_rfl) ?_ _
                    refine NoPanic.normal ?_
                    have HRES := Lib.hid (run_loadVar_mid (P := Try.prog) _ (w.heap.size + 1) 0 38 (opL (zx F 17)) _ (World.rangeAt_setCells_same wr.drew (w.heap.size + 1) 0 (opL (zx F 17)) HTH.out) Try.underlying38 rfl op_info)
                    have HBL := Lib.hid (HC.out.below.trans (below_setCells wr.drew (w.heap.size + 1) (opL (zx F 17)) 0 w.heap.size (by omega)))
                    generalize wr.drew.setCells (w.heap.size + 1) 0 (opL (zx F 17)) = W9 at *
                    have HV := Lib.hid (show Value.agg (opA (zx F 17)) = .agg (opL (zx F 17)).toArray from rfl)
                    generalize opL (zx F 17) = OL at *
                    clear HTH HC
                    go_wp2_with fail
                    refine bodyPost_ret (v := .tuple #[.agg OL.toArray, .bool false]) (res_call W9 _ (w.heap.size + 1) OL _ rfl rfl HRES.out) rfl ?_
                    exact ⟨by rw [HV.out, hrt]; rfl, HBL.out⟩
                  | true =>
                    refine wp_region_noPanic ?_
                    refine wp_region_held_drew (S := (fun W => W.rangeAt (w.heap.size + 4) 0 (opL (zx F 17)) ∧ W.cell? ⟨w.heap.size + 3, 0, none⟩ = some (.bool true))) (by kernel_rfl) ?_ (fun hHeld => ?_)
                    · exact HC.out.held hrt
                    refine wpAnyH_take (i := 0) (v := .agg (opL (zx F 17)).toArray) rfl (by kernel_rfl) (by kernel_rfl) (by kernel_rfl) (fun _ _ _ h => h) (yieldsIf_load_mid (by rfl) 38 _ rfl (w.heap.size + 4) 0 rfl (opL (zx F 17)) _ (fun w h => h.1) Try.underlying38 rfl op_info) (by assumption) ?_
                    simp only [Act.put, List.getElem_toArray, List.getElem_cons_zero, List.getElem_cons_succ, List.setIfInBounds_toArray, List.set_cons_zero, List.set_cons_succ]
                    refine wpAnyH_take (i := 1) (v := ?_) rfl (by kernel_rfl) (by kernel_rfl) (by kernel_rfl) (fun _ _ _ h => h) (Or.inl ⟨by rfl, ?_⟩) (by assumption) ?_
                    rotate_left
                    · (intro w hSw; (try dsimp only at hSw); go_simp; try with_reducible rfl)
                    simp only [Act.put, List.getElem_toArray, List.getElem_cons_zero, List.getElem_cons_succ, List.setIfInBounds_toArray, List.set_cons_zero, List.set_cons_succ]
                    refine wpAnyH_take (i := 2) (v := ?_) rfl (by kernel_rfl) (by kernel_rfl) (by kernel_rfl) (fun _ _ _ h => h) (Or.inl ⟨by rfl, ?_⟩) (by assumption) ?_
                    rotate_left
                    · (intro w hSw; (try dsimp only at hSw); go_simp; try with_reducible rfl)
                    simp only [Act.put, List.getElem_toArray, List.getElem_cons_zero, List.getElem_cons_succ, List.setIfInBounds_toArray, List.set_cons_zero, List.set_cons_succ]
                    refine wpAnyH_take (i := 3) (v := .agg (opL (zx F 17)).toArray) rfl (by kernel_rfl) (by kernel_rfl) (by kernel_rfl) (fun _ _ _ h => h) (yieldsIf_load_mid (by rfl) 38 _ rfl (w.heap.size + 4) 0 rfl (opL (zx F 17)) _ (fun w h => h.1) Try.underlying38 rfl op_info) (by assumption) ?_
                    simp only [Act.put, List.getElem_toArray, List.getElem_cons_zero, List.getElem_cons_succ, List.setIfInBounds_toArray, List.set_cons_zero, List.set_cons_succ]
                    refine wpAnyH_ready (rs := [4]) (by kernel_rfl) (by simp) ?_
                    refine AllReadyH.cons rfl (fun K hK => ?_) AllReadyH.nil
                    go_simp
                    replace HC := Lib.hid (HC.out.on ((Keeps.refl (fun _ => False) wr).drew))
                    (go_at_call 10; refine (single_any _ (zx F 17)).mono ?_; rintro e20 w20 ⟨rfl, k20⟩; replace HC := Lib.hid (HC.out.on k20); clear k20)
                    go_wp2_with fail
                    refine hK.out _ _ ?_ (fun hHeld => ?_)
                    · ((try dsimp only); exact HC.out.held hrt)
                    clear hK K
                    try simp only [Act.put, List.getElem_toArray, List.getElem_cons_zero, List.getElem_cons_succ, List.setIfInBounds_toArray, List.set_cons_zero, List.set_cons_succ]
                    refine wpAnyH_take (i := 5) (v := ?_) rfl (by kernel_rfl) (by kernel_rfl) (by kernel_rfl) (fun _ _ _ h => h) (Or.inl ⟨by rfl, ?_⟩) (by assumption) ?_
                    rotate_left
                    · (intro w hSw; (try dsimp only at hSw); go_simp; try with_reducible rfl)
                    simp only [Act.put, List.getElem_toArray, List.getElem_cons_zero, List.getElem_cons_succ, List.setIfInBounds_toArray, List.set_cons_zero, List.set_cons_succ]
                    have hth : World.there w20 (w.heap.size + 1) 0 17 := fun j hj => ⟨by rw [show w20.cell? ⟨w.heap.size + 1, 0 + j, none⟩ = (opA (zx F 0))[0 + j]? from cell_of HC.out.res (0 + j), show 0 + j = j by omega]; exact Option.isSome_iff_exists.2 ⟨_, Array.getElem?_eq_getElem (by show j < 17; exact hj)⟩, free_of HC.out.res (0 + j)⟩
                    have HTH := Lib.hid hth
                    clear hth
                    refine wpAnyH_ready (rs := [6]) (by kernel_rfl) (by simp) ?_
                    refine AllReadyH.cons rfl (fun K hK => ?_) AllReadyH.nil
                    refine wp_store_mid 38 _ _ rfl (w.heap.size + 1) 0 (opL (zx F 17)).toArray rfl rfl HTH.out op_info (all_oneCell_toArray (opL_one _)) ?_
                    refine hK.out _ _ ?_ (fun hHeld => ?_)
                    · exact ⟨World.rangeAt_setCells_apart (HC.out.held hrt).1 _ _ _ (Or.inl (by omega)), (World.cell?_setCells_out _ _ _ _ _ (fun hb _ => absurd hb (by show w.heap.size + 3 ≠ w.heap.size + 1; omega))).trans (HC.out.held hrt).2⟩
                    clear hK K
                    try simp only [Act.put, List.getElem_toArray, List.getElem_cons_zero, List.getElem_cons_succ, List.setIfInBounds_toArray, List.set_cons_zero, List.set_cons_succ]
                    refine wpAnyH_take (i := 7) (v := ?_) rfl (by kernel_rfl) (by kernel_rfl) (by kernel_rfl) (fun _ _ _ h => h) (Or.inl ⟨by rfl, ?_⟩) (by assumption) ?_
                    rotate_left
                    · (intro w hSw; (try dsimp only at hSw); go_simp; try with_reducible rfl)
                    simp only [Act.put, List.getElem_toArray, List.getElem_cons_zero, List.getElem_cons_succ, List.setIfInBounds_toArray, List.set_cons_zero, List.set_cons_succ]
                    refine wpAnyH_done (by kernel_rfl) ?_ _
                    refine NoPanic.normal ?_
                    have HRES := Lib.hid (run_loadVar_mid (P := Try.prog) _ (w.heap.size + 1) 0 38 (opL (zx F 17)) _ (World.rangeAt_setCells_same w20 (w.heap.size + 1) 0 (opL (zx F 17)) HTH.out) Try.underlying38 rfl op_info)
                    have HBL := Lib.hid (HC.out.below.trans (below_setCells w20 (w.heap.size + 1) (opL (zx F 17)) 0 w.heap.size (by omega)))
                    generalize w20.setCells (w.heap.size + 1) 0 (opL (zx F 17)) = W9 at *
                    have HV := Lib.hid (show Value.agg (opA (zx F 17)) = .agg (opL (zx F 17)).toArray from rfl)
                    generalize opL (zx F 17) = OL at *
                    clear HTH HC
                    go_wp2_with fail
                    refine bodyPost_ret (v := .tuple #[.agg OL.toArray, .bool (singleP (zx F 17))]) (res_call W9 _ (w.heap.size + 1) OL _ rfl rfl HRES.out) rfl ?_
                    exact ⟨by rw [HV.out, hrt]; rfl, HBL.out⟩
end Go.Proofs.Ytakaclkhnajpeaa
