import Derived.Test.YtohajfkekkelhaaDoorLinAz
import Derived.Test.YtohajfkekkelhaaDoorLinNz
import Derived.Maps.OwnSet
import Derived.DeepKeys4
import Derived.Test.YtohajfkekkelhaaDoorRowV
import Derived.Deep.AppendLies
import Derived.Laws.IdiomStrings
import Derived.Lib.BufferRead
import Derived.Lib.BitFns
import Derived.Test.YtohajfkekkelhaaDoorRefAz
import Derived.Deep.MidRow
namespace Go.Proofs.YtohajfkekkelhaaDoor
open Go.ChangeShapes Go.WideShapes Go.ChangeAt Go.RowKit Go.Maps
set_option linter.unusedVariables false
set_option linter.unusedSimpArgs false
/-- A state's value: which calls are used, and the key. -/
def keyV (u : Nat) (key : List UInt8) : Value := .agg #[.int .u32 (u : Int), .string ⟨key.toArray⟩]
theorem laidL : laidOutB Tryd.prog = true := by kernel_rfl
theorem rowL : (56 : TypeId) < Tryd.prog.types.size := of_decide_eq_true (by kernel_rfl)
theorem wideL : (match Tryd.prog.underlying 56 with | some (.array _ _) | some (.struct _) => true | _ => false) = true := by rw [Tryd.underlying56]
set_option maxRecDepth 100000 in
theorem slaw : Keyed Tryd.prog 56 := Keyed.of_law (deep_law_laid laidL (m := 2) (by omega) rowL (by kernel_rfl) wideL)
theorem cellsL : Tryd.prog.cellsOf 56 = 2 := by kernel_rfl
theorem cells39 : Tryd.prog.cellsOf 39 = 1 := by kernel_rfl
theorem cells9 : Tryd.prog.cellsOf 9 = 1 := by kernel_rfl
set_option maxRecDepth 100000 in
theorem deepL : Tryd.prog.keyType 56 = true := by kernel_rfl
theorem lits_some (d u : Nat) (key : List UInt8) (hu : u < 4294967296) (hk : key.length ≤ maxLen) : Tryd.prog.keyLits (d + 2) 56 (keyV u key).cells.toList = some [.int .u32 (u : Int), .string key] := by
  have hw : (Lit.int .u32 (u : Int)).wf = true := WalkArith.wf_u32 (by omega)
  have hs : (⟨key.toArray⟩ : ByteArray).size ≤ maxLen := by simpa [ByteArray.size] using hk
  have h39 : ∀ d, Tryd.prog.keyLits (d + 1) 39 [.int .u32 (u : Int)] = some [.int .u32 (u : Int)] := fun d => by
    unfold Program.keyLits
    rw [Tryd.underlying39]
    show (if IntKind.u32 = IntKind.u32 ∧ _ then _ else none) = _
    rw [if_pos ⟨rfl, hw⟩]
  have h9 : ∀ d, Tryd.prog.keyLits (d + 1) 9 [.string ⟨key.toArray⟩] = some [.string key] := fun d => by
    unfold Program.keyLits
    rw [Tryd.underlying9]
    show (if _ then _ else none) = _
    rw [if_pos hs]
  unfold Program.keyLits
  rw [Tryd.underlying56]
  simp [keyV, Value.cells, cellsL, cells39, cells9, h39, h9]
theorem keyOf_some (u : Nat) (key : List UInt8) (hu : u < 4294967296) (hk : key.length ≤ maxLen) : ∃ l, keyOf Tryd.prog 56 (keyV u key) = some l := by
  have hsz : 0 < Tryd.prog.types.size := Nat.lt_of_le_of_lt (Nat.zero_le _) rowL
  obtain ⟨d, hd⟩ : ∃ d, Tryd.prog.types.size + 1 = d + 2 := ⟨Tryd.prog.types.size - 1, by omega⟩
  have hl := lits_some d u key hu hk
  unfold keyOf
  rw [Tryd.underlying56, hd]
  simp only [deepL, hl]
  have hf : Value.formed Tryd.prog 56 (keyV u key) = true := by simp [keyV, Value.formed, Tryd.underlying56, cellsL]
  rw [hf]
  exact ⟨_, rfl⟩
noncomputable def keyL (u : Nat) (key : List UInt8) : Lit := (keyOf Tryd.prog 56 (keyV u key)).getD .nil
theorem keyOf_is {u : Nat} {key : List UInt8} (hu : u < 4294967296) (hk : key.length ≤ maxLen) : keyOf Tryd.prog 56 (keyV u key) = some (keyL u key) := by
  obtain ⟨l, h⟩ := keyOf_some u key hu hk
  unfold keyL
  rw [h]
  rfl
set_option maxRecDepth 100000 in
theorem keyL_inj {u u' : Nat} {key key' : List UInt8} (hu : u < 4294967296) (hk : key.length ≤ maxLen) (hu' : u' < 4294967296) (hk' : key'.length ≤ maxLen) (h : keyL u key = keyL u' key') : u = u' ∧ key = key' := by
  have e := slaw.inj (keyOf_is hu hk) (by rw [h]; exact keyOf_is hu' hk')
  unfold keyV at e
  simp at e
  exact ⟨by omega, e.2⟩
/-- The map of failures. -/
def FailR (D : DataW Unit) (F : Fail) : Prop := IsMap D ∧ ∀ u key, u < 4294967296 → key.length ≤ maxLen → Maps.has D (keyL u key) = failedB F u key
theorem FailR.nil : FailR (.map []) [] := ⟨isMap_empty, fun u key _ _ => by simp [Maps.has, failedB]⟩
set_option maxRecDepth 100000 in
theorem FailR.put {D : DataW Unit} {F : Fail} (h : FailR D F) {u : Nat} {key : List UInt8} (hu : u < 4294967296) (hk : key.length ≤ maxLen) (d : DataW Unit) : FailR (D.put (keyL u key) d) ((u, key) :: F) := by
  refine ⟨h.1.put _ _, fun u' key' hu' hk' => ?_⟩
  by_cases e : u' = u ∧ key' = key
  · obtain ⟨rfl, rfl⟩ := e
    rw [has_put_same h.1 (slaw.key (keyOf_is hu hk))]
    simp [failedB]
  · rw [has_put_other (fun e2 => e (keyL_inj hu' hk' hu hk e2)), h.2 u' key' hu' hk']
    unfold failedB
    rw [List.any_cons]
    have : ((u == u') && (key == key')) = false := by
      cases h1 : (u == u') with
      | false => rfl
      | true =>
        cases h2 : (key == key') with
        | false => rfl
        | true => exact absurd ⟨(by simpa using h1 : u = u').symm, (by simpa using h2 : key = key').symm⟩ e
    show _ = ((u == u') && (key == key') || _)
    rw [this, Bool.false_or]
end Go.Proofs.YtohajfkekkelhaaDoor
namespace Go.Proofs.YtohajfkekkelhaaDoor
open Go.ChangeShapes Go.WideShapes Go.ChangeAt Go.RowKit Go.Lib
set_option linter.unusedVariables false
set_option linter.unusedSimpArgs false
theorem info_byte : (Tryd.prog.info? 5).map (fun i => (i.zero, i.size, i.bytes)) = some (some (.int .u8 0), 1, 1) := by kernel_rfl
/-- A key that grows: of the run's own. -/
structure KeyG (w w' : World) (B : Nat) (v v' : Value) (l : List UInt8) : Prop where
  own : w'.ownsRow B 5 1 v' l.length (byteCells l)
  grown : w.grownBy w' v.ownBlock
  back : ∀ k, k < w.heap.size → v'.ownBlock = some k → v.ownBlock = some k
theorem KeyG.trans {w w1 w2 : World} {B : Nat} {v v1 v2 : Value} {l1 l2 : List UInt8} (h1 : KeyG w w1 B v v1 l1) (h2 : KeyG w1 w2 B v1 v2 l2) : KeyG w w2 B v v2 l2 :=
  ⟨h2.own, ⟨h2.grown.os.trans h1.grown.os, h2.grown.tape.trans h1.grown.tape, h2.grown.output.trans h1.grown.output, Nat.le_trans h1.grown.size h2.grown.size, fun k hk hne => by
    rw [h2.grown.block k (Nat.lt_of_lt_of_le hk h1.grown.size) (fun e => hne (h1.back k hk e.symm).symm)]
    exact h1.grown.block k hk hne⟩, fun k hk e => h1.back k hk (h2.back k (Nat.lt_of_lt_of_le hk h1.grown.size) e)⟩
theorem grown_alloc {w w' : World} {o : Obj} {row : Option Nat} (h : (w.alloc o).grownBy w' row) : w.grownBy w' row :=
  ⟨h.os, h.tape, h.output, Nat.le_trans (by simp) h.size, fun k hk hne => by
    rw [h.block k (by simp; omega) hne]
    exact ((Keeps.refl (fun _ => False) w).alloc o).block k hk fun h => h⟩
@[reducible] def numC (x : Nat) : Array Value := #[.int .u8 ((x : Int) % 256), .int .u8 ((x : Int) / 256 % 256), .int .u8 ((x : Int) / 65536 % 256), .int .u8 ((x : Int) / 16777216)]
theorem num_cells (x : Nat) (hx : x < 4294967296) : byteCells (numN x) = (numC x).toList := by
  unfold byteCells numN numC
  have h0 : ((UInt8.ofNat x).toNat : Int) = (x : Int) % 256 := by rw [UInt8.toNat_ofNat']; omega
  have h1 : ((UInt8.ofNat (x / 256)).toNat : Int) = (x : Int) / 256 % 256 := by rw [UInt8.toNat_ofNat']; omega
  have h2 : ((UInt8.ofNat (x / 65536)).toNat : Int) = (x : Int) / 65536 % 256 := by rw [UInt8.toNat_ofNat']; omega
  have h3 : ((UInt8.ofNat (x / 16777216)).toNat : Int) = (x : Int) / 16777216 := by rw [UInt8.toNat_ofNat']; omega
  simp only [List.map_cons, List.map_nil, h0, h1, h2, h3]
theorem cells_app (l m : List UInt8) : byteCells (l ++ m) = byteCells l ++ byteCells m := by unfold byteCells; rw [List.map_append]
theorem num_one (x : Nat) : ∀ u ∈ (numC x).toList, u.oneCell' = true := by
  intro u hu
  simp at hu
  rcases hu with rfl | rfl | rfl | rfl <;> rfl
set_option maxRecDepth 20000 in
set_option maxHeartbeats 8000000 in
theorem number_any (w : World) (B : Nat) (v : Value) (l : List UInt8) (hv : w.ownsRow B 5 1 v l.length (byteCells l)) (hB : B ≤ w.heap.size) (hl : l.length ≤ 10000000) (x : Nat) (hx : x < 4294967296) :
    Calls Tryd.prog 29 #[v, .int .u32 (x : Int)] w fun e w' => ∃ v', e = .returned v' ∧ KeyG w w' B v v' (l ++ numN x) := by
  obtain ⟨i0, hi0, hz0, hz1, hz2⟩ := info_parts info_byte
  have HV := Lib.hid hv
  have HA := Lib.hid (hv.alloc (.cells (numC x) 5))
  have HNW := Lib.hid (World.news_of_block (heap_new w (.cells (numC x) 5)))
  have HNC := Lib.hid (num_cells x hx)
  obtain ⟨ob, hob⟩ : ∃ ob, v.ownBlock = ob := ⟨_, rfl⟩
  have HOB := Lib.hid hob
  clear hv hob
  go_enter Tryd.func29, Tryd.ntmps29
  go_wp2_with (at_builtin; refine wpList_append_lies _ rfl (.tmp 5) (.tmp 17) 72 rfl B 5 i0 (.int .u8 0) 1 1 Tryd.underlying72 hi0 hz0 hz1 hz2 rfl (by decide) v l.length (byteCells l) rfl HA.out ⟨w.heap.size, 0, none⟩ 4 4 (numC x).toList rfl rfl HNW.out (num_one x) (by omega) (by unfold maxLen; omega) (by omega) (by simp; omega) _ rfl ?_; intro g2 cap2 w2 hown hgrow hor hlt)
  have HO := Lib.hid hown
  have HG := Lib.hid hgrow
  have HR := Lib.hid hor
  clear hown hgrow hor
  go_wp2_with fail
  go_ret
  refine ⟨_, rfl, by rw [cells_app, HNC.out, List.length_append]; exact HO.out, grown_alloc HG.out, fun k hk e => ?_⟩
  rcases HR.out with h | h
  · rw [h]; exact e
  · have e1 : g2 = k := by simpa [Value.ownBlock] using e
    rw [World.size_alloc] at h
    omega
end Go.Proofs.YtohajfkekkelhaaDoor
namespace Go.Proofs.YtohajfkekkelhaaDoor
open Go.ChangeShapes Go.WideShapes Go.ChangeAt Go.RowKit Go.Lib
set_option linter.unusedVariables false
set_option linter.unusedSimpArgs false
theorem val_infoK : (Tryd.prog.info? 41).map (·.size) = some 4 := by kernel_rfl
theorem item_infoK : (Tryd.prog.info? 75).map (·.size) = some 15 := by kernel_rfl
theorem KeyG.keep {w w' : World} {B b : Nat} {v v' : Value} {l0 l : List UInt8} (h : KeyG w w' B v v' l) (hv : w.ownsRow B 5 1 v l0.length (byteCells l0)) {cs : Array Value} {T : TypeId} (hb : w.heap[b]? = some (.cells cs T (0, 0))) (hne : 5 ≠ T) : w'.heap[b]? = some (.cells cs T (0, 0)) := by
  rw [h.grown.block b (lt_of hb) (fun e => own_apart hv hb hne e.symm)]
  exact hb
theorem KeyG.below {w0 w w' : World} {B : Nat} {v v' : Value} {l0 l : List UInt8} (h : KeyG w w' B v v' l) (hv : w.ownsRow B 5 1 v l0.length (byteCells l0)) (hb : Below B w0 w) (hB : B ≤ w.heap.size) : Below B w0 w' :=
  hb.grown h.grown hB fun k hk => (hv.lt k hk).1
theorem KeyG.refl {w : World} {B : Nat} {v : Value} {l : List UInt8} (hv : w.ownsRow B 5 1 v l.length (byteCells l)) : KeyG w w B v v l := ⟨hv, ⟨rfl, rfl, rfl, Nat.le_refl _, fun _ _ _ => rfl⟩, fun _ _ h => h⟩
theorem KeyG.ofAlloc {w w' : World} {o : Obj} {B : Nat} {v v' : Value} {l : List UInt8} (h : KeyG (w.alloc o) w' B v v' l) : KeyG w w' B v v' l :=
  ⟨h.own, grown_alloc h.grown, fun k hk e => h.back k (by simp; omega) e⟩
/-- The bytes of a value's first words. -/
def valQ (v : W4) : Nat → List UInt8
  | 0 => []
  | 1 => numN v.a.toNat
  | 2 => numN v.a.toNat ++ numN v.b.toNat
  | 3 => numN v.a.toNat ++ numN v.b.toNat ++ numN v.c.toNat
  | _ => valN v
theorem numN_len (x : Nat) : (numN x).length = 4 := rfl
theorem valN_len (v : W4) : (valN v).length = 16 := rfl
theorem valQ_len (v : W4) : ∀ q, (valQ v q).length ≤ 16
  | 0 => by simp [valQ]
  | 1 => by simp [valQ, numN_len]
  | 2 => by simp [valQ, numN_len]
  | 3 => by simp [valQ, numN_len]
  | q + 4 => by show (valN v).length ≤ 16; rw [valN_len]; omega
theorem nat_of {x : Int} (h : u32B x) : ∃ m : Nat, x = (m : Int) ∧ m < 4294967296 ∧ x.toNat = m := by
  unfold u32B at h
  exact ⟨x.toNat, by omega, by omega, rfl⟩
theorem ixK0 (w : World) (a b c d : Int) : (Instr.index 41 (.agg #[.int .u32 a, .int .u32 b, .int .u32 c, .int .u32 d]) (.int .i64 0)).run Tryd.prog w = .ok (.int .u32 a) w := by kernel_rfl
theorem ixK1 (w : World) (a b c d : Int) : (Instr.index 41 (.agg #[.int .u32 a, .int .u32 b, .int .u32 c, .int .u32 d]) (.int .i64 1)).run Tryd.prog w = .ok (.int .u32 b) w := by kernel_rfl
theorem ixK2 (w : World) (a b c d : Int) : (Instr.index 41 (.agg #[.int .u32 a, .int .u32 b, .int .u32 c, .int .u32 d]) (.int .i64 2)).run Tryd.prog w = .ok (.int .u32 c) w := by kernel_rfl
theorem ixK3 (w : World) (a b c d : Int) : (Instr.index 41 (.agg #[.int .u32 a, .int .u32 b, .int .u32 c, .int .u32 d]) (.int .i64 3)).run Tryd.prog w = .ok (.int .u32 d) w := by kernel_rfl
set_option maxRecDepth 20000 in
set_option maxHeartbeats 8000000 in
theorem value_any (w : World) (B : Nat) (v : Value) (l : List UInt8) (hv : w.ownsRow B 5 1 v l.length (byteCells l)) (hB : B ≤ w.heap.size) (hl : l.length ≤ 9000000) (x : W4) (hx : x.Ok) :
    Calls Tryd.prog 30 #[v, .agg x.cells] w fun e w' => ∃ v', e = .returned v' ∧ KeyG w w' B v v' (l ++ valN x) := by
  obtain ⟨ma, ea, ha, ta⟩ := nat_of hx.a
  obtain ⟨mb, eb, hb, tb⟩ := nat_of hx.b
  obtain ⟨mc, ec, hc, tc⟩ := nat_of hx.c
  obtain ⟨md, ed, hd, td⟩ := nat_of hx.d
  have x0 := fun w => ixK0 w (ma : Int) (mb : Int) (mc : Int) (md : Int)
  have x1 := fun w => ixK1 w (ma : Int) (mb : Int) (mc : Int) (md : Int)
  have x2 := fun w => ixK2 w (ma : Int) (mb : Int) (mc : Int) (md : Int)
  have x3 := fun w => ixK3 w (ma : Int) (mb : Int) (mc : Int) (md : Int)
  have HX := Lib.hid (And.intro ta (And.intro tb (And.intro tc td)))
  have hcells : x.cells = #[.int .u32 (ma : Int), .int .u32 (mb : Int), .int .u32 (mc : Int), .int .u32 (md : Int)] := by rw [← ea, ← eb, ← ec, ← ed]
  rw [hcells]
  have HA := Lib.hid (KeyG.refl (hv.alloc (.cells #[.int .u32 (ma : Int), .int .u32 (mb : Int), .int .u32 (mc : Int), .int .u32 (md : Int)] 41)))
  have HW := Lib.hid (show B ≤ (w.alloc (.cells #[.int .u32 (ma : Int), .int .u32 (mb : Int), .int .u32 (mc : Int), .int .u32 (md : Int)] 41)).heap.size by rw [World.size_alloc]; omega)
  clear hv hcells ea eb ec ed hx ta tb tc td
  go_enter Tryd.func30, Tryd.ntmps30
  go_wp2_with fail
  obtain ⟨w1, hw1⟩ : ∃ w1, w1 = (w.alloc (.cells #[.int .u32 (ma : Int), .int .u32 (mb : Int), .int .u32 (mc : Int), .int .u32 (md : Int)] 41)) := ⟨_, rfl⟩
  have HW1 := Lib.hid hw1
  rw [← hw1] at HA HW ⊢
  clear hw1
  go_loopw [0, 8] (fun s i wr => ∃ (q : Nat) (v' : Value), q ≤ 4 ∧ i = .int .i64 (q : Int) ∧ s = v' ∧ KeyG w1 wr B v v' (l ++ valQ x q)) (fun _ i _ => 4 - (intOf i).toNat)
  case atStart => exact ⟨0, v, by omega, rfl, rfl, by rw [show valQ x 0 = [] from rfl, List.append_nil]; exact HA.out⟩
  case round =>
    obtain ⟨q, v', hq, rfl, hsv, hkg⟩ := hrel
    obtain rfl := hsv.symm
    have HK := Lib.hid hkg
    have hlen : (l ++ valQ x q).length ≤ 10000000 := by rw [List.length_append]; have := valQ_len x q; omega
    have hBw : B ≤ wr.heap.size := Nat.le_trans HW.out hkg.grown.size
    clear hkg
    rcases (by omega : q = 0 ∨ q = 1 ∨ q = 2 ∨ q = 3 ∨ q = 4) with rfl | rfl | rfl | rfl | rfl
    · have HN := Lib.hid (number_any wr B v' _ HK.out.own hBw hlen ma ha)
      go_wp2_with fail
      refine HN.out.mono ?_
      rintro e2 w2 ⟨v2, rfl, h2⟩
      have H2 := Lib.hid (HK.out.trans h2)
      clear h2
      go_wp2_with fail
      go_roundw
      case rel => exact ⟨1, v2, by omega, by go_num, rfl, by have := H2.out; rw [← HX.out.1] at this; simpa [valQ] using this⟩
      case measure => simp [intOf]
    · have HN := Lib.hid (number_any wr B v' _ HK.out.own hBw hlen mb hb)
      go_wp2_with fail
      refine HN.out.mono ?_
      rintro e2 w2 ⟨v2, rfl, h2⟩
      have H2 := Lib.hid (HK.out.trans h2)
      clear h2
      go_wp2_with fail
      go_roundw
      case rel => exact ⟨2, v2, by omega, by go_num, rfl, by have := H2.out; rw [← HX.out.2.1] at this; simpa [valQ, List.append_assoc] using this⟩
      case measure => simp [intOf]
    · have HN := Lib.hid (number_any wr B v' _ HK.out.own hBw hlen mc hc)
      go_wp2_with fail
      refine HN.out.mono ?_
      rintro e2 w2 ⟨v2, rfl, h2⟩
      have H2 := Lib.hid (HK.out.trans h2)
      clear h2
      go_wp2_with fail
      go_roundw
      case rel => exact ⟨3, v2, by omega, by go_num, rfl, by have := H2.out; rw [← HX.out.2.2.1] at this; simpa [valQ, List.append_assoc] using this⟩
      case measure => simp [intOf]
    · have HN := Lib.hid (number_any wr B v' _ HK.out.own hBw hlen md hd)
      go_wp2_with fail
      refine HN.out.mono ?_
      rintro e2 w2 ⟨v2, rfl, h2⟩
      have H2 := Lib.hid (HK.out.trans h2)
      clear h2
      go_wp2_with fail
      go_roundw
      case rel => exact ⟨4, v2, by omega, by go_num, rfl, by have := H2.out; rw [← HX.out.2.2.2] at this; simpa [valQ, valN, List.append_assoc] using this⟩
      case measure => simp [intOf]
    · have HZ := Lib.hid (show KeyG (w.alloc (.cells #[.int .u32 (ma : Int), .int .u32 (mb : Int), .int .u32 (mc : Int), .int .u32 (md : Int)] 41)) wr B v v' (l ++ valN x) from HW1.out ▸ HK.out)
      go_wp2_with fail
      go_ret
      exact ⟨v', rfl, HZ.out.ofAlloc⟩
end Go.Proofs.YtohajfkekkelhaaDoor
