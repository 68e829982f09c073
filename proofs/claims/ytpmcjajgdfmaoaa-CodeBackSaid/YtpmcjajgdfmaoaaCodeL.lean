import Derived.Test.YtpmcjajgdfmaoaaCodeK
namespace Go.Proofs.Ytpmcjajgdfmaoaa
open Go.ChangeShapes Go.WideShapes Go.ChangeAt Go.RowKit
set_option linter.unusedVariables false
set_option linter.unusedSimpArgs false
/-- The words of a row, as bytes. -/
def fOf (ws : List ByteArray) (i : Nat) : List UInt8 := ((ws[i]?).getD ⟨#[]⟩).data.toList
def rowI (r : RowD) : RowI := ⟨(r.n : Int), some ⟨r.A, 0, none⟩, r.ws.length, r.ws.length, fOf r.ws⟩
/-- What Read gives of rows, by their numbers and words alone. -/
def readK : List (Nat × List ByteArray) → List CallD → List CallD × Int × Int
  | [], acc => (acc, 0, 0)
  | x :: t, acc => if (parseC x.2.length (fOf x.2)).2 = 0 then readK t (acc ++ [(parseC x.2.length (fOf x.2)).1]) else ([], (x.1 : Int), (parseC x.2.length (fOf x.2)).2)
theorem readL_key : ∀ (R : List RowD) (acc : List CallD), readL (R.map rowI) acc = readK (R.map keyR) acc
  | [], acc => rfl
  | r :: t, acc => by
    show (if (parseC r.ws.length (fOf r.ws)).2 = 0 then readL (t.map rowI) (acc ++ [(parseC r.ws.length (fOf r.ws)).1]) else _) = (if (parseC r.ws.length (fOf r.ws)).2 = 0 then readK (t.map keyR) (acc ++ [(parseC r.ws.length (fOf r.ws)).1]) else _)
    rw [readL_key t]
    rfl
theorem fOf_mk (ws : List ByteArray) (i : Nat) (s : ByteArray) (h : ws[i]? = some s) : (⟨(fOf ws i).toArray⟩ : ByteArray) = s := by
  unfold fOf
  rw [h]
  rfl
theorem flatR_at : ∀ (R : List RowD) (i : Nat) (r : RowD), R[i]? = some r → (flatR R)[i * 2]? = some (.int .i64 (r.n : Int)) ∧ (flatR R)[i * 2 + 1]? = some (.slice (some ⟨r.A, 0, none⟩) r.ws.length r.ws.length)
  | [], i, r, h => by simp at h
  | x :: t, 0, r, h => by
    simp at h
    subst h
    exact ⟨rfl, rfl⟩
  | x :: t, i + 1, r, h => by
    have h' := flatR_at t i r (by simpa using h)
    rw [show (i + 1) * 2 = i * 2 + 2 by omega, show i * 2 + 2 + 1 = i * 2 + 1 + 2 by omega]
    exact h'
set_option maxHeartbeats 1000000 in
/-- **Read of rows that All gave.** -/
theorem read_rows (w : World) (B : Nat) (v : Value) (R : List RowD) (hR : R.length ≤ 1000000) (hown : w.ownsRow B 57 2 v R.length (flatR R)) (hat : RowsAt w R)
    (hw : ∀ r, r ∈ R → r.ws.length ≤ maxLen ∧ ∀ (i : Nat) (s : ByteArray), r.ws[i]? = some s → s.size ≤ 9223372036854775807) :
    Calls Try.prog 13 #[v] w (ReadSays w (readK (R.map keyR) [])) := by
  rw [← readL_key]
  rcases R with _ | ⟨r0, t⟩
  · rcases hown.2 with ⟨rfl, _⟩ | ⟨g, cap, cur, hv, hb⟩
    · exact read_none w none 0
    · rw [hv]
      exact read_none w (some ⟨g, 0, none⟩) cap
  · obtain ⟨g, cap, rfl⟩ := ownsRow_succ (k := t.length) hown
    refine read_some w g 0 (r0 :: t).length cap ((r0 :: t).map rowI) (by simp) hR (hown.lt g rfl).2 (fun i x hx => ?_) (fun x hx => ?_)
    · rw [List.getElem?_map] at hx
      obtain ⟨r, hr, rfl⟩ := Option.map_eq_some_iff.1 hx
      obtain ⟨h1, h2⟩ := flatR_at _ i r hr
      have q1 := hown.cells (g := g) rfl _ _ h1
      have q2 := hown.cells (g := g) rfl _ _ h2
      rw [addr_add] at q1 q2
      rw [show 0 + i * 2 = i * 2 by omega]
      exact ⟨q1, q2⟩
    · obtain ⟨r, hr, rfl⟩ := List.mem_map.1 hx
      obtain ⟨h1, h2⟩ := hw r hr
      refine ⟨h1, fun hp => ⟨r.A, 0, rfl, (hat r hr).lt, fun i hi => ?_⟩, fun i hi => ?_⟩
      · obtain ⟨s, hs⟩ : ∃ s, r.ws[i]? = some s := ⟨_, List.getElem?_eq_getElem hi⟩
        show w.cell? ⟨r.A, 0 + i, none⟩ = some (.string ⟨(fOf r.ws i).toArray⟩)
        rw [fOf_mk _ _ _ hs, show 0 + i = i by omega]
        exact (hat r hr).cell i s hs
      · obtain ⟨s, hs⟩ : ∃ s, r.ws[i]? = some s := ⟨_, List.getElem?_eq_getElem hi⟩
        show (fOf r.ws i).length ≤ _
        have := h2 i s hs
        have e : (fOf r.ws i).length = s.size := by unfold fOf; rw [hs]; rfl
        omega
def aliveC : CallD := ⟨1, 0, 5, 0, 0, 0, 0⟩
theorem aliveC_ok : aliveC.Ok := by constructor <;> decide
theorem alive_row33 : rowsOf [(1, [115, 101, 110, 100, 32, 48, 32, 53])] = [(1, [⟨#[115, 101, 110, 100]⟩, ⟨#[48]⟩, ⟨#[53]⟩])] := by kernel_rfl
theorem alive_all33 : allC [aliveC] = [115, 101, 110, 100, 32, 48, 32, 53, 10] := by kernel_rfl
theorem alive_read33 : readK [(1, [⟨#[115, 101, 110, 100]⟩, ⟨#[48]⟩, ⟨#[53]⟩])] [] = ([aliveC], 0, 0) := by kernel_rfl
set_option maxRecDepth 20000 in
set_option maxHeartbeats 1000000 in
theorem alive33_any (w : World) : Calls Try.prog 6 #[] w fun e w' => e = .returned (.bool true) ∧ Below w.heap.size w w' := by
  have HA := Lib.hid (all_any w [115, 101, 110, 100, 32, 48, 32, 53, 10] (by simp) [(1, [115, 101, 110, 100, 32, 48, 32, 53])] ⟨rfl, by simp, rfl, rfl⟩ (by simp) (by intro x hx; simp at hx; subst hx; simp))
  go_enter Try.func6, Try.ntmps6
  go_wp2_with fail
  refine HA.out.mono ?_
  rintro e1 w1 ⟨v, R, rfl, hR, hown, hws, hB⟩
  rw [alive_row33] at hR
  have HRd := Lib.hid (read_rows w1 _ v R (by have h := congrArg List.length hR; simp at h; omega) hown hws (fun r hr => by
    have hk : keyR r ∈ R.map keyR := List.mem_map_of_mem hr
    rw [hR] at hk
    have e := List.mem_singleton.1 hk
    simp [keyR] at e
    rw [e.2]
    refine ⟨by unfold maxLen; simp, fun i s hs => ?_⟩
    have hm := List.mem_of_getElem? hs
    simp at hm
    rcases hm with rfl | rfl | rfl <;> decide))
  rw [hR, alive_read33] at HRd
  have HB := Lib.hid hB
  clear HA hR hown hws hB
  go_wp2_with fail
  refine HRd.out.mono ?_
  rintro e2 w2 ⟨v2, rfl, hown, hB2⟩
  obtain ⟨g, cap, rfl⟩ := ownsRow_succ (k := 0) hown
  have HO := Lib.hid hown
  have HB2 := Lib.hid (HB.out.trans (hB2.mono HB.out.size))
  have hz2 := HB2.out.size
  clear hown hB2 HRd
  go_wp2_with fail
  refine (rsamec_some g 0 w2.heap.size 0 1 cap 1 [aliveC] _ rfl (by omega) (fun j u hj => ?_) (fun j u hj => ?_)).mono ?_
  · have h := HO.out.cells (g := g) rfl j u hj
    have hl := (HO.out.lt g rfl).2
    rw [addr_add] at h
    unfold World.cell? at h ⊢
    rw [Below.heap_alloc _ _ _ (by show g < w2.heap.size; exact hl), show 0 + j = j by omega]
    exact h
  · have h := cell_call_new w2 aliveC 26 j u (by simpa [flatC] using hj)
    rw [addr_add] at h
    rw [show 0 + j = j by omega]
    exact h
  rintro e3 w3 ⟨rfl, k3⟩
  have HB3 := Lib.hid (show Below w2.heap.size w2 w3 from ((Below.refl _ w2).alloc (Nat.le_refl _) _).trans (k3.none.mono (by rw [World.size_alloc]; omega)))
  have HO3 := Lib.hid (row_on HO.out HB3.out)
  clear k3
  go_wp2_with fail
  refine (allc_some w3 g 0 1 cap [aliveC] rfl (by omega) (fun x hx => by rw [List.mem_singleton.1 hx]; exact aliveC_ok) (HO3.out.lt g rfl).2 (fun j u hj => ?_)).mono ?_
  · have h := HO3.out.cells (g := g) rfl j u hj
    rw [addr_add] at h
    rw [show 0 + j = j by omega]
    exact h
  rintro e4 w4 ⟨rfl, hB4⟩
  rw [alive_all33]
  have HF := Lib.hid (HB2.out.trans ((HB3.out.mono hz2).trans (hB4.mono (Nat.le_trans hz2 HB3.out.size))))
  clear hB4
  go_wp2_with fail
  go_ret
  exact ⟨rfl, HF.out⟩
end Go.Proofs.Ytpmcjajgdfmaoaa
