import Derived.Test.YtohajfkekkelhaaDoorSpecO
import Derived.Laws.BitsAllLaws
namespace Go.Proofs.YtohajfkekkelhaaDoor
open Go.ChangeShapes Go.WideShapes Go.ChangeAt Go.RowKit
set_option linter.unusedVariables false
set_option linter.unusedSimpArgs false
theorem orW_ok (x y : Nat) (hx : x < 4294967296) (hy : y < 4294967296) : u32B (orW x y) := by
  unfold orW u32B
  rw [u32_or_nat x y hx hy]
  have := Nat.or_lt_two_pow (n := 32) hx hy
  omega
theorem nandW_ok (x y : Nat) (hx : x < 4294967296) (hy : y < 4294967296) : u32B (nandW x y) := by
  unfold nandW u32B
  rw [u32_andNot_nat x y hx hy]
  have : x &&& (4294967295 - y) ≤ x := Nat.and_le_left
  omega
theorem kind_cap {o : Nat → Int} (h : kindP o = 1) : o 1 ≤ 64 := by
  obtain ⟨h1, h2⟩ := kind_right (o := o) (by omega)
  rw [h2] at h
  unfold rightS at h1
  simp only [Bool.and_eq_true] at h1
  have h3 := h1.2.1
  rw [if_pos h] at h3
  simp at h3
  omega
theorem stepP_ok {x : ItemD} {v : W4} (k : Int) (hx : x.Ok) (hv : v.Ok) : (stepP x k v).1.Ok := by
  unfold stepP
  by_cases h1 : kindP x.o = 1
  · rw [if_pos h1]
    unfold ringP
    by_cases k1 : (k == 1) = true
    · rw [if_pos k1]
      by_cases c1 : x.o 1 ≤ (x.row.length : Int)
      · rw [if_pos c1]; exact hx
      · rw [if_neg c1]
        refine ⟨hx.o, hx.oi, fun u hu => ?_, hx.v, ?_⟩
        · rcases List.mem_append.1 hu with hu | hu
          · exact hx.row u hu
          · rw [List.mem_singleton.1 hu]; exact hv.clip _
        · have := kind_cap h1
          show (x.row ++ [v.clip (x.o 2).toNat]).length ≤ 64
          rw [List.length_append]
          simp
          omega
    · rw [if_neg k1]
      by_cases k2 : (k == 2) = true
      · rw [if_pos k2]
        cases hr : x.row with
        | nil => exact hx
        | cons y t =>
          have hl := hx.len
          rw [hr] at hl
          exact ⟨hx.o, hx.oi, fun u hu => hx.row u (by rw [hr]; exact List.mem_cons_of_mem _ hu), hx.v, by simp at hl; show t.length ≤ 64; omega⟩
      · rw [if_neg k2]; exact hx
  · rw [if_neg h1]
    by_cases h2 : kindP x.o = 2 ∨ kindP x.o = 3
    · rw [if_pos h2]
      unfold valueP
      by_cases k3 : (k == 3) = true
      · rw [if_pos k3]; exact ⟨hx.o, hx.oi, hx.row, hv.clip _, hx.len⟩
      · rw [if_neg k3]
        split <;> exact hx
    · rw [if_neg h2]
      by_cases h4 : kindP x.o = 4
      · rw [if_pos h4]
        have hpb := hx.v.a
        have hmb := hv.a
        unfold u32B at hpb hmb
        unfold flagsP
        by_cases k7 : k = 7
        · rw [if_pos k7]; exact ⟨hx.o, hx.oi, hx.row, ⟨orW_ok _ _ (by omega) (by omega), hx.v.b, hx.v.c, hx.v.d⟩, hx.len⟩
        rw [if_neg k7]
        by_cases k8 : k = 8
        · rw [if_pos k8]; exact ⟨hx.o, hx.oi, hx.row, ⟨nandW_ok _ _ (by omega) (by omega), hx.v.b, hx.v.c, hx.v.d⟩, hx.len⟩
        rw [if_neg k8]
        repeat (split; exact hx)
        exact hx
      · rw [if_neg h4]; exact hx
theorem doP_len (L : List ItemD) (k obj : Int) (v : W4) : (doP L k obj v).1.length = L.length := by
  unfold doP
  split
  · rfl
  · split
    · rfl
    · split
      · rfl
      · simp
theorem doP_ok {L : List ItemD} (k obj : Int) {v : W4} (h : ∀ x, x ∈ L → x.Ok) (hv : v.Ok) : ∀ x, x ∈ (doP L k obj v).1 → x.Ok := by
  unfold doP
  split
  · exact h
  · split
    · exact h
    · split
      · exact h
      · rename_i y hy
        intro x hx
        rcases List.mem_or_eq_of_mem_set hx with hx | rfl
        · exact h x hx
        · exact stepP_ok _ (h y (List.mem_of_getElem? hy)) hv
theorem allowsP_len (L : List ItemD) (k obj : Int) (v : W4) (r : ResD) : (allowsP L k obj v r).1.length = L.length := by
  unfold allowsP
  split
  · exact doP_len L k obj v
  · split <;> rfl
theorem allowsP_ok {L : List ItemD} (k obj : Int) {v : W4} (r : ResD) (h : ∀ x, x ∈ L → x.Ok) (hv : v.Ok) : ∀ x, x ∈ (allowsP L k obj v r).1 → x.Ok := by
  unfold allowsP
  split
  · exact doP_ok k obj h hv
  · split <;> exact h
/-- The initial item of an object. -/
def startI (o oi : Nat → Int) : ItemD := ⟨o, oi, [], if kindP o = 2 ∨ kindP o = 3 then (W4.mk (oi 0) (oi 1) (oi 2) (oi 3)).clip (o 2).toNat else if kindP o = 4 then ⟨oi 0, 0, 0, 0⟩ else W4.zero⟩
/-- An object's numbers within their bounds. -/
structure ObjOk (p : (Nat → Int) × (Nat → Int)) : Prop where
  o : ∀ j, j < 6 → i64B (p.1 j)
  i : ∀ j, j < 4 → u32B (p.2 j)
theorem startI_ok {p : (Nat → Int) × (Nat → Int)} (h : ObjOk p) : (startI p.1 p.2).Ok := by
  refine ⟨h.o, h.i, (fun v hv => by cases hv), ?_, (by show (0 : Nat) ≤ 64; omega)⟩
  unfold startI
  have h0 := h.i 0 (by omega)
  have h1 := h.i 1 (by omega)
  have h2 := h.i 2 (by omega)
  have h3 := h.i 3 (by omega)
  show (if _ then _ else _ : W4).Ok
  split
  · exact W4.Ok.clip ⟨h0, h1, h2, h3⟩ _
  · split
    · exact ⟨h0, W4.zero_ok.b, W4.zero_ok.c, W4.zero_ok.d⟩
    · exact W4.zero_ok
def startP (Os : List ((Nat → Int) × (Nat → Int))) : List ItemD := Os.map fun p => startI p.1 p.2
theorem startP_ok {Os : List ((Nat → Int) × (Nat → Int))} (h : ∀ p, p ∈ Os → ObjOk p) : ∀ x, x ∈ startP Os → x.Ok := by
  intro x hx
  obtain ⟨p, hp, rfl⟩ := List.mem_map.1 hx
  exact startI_ok (h p hp)
end Go.Proofs.YtohajfkekkelhaaDoor
