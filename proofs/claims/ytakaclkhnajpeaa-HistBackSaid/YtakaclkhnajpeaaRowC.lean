import Derived.Test.YtakaclkhnajpeaaRowB
import Derived.Test.YtakaclkhnajpeaaScopeIn
import Derived.Test.YtakaclkhnajpeaaAppRun
import Derived.Maps.AppendAt
import Derived.Handy
import Derived.Deep.Onto
namespace Go.Proofs.Ytakaclkhnajpeaa
open Go.RowKit Go.Shelf
set_option linter.unusedVariables false
attribute [local go_sem] Oper.semAt_some
set_option maxHeartbeats 1000000 in
theorem lines_in (n : Nat) (S : ByteArray) (w : World) :
    CallsIn Fence.wide n Try.prog 18 #[.string S] w fun e w' => e = .returned (.func (.func 27) #[] #[.pointer (some ⟨w.heap.size, 0, none⟩)]) ∧ w' = w.alloc (.cells #[.string S] 9) := by
  refine callsIn_of_wp Try.func18 rfl trivial ?_ rfl
  simp only [Try.ntmps18, List.size_toArray, List.length_cons, List.length_nil, Nat.reduceAdd, Nat.reduceSub, Array.replicate_succ, Array.replicate_zero, List.push_toArray, List.append_toArray, List.nil_append, List.cons_append]
  gi_wp2
  go_ret
  exact ⟨rfl, rfl⟩
theorem lines_stops (n : Nat) (hn : 1 ≤ n) (Bs n₀ : Nat) (w : World) (hn₀ : n₀ ≤ w.heap.size) (s : List UInt8) (hs : s.length ≤ 1000000) (L : List (Nat × List UInt8)) (hL : LinesOf 1 L s) (hLl : L.length ≤ 1000000)
    (hc : Boxed w Bs 9 (.string ⟨s.toArray⟩)) :
    SeqStopsK Fence.wide n Try.prog 27 #[.pointer (some ⟨Bs, 0, none⟩)] (fun x : {x : Nat × List UInt8 // x ∈ L} => #[Value.int .i64 (x.1.1 : Int), Value.string ⟨x.1.2.toArray⟩]) (Below n₀) (fun ys => ys = L.attach) (fun pre => pre <+: L.attach) L.attach.length w := fun l J Jx W hW hA _ hY h0 =>
  lines1_in n hn l Bs n₀ s hs L hL hLl J Jx (fun pre W k h => hA pre W _ none h ⟨rfl, rfl, rfl, Nat.le_refl _, fun _ _ _ => rfl⟩ (fun r e => by cases e)) hY W ((hW.block Bs hc.lt).trans hc) h0
/-- Blank or tab. -/
def isWs (r : Nat) : Bool := r == 32 || r == 9
/-- The words of a line. -/
def wordsL (l : List UInt8) : List ByteArray := Lib.goFieldsP isWs ⟨(cutAt 35 l).1.toArray⟩
theorem ws_pred (w : World) : PredAt Try.prog 30 #[] encR isWs w := fun W r _ => by
  unfold FnGives
  have h1 : ((r : Int) == 32) = (r == 32) := by rw [Bool.eq_iff_iff, beq_iff_eq, beq_iff_eq]; omega
  have h2 : ((r : Int) == 9) = (r == 9) := by rw [Bool.eq_iff_iff, beq_iff_eq, beq_iff_eq]; omega
  have HW := Lib.hid (show isWs r = ((r == 32) || (r == 9)) from rfl)
  generalize hb1 : (r == 32) = b1 at h1 HW
  generalize hb2 : (r == 9) = b2 at h2 HW
  clear hb1 hb2
  show Calls Try.prog 30 #[.int .i32 (r : Int)] W _
  generalize isWs r = b at *
  generalize (r : Int) = x at *
  cases b1
  all_goals
    go_enter Try.func30, Try.ntmps30
    go_wp2_with fail
    go_ret
    exact ⟨by rw [HW.out]; rfl, 0, rfl⟩
set_option maxHeartbeats 1000000 in
theorem wordsOf_any (w : World) (l : List UInt8) (hl : l.length ≤ 1000000) :
    Calls Try.prog 19 #[.string ⟨l.toArray⟩] w fun e w' => ∃ A, e = .returned (.slice (some ⟨A, 0, none⟩) (wordsL l).length (wordsL l).length) ∧ w.heap.size ≤ A ∧
      w'.ownsRow w.heap.size 9 1 (.slice (some ⟨A, 0, none⟩) (wordsL l).length (wordsL l).length) (wordsL l).length ((wordsL l).map Value.string) ∧ Below w.heap.size w w' := by
  have HC := Lib.hid (cut_any w l 35 (by omega))
  have hq := (cutAt_len 35 l).1
  have HF := Lib.hid (fun w => Try.strings_FieldsFunc 30 #[] (enters_of Try.func30 (by kernel_rfl) rfl) isWs ⟨(cutAt 35 l).1.toArray⟩ w (by rw [str_size]; omega) (ws_pred w))
  have HW := Lib.hid (show wordsL l = Lib.goFieldsP isWs ⟨(cutAt 35 l).1.toArray⟩ from rfl)
  rw [← HW.out] at HF
  clear HW
  generalize (⟨l.toArray⟩ : ByteArray) = B at *
  generalize (⟨(cutAt 35 l).1.toArray⟩ : ByteArray) = X at *
  generalize (⟨(cutAt 35 l).2.toArray⟩ : ByteArray) = Y at *
  generalize wordsL l = R at *
  go_enter Try.func19, Try.ntmps19
  go_wp2_with fail
  refine HC.out.mono ?_
  rintro e1 w1 ⟨b, rfl, nd, rfl⟩
  go_wp2_with fail
  refine (HF.out _).mono ?_
  rintro e2 w2 ⟨A, rfl, hA, hown, hB⟩
  have HR := Lib.hid (And.intro hA (And.intro hown (((Keeps.refl (fun _ => False) w).drewN nd).none.trans hB)))
  clear hA hown hB
  go_wp2_with fail
  go_ret
  exact ⟨A, rfl, HR.out.1, HR.out.2.1, HR.out.2.2⟩
end Go.Proofs.Ytakaclkhnajpeaa
