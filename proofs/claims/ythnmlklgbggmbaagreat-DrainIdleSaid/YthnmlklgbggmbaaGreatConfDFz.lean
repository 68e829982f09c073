import Derived.Test.YthnmlklgbggmbaaGreatConfDAz
import Derived.Test.YthnmlklgbggmbaaGreatConfDBz
import Derived.Test.YthnmlklgbggmbaaGreatConfDCz
import Derived.Test.YthnmlklgbggmbaaGreatConfDEz
import Derived.Test.YthnmlklgbggmbaaGreatConfDJz
import Derived.Test.YthnmlklgbggmbaaGreatConfDKz
namespace Go.Proofs.YthnmlklgbggmbaaGreat
open Go.ChangeShapes Go.WideShapes Go.ChangeAt Go.RowKit
theorem right_any (o oi : Nat → Int) (w : World) (hb : -9223372036854775808 ≤ o 1 ∧ o 1 ≤ 9223372036854775807) :
    Calls Tryz.prog 103 #[.agg (objC o oi)] w fun e w' => e = .returned (.bool (rightS o)) ∧ Keeps (fun _ => False) w w' := by
  rcases (by omega : o 0 < 1 ∨ o 0 = 1 ∨ o 0 = 2 ∨ o 0 = 3 ∨ o 0 = 4 ∨ 4 < o 0) with h | h | h | h | h | h
  · exact right_l o oi w hb h
  · exact right_1 o oi w hb h
  · exact right_2 o oi w hb h
  · exact right_3 o oi w hb h
  · exact right_4 o oi w hb h
  · exact right_h o oi w hb h
end Go.Proofs.YthnmlklgbggmbaaGreat
