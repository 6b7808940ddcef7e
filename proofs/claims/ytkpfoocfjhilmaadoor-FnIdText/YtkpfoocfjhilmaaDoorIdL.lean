/- An id among the arguments, opened. -/
import Derived.Test.YtkpfoocfjhilmaaDoorIdA
import Derived.Deep.SlicePairs
import Derived.Lib.SmallJoins
namespace Go.Proofs.YtkpfoocfjhilmaaDoor
open Go.ChangeShapes Go.WideShapes Go.RowKit
theorem specIdLess_ints (a b c d : Int) (w : World) : Calls Tryd.prog 9 #[.agg #[.int .i64 a, .int .i64 b], .agg #[.int .i64 c, .int .i64 d]] w fun e w' => e = .returned (.bool (idLessB (a, b) (c, d))) ∧ Below w.heap.size w w' := specIdLess_any (a, b) (c, d) w
theorem implIdLess_ints (a b c d : Int) (w : World) : Calls Tryd.prog 7 #[.agg #[.int .i64 a, .int .i64 b], .agg #[.int .i64 c, .int .i64 d]] w fun e w' => e = .returned (.bool (idLessB (a, b) (c, d))) ∧ Below w.heap.size w w' := implIdLess_any (a, b) (c, d) w
section
variable {H : Type} {enc : TypeId × Value → H} {W : World} {base : Nat} {spare : Nat → Bool} {held : Bool}
def idFit (x : Int × Int) : Prop := (-9223372036854775808 ≤ x.1 ∧ x.1 ≤ 9223372036854775807) ∧ (-9223372036854775808 ≤ x.2 ∧ x.2 ≤ 9223372036854775807)
end
end Go.Proofs.YtkpfoocfjhilmaaDoor
