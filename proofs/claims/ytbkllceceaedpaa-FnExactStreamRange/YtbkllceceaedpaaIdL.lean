/- An id among the arguments, opened. -/
import Derived.Test.YtbkllceceaedpaaIdA
import Derived.Deep.SlicePairs
import Derived.Lib.SmallJoins
namespace Go.Proofs.Ytbkllceceaedpaa
open Go.ChangeShapes Go.WideShapes Go.RowKit
theorem toId_ints (a b : Int) (w : World) : Calls Try.prog 14 #[.agg #[.int .i64 a, .int .i64 b]] w fun e w' => e = .returned (.agg #[.int .i64 a, .int .i64 b]) ∧ Below w.heap.size w w' := toId_any (a, b) w
theorem specIdLess_ints (a b c d : Int) (w : World) : Calls Try.prog 33 #[.agg #[.int .i64 a, .int .i64 b], .agg #[.int .i64 c, .int .i64 d]] w fun e w' => e = .returned (.bool (idLessB (a, b) (c, d))) ∧ Below w.heap.size w w' := specIdLess_any (a, b) (c, d) w
theorem implIdLess_ints (a b c d : Int) (w : World) : Calls Try.prog 49 #[.agg #[.int .i64 a, .int .i64 b], .agg #[.int .i64 c, .int .i64 d]] w fun e w' => e = .returned (.bool (idLessB (a, b) (c, d))) ∧ Below w.heap.size w w' := implIdLess_any (a, b) (c, d) w
section
variable {H : Type} {enc : TypeId × Value → H} {W : World} {base : Nat} {spare : Nat → Bool} {held : Bool}
def idFit (x : Int × Int) : Prop := (-9223372036854775808 ≤ x.1 ∧ x.1 ≤ 9223372036854775807) ∧ (-9223372036854775808 ≤ x.2 ∧ x.2 ≤ 9223372036854775807)
set_option maxRecDepth 100000 in
theorem id_open1 {r : Reach} {b0 : Nat} {v : Value} {d : DataW H} {p : List MemPlace} (hv : Value.okWide Try.prog W r b0 23 v) (h : DataW.Trod enc Try.prog W base spare held 23 v d p) :
    ∃ x : Int × Int, v = .agg #[.int .i64 x.1, .int .i64 x.2] ∧ idFit x := by
  obtain ⟨v0, v1, y0, y1, n, rfl, hk0, hk1, h0, h1⟩ := Go.Joins.open_agg2 Try.underlying23 (by kernel_rfl) (by kernel_rfl) hv h
  obtain ⟨z, hz, _, hw⟩ := DataW.trod_int Try.underlying3 h0
  obtain ⟨u, hu, _, hw2⟩ := DataW.trod_int Try.underlying3 h1
  simp only [List.cons.injEq, and_true] at hz hu
  subst hz hu
  exact ⟨(z, u), rfl, by simpa [Lit.wf, IntKind.min, IntKind.max, IntKind.signed, IntKind.bits] using hw, by simpa [Lit.wf, IntKind.min, IntKind.max, IntKind.signed, IntKind.bits] using hw2⟩
end
end Go.Proofs.Ytbkllceceaedpaa
