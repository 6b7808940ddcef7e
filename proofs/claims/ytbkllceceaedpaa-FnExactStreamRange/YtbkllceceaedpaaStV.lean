/- The model's StreamOk. -/
import Derived.Test.YtbkllceceaedpaaStT
import Derived.Test.YtbkllceceaedpaaStU
namespace Go.Proofs.Ytbkllceceaedpaa
open Go.RowKit

theorem specStOk_any (t n : Int) (vi vg : Value) (li : List ItRow) (lg : List GpRow) (w : World) (hr : StReads w vi vg li lg) (hs : StSmall li lg) :
    Calls Try.prog 9 #[stV t n vi vg] w fun e w' => e = .returned (.bool (stOkB t n li lg)) ∧ Below w.heap.size w w' :=
  specStOk_of (fun t n ai ag ni ci ng cg x v w h1 h2 => l9Group_any t n ai ag ni ci ng cg x v w h1 h2) t n vi vg li lg w hr hs
end Go.Proofs.Ytbkllceceaedpaa
