/- The model's SetDrop. -/
import Derived.Test.YtndegickekjkjaaSetT
namespace Go.Proofs.Ytndegickekjkjaa
open Go.RowKit

def sdropR (a b : List ByteArray) : List ByteArray := if setB a = true then lessM a b else []
def sdropN (a b : List ByteArray) : Int := if setB a = true then (a.length : Int) - (lessM a b).length else 0

end Go.Proofs.Ytndegickekjkjaa
