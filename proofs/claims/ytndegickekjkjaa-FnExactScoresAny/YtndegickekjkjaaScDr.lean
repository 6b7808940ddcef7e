/- A row taken out of a table that is ok: the program's ScoresDrop. -/
import Derived.Test.YtndegickekjkjaaScWo
import Derived.Test.YtndegickekjkjaaScH
namespace Go.Proofs.Ytndegickekjkjaa
open Go.RowKit

def scDropR (l : List (ByteArray × Int)) (s : ByteArray) : List (ByteArray × Int) := if scOkB l = true then scWo l s else []
def scDropB (l : List (ByteArray × Int)) (s : ByteArray) : Bool := decide (0 ≤ scFindI l s)

end Go.Proofs.Ytndegickekjkjaa
