/- A row taken out of a table that is ok: the program's ScoresDrop. -/
import Derived.Test.YtdaahcenplepjaaScWo
import Derived.Test.YtdaahcenplepjaaScH
namespace Go.Proofs.Ytdaahcenplepjaa
open Go.RowKit

def scDropR (l : List (ByteArray × Int)) (s : ByteArray) : List (ByteArray × Int) := if scOkB l = true then scWo l s else []
def scDropB (l : List (ByteArray × Int)) (s : ByteArray) : Bool := decide (0 ≤ scFindI l s)

end Go.Proofs.Ytdaahcenplepjaa
