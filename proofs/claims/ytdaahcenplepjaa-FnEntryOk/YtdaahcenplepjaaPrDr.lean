/- A row taken out of a table that is ok: the program's FieldsDrop. -/
import Derived.Test.YtdaahcenplepjaaPrWo
import Derived.Test.YtdaahcenplepjaaPrH
namespace Go.Proofs.Ytdaahcenplepjaa
open Go.RowKit

def prDropR (l : List (ByteArray × ByteArray)) (s : ByteArray) : List (ByteArray × ByteArray) := if prOkB l = true then prWo l s else []
def prDropB (l : List (ByteArray × ByteArray)) (s : ByteArray) : Bool := decide (0 ≤ prFindI l s)

end Go.Proofs.Ytdaahcenplepjaa
