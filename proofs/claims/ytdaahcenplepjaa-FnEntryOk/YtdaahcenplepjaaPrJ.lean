/- FieldsGet: the program's and the model's. -/
import Derived.Test.YtdaahcenplepjaaPrI
namespace Go.Proofs.Ytdaahcenplepjaa
open Go.RowKit

def prGetB (l : List (ByteArray × ByteArray)) (s : ByteArray) : Bool := decide (0 ≤ prFindI l s)
def prGetS (l : List (ByteArray × ByteArray)) (s : ByteArray) : ByteArray := if prGetB l s = true then (prAt l (prFindI l s).toNat).2 else ByteArray.empty

end Go.Proofs.Ytdaahcenplepjaa
