/- slices.Clone of rows of Pair. -/
import Derived.Test.YtdaahcenplepjaaPrB
import Derived.Maps.AppendAt
import Derived.Laws.AppendOwnNone
import Derived.Lib.SliceRun
namespace Go.Proofs.Ytdaahcenplepjaa
open Go.RowKit

end Go.Proofs.Ytdaahcenplepjaa
