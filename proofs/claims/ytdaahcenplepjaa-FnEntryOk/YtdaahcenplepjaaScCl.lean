/- slices.Clone of rows of Score. -/
import Derived.Test.YtdaahcenplepjaaScB
import Derived.Maps.AppendAt
import Derived.Laws.AppendOwnNone
import Derived.Lib.SliceRun
namespace Go.Proofs.Ytdaahcenplepjaa
open Go.RowKit

end Go.Proofs.Ytdaahcenplepjaa
