/- A table with a row: the program's walk. -/
import Derived.Test.YtdaahcenplepjaaPrWi
import Derived.Test.YtdaahcenplepjaaTk
namespace Go.Proofs.Ytdaahcenplepjaa
open Go.RowKit

end Go.Proofs.Ytdaahcenplepjaa
