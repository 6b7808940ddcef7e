/- slices.Delete of one row of Score, from a row of one's own. -/
import Derived.Test.YtdaahcenplepjaaScB
import Derived.Test.YtdaahcenplepjaaDl
import Derived.Test.YtdaahcenplepjaaTk
namespace Go.Proofs.Ytdaahcenplepjaa
open Go.RowKit

theorem scZero : ∀ w, (zeroValue 62).run Try.prog w = .ok (.agg #[.string ByteArray.empty, .int .i64 0]) w := Try.zeroValue62

end Go.Proofs.Ytdaahcenplepjaa
