/- slices.Delete of one row of Pair, from a row of one's own. -/
import Derived.Test.YtdaahcenplepjaaPrB
import Derived.Test.YtdaahcenplepjaaDl
import Derived.Test.YtdaahcenplepjaaTk
namespace Go.Proofs.Ytdaahcenplepjaa
open Go.RowKit

theorem prZero : ∀ w, (zeroValue 65).run Try.prog w = .ok (.agg #[.string ByteArray.empty, .string ByteArray.empty]) w := Try.zeroValue65

end Go.Proofs.Ytdaahcenplepjaa
