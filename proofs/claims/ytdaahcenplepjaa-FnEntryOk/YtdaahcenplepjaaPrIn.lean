/- slices.Insert of one row of Pair into a row of one's own. -/
import Derived.Test.YtdaahcenplepjaaPrDe
import Derived.Test.YtdaahcenplepjaaCp
import Derived.Test.YtdaahcenplepjaaAp
import Derived.Test.YtdaahcenplepjaaTk
namespace Go.Proofs.Ytdaahcenplepjaa
open Go.RowKit

theorem prSz : ∀ w, (Go.sizeOf 65).run Try.prog w = .ok 2 w := by
  obtain ⟨i0, hi0, hz0, hz1, hz2⟩ := info_parts prInfo
  intro w; simp [Go.sizeOf, typeInfo, hi0, hz1]
end Go.Proofs.Ytdaahcenplepjaa
