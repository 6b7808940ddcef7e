/- FieldsDrop: the model's. -/
import Derived.Test.YtdaahcenplepjaaPrDr
import Derived.Test.YtdaahcenplepjaaPrJ
import Derived.Test.YtdaahcenplepjaaAq
namespace Go.Proofs.Ytdaahcenplepjaa
open Go.RowKit

theorem prWo_pos {l : List (ByteArray × ByteArray)} {s : ByteArray} (hok : prOkB l = true) (ht : prThere l s = true) : prWo l s = l.take (prPos l s) ++ l.drop (prPos l s + 1) := by
  have h1 := (prPlc_pos (s := s) hok).1 ht
  have h2 := prPlc_idx (l := l) (s := s) (by omega)
  unfold prWo
  rw [show prIdx l s = prPos l s by omega, List.eraseIdx_eq_take_drop_succ]
theorem prWo_no {l : List (ByteArray × ByteArray)} {s : ByteArray} (hok : prOkB l = true) (ht : prThere l s = false) : prWo l s = l := prWo_miss (by have := (prPlc_pos (s := s) hok).2 ht; omega)

end Go.Proofs.Ytdaahcenplepjaa
