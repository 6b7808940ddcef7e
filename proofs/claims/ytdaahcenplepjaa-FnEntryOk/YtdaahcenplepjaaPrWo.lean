/- A table without a row; the program's drop. -/
import Derived.Test.YtdaahcenplepjaaPrF
import Derived.Test.YtdaahcenplepjaaPrCl
import Derived.Test.YtdaahcenplepjaaPrDe
import Derived.Test.YtdaahcenplepjaaBx
namespace Go.Proofs.Ytdaahcenplepjaa
open Go.RowKit

def prWo (l : List (ByteArray × ByteArray)) (s : ByteArray) : List (ByteArray × ByteArray) := l.eraseIdx (prIdx l s)
theorem prWo_miss {l : List (ByteArray × ByteArray)} {s : ByteArray} (h : prPlc l s < 0) : prWo l s = l := by
  unfold prWo
  rw [List.eraseIdx_of_length_le]
  unfold prPlc at h
  split at h
  · omega
  · next h' => omega
theorem prPlc_idx {l : List (ByteArray × ByteArray)} {s : ByteArray} (h : 0 ≤ prPlc l s) : prPlc l s = (prIdx l s : Int) ∧ prIdx l s < l.length := by
  unfold prPlc at h ⊢
  split at h
  · next h' => rw [if_pos h']; exact ⟨rfl, h'⟩
  · omega
theorem prWo_len (l : List (ByteArray × ByteArray)) (s : ByteArray) : (prWo l s).length ≤ l.length := by unfold prWo; exact List.length_eraseIdx_le _ _

end Go.Proofs.Ytdaahcenplepjaa
