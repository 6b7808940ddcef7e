/- A table without a row; the program's drop. -/
import Derived.Test.YtdaahcenplepjaaScF
import Derived.Test.YtdaahcenplepjaaScCl
import Derived.Test.YtdaahcenplepjaaScDe
import Derived.Test.YtdaahcenplepjaaBx
namespace Go.Proofs.Ytdaahcenplepjaa
open Go.RowKit

def scWo (l : List (ByteArray × Int)) (s : ByteArray) : List (ByteArray × Int) := l.eraseIdx (scIdx l s)
theorem scWo_miss {l : List (ByteArray × Int)} {s : ByteArray} (h : scPlc l s < 0) : scWo l s = l := by
  unfold scWo
  rw [List.eraseIdx_of_length_le]
  unfold scPlc at h
  split at h
  · omega
  · next h' => omega
theorem scPlc_idx {l : List (ByteArray × Int)} {s : ByteArray} (h : 0 ≤ scPlc l s) : scPlc l s = (scIdx l s : Int) ∧ scIdx l s < l.length := by
  unfold scPlc at h ⊢
  split at h
  · next h' => rw [if_pos h']; exact ⟨rfl, h'⟩
  · omega
theorem scWo_len (l : List (ByteArray × Int)) (s : ByteArray) : (scWo l s).length ≤ l.length := by unfold scWo; exact List.length_eraseIdx_le _ _

end Go.Proofs.Ytdaahcenplepjaa
