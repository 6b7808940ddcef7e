/- The place of a name in a table that is ok: the program's and the model's. -/
import Derived.Test.YtdaahcenplepjaaScF
namespace Go.Proofs.Ytdaahcenplepjaa
open Go.RowKit

def scFindI (l : List (ByteArray × Int)) (s : ByteArray) : Int := if scOkB l = true then scPlc l s else -1
theorem scPlc_bd (l : List (ByteArray × Int)) (s : ByteArray) : -1 ≤ scPlc l s ∧ scPlc l s < l.length ∨ l.length = 0 ∧ scPlc l s = -1 := by
  unfold scPlc; split
  · left; omega
  · rcases Nat.eq_zero_or_pos l.length with h | h
    · exact .inr ⟨h, rfl⟩
    · left; omega

end Go.Proofs.Ytdaahcenplepjaa
