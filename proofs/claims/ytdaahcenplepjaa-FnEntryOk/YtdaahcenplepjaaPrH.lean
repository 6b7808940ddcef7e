/- The place of a name in a table that is ok: the program's and the model's. -/
import Derived.Test.YtdaahcenplepjaaPrF
namespace Go.Proofs.Ytdaahcenplepjaa
open Go.RowKit

def prFindI (l : List (ByteArray × ByteArray)) (s : ByteArray) : Int := if prOkB l = true then prPlc l s else -1
theorem prPlc_bd (l : List (ByteArray × ByteArray)) (s : ByteArray) : -1 ≤ prPlc l s ∧ prPlc l s < l.length ∨ l.length = 0 ∧ prPlc l s = -1 := by
  unfold prPlc; split
  · left; omega
  · rcases Nat.eq_zero_or_pos l.length with h | h
    · exact .inr ⟨h, rfl⟩
    · left; omega

end Go.Proofs.Ytdaahcenplepjaa
