/- A slice of Pair among the arguments, opened; copies, marks and comparisons told by the stretch of blocks that they lie in. -/
import Derived.Test.YtdaahcenplepjaaPrB
import Derived.Deep.SlicePairs
import Derived.Lib.SmallJoins
import Derived.ProofKit
namespace Go.Proofs.Ytdaahcenplepjaa
open Go.ChangeShapes Go.WideShapes Go.RowKit

def prOfV : Value → ByteArray
  | .string s => s
  | _ => ByteArray.empty
section
variable {H : Type} {enc : TypeId × Value → H} {W : World} {base : Nat} {spare : Nat → Bool} {held : Bool}
end

theorem pr_szOne_le {x : (ByteArray × ByteArray)} {left : Int} (h : 0 ≤ szOne prW x left) : szOne prW x left ≤ left := by
  have := prW_pos x
  unfold szOne at h ⊢
  split at h
  · omega
  · next hn => rw [if_neg hn]; omega

abbrev PrOwn (w : World) (lo hi : Nat) (v : Value) (l : List (ByteArray × ByteArray)) : Prop := OwnR prC 2 65 w lo hi v l
end Go.Proofs.Ytdaahcenplepjaa
