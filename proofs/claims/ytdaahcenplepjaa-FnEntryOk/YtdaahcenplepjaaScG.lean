/- A slice of Score among the arguments, opened; copies, marks and comparisons told by the stretch of blocks that they lie in. -/
import Derived.Test.YtdaahcenplepjaaScB
import Derived.Deep.SlicePairs
import Derived.Lib.SmallJoins
import Derived.ProofKit
namespace Go.Proofs.Ytdaahcenplepjaa
open Go.ChangeShapes Go.WideShapes Go.RowKit

def scOfV : Value → ByteArray
  | .string s => s
  | _ => ByteArray.empty
def scNumV : Value → Int
  | .int _ n => n
  | _ => 0
section
variable {H : Type} {enc : TypeId × Value → H} {W : World} {base : Nat} {spare : Nat → Bool} {held : Bool}
end

theorem sc_szOne_le {x : (ByteArray × Int)} {left : Int} (h : 0 ≤ szOne scW x left) : szOne scW x left ≤ left := by
  have := scW_pos x
  unfold szOne at h ⊢
  split at h
  · omega
  · next hn => rw [if_neg hn]; omega

abbrev ScOwn (w : World) (lo hi : Nat) (v : Value) (l : List (ByteArray × Int)) : Prop := OwnR scC 2 62 w lo hi v l
end Go.Proofs.Ytdaahcenplepjaa
