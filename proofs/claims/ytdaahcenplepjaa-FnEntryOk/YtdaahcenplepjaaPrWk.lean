/- A row put into a table: the program's FieldsPut. -/
import Derived.Test.YtdaahcenplepjaaPrWj
import Derived.Test.YtdaahcenplepjaaPrE
import Derived.OwnWalk
namespace Go.Proofs.Ytdaahcenplepjaa
open Go.RowKit

theorem below_drewPPr {B : Nat} {a w : World} (h : Below B a w) (m : Nat) : Below B a (w.drewN m) := ⟨h.os, h.tape, h.output, h.size, h.block⟩
def prNew (l : List (ByteArray × ByteArray)) (y : (ByteArray × ByteArray)) : List (ByteArray × ByteArray) := prIns (prWo l y.1) y
def prPtB (l : List (ByteArray × ByteArray)) (y : (ByteArray × ByteArray)) : Bool := prOkB l && prOkB (prNew l y)
def prPtF (l : List (ByteArray × ByteArray)) (y : (ByteArray × ByteArray)) : Bool := prPtB l y && decide (l.length < (prNew l y).length)
def prPtR (l : List (ByteArray × ByteArray)) (y : (ByteArray × ByteArray)) : List (ByteArray × ByteArray) := if prOkB l = true then (if prOkB (prNew l y) = true then prNew l y else l) else []

end Go.Proofs.Ytdaahcenplepjaa
