/- SetOk, the model's and the program's: one bool. -/
import Derived.Test.YtndegickekjkjaaOkS
namespace Go.Proofs.Ytndegickekjkjaa
open Go.RowKit

theorem less_of {a b : ByteArray} (h : (!Op.bytesLess a.toList b.toList) = false) : Op.bytesLess a.toList b.toList = true := by simpa using h
theorem less_not {a b : ByteArray} (h : (!Op.bytesLess a.toList b.toList) = true) : Op.bytesLess a.toList b.toList = false := by simpa using h

end Go.Proofs.Ytndegickekjkjaa
