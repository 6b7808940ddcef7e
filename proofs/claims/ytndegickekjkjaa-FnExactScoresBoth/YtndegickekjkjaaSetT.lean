/- The model's SetBoth, SetLess, SetDrop. -/
import Derived.Test.YtndegickekjkjaaSetS
import Derived.Test.YtndegickekjkjaaOwn
namespace Go.Proofs.Ytndegickekjkjaa
open Go.RowKit

theorem below_stepT {B : Nat} {a w w' : World} (h : Below B a w) (hb : Below w.heap.size w w') (hB : B ≤ a.heap.size := by exact Nat.le_refl _) : Below B a w' := h.trans (hb.mono (Nat.le_trans hB h.size))
def bothR (a b : List ByteArray) : List ByteArray := if (setB a && setB b) = true then bothM a b else []
theorem both_snoc_hit {a b : List ByteArray} {k : Nat} (hk : k < a.length) (h : hasM b (at_ a k) = true) : bothM (a.take (k + 1)) b = bothM (a.take k) b ++ [at_ a k] := by
  rw [List.take_succ_eq_append_getElem hk, ← at_lt hk]; unfold bothM; simp [h]
theorem both_snoc_miss {a b : List ByteArray} {k : Nat} (hk : k < a.length) (h : hasM b (at_ a k) = false) : bothM (a.take (k + 1)) b = bothM (a.take k) b := by
  rw [List.take_succ_eq_append_getElem hk, ← at_lt hk]; unfold bothM; simp [h]
theorem bothM_len (a b : List ByteArray) : (bothM a b).length ≤ a.length := List.length_filter_le _ _

def lessR (a b : List ByteArray) : List ByteArray := if (setB a && setB b) = true then lessM a b else []
theorem less_snoc_hit {a b : List ByteArray} {k : Nat} (hk : k < a.length) (h : hasM b (at_ a k) = false) : lessM (a.take (k + 1)) b = lessM (a.take k) b ++ [at_ a k] := by
  rw [List.take_succ_eq_append_getElem hk, ← at_lt hk]; unfold lessM; simp [h]
theorem less_snoc_miss {a b : List ByteArray} {k : Nat} (hk : k < a.length) (h : hasM b (at_ a k) = true) : lessM (a.take (k + 1)) b = lessM (a.take k) b := by
  rw [List.take_succ_eq_append_getElem hk, ← at_lt hk]; unfold lessM; simp [h]
theorem lessM_len (a b : List ByteArray) : (lessM a b).length ≤ a.length := List.length_filter_le _ _

end Go.Proofs.Ytndegickekjkjaa
