/- The model's sets: whether a text is one of others; SetBoth, SetLess, SetDrop. -/
import Derived.Test.YtndegickekjkjaaSetM
import Derived.Test.YtndegickekjkjaaSetOk
import Derived.Test.YtndegickekjkjaaCopyS
import Derived.Test.YtndegickekjkjaaMark
namespace Go.Proofs.Ytndegickekjkjaa
open Go.RowKit

theorem reads_someS {w : World} {ao : Option Addr} {cap : Nat} {l : List ByteArray} (h : Reads w (.slice ao l.length cap) l) (h0 : 0 < l.length) :
    ∃ b off, ao = some ⟨b, off, none⟩ ∧ b < w.heap.size ∧ ∀ k, k < l.length → w.cell? ⟨b, off + k, none⟩ = some (.string (at_ l k)) := by
  rcases h with ⟨rfl, _⟩ | ⟨_, b, off, cap', hv, hb, _, _, hc⟩
  · simp at h0
  · simp only [Value.slice.injEq, true_and] at hv
    exact ⟨b, off, hv.1, hb, hc⟩
theorem hasM_snoc_hit {l : List ByteArray} {s : ByteArray} {k : Nat} (hk : k < l.length) (h : at_ l k = s) : hasM l s = true := by
  rw [hasM_iff, ← h, at_lt hk]; exact List.getElem_mem hk
theorem hasM_snoc_miss {l : List ByteArray} {s : ByteArray} {k : Nat} (hk : k < l.length) (h : at_ l k ≠ s) (h0 : hasM (l.take k) s = false) : hasM (l.take (k + 1)) s = false := by
  have e : l.take (k + 1) = l.take k ++ [at_ l k] := by rw [List.take_succ_eq_append_getElem hk, at_lt hk]
  rw [e]; unfold hasM at *; rw [List.any_append, h0]; simp [h]
theorem eqB_true {a b : ByteArray} (h : a = b) : (a.toList == b.toList) = true := by rw [h]; simp
theorem eqB_false {a b : ByteArray} (h : a ≠ b) : (a.toList == b.toList) = false := by
  cases he : (a.toList == b.toList) with
  | false => rfl
  | true => exact absurd (bytes_ext (by simpa using he)) h

end Go.Proofs.Ytndegickekjkjaa
