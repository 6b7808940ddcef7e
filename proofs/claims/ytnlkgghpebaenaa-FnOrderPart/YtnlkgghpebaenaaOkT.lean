/- Texts that are not too long: the program's textsOk. -/
import Derived.Test.YtnlkgghpebaenaaSlA
namespace Go.Proofs.Ytnlkgghpebaenaa
open Go.RowKit

/-- the first k texts have at most 40 bytes each -/
def shortTo (l : List ByteArray) (k : Nat) : Bool := (l.take k).all fun s => decide (s.size ≤ 40)
def short (l : List ByteArray) : Bool := l.all fun s => decide (s.size ≤ 40)
theorem short_step {l : List ByteArray} {k : Nat} (h : k < l.length) (hs : shortTo l k = true) (hk : ((at_ l k).size : Int) ≤ 40) : shortTo l (k + 1) = true := by
  unfold shortTo at *
  rw [List.take_succ_eq_append_getElem h, List.all_append, hs, ← at_lt h]
  simp; omega
theorem short_not {l : List ByteArray} {k : Nat} (h : k < l.length) (hk : 40 < ((at_ l k).size : Int)) : short l = false := by
  unfold short
  rw [Bool.eq_false_iff]
  intro hh
  have := List.all_eq_true.1 hh l[k] (List.getElem_mem h)
  rw [← at_lt h] at this
  simp at this; omega
theorem short_end {l : List ByteArray} {k : Nat} (hk : k ≤ l.length) (h : ¬ k < l.length) (hs : shortTo l k = true) : short l = true := by
  have e : k = l.length := by omega
  subst e
  unfold shortTo at hs; rwa [List.take_length] at hs
theorem reads_shape {w : World} {v : Value} {l : List ByteArray} (h : Reads w v l) : ∃ ao cap, v = .slice ao l.length cap := by
  rcases h with ⟨rfl, ao, cap, rfl, _⟩ | ⟨h0, b, off, cap, rfl, _⟩
  · exact ⟨_, _, rfl⟩
  · exact ⟨_, _, rfl⟩
end Go.Proofs.Ytnlkgghpebaenaa
