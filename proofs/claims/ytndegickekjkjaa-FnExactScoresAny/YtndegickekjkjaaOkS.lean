/- Are texts a list that is ok, are they a set: the model's and the program's. -/
import Derived.Test.YtndegickekjkjaaSlA
namespace Go.Proofs.Ytndegickekjkjaa
open Go.RowKit

/-- the first k texts have at most 40 bytes each -/
def shortTo (l : List ByteArray) (k : Nat) : Bool := (l.take k).all fun s => decide (s.size ≤ 40)
def short (l : List ByteArray) : Bool := l.all fun s => decide (s.size ≤ 40)
def okB (l : List ByteArray) : Bool := decide (l.length ≤ 16) && short l
theorem short_step {l : List ByteArray} {k : Nat} (h : k < l.length) (hs : shortTo l k = true) (hk : ((at_ l k).size : Int) ≤ 40) : shortTo l (k + 1) = true := by
  unfold shortTo at *
  rw [List.take_succ_eq_append_getElem h, List.all_append, hs, ← at_lt h]
  simp; omega
theorem short_not {l : List ByteArray} {k : Nat} (h : k < l.length) (hk : 40 < ((at_ l k).size : Int)) : short l = false := by
  unfold short
  rw [Bool.eq_false_iff]
  intro hh
  have := List.all_eq_true.1 hh l[k] (List.getElem_mem h)
  rw [← at_lt h] at this
  simp at this; omega
theorem short_end {l : List ByteArray} {k : Nat} (hk : k ≤ l.length) (h : ¬ k < l.length) (hs : shortTo l k = true) : short l = true := by
  have e : k = l.length := by omega
  subst e
  unfold shortTo at hs; rwa [List.take_length] at hs
theorem okB_not {l : List ByteArray} (h : short l = false) : okB l = false := by unfold okB; rw [h]; simp

theorem reads_shape {w : World} {v : Value} {l : List ByteArray} (h : Reads w v l) : ∃ ao cap, v = .slice ao l.length cap := by
  rcases h with ⟨rfl, ao, cap, rfl, _⟩ | ⟨h0, b, off, cap, rfl, _⟩
  · exact ⟨_, _, rfl⟩
  · exact ⟨_, _, rfl⟩

/-- each of the first k texts is above the one ahead of it -/
def ascTo (l : List ByteArray) (k : Nat) : Prop := ∀ j, 1 ≤ j → j < k → Op.bytesLess (at_ l (j - 1)).toList (at_ l j).toList = true
def ascB (l : List ByteArray) : Bool := (List.range l.length).all fun j => decide (j = 0) || Op.bytesLess (at_ l (j - 1)).toList (at_ l j).toList
theorem asc_end {l : List ByteArray} {k : Nat} (h : l.length ≤ k) (ha : ascTo l k) : ascB l = true := by
  unfold ascB
  rw [List.all_eq_true]
  intro j hj
  rw [List.mem_range] at hj
  by_cases h0 : j = 0
  · simp [h0]
  · simp [ha j (by omega) (by omega)]
theorem asc_not {l : List ByteArray} {k : Nat} (h1 : 1 ≤ k) (h : k < l.length) (ha : Op.bytesLess (at_ l (k - 1)).toList (at_ l k).toList = false) : ascB l = false := by
  unfold ascB
  rw [Bool.eq_false_iff]
  intro hh
  have := List.all_eq_true.1 hh k (List.mem_range.2 h)
  rw [ha] at this
  simp at this; omega
theorem asc_step {l : List ByteArray} {k : Nat} (h : ascTo l k) (ha : Op.bytesLess (at_ l (k - 1)).toList (at_ l k).toList = true) : ascTo l (k + 1) := by
  intro j h1 h2
  by_cases e : j = k
  · rw [e]; exact ha
  · exact h j h1 (by omega)
/-- what is left of a list, what is taken -/
def popL (l : List ByteArray) (front : Bool) : List ByteArray := if front = true then l.tail else l.dropLast
def popT (l : List ByteArray) (front : Bool) : ByteArray := if front = true then at_ l 0 else at_ l (l.length - 1)
def setB (l : List ByteArray) : Bool := ascB l && okB l
end Go.Proofs.Ytndegickekjkjaa
