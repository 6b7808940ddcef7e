/- The laws' own helpers over slices of Pair, the loops. -/
import Derived.Test.YtdaahcenplepjaaPrA
namespace Go.Proofs.Ytdaahcenplepjaa
open Go.RowKit

def prFit (l : List (ByteArray × ByteArray)) : Prop := ∀ x ∈ l, x.1.size ≤ maxLen ∧ x.2.size ≤ maxLen

/-- the first k rows, the rest nothing -/
def prPart (l : List (ByteArray × ByteArray)) (k : Nat) : List (ByteArray × ByteArray) := l.take k ++ List.replicate (l.length - k) prZ
theorem prPart_len {l : List (ByteArray × ByteArray)} {k : Nat} (h : k ≤ l.length) : (prPart l k).length = l.length := by simp [prPart]; omega
theorem prPart_at {l : List (ByteArray × ByteArray)} {k : Nat} (h : k < l.length) : (prPart l k)[k]? = some prZ := by
  unfold prPart; rw [List.getElem?_append_right (by simp; omega), List.getElem?_replicate, if_pos (by simp; omega)]
theorem prPart_set {l : List (ByteArray × ByteArray)} {k : Nat} (h : k < l.length) : (prPart l k).set k (prAt l k) = prPart l (k + 1) := by
  unfold prPart
  have e : l.length - k = (l.length - (k + 1)) + 1 := by omega
  rw [List.set_append_right _ _ (by simp; omega), e, List.replicate_succ]
  have e2 : k - (l.take k).length = 0 := by simp; omega
  rw [e2, List.set_cons_zero, List.take_succ_eq_append_getElem h, prAt_get h, List.append_assoc]
  rfl
theorem prPart_all (l : List (ByteArray × ByteArray)) : prPart l l.length = l := by simp [prPart]
theorem prPart_none (l : List (ByteArray × ByteArray)) : prPart l 0 = List.replicate l.length prZ := by simp [prPart]
theorem prInfo : (Try.prog.info? 65).map (fun i => (i.zero, i.size, i.bytes)) = some (some (.agg #[.string ByteArray.empty, .string ByteArray.empty]), 2, 32) := by kernel_rfl

def prEqv (x y : ByteArray × ByteArray) : Bool := decide (x = y)
theorem pr_held {wr w2 w3 : World} {b o b' o' : Nat} {x y x' y' : Value} (hb : b < wr.heap.size) (hb' : b' < wr.heap.size) (h3 : Below w2.heap.size w2 w3)
    (h : w2.cell? ⟨b, o, none⟩ = some x ∧ w2.cell? ⟨b, o + 1, none⟩ = some y ∧ w2.cell? ⟨b', o', none⟩ = some x' ∧ w2.cell? ⟨b', o' + 1, none⟩ = some y' ∧ Below wr.heap.size wr w2) :
    w3.cell? ⟨b, o, none⟩ = some x ∧ w3.cell? ⟨b, o + 1, none⟩ = some y ∧ w3.cell? ⟨b', o', none⟩ = some x' ∧ w3.cell? ⟨b', o' + 1, none⟩ = some y' ∧ Below wr.heap.size wr w3 := by
  obtain ⟨h0, h1, h2, h4, hB⟩ := h
  have hs := hB.size
  exact ⟨(h3.cell (p := ⟨b, o, none⟩) (by show b < _; omega)).trans h0, (h3.cell (p := ⟨b, o + 1, none⟩) (by show b < _; omega)).trans h1, (h3.cell (p := ⟨b', o', none⟩) (by show b' < _; omega)).trans h2, (h3.cell (p := ⟨b', o' + 1, none⟩) (by show b' < _; omega)).trans h4, hB.trans (h3.mono hs)⟩
def prAlike (a b : List (ByteArray × ByteArray)) (k : Nat) : Prop := ∀ j, j < k → prAt a j = prAt b j
theorem prAlike_all {a b : List (ByteArray × ByteArray)} (h : a.length = b.length) (hk : prAlike a b a.length) : a = b := by
  apply List.ext_getElem h
  intro i h1 h2
  have := hk i h1
  rwa [prAt_get h1, prAt_get h2] at this
theorem prAlike_not {a b : List (ByteArray × ByteArray)} {k : Nat} (h : prAt a k ≠ prAt b k) : decide (a = b) = false := by
  simp only [decide_eq_false_iff_not]; intro e; rw [e] at h; exact h rfl

end Go.Proofs.Ytdaahcenplepjaa
