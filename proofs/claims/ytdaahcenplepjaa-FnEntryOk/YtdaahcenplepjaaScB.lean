/- The laws' own helpers over slices of Score, the loops. -/
import Derived.Test.YtdaahcenplepjaaScA
namespace Go.Proofs.Ytdaahcenplepjaa
open Go.RowKit

def scFit (l : List (ByteArray × Int)) : Prop := ∀ x ∈ l, x.1.size ≤ maxLen

/-- the first k rows, the rest nothing -/
def scPart (l : List (ByteArray × Int)) (k : Nat) : List (ByteArray × Int) := l.take k ++ List.replicate (l.length - k) scZ
theorem scPart_len {l : List (ByteArray × Int)} {k : Nat} (h : k ≤ l.length) : (scPart l k).length = l.length := by simp [scPart]; omega
theorem scPart_at {l : List (ByteArray × Int)} {k : Nat} (h : k < l.length) : (scPart l k)[k]? = some scZ := by
  unfold scPart; rw [List.getElem?_append_right (by simp; omega), List.getElem?_replicate, if_pos (by simp; omega)]
theorem scPart_set {l : List (ByteArray × Int)} {k : Nat} (h : k < l.length) : (scPart l k).set k (scAt l k) = scPart l (k + 1) := by
  unfold scPart
  have e : l.length - k = (l.length - (k + 1)) + 1 := by omega
  rw [List.set_append_right _ _ (by simp; omega), e, List.replicate_succ]
  have e2 : k - (l.take k).length = 0 := by simp; omega
  rw [e2, List.set_cons_zero, List.take_succ_eq_append_getElem h, scAt_get h, List.append_assoc]
  rfl
theorem scPart_all (l : List (ByteArray × Int)) : scPart l l.length = l := by simp [scPart]
theorem scPart_none (l : List (ByteArray × Int)) : scPart l 0 = List.replicate l.length scZ := by simp [scPart]
theorem scInfo : (Try.prog.info? 62).map (fun i => (i.zero, i.size, i.bytes)) = some (some (.agg #[.string ByteArray.empty, .int .i64 0]), 2, 24) := by kernel_rfl

def scEqv (x y : ByteArray × Int) : Bool := decide (x = y)
theorem sc_held {wr w2 w3 : World} {b o b' o' : Nat} {x y x' y' : Value} (hb : b < wr.heap.size) (hb' : b' < wr.heap.size) (h3 : Below w2.heap.size w2 w3)
    (h : w2.cell? ⟨b, o, none⟩ = some x ∧ w2.cell? ⟨b, o + 1, none⟩ = some y ∧ w2.cell? ⟨b', o', none⟩ = some x' ∧ w2.cell? ⟨b', o' + 1, none⟩ = some y' ∧ Below wr.heap.size wr w2) :
    w3.cell? ⟨b, o, none⟩ = some x ∧ w3.cell? ⟨b, o + 1, none⟩ = some y ∧ w3.cell? ⟨b', o', none⟩ = some x' ∧ w3.cell? ⟨b', o' + 1, none⟩ = some y' ∧ Below wr.heap.size wr w3 := by
  obtain ⟨h0, h1, h2, h4, hB⟩ := h
  have hs := hB.size
  exact ⟨(h3.cell (p := ⟨b, o, none⟩) (by show b < _; omega)).trans h0, (h3.cell (p := ⟨b, o + 1, none⟩) (by show b < _; omega)).trans h1, (h3.cell (p := ⟨b', o', none⟩) (by show b' < _; omega)).trans h2, (h3.cell (p := ⟨b', o' + 1, none⟩) (by show b' < _; omega)).trans h4, hB.trans (h3.mono hs)⟩
def scAlike (a b : List (ByteArray × Int)) (k : Nat) : Prop := ∀ j, j < k → scAt a j = scAt b j
theorem scAlike_all {a b : List (ByteArray × Int)} (h : a.length = b.length) (hk : scAlike a b a.length) : a = b := by
  apply List.ext_getElem h
  intro i h1 h2
  have := hk i h1
  rwa [scAt_get h1, scAt_get h2] at this
theorem scAlike_not {a b : List (ByteArray × Int)} {k : Nat} (h : scAt a k ≠ scAt b k) : decide (a = b) = false := by
  simp only [decide_eq_false_iff_not]; intro e; rw [e] at h; exact h rfl

end Go.Proofs.Ytdaahcenplepjaa
