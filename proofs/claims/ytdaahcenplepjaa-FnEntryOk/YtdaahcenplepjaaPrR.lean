/- A field put into fields that are ok: the program's list and the model's are one. Plain facts. -/
import Derived.Test.YtdaahcenplepjaaPrQ
import Derived.Test.YtdaahcenplepjaaPrWk
namespace Go.Proofs.Ytdaahcenplepjaa
open Go.RowKit

theorem prLt_asymm {a b : ByteArray} (h : prLt a b = true) : prLt b a = false := by
  cases hb : prLt b a with
  | false => rfl
  | true =>
    unfold prLt at h hb
    rw [bytesLess_eq] at h hb
    exact absurd (List.lt_trans (by simpa using h) (by simpa using hb)) (List.lt_irrefl _)
theorem prIPos_eq (l : List (ByteArray × ByteArray)) (y : ByteArray × ByteArray) : prIPos l y = prPos l y.1 := rfl
theorem prAt_take {l : List (ByteArray × ByteArray)} {k j : Nat} (hk : k ≤ l.length) (hj : j < k) (r : List (ByteArray × ByteArray)) : prAt (l.take k ++ r) j = prAt l j := by
  rw [prAt_get (by rw [List.length_append, List.length_take]; omega), prAt_get (show j < l.length by omega), List.getElem_append_left (by rw [List.length_take]; omega), List.getElem_take]
theorem new_put {l : List (ByteArray × ByteArray)} (y : ByteArray × ByteArray) (h : prOkB l = true) : prNew l y = prPutL l y := by
  have hle := prPos_le l y.1
  unfold prNew prPutL
  cases ht : prThere l y.1 with
  | false =>
    rw [prWo_no h ht]; unfold prIns; rw [prIPos_eq]; rfl
  | true =>
    rw [prWo_pos h ht, if_pos rfl]
    have ht' := ht
    unfold prThere at ht'
    simp only [Bool.and_eq_true, decide_eq_true_eq] at ht'
    obtain ⟨hlt, hs⟩ := ht'
    have hlow : prILow (l.take (prPos l y.1) ++ l.drop (prPos l y.1 + 1)) y (prPos l y.1) := by
      intro j hj
      rw [prAt_take hle hj]
      exact prPos_low l y.1 j hj
    have hpos : prIPos (l.take (prPos l y.1) ++ l.drop (prPos l y.1 + 1)) y = prPos l y.1 := by
      have hlen : (l.take (prPos l y.1) ++ l.drop (prPos l y.1 + 1)).length = l.length - 1 := by rw [List.length_append, List.length_take, List.length_drop]; omega
      by_cases he : prPos l y.1 + 1 < l.length
      · refine prIPos_at (by rw [hlen]; omega) hlow ?_
        have e : prAt (l.take (prPos l y.1) ++ l.drop (prPos l y.1 + 1)) (prPos l y.1) = prAt l (prPos l y.1 + 1) := by
          rw [prAt_get (by rw [hlen]; omega), prAt_get he, List.getElem_append_right (by rw [List.length_take]; omega), List.getElem_drop]
          congr 1
          rw [List.length_take]; omega
        rw [e]
        have := prAsc_to (prAll_of h) 0 (prPos l y.1) (by omega)
        rw [Nat.add_zero, hs] at this
        exact prLt_asymm this
      · have := prIPos_end (r := l.take (prPos l y.1) ++ l.drop (prPos l y.1 + 1)) (x := y) (by rw [hlen, show l.length - 1 = prPos l y.1 by omega]; exact hlow)
        rw [this, hlen]; omega
    unfold prIns
    rw [hpos, List.take_append_of_le_length (by rw [List.length_take]; omega), List.take_take, Nat.min_self]
    have e2 : (l.take (prPos l y.1) ++ l.drop (prPos l y.1 + 1)).drop (prPos l y.1) = l.drop (prPos l y.1 + 1) := by
      rw [List.drop_append, List.drop_of_length_le (by rw [List.length_take]; omega), List.length_take, Nat.min_eq_left (by omega), Nat.sub_self]; rfl
    rw [e2, List.set_eq_take_append_cons_drop, if_pos hlt]
end Go.Proofs.Ytdaahcenplepjaa
