/- ScoresDrop: the model's. -/
import Derived.Test.YtndegickekjkjaaScDr
import Derived.Test.YtndegickekjkjaaScN
namespace Go.Proofs.Ytndegickekjkjaa
open Go.RowKit

def scNe (s : ByteArray) (x : ByteArray × Int) : Bool := !(x.1.toList == s.toList)
def scFl (l : List (ByteArray × Int)) (s : ByteArray) : List (ByteArray × Int) := l.filter (scNe s)
theorem scNe_iff {s : ByteArray} {x : ByteArray × Int} : scNe s x = !decide (x.1 = s) := by
  unfold scNe
  by_cases h : x.1 = s
  · simp [h]
  · rw [decide_eq_false h]
    cases hh : (x.1.toList == s.toList) with
    | false => rfl
    | true => exact absurd (sc_sEq hh) h
theorem scFl_hit {l : List (ByteArray × Int)} {s : ByteArray} {k : Nat} (hk : k < l.length) (h : scNe s (scAt l k) = true) : scFl (l.take (k + 1)) s = scFl (l.take k) s ++ [scAt l k] := by
  rw [List.take_succ_eq_append_getElem hk, ← scAt_get hk]; unfold scFl; simp [h]
theorem scFl_miss {l : List (ByteArray × Int)} {s : ByteArray} {k : Nat} (hk : k < l.length) (h : scNe s (scAt l k) = false) : scFl (l.take (k + 1)) s = scFl (l.take k) s := by
  rw [List.take_succ_eq_append_getElem hk, ← scAt_get hk]; unfold scFl; simp [h]
theorem scFl_len (l : List (ByteArray × Int)) (s : ByteArray) : (scFl l s).length ≤ l.length := List.length_filter_le _ _
theorem scFl_erase (s : ByteArray) : ∀ (l : List (ByteArray × Int)), l.Pairwise (fun x y => x.1 ≠ y.1) → scFl l s = l.eraseIdx (scIdx l s)
  | [], _ => rfl
  | x :: l, h => by
    rw [List.pairwise_cons] at h
    unfold scFl scIdx
    rw [List.findIdx_cons]
    by_cases e : x.1 = s
    · rw [decide_eq_true e, List.filter_cons, scNe_iff, decide_eq_true e]
      simp only [Bool.not_true, Bool.false_eq_true, if_false, cond_true, List.eraseIdx_cons_zero]
      rw [List.filter_eq_self]
      intro y hy
      rw [scNe_iff, decide_eq_false (fun e2 => h.1 y hy (e.trans e2.symm))]; rfl
    · rw [decide_eq_false e, List.filter_cons, scNe_iff, decide_eq_false e]
      simp only [Bool.not_false, if_true, cond_false, List.eraseIdx_cons_succ]
      have := scFl_erase s l h.2
      unfold scFl scIdx at this
      rw [this]
theorem scOk_pair {l : List (ByteArray × Int)} (h : scOkB l = true) : l.Pairwise (fun x y => x.1 ≠ y.1) := by
  unfold scOkB scAllB at h
  rw [Bool.and_eq_true, List.all_eq_true] at h
  rw [List.pairwise_iff_getElem]
  intro i j hi hj hij e
  have := h.2 j (List.mem_range.2 hj)
  unfold scRowOk at this
  simp only [Bool.and_eq_true, decide_eq_true_eq] at this
  have h2 := this.2
  have hlt : scIdx l (scAt l j).1 = j := by
    unfold scPlc at h2
    split at h2 <;> omega
  unfold scIdx at hlt
  have hno := List.not_of_lt_findIdx (p := fun y : ByteArray × Int => decide (y.1 = (scAt l j).1)) (xs := l) (i := i) (by rw [hlt]; exact hij)
  simp only [decide_eq_false_iff_not] at hno
  exact hno (e.trans (congrArg Prod.fst (scAt_get hj)).symm)
theorem scWo_lt {l : List (ByteArray × Int)} {s : ByteArray} : decide ((scWo l s).length < l.length) = decide (0 ≤ scPlc l s) := by
  unfold scWo
  rw [List.length_eraseIdx]
  unfold scPlc
  split <;> simp <;> omega

end Go.Proofs.Ytndegickekjkjaa
