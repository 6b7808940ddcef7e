/- The place where a row of Score comes; rows with one more. Plain facts. -/
import Derived.Test.YtndegickekjkjaaScC
namespace Go.Proofs.Ytndegickekjkjaa
open Go.RowKit

def scIPos (r : List (ByteArray × Int)) (x : (ByteArray × Int)) : Nat := r.findIdx (fun y => !scAheadB y x)
def scILow (r : List (ByteArray × Int)) (x : (ByteArray × Int)) (k : Nat) : Prop := ∀ j, j < k → scAheadB (scAt r j) x = true
theorem scIPos_le (r : List (ByteArray × Int)) (x : (ByteArray × Int)) : scIPos r x ≤ r.length := List.findIdx_le_length
theorem scIPos_at {r : List (ByteArray × Int)} {x : (ByteArray × Int)} {k : Nat} (hk : k < r.length) (hl : scILow r x k) (h : scAheadB (scAt r k) x = false) : scIPos r x = k := by
  unfold scIPos
  rw [List.findIdx_eq hk]
  refine ⟨by rw [← scAt_get hk, h]; rfl, fun j hj => ?_⟩
  have := hl j hj
  rw [scAt_get (by omega)] at this
  rw [this]; rfl
theorem scIPos_end {r : List (ByteArray × Int)} {x : (ByteArray × Int)} (hl : scILow r x r.length) : scIPos r x = r.length := by
  unfold scIPos
  rw [List.findIdx_eq_length]
  intro y hy
  obtain ⟨j, hj, rfl⟩ := List.getElem_of_mem hy
  have := hl j hj
  rw [scAt_get hj] at this
  rw [this]; rfl
theorem scILow_step {r : List (ByteArray × Int)} {x : (ByteArray × Int)} {k : Nat} (hn : scILow r x k) (h : scAheadB (scAt r k) x = true) : scILow r x (k + 1) := by
  intro j hj
  by_cases e : j = k
  · rw [e]; exact h
  · exact hn j (by omega)
def scIns (r : List (ByteArray × Int)) (x : (ByteArray × Int)) : List (ByteArray × Int) := r.take (scIPos r x) ++ x :: r.drop (scIPos r x)
theorem scIns_len (r : List (ByteArray × Int)) (x : (ByteArray × Int)) : (scIns r x).length = r.length + 1 := by
  unfold scIns
  have := scIPos_le r x
  simp; omega
end Go.Proofs.Ytndegickekjkjaa
