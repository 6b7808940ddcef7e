/- The place where a row of Pair comes; rows with one more. Plain facts. -/
import Derived.Test.YtdaahcenplepjaaPrC
namespace Go.Proofs.Ytdaahcenplepjaa
open Go.RowKit

def prIPos (r : List (ByteArray × ByteArray)) (x : (ByteArray × ByteArray)) : Nat := r.findIdx (fun y => !prAheadB y x)
def prILow (r : List (ByteArray × ByteArray)) (x : (ByteArray × ByteArray)) (k : Nat) : Prop := ∀ j, j < k → prAheadB (prAt r j) x = true
theorem prIPos_le (r : List (ByteArray × ByteArray)) (x : (ByteArray × ByteArray)) : prIPos r x ≤ r.length := List.findIdx_le_length
theorem prIPos_at {r : List (ByteArray × ByteArray)} {x : (ByteArray × ByteArray)} {k : Nat} (hk : k < r.length) (hl : prILow r x k) (h : prAheadB (prAt r k) x = false) : prIPos r x = k := by
  unfold prIPos
  rw [List.findIdx_eq hk]
  refine ⟨by rw [← prAt_get hk, h]; rfl, fun j hj => ?_⟩
  have := hl j hj
  rw [prAt_get (by omega)] at this
  rw [this]; rfl
theorem prIPos_end {r : List (ByteArray × ByteArray)} {x : (ByteArray × ByteArray)} (hl : prILow r x r.length) : prIPos r x = r.length := by
  unfold prIPos
  rw [List.findIdx_eq_length]
  intro y hy
  obtain ⟨j, hj, rfl⟩ := List.getElem_of_mem hy
  have := hl j hj
  rw [prAt_get hj] at this
  rw [this]; rfl
theorem prILow_step {r : List (ByteArray × ByteArray)} {x : (ByteArray × ByteArray)} {k : Nat} (hn : prILow r x k) (h : prAheadB (prAt r k) x = true) : prILow r x (k + 1) := by
  intro j hj
  by_cases e : j = k
  · rw [e]; exact h
  · exact hn j (by omega)
def prIns (r : List (ByteArray × ByteArray)) (x : (ByteArray × ByteArray)) : List (ByteArray × ByteArray) := r.take (prIPos r x) ++ x :: r.drop (prIPos r x)
theorem prIns_len (r : List (ByteArray × ByteArray)) (x : (ByteArray × ByteArray)) : (prIns r x).length = r.length + 1 := by
  unfold prIns
  have := prIPos_le r x
  simp; omega
end Go.Proofs.Ytdaahcenplepjaa
