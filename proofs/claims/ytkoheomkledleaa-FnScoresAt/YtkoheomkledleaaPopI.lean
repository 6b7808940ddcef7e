/- The program's ListPop. -/
import Derived.Test.YtkoheomkledleaaRingC
namespace Go.Proofs.Ytkoheomkledleaa
open Go.RowKit

/-- a ring that was handed over by value, in memory of its own -/
def stored (w : World) (sl : List ByteArray) (f n : Nat) : World := (w.alloc (.cells (ringArr none16 0 0) 88)).setRow w.heap.size (ringArr sl f n)
theorem stored_size (w : World) (sl : List ByteArray) (f n : Nat) : (stored w sl f n).heap.size = w.heap.size + 1 := by simp [stored]
theorem ring_stored (w : World) {sl : List ByteArray} {f n : Nat} (hl : sl.length = 16) (hf : f < 16) (hn : n ≤ 16) : RingAt (stored w sl f n) w.heap.size sl f n :=
  ⟨hl, hf, hn, setRow_heap _ _ _ _ _ _ (heap_alloc_new w _)⟩
theorem below_stored {B : Nat} {a w : World} (h : Below B a w) (hB : B ≤ w.heap.size) (sl : List ByteArray) (f n : Nat) : Below B a (stored w sl f n) :=
  below_setRow (h.alloc hB _) hB _
theorem infoRs {sl : List ByteArray} {f n : Nat} (h : sl.length = 16) : (Try.prog.info? 88).map (·.size) = some (ringArr sl f n).size := by rw [infoR, ringArr_len h]
theorem sizeRs {sl : List ByteArray} {f n : Nat} (h : sl.length = 16) : (ringArr none16 0 0).size = (ringArr sl f n).size := by rw [ringArr_len h]; rfl





theorem owns_nil (w : World) (base : Nat) : Owns w base (.slice none 0 0) [] := World.ownsRow_nil _ _ _ _

theorem ringL_popBack (sl : List ByteArray) (f n : Nat) : ringL sl f (n - 1) = (ringL sl f n).dropLast := by
  cases n with
  | zero => rfl
  | succ n => unfold ringL; rw [List.range_succ, List.map_append]; simp
theorem ringL_popFront (sl : List ByteArray) (f n : Nat) : ringL sl ((f + 1) % 16) (n - 1) = (ringL sl f n).tail := by
  cases n with
  | zero => rfl
  | succ n =>
    unfold ringL
    rw [List.range_succ_eq_map, List.map_cons, List.tail_cons, List.map_map]
    apply List.map_congr_left
    intro i _
    show at_ _ (((f + 1) % 16 + i) % 16) = at_ _ ((f + (i + 1)) % 16)
    congr 1; omega
theorem ringL_at {sl : List ByteArray} {f n i : Nat} (h : i < n) : at_ (ringL sl f n) i = at_ sl ((f + i) % 16) := by
  rw [at_lt (by rw [ringL_len]; exact h)]; simp [ringL]

theorem ret3 {u : Value} {a b : ByteArray} {c : Bool} (h : a = b) : Ending.returned (.tuple #[u, .string a, .bool c]) = .returned (.tuple #[u, .string b, .bool c]) := by rw [h]

end Go.Proofs.Ytkoheomkledleaa
