/- The program's OrderGet is the machine's run. -/
import Derived.Test.YtfoflnolmlgnfaaDoorStepE
namespace Go.Proofs.YtfoflnolmlgnfaaDoor
open Go.RowKit

def σ0 : MS := ⟨35, [], [], 0, 0⟩
def mach : MS → List UInt8 → Nat → List ByteArray × Int
  | _, [], _ => ([], 0)
  | σ, c :: t, k => if stepB σ c = true then (if wholeB (stepS σ c).m (stepS σ c).ws.length = true then ((stepS σ c).ws, (k : Int) + 1) else mach (stepS σ c) t (k + 1)) else ([], -1)
theorem bytes_at (s : ByteArray) (k : Nat) (h : k < s.size) : s.data.toList.drop k = s[k] :: s.data.toList.drop (k + 1) := by
  rw [List.drop_eq_getElem_cons (l := s.data.toList) (i := k) (by simpa using h)]; rfl
theorem mach_no {σ : MS} {s : ByteArray} {k : Nat} (h : k < s.size) (hb : stepB σ s[k] = false) : mach σ (s.data.toList.drop k) k = ([], -1) := by
  rw [bytes_at s k h, mach, if_neg (by rw [hb]; decide)]
theorem mach_whole {σ : MS} {s : ByteArray} {k : Nat} (h : k < s.size) (hb : stepB σ s[k] = true) (hw : wholeB (stepS σ s[k]).m (stepS σ s[k]).ws.length = true) : mach σ (s.data.toList.drop k) k = ((stepS σ s[k]).ws, (k : Int) + 1) := by
  rw [bytes_at s k h, mach, if_pos hb, if_pos hw]
theorem mach_on {σ : MS} {s : ByteArray} {k : Nat} (h : k < s.size) (hb : stepB σ s[k] = true) (hw : wholeB (stepS σ s[k]).m (stepS σ s[k]).ws.length = false) : mach σ (s.data.toList.drop k) k = mach (stepS σ s[k]) (s.data.toList.drop (k + 1)) (k + 1) := by
  rw [bytes_at s k h, mach, if_pos hb, if_neg (by rw [hw]; decide)]
theorem mach_end {σ : MS} {s : ByteArray} {k : Nat} (h : ¬ k < s.size) : mach σ (s.data.toList.drop k) k = ([], 0) := by
  rw [List.drop_eq_nil_of_le (by simp; omega), mach]
theorem rs_start (w : World) : RS (w.alloc (.cells #[.pointer none, .slice none 0 0, stp 35 w.heap.size, .slice none 0 0, .int .i64 0, .int .i64 0] 69)) w.heap.size w.heap.size σ0 := by
  refine ⟨.pointer none, .slice none 0 0, self_none _, ⟨Nat.le_refl _, .slice none 0 0, heap_alloc_new w _, World.ownsRowF_nil _ _ _ _, by simp [Value.ownBlock], fun _ => rfl⟩, World.ownsRow_nil _ _ _ _⟩
theorem rs_drew {w : World} {B r : Nat} {σ : MS} (h : RS w B r σ) (m : Nat) : RS (w.drewN m) B r σ := h
end Go.Proofs.YtfoflnolmlgnfaaDoor
