/- Decimals: the model's l1Dec below a hundred. -/
import Derived.Test.YtnpkegmkmhambaaChecked
import Derived.WalkKit
import Derived.WalkSpells
import Derived.Outline
import Derived.Laws.BytesArg
import Derived.Deep.RegionWith
import Derived.Deep.QuietTactic
import Derived.Below
import Derived.Lib.Strings
import Derived.Lib.Itoa
namespace Go.Proofs.Ytnpkegmkmhambaa
open Go.RowKit

def decS : Nat → Nat → ByteArray
  | 0, n => strOfNums [48 + (n : Int)]
  | f + 1, n => if n < 10 then strOfNums [48 + (n : Int)] else decS f (n / 10) ++ strOfNums [48 + (n : Int) % 10]
theorem decS_size (f n : Nat) : (decS f n).size ≤ f + 1 := by
  induction f generalizing n with
  | zero => simp [decS, strOfNums_size]
  | succ f ih =>
    unfold decS; split
    · rw [strOfNums_size]; simp
    · rw [ByteArray.size_append, strOfNums_size]; have := ih (n / 10); simp; omega
theorem cv_any (x : Int) (W : World) (g : Nat) (hc : W.cell? ⟨g, 0, none⟩ = some (.int .u8 x)) : (convert 22 9 (.slice (some ⟨g, 0, none⟩) 1 1)).run Try.prog W = .ok (.string (strOfNums [x])) W := by
  refine run_convert_bytes_arg (P := Try.prog) W 22 5 Try.underlying22 Try.underlying5 g 0 1 1 [x] rfl (fun i hi => ?_) 9 Try.underlying9
  obtain rfl : i = 0 := by omega
  exact hc
theorem held_new {w2 w3 : World} {x : Value} {t : TypeId} (h3 : Below (w2.alloc (.cells #[x] t)).heap.size (w2.alloc (.cells #[x] t)) w3) : w3.cell? ⟨w2.heap.size, 0, none⟩ = some x := by
  rw [h3.cell (p := ⟨w2.heap.size, 0, none⟩) (by simp), cell_of_row _ _ _ _ _ _ (heap_alloc_new w2 _)]; rfl
theorem held_newD {w2 w3 : World} {x : Value} {t : TypeId} (h3 : Below (w2.alloc (.cells #[x] t)).drew.heap.size (w2.alloc (.cells #[x] t)).drew w3) : w3.cell? ⟨w2.heap.size, 0, none⟩ = some x :=
  held_new (w2 := w2) (x := x) (t := t) ⟨h3.os, h3.tape, h3.output, h3.size, h3.block⟩
theorem below_drew0 {w w3 : World} (h : Below w.drew.heap.size w.drew w3) : Below w.heap.size w w3 := ⟨h.os, h.tape, h.output, h.size, h.block⟩
theorem below_drew1 {w w3 : World} {o : Obj} (h : Below (w.alloc o).drew.heap.size (w.alloc o).drew w3) : Below w.heap.size w w3 :=
  ((Below.refl _ w).alloc (Nat.le_refl _) o).trans ((below_drew0 h).mono (by simp))
theorem wrap_mid {a : Int} (h0 : -2000000000000000000 ≤ a) (h1 : a ≤ 2000000000000000000) : IntKind.i64.wrap a = a := by
  unfold IntKind.wrap; simp [IntKind.signed, IntKind.bits]; omega
end Go.Proofs.Ytnpkegmkmhambaa
