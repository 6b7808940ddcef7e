/- ScoresBy: the program's and the model's. -/
import Derived.Test.YtndegickekjkjaaScF
import Derived.Test.YtndegickekjkjaaScG
import Derived.Maps.AppendAt
import Derived.Laws.AppendOwnNone
namespace Go.Proofs.Ytndegickekjkjaa
open Go.RowKit

theorem news_new (w : World) (cs : Array Value) (t : TypeId) : ∀ j u, cs.toList[j]? = some u → (w.alloc (.cells cs t)).cell? ((⟨w.heap.size, 0, none⟩ : Addr).add j) = some u := by
  intro j u hu
  rw [Addr.add_mid, Nat.zero_add, cell_of_row _ _ _ _ _ _ (heap_alloc_new w _)]
  simpa using hu
def scIn (lo hi : Int) (x : ByteArray × Int) : Bool := decide (lo ≤ x.2) && decide (x.2 ≤ hi)
def scBy (l : List (ByteArray × Int)) (lo hi : Int) : List (ByteArray × Int) := l.filter (scIn lo hi)
def scByR (l : List (ByteArray × Int)) (lo hi : Int) : List (ByteArray × Int) := if scOkB l = true then scBy l lo hi else []
theorem scBy_hit {l : List (ByteArray × Int)} {lo hi : Int} {k : Nat} (hk : k < l.length) (h : scIn lo hi (scAt l k) = true) : scBy (l.take (k + 1)) lo hi = scBy (l.take k) lo hi ++ [scAt l k] := by
  rw [List.take_succ_eq_append_getElem hk, ← scAt_get hk]; unfold scBy; simp [h]
theorem scBy_miss {l : List (ByteArray × Int)} {lo hi : Int} {k : Nat} (hk : k < l.length) (h : scIn lo hi (scAt l k) = false) : scBy (l.take (k + 1)) lo hi = scBy (l.take k) lo hi := by
  rw [List.take_succ_eq_append_getElem hk, ← scAt_get hk]; unfold scBy; simp [h]
theorem scBy_len (l : List (ByteArray × Int)) (lo hi : Int) : (scBy l lo hi).length ≤ l.length := List.length_filter_le _ _

end Go.Proofs.Ytndegickekjkjaa
