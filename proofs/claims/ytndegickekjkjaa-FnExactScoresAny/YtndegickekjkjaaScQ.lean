/- ScoresPut: the model's. -/
import Derived.Test.YtndegickekjkjaaScP
import Derived.Test.YtndegickekjkjaaScPo
import Derived.Test.YtndegickekjkjaaAq
import Derived.Test.YtndegickekjkjaaTk
namespace Go.Proofs.Ytndegickekjkjaa
open Go.RowKit

def scPutL (l : List (ByteArray × Int)) (x : ByteArray × Int) : List (ByteArray × Int) := scIns (scFl l x.1) x
def scPutB (l : List (ByteArray × Int)) (x : ByteArray × Int) : Bool := scOkB l && scOkB (scPutL l x)
def scPutF (l : List (ByteArray × Int)) (x : ByteArray × Int) : Bool := scPutB l x && (((scFl l x.1).length : Int) == (l.length : Int))
def scPutR (l : List (ByteArray × Int)) (x : ByteArray × Int) : List (ByteArray × Int) := if scOkB l = true then (if scOkB (scPutL l x) = true then scPutL l x else l) else []
theorem sc_one_at {w : World} {B : Nat} {y : ByteArray × Int} {t : TypeId} {fr : Nat × Nat} (h : w.heap[B]? = some (.cells #[.string y.1, .int .i64 y.2] t fr)) : ReadsR scC 2 w (.slice (some ⟨B, 0, none⟩) 1 1) [y] := by
  refine .inr ⟨by simp, B, 0, 1, rfl, (Array.getElem?_eq_some_iff.1 h).1, by simp, by unfold maxLen; omega, fun k x hk => ?_⟩
  match k, hk with
  | 0, hk =>
    cases hk
    intro j u hu
    rw [Nat.zero_mul, Nat.zero_add, cell_of_row _ _ _ _ _ _ h]
    match j, hu with
    | 0, hu => cases hu; rfl
    | 1, hu => cases hu; rfl
    | j + 2, hu => simp [scC] at hu
  | k + 1, hk => simp at hk

end Go.Proofs.Ytndegickekjkjaa
