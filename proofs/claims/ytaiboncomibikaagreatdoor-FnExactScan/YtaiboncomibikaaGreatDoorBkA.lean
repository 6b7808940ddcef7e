/- The program's BaseKeys. -/
import Derived.Test.YtaiboncomibikaaGreatDoorMatchI
import Derived.Test.YtaiboncomibikaaGreatDoorEnN
import Derived.Test.YtaiboncomibikaaGreatDoorOwn
import Derived.Maps.AppendAt
import Derived.Laws.AppendOwn
namespace Go.Proofs.YtaiboncomibikaaGreatDoor
open Go.RowKit
set_option linter.unusedVariables false

/-- keys of rows that are as a pattern -/
def kk (p : ByteArray) (l : List Ent) : List ByteArray := (l.filter (fun e => mtch p.data.toList e.key.data.toList)).map Ent.key
def goodK (n : Int) (l : List Ent) (p : ByteArray) : Bool := bsOkB n l && decide ((p.size : Int) ≤ 12)
def keysE (n : Int) (l : List Ent) (p : ByteArray) : List ByteArray := if goodK n l p = true then kk p l else []
theorem kk_hit {p : ByteArray} {l : List Ent} {e : Ent} (h : mtch p.data.toList e.key.data.toList = true) : kk p (l ++ [e]) = kk p l ++ [e.key] := by unfold kk; simp [h]
theorem kk_miss {p : ByteArray} {l : List Ent} {e : Ent} (h : mtch p.data.toList e.key.data.toList = false) : kk p (l ++ [e]) = kk p l := by unfold kk; simp [h]
theorem kk_len (p : ByteArray) (l : List Ent) : (kk p l).length ≤ l.length := by unfold kk; rw [List.length_map]; exact List.length_filter_le _ _
theorem take_snocE {l : List Row} {j : Nat} (h : j < l.length) : (l.take (j + 1)).map Row.e = (l.take j).map Row.e ++ [(esAt l j).e] := by
  rw [List.take_succ_eq_append_getElem h, List.map_append, esAt_get h]; rfl
theorem below_drewN (w : World) (m : Nat) : Below w.heap.size w (w.drewN m) := ⟨rfl, rfl, rfl, Nat.le_refl _, fun _ _ => rfl⟩
end Go.Proofs.YtaiboncomibikaaGreatDoor
