/- Ids: which is ahead, the program's and the model's; made of an argument. No condition. -/
import Derived.Test.YtdmdkfdikjhacaaDoorRows
import Derived.WalkKit
import Derived.WalkSpells
import Derived.Outline
import Derived.Below
import Derived.Deep.RegionWith
import Derived.Deep.RegionHeld3
import Derived.ProofKit
import Derived.OpenShut
import Derived.OwnWalk
namespace Go.Proofs.YtdmdkfdikjhacaaDoor
open Go.RowKit

theorem id_ret_bool {a b : Bool} (h : a = b) : Ending.returned (.bool a) = .returned (.bool b) := by rw [h]
theorem id_ret_int {k : IntKind} {a b : Int} (h : a = b) : Ending.returned (.int k a) = .returned (.int k b) := by rw [h]

/-- an id as a value -/
def idV (x : Int × Int) : Value := .agg #[.int .i64 x.1, .int .i64 x.2]
def idLessB (x y : Int × Int) : Bool := decide (x.1 < y.1) || (decide (x.1 = y.1) && decide (x.2 < y.2))
def cmpI (a b : Int) : Int := if a < b then -1 else if b < a then 1 else 0
def orI (a b : Int) : Int := if a = 0 then b else a
def idOrd (x y : Int × Int) : Int := orI (cmpI x.1 y.1) (cmpI x.2 y.2)
theorem cmpI_lt {a b : Int} (h : a < b) : cmpI a b = -1 := by unfold cmpI; rw [if_pos h]
theorem cmpI_gt {a b : Int} (h : b < a) : cmpI a b = 1 := by unfold cmpI; rw [if_neg (by omega), if_pos h]
theorem cmpI_eq {a b : Int} (h : a = b) : cmpI a b = 0 := by unfold cmpI; rw [if_neg (by omega), if_neg (by omega)]
theorem idOrd_less (x y : Int × Int) : decide (idOrd x y < 0) = idLessB x y := by
  unfold idOrd idLessB orI
  rcases Int.lt_trichotomy x.1 y.1 with h | h | h
  · rw [cmpI_lt h]; simp [h]
  · rw [cmpI_eq h, if_pos rfl]
    rcases Int.lt_trichotomy x.2 y.2 with g | g | g
    · rw [cmpI_lt g]; simp [h, g]
    · rw [cmpI_eq g]; simp [h]; omega
    · rw [cmpI_gt g]; simp [h]; omega
  · rw [cmpI_gt h]; simp; omega
theorem cmpI_bd (a b : Int) : -1 ≤ cmpI a b ∧ cmpI a b ≤ 1 := by unfold cmpI; split <;> (try split) <;> omega

theorem two_new (W : World) (a b : Value) (t : TypeId) (k : Nat) (hk : k = W.heap.size) :
    (W.alloc (.cells #[a, b] t)).drew.cell? ⟨k, 0, none⟩ = some a ∧ (W.alloc (.cells #[a, b] t)).drew.cell? ⟨k, 1, none⟩ = some b := by
  subst hk
  have h : (W.alloc (.cells #[a, b] t)).drew.heap[W.heap.size]? = some (.cells #[a, b] t (0, 0)) := heap_alloc_new _ _
  exact ⟨by rw [cell_of_row _ _ _ _ _ _ h]; rfl, by rw [cell_of_row _ _ _ _ _ _ h]; rfl⟩
theorem two_boxes (w : World) (a b c d : Value) (t u : TypeId) : ∀ w', Below ((w.alloc (.cells #[a, b] t)).alloc (.cells #[c, d] u)).heap.size ((w.alloc (.cells #[a, b] t)).alloc (.cells #[c, d] u)) w' →
    w'.cell? ⟨w.heap.size, 0, none⟩ = some a ∧ w'.cell? ⟨w.heap.size, 1, none⟩ = some b ∧ w'.cell? ⟨w.heap.size + 1, 0, none⟩ = some c ∧ w'.cell? ⟨w.heap.size + 1, 1, none⟩ = some d ∧ Below ((w.alloc (.cells #[a, b] t)).alloc (.cells #[c, d] u)).heap.size ((w.alloc (.cells #[a, b] t)).alloc (.cells #[c, d] u)) w' := by
  intro w' h
  have e0 : w'.heap[w.heap.size]? = some (.cells #[a, b] t (0, 0)) := by
    rw [h.block w.heap.size (by simp; omega), Below.heap_alloc _ _ _ (by simp), heap_alloc_new]
  have e1 : w'.heap[w.heap.size + 1]? = some (.cells #[c, d] u (0, 0)) := by
    rw [h.block (w.heap.size + 1) (by simp), show w.heap.size + 1 = (w.alloc (.cells #[a, b] t)).heap.size by simp, heap_alloc_new]
  exact ⟨by rw [cell_of_row _ _ _ _ _ _ e0]; rfl, by rw [cell_of_row _ _ _ _ _ _ e0]; rfl, by rw [cell_of_row _ _ _ _ _ _ e1]; rfl, by rw [cell_of_row _ _ _ _ _ _ e1]; rfl, h⟩
theorem heap_mid (w : World) (A B C : Obj) : (((w.alloc A).alloc B).alloc C).heap[w.heap.size + 1]? = some B := by
  rw [Below.heap_alloc _ _ _ (by simp), show w.heap.size + 1 = (w.alloc A).heap.size by simp, heap_alloc_new]
set_option maxHeartbeats 1000000 in
theorem toId_any (x : Int × Int) (w : World) :
    Calls Tryd.prog 5 #[idV x] w fun e w' => e = .returned (idV x) ∧ Below w.heap.size w w' := by
  unfold idV
  go_enter Tryd.func5, Tryd.ntmps5
  go_wp2_with fail
  refine bodyPost_ret (results_cell_row rfl _ _ (w.heap.size + 1) 25 _ (0, 0) _ rfl (heap_mid _ _ _ _) Tryd.underlying25 rfl (by kernel_rfl)) rfl ?_
  exact ⟨rfl, (((Below.refl _ w).alloc (Nat.le_refl _) _).alloc (by simp) _).alloc (by simp; omega) _⟩
theorem idHeld {w0 w1 w2 : World} {A B C D : Prop} (hb : Below w1.heap.size w1 w2) (h : A ∧ B ∧ C ∧ D ∧ Below w0.heap.size w0 w1) : Below w0.heap.size w0 w2 := h.2.2.2.2.trans (hb.mono h.2.2.2.2.size)
end Go.Proofs.YtdmdkfdikjhacaaDoor
