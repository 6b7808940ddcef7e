/- Ids: which is ahead, the program's and the model's; made of an argument. No condition. -/
import Derived.Test.YtbkllceceaedpaaRows
import Derived.WalkKit
import Derived.WalkSpells
import Derived.Outline
import Derived.Below
import Derived.Deep.RegionWith
import Derived.Deep.RegionHeld3
import Derived.ProofKit
import Derived.OpenShut
import Derived.OwnWalk
namespace Go.Proofs.Ytbkllceceaedpaa
open Go.RowKit

theorem id_ret_bool {a b : Bool} (h : a = b) : Ending.returned (.bool a) = .returned (.bool b) := by rw [h]
theorem id_ret_int {k : IntKind} {a b : Int} (h : a = b) : Ending.returned (.int k a) = .returned (.int k b) := by rw [h]

/-- an id as a value -/
def idV (x : Int × Int) : Value := .agg #[.int .i64 x.1, .int .i64 x.2]
def idLessB (x y : Int × Int) : Bool := decide (x.1 < y.1) || (decide (x.1 = y.1) && decide (x.2 < y.2))
def cmpI (a b : Int) : Int := if a < b then -1 else if b < a then 1 else 0
def orI (a b : Int) : Int := if a = 0 then b else a
def idOrd (x y : Int × Int) : Int := orI (cmpI x.1 y.1) (cmpI x.2 y.2)
theorem cmpI_lt {a b : Int} (h : a < b) : cmpI a b = -1 := by unfold cmpI; rw [if_pos h]
theorem cmpI_gt {a b : Int} (h : b < a) : cmpI a b = 1 := by unfold cmpI; rw [if_neg (by omega), if_pos h]
theorem cmpI_eq {a b : Int} (h : a = b) : cmpI a b = 0 := by unfold cmpI; rw [if_neg (by omega), if_neg (by omega)]
theorem idOrd_less (x y : Int × Int) : decide (idOrd x y < 0) = idLessB x y := by
  unfold idOrd idLessB orI
  rcases Int.lt_trichotomy x.1 y.1 with h | h | h
  · rw [cmpI_lt h]; simp [h]
  · rw [cmpI_eq h, if_pos rfl]
    rcases Int.lt_trichotomy x.2 y.2 with g | g | g
    · rw [cmpI_lt g]; simp [h, g]
    · rw [cmpI_eq g]; simp [h]; omega
    · rw [cmpI_gt g]; simp [h]; omega
  · rw [cmpI_gt h]; simp; omega
theorem cmpI_bd (a b : Int) : -1 ≤ cmpI a b ∧ cmpI a b ≤ 1 := by unfold cmpI; split <;> (try split) <;> omega

theorem isNaN_any (a : Int) (w : World) : Calls Try.prog 106 #[.int .i64 a] w fun e w' => e = .returned (.bool false) ∧ w = w' := by
  go_enter Try.func106, Try.ntmps106
  go_wp2_with fail
  go_ret
  exact ⟨id_ret_bool (by simp), rfl⟩
set_option maxHeartbeats 1000000 in
theorem compare_any (a b : Int) (w : World) : Calls Try.prog 92 #[.int .i64 a, .int .i64 b] w fun e w' => e = .returned (.int .i64 (cmpI a b)) ∧ w = w' := by
  rcases Int.lt_trichotomy a b with h | h | h
  · have HC : Hid (cmpI a b = -1) := cmpI_lt h
    go_enter Try.func92, Try.ntmps92
    go_wp2_with (go_at_call 106; refine (isNaN_any _ _).mono ?_; rintro e w' ⟨rfl, rfl⟩)
    go_ret
    exact ⟨id_ret_int HC.out.symm, rfl⟩
  · have HC : Hid (cmpI a b = 0) := cmpI_eq h
    have h1 : ¬ a < b := by omega
    have h2 : ¬ b < a := by omega
    clear h
    go_enter Try.func92, Try.ntmps92
    go_wp2_with (go_at_call 106; refine (isNaN_any _ _).mono ?_; rintro e w' ⟨rfl, rfl⟩)
    go_ret
    exact ⟨id_ret_int HC.out.symm, rfl⟩
  · have HC : Hid (cmpI a b = 1) := cmpI_gt h
    have h1 : ¬ a < b := by omega
    go_enter Try.func92, Try.ntmps92
    go_wp2_with (go_at_call 106; refine (isNaN_any _ _).mono ?_; rintro e w' ⟨rfl, rfl⟩)
    go_ret
    exact ⟨id_ret_int HC.out.symm, rfl⟩
set_option maxHeartbeats 1000000 in
theorem orTwo_any (g : Nat) (p q : Int) (w : World) (h0 : w.cell? ⟨g, 0, none⟩ = some (.int .i64 p)) (h1 : w.cell? ⟨g, 1, none⟩ = some (.int .i64 q)) :
    Calls Try.prog 91 #[.slice (some ⟨g, 0, none⟩) 2 2] w fun e w' => e = .returned (.int .i64 (orI p q)) ∧ w = w' := by
  by_cases hp : p = 0
  · subst hp
    by_cases hq : q = 0
    · subst hq
      go_enter Try.func91, Try.ntmps91
      go_wp2_with fail
      refine wp_loop_rounds 3 ?_
      rw [rounds_succ]
      go_wp2_with fail
      rw [rounds_succ]
      go_wp2_with fail
      rw [rounds_succ]
      go_wp2_with fail
      go_ret
      exact ⟨id_ret_int rfl, rfl⟩
    · have hq' : (q == 0) = false := by simpa using hq
      clear hq
      go_enter Try.func91, Try.ntmps91
      go_wp2_with fail
      refine wp_loop_rounds 3 ?_
      rw [rounds_succ]
      go_wp2_with fail
      rw [rounds_succ]
      go_wp2_with fail
      go_ret
      exact ⟨id_ret_int rfl, rfl⟩
  · have hp' : (p == 0) = false := by simpa using hp
    have HP : Hid (orI p q = p) := by show _ = _; unfold orI; rw [if_neg hp]
    clear hp
    go_enter Try.func91, Try.ntmps91
    go_wp2_with fail
    refine wp_loop_rounds 3 ?_
    rw [rounds_succ]
    go_wp2_with fail
    go_ret
    exact ⟨id_ret_int HP.out.symm, rfl⟩

theorem two_new (W : World) (a b : Value) (t : TypeId) (k : Nat) (hk : k = W.heap.size) :
    (W.alloc (.cells #[a, b] t)).drew.cell? ⟨k, 0, none⟩ = some a ∧ (W.alloc (.cells #[a, b] t)).drew.cell? ⟨k, 1, none⟩ = some b := by
  subst hk
  have h : (W.alloc (.cells #[a, b] t)).drew.heap[W.heap.size]? = some (.cells #[a, b] t (0, 0)) := heap_alloc_new _ _
  exact ⟨by rw [cell_of_row _ _ _ _ _ _ h]; rfl, by rw [cell_of_row _ _ _ _ _ _ h]; rfl⟩
theorem two_boxes (w : World) (a b c d : Value) (t u : TypeId) : ∀ w', Below ((w.alloc (.cells #[a, b] t)).alloc (.cells #[c, d] u)).heap.size ((w.alloc (.cells #[a, b] t)).alloc (.cells #[c, d] u)) w' →
    w'.cell? ⟨w.heap.size, 0, none⟩ = some a ∧ w'.cell? ⟨w.heap.size, 1, none⟩ = some b ∧ w'.cell? ⟨w.heap.size + 1, 0, none⟩ = some c ∧ w'.cell? ⟨w.heap.size + 1, 1, none⟩ = some d ∧ Below ((w.alloc (.cells #[a, b] t)).alloc (.cells #[c, d] u)).heap.size ((w.alloc (.cells #[a, b] t)).alloc (.cells #[c, d] u)) w' := by
  intro w' h
  have e0 : w'.heap[w.heap.size]? = some (.cells #[a, b] t (0, 0)) := by
    rw [h.block w.heap.size (by simp; omega), Below.heap_alloc _ _ _ (by simp), heap_alloc_new]
  have e1 : w'.heap[w.heap.size + 1]? = some (.cells #[c, d] u (0, 0)) := by
    rw [h.block (w.heap.size + 1) (by simp), show w.heap.size + 1 = (w.alloc (.cells #[a, b] t)).heap.size by simp, heap_alloc_new]
  exact ⟨by rw [cell_of_row _ _ _ _ _ _ e0]; rfl, by rw [cell_of_row _ _ _ _ _ _ e0]; rfl, by rw [cell_of_row _ _ _ _ _ _ e1]; rfl, by rw [cell_of_row _ _ _ _ _ _ e1]; rfl, h⟩
set_option maxHeartbeats 4000000 in
theorem idOrder_any (x y : Int × Int) (w : World) :
    Calls Try.prog 72 #[idV x, idV y] w fun e w' => e = .returned (.int .i64 (idOrd x y)) ∧ Below w.heap.size w w' := by
  unfold idV
  have HK := two_boxes w (.int .i64 x.1) (.int .i64 x.2) (.int .i64 y.1) (.int .i64 y.2) 30 30
  have hB2 : Below w.heap.size w ((w.alloc (.cells #[.int .i64 x.1, .int .i64 x.2] 30)).alloc (.cells #[.int .i64 y.1, .int .i64 y.2] 30)) := ((Below.refl _ w).alloc (Nat.le_refl _) _).alloc (by simp) _
  go_enter Try.func72, Try.ntmps72
  go_wp2_with fail
  obtain ⟨w2, hW⟩ : ∃ W, (w.alloc (.cells #[.int .i64 x.1, .int .i64 x.2] 30)).alloc (.cells #[.int .i64 y.1, .int .i64 y.2] 30) = W := ⟨_, rfl⟩
  rw [hW] at HK hB2 ⊢
  have HK : Hid _ := HK
  clear hW
  go_region_held3 (fun w' => w'.cell? ⟨w.heap.size, 0, none⟩ = some (.int .i64 x.1) ∧ w'.cell? ⟨w.heap.size, 1, none⟩ = some (.int .i64 x.2) ∧ w'.cell? ⟨w.heap.size + 1, 0, none⟩ = some (.int .i64 y.1) ∧ w'.cell? ⟨w.heap.size + 1, 1, none⟩ = some (.int .i64 y.2) ∧ Below w2.heap.size w2 w') (first | exact HK.out _ (Below.refl _ _).drew | exact HK.out _ ((Below.refl _ _).alloc (Nat.le_refl _) _).drew | assumption | go_keep) (first
    | (go_at_call 92; refine (compare_any _ _ _).mono ?_; rintro e w' ⟨rfl, rfl⟩)
    | (go_at_call 91; refine (orTwo_any _ _ _ _ (two_new _ _ _ _ _ (by simp)).1 (two_new _ _ _ _ _ (by simp)).2).mono ?_; rintro e w' ⟨rfl, rfl⟩))
  go_wp2_with fail
  go_ret
  exact ⟨rfl, hB2.trans (((Below.refl _ w2).alloc (Nat.le_refl _) _).drew.mono hB2.size)⟩
set_option maxHeartbeats 1000000 in
theorem implIdLess_any (x y : Int × Int) (w : World) :
    Calls Try.prog 49 #[idV x, idV y] w fun e w' => e = .returned (.bool (idLessB x y)) ∧ Below w.heap.size w w' := by
  have hB : ∀ A B, Below w.heap.size w ((w.alloc A).alloc B) := fun A B => ((Below.refl _ w).alloc (Nat.le_refl _) A).alloc (by simp) B
  have hi := idOrder_any x y
  unfold idV at hi ⊢
  go_enter Try.func49, Try.ntmps49
  go_wp2_with fail
  refine (hi _).mono ?_
  rintro e w' ⟨rfl, hb⟩
  go_wp2_with fail
  go_ret
  exact ⟨id_ret_bool (idOrd_less x y), (hB _ _).trans (hb.mono (hB _ _).size)⟩
set_option maxHeartbeats 1000000 in
theorem specIdLess_any (x y : Int × Int) (w : World) :
    Calls Try.prog 33 #[idV x, idV y] w fun e w' => e = .returned (.bool (idLessB x y)) ∧ Below w.heap.size w w' := by
  have hB : ∀ A B, Below w.heap.size w ((w.alloc A).alloc B) := fun A B => ((Below.refl _ w).alloc (Nat.le_refl _) A).alloc (by simp) B
  unfold idV
  rcases Int.lt_trichotomy x.1 y.1 with h | h | h
  · have h1 : decide (x.1 < y.1) = true := by simpa using h
    have HF : Hid (idLessB x y = true) := by show _ = _; unfold idLessB; rw [h1]; rfl
    clear h
    go_enter Try.func33, Try.ntmps33
    go_wp2_with fail
    go_ret
    exact ⟨id_ret_bool HF.out.symm, hB _ _⟩
  · have h1 : decide (x.1 < y.1) = false := by simp; omega
    have h2 : (x.1 == y.1) = true := by simpa using h
    have HF : Hid (idLessB x y = decide (x.2 < y.2)) := by show _ = _; unfold idLessB; rw [h1]; simp [h]
    clear h
    go_enter Try.func33, Try.ntmps33
    go_wp2_with fail
    go_ret
    exact ⟨id_ret_bool HF.out.symm, hB _ _⟩
  · have h1 : decide (x.1 < y.1) = false := by simp; omega
    have h2 : (x.1 == y.1) = false := by simp; omega
    have HF : Hid (idLessB x y = false) := by show _ = _; unfold idLessB; rw [h1]; simp; omega
    clear h
    go_enter Try.func33, Try.ntmps33
    go_wp2_with fail
    go_ret
    exact ⟨id_ret_bool HF.out.symm, hB _ _⟩
theorem idHeapMid (w : World) (A B C : Obj) : (((w.alloc A).alloc B).alloc C).heap[w.heap.size + 1]? = some B := by
  rw [Below.heap_alloc _ _ _ (by simp), show w.heap.size + 1 = (w.alloc A).heap.size by simp, heap_alloc_new]
set_option maxHeartbeats 1000000 in
theorem toId_any (x : Int × Int) (w : World) :
    Calls Try.prog 14 #[idV x] w fun e w' => e = .returned (idV x) ∧ Below w.heap.size w w' := by
  unfold idV
  go_enter Try.func14, Try.ntmps14
  go_wp2_with fail
  refine bodyPost_ret (results_cell_row rfl _ _ (w.heap.size + 1) 30 _ (0, 0) _ rfl (idHeapMid _ _ _ _) Try.underlying30 rfl (by kernel_rfl)) rfl ?_
  exact ⟨rfl, (((Below.refl _ w).alloc (Nat.le_refl _) _).alloc (by simp) _).alloc (by simp; omega) _⟩
set_option maxHeartbeats 1000000 in
theorem eqId_any (x y : Int × Int) (w : World) :
    Calls Try.prog 46 #[idV x, idV y] w fun e w' => e = .returned (.bool (decide (x = y))) ∧ Below w.heap.size w w' := by
  have hB : ∀ A B, Below w.heap.size w ((w.alloc A).alloc B) := fun A B => ((Below.refl _ w).alloc (Nat.le_refl _) A).alloc (by simp) B
  unfold idV
  by_cases h : x.1 = y.1
  · by_cases g : x.2 = y.2
    · have HF : Hid (decide (x = y) = true) := by show _ = _; simpa using Prod.ext h g
      have h1 : (x.1 == y.1) = true := by simpa using h
      have g1 : (x.2 == y.2) = true := by simpa using g
      clear h g
      go_enter Try.func46, Try.ntmps46
      go_wp2_with fail
      go_ret
      exact ⟨id_ret_bool HF.out.symm, hB _ _⟩
    · have HF : Hid (decide (x = y) = false) := by show _ = _; simp; exact fun e => g (by rw [e])
      have h1 : (x.1 == y.1) = true := by simpa using h
      have g1 : (x.2 == y.2) = false := by simpa using g
      clear h g
      go_enter Try.func46, Try.ntmps46
      go_wp2_with fail
      go_ret
      exact ⟨id_ret_bool HF.out.symm, hB _ _⟩
  · have HF : Hid (decide (x = y) = false) := by show _ = _; simp; exact fun e => h (by rw [e])
    have h1 : (x.1 == y.1) = false := by simpa using h
    clear h
    go_enter Try.func46, Try.ntmps46
    go_wp2_with fail
    go_ret
    exact ⟨id_ret_bool HF.out.symm, hB _ _⟩
theorem idHeld {w0 w1 w2 : World} {A B C D : Prop} (hb : Below w1.heap.size w1 w2) (h : A ∧ B ∧ C ∧ D ∧ Below w0.heap.size w0 w1) : Below w0.heap.size w0 w2 := h.2.2.2.2.trans (hb.mono h.2.2.2.2.size)
end Go.Proofs.Ytbkllceceaedpaa
