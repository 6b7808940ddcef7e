/- A base: how much is left of a purse behind it, a copy in new memory, two that are the same. -/
import Derived.Test.YtaiboncomibikaaGreatDoorEnI
namespace Go.Proofs.YtaiboncomibikaaGreatDoor
open Go.RowKit
set_option linter.unusedVariables false

abbrev bsV (n : Int) (v : Value) : Value := .agg #[.int .i64 n, v]
set_option maxHeartbeats 4000000 in
theorem szBase_any (n : Int) (v : Value) (l : List Row) (left : Int) (w : World) (hr : EsReads w v l) (hf : ∀ x ∈ l, EnFit x.e) (hlen : l.length ≤ maxLen) (hl : 0 ≤ left) (hl2 : left ≤ 1048576) :
    Calls Tryz.prog 4 #[bsV n v, .int .i64 left] w fun x w' => (∃ m : Int, x = .returned (.int .i64 m) ∧ (m < 0 ∨ 0 ≤ m ∧ m ≤ left ∧ EsSmall l)) ∧ Below w.heap.size w w' := by
  obtain ⟨ao, cap, rfl⟩ := readsR_shape hr.rows
  have hA : ∀ A, Below w.heap.size w (w.alloc A) := fun A => (Below.refl _ w).alloc (Nat.le_refl _) A
  go_enter Tryz.func4, Tryz.ntmps4
  go_wp2_with fail
  refine (szEntryS_any _ l left _ (esReads_kept hr (hA _)) hf hlen hl hl2).mono ?_
  rintro x w1 ⟨⟨m, rfl, hm⟩, hb1⟩
  have hB1 := (hA _).trans (hb1.mono (by simp))
  clear hb1
  rcases hm with hm | ⟨hm0, hm1, hms⟩
  · go_wp2_with fail
    go_ret
    exact ⟨⟨_, rfl, .inl (by omega)⟩, hB1⟩
  · have HM : Hid _ := hms
    clear hms
    go_wp2_with fail
    go_ret
    exact ⟨⟨_, rfl, .inr ⟨hm0, hm1, HM.out⟩⟩, hB1⟩
theorem esFor_cell {w : World} {lo hi : Nat} {v : Value} {l : List Row} (h : EsFor w lo hi v l) (a : Addr) (u : Value) (ha : a.block < lo) : EsFor (w.setCell a u) lo hi v l := by
  obtain ⟨m, h1, h2, h3, h4⟩ := h
  exact ⟨m, h1, h2, ownR_cell h3 a u ha, ensOwn_cell h4 a u (by omega)⟩
theorem esFor_base {w : World} {lo lo' hi hi' : Nat} {v : Value} {l : List Row} (h : EsFor w lo hi v l) (hl : lo' ≤ lo) (hh : hi ≤ hi') : EsFor w lo' hi' v l := by
  obtain ⟨m, h1, h2, h3, h4⟩ := h
  have up : ∀ {l : List Row} {a : Nat}, EnsOwn w a hi l → EnsOwn w a hi' l := by
    intro l
    induction l with
    | nil => intro a h; exact Nat.le_trans (show a ≤ hi from h) hh
    | cons x l ih => intro a ⟨m, h1, h2, h3⟩; exact ⟨m, h1, h2, ih h3⟩
  exact ⟨m, by omega, by omega, ⟨ownsR_base h3.1 hl, h3.2⟩, up h4⟩
theorem box2_set {w : World} {B : Nat} {x0 x1 : Value} {t : TypeId} (h : w.heap[B]? = some (.cells #[x0, x1] t (0, 0))) (u0 u1 : Value) :
    ((w.setCell ⟨B, 0, none⟩ u0).setCell ⟨B, 1, none⟩ u1).heap[B]? = some (.cells #[u0, u1] t (0, 0)) := by
  rw [heap_setCell_same _ B 1 _ _ _ (heap_setCell_same _ B 0 _ _ _ h)]; rfl
set_option maxHeartbeats 4000000 in
theorem toBase_any (n : Int) (v : Value) (l : List Row) (w : World) (hr : EsReads w v l) (hs : EsSmall l) :
    Calls Tryz.prog 6 #[bsV n v] w fun x w' => (∃ v' ys, x = .returned (bsV n v') ∧ ys.map Row.e = l.map Row.e ∧ EsFor w' w.heap.size w'.heap.size v' ys) ∧ Below w.heap.size w w' := by
  obtain ⟨ao, cap, rfl⟩ := readsR_shape hr.rows
  have hA : ∀ A B C, Below w.heap.size w (((w.alloc A).alloc B).alloc C) := fun A B C => (((Below.refl _ w).alloc (Nat.le_refl _) A).alloc (by simp) B).alloc (by simp; omega) C
  go_enter Tryz.func6, Tryz.ntmps6
  go_wp2_with fail
  obtain ⟨w0, hW⟩ : ∃ W, ((w.alloc (.cells #[.int .i64 n, .slice ao l.length cap] 24)).alloc (.cells #[.int .i64 0, .slice none 0 0] 31)).alloc (.cells #[.int .i64 n, .slice none 0 0] 31) = W := ⟨_, rfl⟩
  have hB0 : Below w.heap.size w w0 := by rw [← hW]; exact hA _ _ _
  have hz0 : w0.heap.size = w.heap.size + 3 := by rw [← hW]; simp
  obtain ⟨q0, q1, q2⟩ : w0.heap[w.heap.size]? = some _ ∧ w0.heap[w.heap.size + 1]? = some _ ∧ w0.heap[w.heap.size + 2]? = some _ := by rw [← hW]; exact three_rows _ _ _ _
  rw [hW]
  have Q1 : Hid _ := q1
  have Q2 : Hid _ := q2
  clear hW hA q0 q1 q2
  refine (toEntryS_any _ l _ (esReads_kept hr hB0) hs).mono ?_
  rintro x w1 ⟨⟨u, ys, rfl, hmap, ho⟩, hb1⟩
  obtain ⟨bo, cb, rfl⟩ := readsR_shape (esFor_reads ho).rows
  have hB1 := hB0.trans (hb1.mono hB0.size)
  rw [hz0] at ho
  have hz1 := hb1.size
  rw [hz0] at hz1
  have q1 := (hb1.block (w.heap.size + 1) (by omega)).trans Q1.out
  have q2 := (hb1.block (w.heap.size + 2) (by omega)).trans Q2.out
  have d0 : w1.cell? ⟨w.heap.size + 2, 0, none⟩ = some (.int .i64 n) := by rw [cell_of_row _ _ _ _ _ _ q2]; rfl
  have d1 : w1.cell? ⟨w.heap.size + 2, 1, none⟩ = some (.slice none 0 0) := by rw [cell_of_row _ _ _ _ _ _ q2]; rfl
  have e0 : w1.cell? ⟨w.heap.size + 1, 0, none⟩ = some (.int .i64 0) := by rw [cell_of_row _ _ _ _ _ _ q1]; rfl
  have e1 : w1.cell? ⟨w.heap.size + 1, 1, none⟩ = some (.slice none 0 0) := by rw [cell_of_row _ _ _ _ _ _ q1]; rfl
  have f1 : ∀ o, w1.frozen? ⟨w.heap.size + 1, o, none⟩ = false := fun o => by simp [World.frozen?, q1]
  have f2 : ∀ o, w1.frozen? ⟨w.heap.size + 2, o, none⟩ = false := fun o => by simp [World.frozen?, q2]
  have HP : Hid _ := q1
  have HMAP : Hid (ys.map Row.e = l.map Row.e) := hmap
  have HO : Hid _ := ho
  clear q1 q2 Q1 Q2 hb1 hB0 hmap ho
  go_wp2_with fail
  refine bodyPost_ret (results_cell_row rfl _ _ (w.heap.size + 1) 31 _ (0, 0) _ rfl (box2_set ((Below.heap_setCell w1 _ _ _ (by show w.heap.size + 1 ≠ w.heap.size + 1 + 1; omega)).trans HP.out) _ _) Tryz.underlying31 rfl (by kernel_rfl)) rfl ?_
  refine ⟨⟨_, ys, rfl, HMAP.out, esFor_base (esFor_cell (esFor_cell (esFor_cell HO.out _ _ (by show w.heap.size + 1 + 1 < _; omega)) _ _ (by show w.heap.size + 1 < _; omega)) _ _ (by show w.heap.size + 1 < _; omega)) (by omega) (by simp only [setCell_size]; exact Nat.le_refl _)⟩, ?_⟩
  exact ((hB1.setCell (by show w.heap.size ≤ w.heap.size + 1 + 1; omega) _).setCell (by show w.heap.size ≤ w.heap.size + 1; omega) _).setCell (by show w.heap.size ≤ w.heap.size + 1; omega) _
set_option maxHeartbeats 4000000 in
theorem eqBase_true (n : Int) (v u : Value) (l m : List Row) (w : World) (hr : EsReads w v l) (hq : EsReads w u m) (hs : EsSmall l) (he : l.map Row.e = m.map Row.e) :
    Calls Tryz.prog 9 #[bsV n v, bsV n u] w fun x w' => x = .returned (.bool true) ∧ Below w.heap.size w w' := by
  obtain ⟨ao, cap, rfl⟩ := readsR_shape hr.rows
  obtain ⟨ao2, cap2, rfl⟩ := readsR_shape hq.rows
  have hA : ∀ A B, Below w.heap.size w ((w.alloc A).alloc B) := fun A B => ((Below.refl _ w).alloc (Nat.le_refl _) A).alloc (by simp) B
  have hi : (n != n) = false := by simp
  have HE : Hid (l.map Row.e = m.map Row.e) := he
  clear he
  go_enter Tryz.func9, Tryz.ntmps9
  go_wp2_with fail
  refine (eqEntryS_true _ _ l m _ (esReads_kept hr (hA _ _)) (esReads_kept hq (hA _ _)) hs HE.out).mono ?_
  rintro x w1 ⟨rfl, hb1⟩
  have hB1 := (hA _ _).trans (hb1.mono (by simp; omega))
  clear hb1
  go_wp2_with fail
  go_ret
  exact ⟨rfl, hB1⟩
end Go.Proofs.YtaiboncomibikaaGreatDoor
