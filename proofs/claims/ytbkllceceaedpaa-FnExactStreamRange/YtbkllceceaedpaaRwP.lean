/- Rows of so many cells: a part of one stored. Plain facts. -/
import Derived.Test.YtbkllceceaedpaaRwN
namespace Go.Proofs.Ytbkllceceaedpaa
open Go.RowKit

theorem setsAt_in : ∀ (vs A m B : List Value) (j : Nat), j + vs.length ≤ m.length → setsAt (A ++ m ++ B) (A.length + j) vs = A ++ setsAt m j vs ++ B
  | [], A, m, B, j, _ => rfl
  | v :: vs, A, m, B, j, h => by
    have h' : j + 1 + vs.length ≤ (m.set j v).length := by rw [List.length_set]; simp at h; omega
    have := setsAt_in vs A (m.set j v) B (j + 1) h'
    unfold setsAt
    rw [show (A ++ m ++ B).set (A.length + j) v = A ++ m.set j v ++ B by
      rw [List.append_assoc, List.set_append_right _ _ (by omega), Nat.add_sub_cancel_left, List.set_append_left _ _ (by simp at h; omega), List.append_assoc]]
    rw [Nat.add_assoc]
    exact this
theorem flat_part {α : Type} {c : α → List Value} {n : Nat} (hc : ∀ x, (c x).length = n) {l : List α} {k : Nat} {x y : α} (hk : l[k]? = some x) (j : Nat) (vs : List Value) (hj : j + vs.length ≤ n) (hv : setsAt (c x) j vs = c y) : setsAt (l.flatMap c) (k * n + j) vs = (l.set k y).flatMap c := by
  obtain ⟨hlt, hx⟩ := List.getElem?_eq_some_iff.1 hk
  have e1 : l = l.take k ++ x :: l.drop (k + 1) := by rw [← hx]; simp
  have e2 : l.set k y = l.take k ++ y :: l.drop (k + 1) := by rw [List.set_eq_take_append_cons_drop, if_pos hlt]
  have hl : ((l.take k).flatMap c).length = k * n := by rw [flat_len hc, List.length_take, Nat.min_eq_left (Nat.le_of_lt hlt)]
  rw [e2, List.flatMap_append, List.flatMap_cons]
  conv => lhs; rw [e1]
  rw [List.flatMap_append, List.flatMap_cons, ← hl, ← List.append_assoc, setsAt_in _ _ _ _ _ (by rw [hc]; exact hj), hv, List.append_assoc]
/-- cells j.. of row k stored -/
theorem rows_part {α : Type} {c : α → List Value} {n : Nat} {e : TypeId} (hc : ∀ x, (c x).length = n) {w : World} {base g cap len : Nat} {l : List α} (h : OwnsR c n e w base (.slice (some ⟨g, 0, none⟩) len cap) l) (hlen : l.length = len) (k : Nat) (x y : α) (hk : l[k]? = some x) (j : Nat) (vs : List Value) (hj : j + vs.length ≤ n) (hv : setsAt (c x) j vs = c y) :
    OwnsR c n e (putCells w g (k * n + j) vs) base (.slice (some ⟨g, 0, none⟩) len cap) (l.set k y) := by
  subst hlen
  unfold OwnsR
  rw [List.length_set, ← flat_part hc hk j vs hj hv]
  exact owns_puts vs (k * n + j) h
theorem puts_grown {g : Nat} : ∀ (vs : List Value) (w : World) (o : Nat), w.grownBy (putCells w g o vs) (some g)
  | [], _, _ => World.grownBy.refl _ _
  | v :: vs, w, o => grown_two (set_grown w ⟨g, o, none⟩ v) (puts_grown vs _ (o + 1))
theorem row_at_len {α : Type} {c : α → List Value} {n : Nat} {e : TypeId} (hc : ∀ x, (c x).length = n) {w : World} {base g cap len : Nat} {l : List α} (h : OwnsR c n e w base (.slice (some ⟨g, 0, none⟩) len cap) l) (hlen : l.length = len) {k : Nat} {x : α} (hk : l[k]? = some x) (j : Nat) (u : Value) (hu : (c x)[j]? = some u) : w.cell? ⟨g, k * n + j, none⟩ = some u := by
  subst hlen; exact cellR hc h hk j u hu
theorem row_frozen {α : Type} {c : α → List Value} {n : Nat} {e : TypeId} {w : World} {base g cap len : Nat} {l : List α} (h : OwnsR c n e w base (.slice (some ⟨g, 0, none⟩) len cap) l) (hlen : l.length = len) (o : Nat) : w.frozen? ⟨g, o, none⟩ = false := by
  subst hlen; exact World.ownsRow.frozenAt h o
end Go.Proofs.Ytbkllceceaedpaa
