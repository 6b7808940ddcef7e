/- A struct of five cells in a box of its own. Plain facts: no Go text here. -/
import Derived.Test.YtndegickekjkjaaRz
namespace Go.Proofs.Ytndegickekjkjaa
open Go.RowKit

theorem grown_setCell (w : World) (a : Addr) (u : Value) : w.grownBy (w.setCell a u) (some a.block) := by
  refine ⟨rfl, rfl, rfl, ?_, fun k hk hne => Below.heap_setCell w a u k (fun e => hne (by rw [e]))⟩
  exact (Below.refl 0 w).setCell (p := a) (Nat.zero_le _) u |>.size
theorem own_setCell {α : Type} {c : α → List Value} {sz : Nat} {e : TypeId} {w : World} {base : Nat} {v : Value} {l : List α} (h : OwnsR c sz e w base v l) (a : Addr) (u : Value) (ha : a.block < base) : OwnsR c sz e (w.setCell a u) base v l := by
  refine World.ownsRow.kept h (grown_setCell w a u) ?_
  cases hv : v.ownBlock with
  | none => exact .inl rfl
  | some k =>
    right
    intro e
    have := (World.ownsRow.lt h k hv).1
    have : k = a.block := by simpa using e
    omega
/-- the cells of a box -/
structure Box5 (w : World) (B : Nat) (x0 x1 x2 x3 x4 : Value) : Prop where
  c0 : w.cell? ⟨B, 0, none⟩ = some x0
  c1 : w.cell? ⟨B, 1, none⟩ = some x1
  c2 : w.cell? ⟨B, 2, none⟩ = some x2
  c3 : w.cell? ⟨B, 3, none⟩ = some x3
  c4 : w.cell? ⟨B, 4, none⟩ = some x4
  f0 : w.frozen? ⟨B, 0, none⟩ = false
  f1 : w.frozen? ⟨B, 1, none⟩ = false
  f2 : w.frozen? ⟨B, 2, none⟩ = false
  f3 : w.frozen? ⟨B, 3, none⟩ = false
  f4 : w.frozen? ⟨B, 4, none⟩ = false
theorem box5_row {w : World} {B : Nat} {x0 x1 x2 x3 x4 : Value} {t : TypeId} (h : w.heap[B]? = some (.cells #[x0, x1, x2, x3, x4] t (0, 0))) : Box5 w B x0 x1 x2 x3 x4 := by
  have hf : ∀ o, w.frozen? ⟨B, o, none⟩ = false := fun o => by simp [World.frozen?, h]
  exact ⟨by rw [cell_of_row _ _ _ _ _ _ h]; rfl, by rw [cell_of_row _ _ _ _ _ _ h]; rfl, by rw [cell_of_row _ _ _ _ _ _ h]; rfl, by rw [cell_of_row _ _ _ _ _ _ h]; rfl, by rw [cell_of_row _ _ _ _ _ _ h]; rfl, hf 0, hf 1, hf 2, hf 3, hf 4⟩
theorem box5_kept {w w' : World} {r : Option Nat} {B : Nat} {x0 x1 x2 x3 x4 : Value} (h : Box5 w B x0 x1 x2 x3 x4) (hg : w.grownBy w' r) (hne : some B ≠ r) : Box5 w' B x0 x1 x2 x3 x4 := by
  have hlt := World.block_lt_of_cell? w _ h.c0
  have hb := hg.block B hlt hne
  have hc : ∀ o, w'.cell? ⟨B, o, none⟩ = w.cell? ⟨B, o, none⟩ := fun o => World.cell?_of_block hb
  have hf : ∀ o, w'.frozen? ⟨B, o, none⟩ = w.frozen? ⟨B, o, none⟩ := fun o => World.frozen?_of_block hb
  exact ⟨(hc 0).trans h.c0, (hc 1).trans h.c1, (hc 2).trans h.c2, (hc 3).trans h.c3, (hc 4).trans h.c4, (hf 0).trans h.f0, (hf 1).trans h.f1, (hf 2).trans h.f2, (hf 3).trans h.f3, (hf 4).trans h.f4⟩
theorem box5_below {B' : Nat} {w w' : World} {B : Nat} {x0 x1 x2 x3 x4 : Value} (h : Box5 w B x0 x1 x2 x3 x4) (hb : Below B' w w') (hlt : B < B') : Box5 w' B x0 x1 x2 x3 x4 :=
  ⟨(hb.cell (p := ⟨B, 0, none⟩) hlt).trans h.c0, (hb.cell (p := ⟨B, 1, none⟩) hlt).trans h.c1, (hb.cell (p := ⟨B, 2, none⟩) hlt).trans h.c2, (hb.cell (p := ⟨B, 3, none⟩) hlt).trans h.c3, (hb.cell (p := ⟨B, 4, none⟩) hlt).trans h.c4, (hb.frozen (p := ⟨B, 0, none⟩) hlt).trans h.f0, (hb.frozen (p := ⟨B, 1, none⟩) hlt).trans h.f1, (hb.frozen (p := ⟨B, 2, none⟩) hlt).trans h.f2, (hb.frozen (p := ⟨B, 3, none⟩) hlt).trans h.f3, (hb.frozen (p := ⟨B, 4, none⟩) hlt).trans h.f4⟩
theorem box5_set0 {w : World} {B : Nat} {x0 x1 x2 x3 x4 : Value} (h : Box5 w B x0 x1 x2 x3 x4) (u : Value) : Box5 (w.setCell ⟨B, 0, none⟩ u) B u x1 x2 x3 x4 :=
  ⟨World.cell?_setCell_same _ _ _ h.c0, (World.cell?_setCell_other _ _ _ _ (by simp)).trans h.c1, (World.cell?_setCell_other _ _ _ _ (by simp)).trans h.c2, (World.cell?_setCell_other _ _ _ _ (by simp)).trans h.c3, (World.cell?_setCell_other _ _ _ _ (by simp)).trans h.c4, by rw [World.frozen?_setCell]; exact h.f0, by rw [World.frozen?_setCell]; exact h.f1, by rw [World.frozen?_setCell]; exact h.f2, by rw [World.frozen?_setCell]; exact h.f3, by rw [World.frozen?_setCell]; exact h.f4⟩
theorem box5_range {w : World} {B : Nat} {x0 x1 x2 x3 x4 : Value} (h : Box5 w B x0 x1 x2 x3 x4) : w.rangeAt B 0 [x0, x1, x2, x3, x4] := by
  intro j v hv
  rw [Nat.zero_add]
  match j, hv with
  | 0, hv => cases hv; exact h.c0
  | 1, hv => cases hv; exact h.c1
  | 2, hv => cases hv; exact h.c2
  | 3, hv => cases hv; exact h.c3
  | 4, hv => cases hv; exact h.c4
  | j + 5, hv => simp at hv
theorem box5_set5 {w : World} {B : Nat} {x0 x1 x2 x3 x4 : Value} (h : Box5 w B x0 x1 x2 x3 x4) (u0 u1 u2 u3 u4 : Value) : (((((w.setCell ⟨B, 0, none⟩ u0).setCell ⟨B, 1, none⟩ u1).setCell ⟨B, 2, none⟩ u2).setCell ⟨B, 3, none⟩ u3).setCell ⟨B, 4, none⟩ u4).rangeAt B 0 [u0, u1, u2, u3, u4] := by
  have := World.rangeAt_setCells_same w B 0 [u0, u1, u2, u3, u4] (fun j hj => by
    match j, hj with
    | 0, _ => exact ⟨by rw [Nat.zero_add, h.c0]; rfl, by rw [Nat.zero_add]; exact h.f0⟩
    | 1, _ => exact ⟨by rw [Nat.zero_add, h.c1]; rfl, by rw [Nat.zero_add]; exact h.f1⟩
    | 2, _ => exact ⟨by rw [Nat.zero_add, h.c2]; rfl, by rw [Nat.zero_add]; exact h.f2⟩
    | 3, _ => exact ⟨by rw [Nat.zero_add, h.c3]; rfl, by rw [Nat.zero_add]; exact h.f3⟩
    | 4, _ => exact ⟨by rw [Nat.zero_add, h.c4]; rfl, by rw [Nat.zero_add]; exact h.f4⟩)
  exact this
end Go.Proofs.Ytndegickekjkjaa
