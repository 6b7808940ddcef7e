/- A table with a row: the program's. -/
import Derived.Test.YtdaahcenplepjaaPrWo
import Derived.Test.YtdaahcenplepjaaPrIn
import Derived.Test.YtdaahcenplepjaaPrPo
import Derived.Test.YtdaahcenplepjaaPrD
namespace Go.Proofs.Ytdaahcenplepjaa
open Go.RowKit

theorem box5_allPr {w : World} {B : Nat} {x0 x1 x2 x3 x4 : Value} (h : Box5 w B x0 x1 x2 x3 x4) (u0 u1 u2 u3 u4 : Value) : Box5 (((((w.setCell ⟨B, 0, none⟩ u0).setCell ⟨B, 1, none⟩ u1).setCell ⟨B, 2, none⟩ u2).setCell ⟨B, 3, none⟩ u3).setCell ⟨B, 4, none⟩ u4) B u0 u1 u2 u3 u4 := by
  have hr := box5_set5 h u0 u1 u2 u3 u4
  have g := fun (j : Nat) (v : Value) (hv : [u0, u1, u2, u3, u4][j]? = some v) => hr j v hv
  refine ⟨by have := g 0 u0 rfl; rwa [Nat.zero_add] at this, by have := g 1 u1 rfl; rwa [Nat.zero_add] at this, by have := g 2 u2 rfl; rwa [Nat.zero_add] at this, by have := g 3 u3 rfl; rwa [Nat.zero_add] at this, by have := g 4 u4 rfl; rwa [Nat.zero_add] at this, ?_, ?_, ?_, ?_, ?_⟩
  all_goals simp only [World.frozen?_setCell]
  · exact h.f0
  · exact h.f1
  · exact h.f2
  · exact h.f3
  · exact h.f4
end Go.Proofs.Ytdaahcenplepjaa
