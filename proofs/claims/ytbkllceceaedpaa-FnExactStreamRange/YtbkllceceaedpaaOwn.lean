/- What stands apart in memory: rows in two stretches of blocks. -/
import Derived.Test.YtbkllceceaedpaaMark
namespace Go.Proofs.Ytbkllceceaedpaa
open Go.RowKit

/-- a row of its own whose block lies from lo up to, not with, hi -/
def Own (w : World) (lo hi : Nat) (v : Value) (l : List ByteArray) : Prop := Owns w lo v l ∧ ∀ k, v.ownBlock = some k → k < hi

theorem own_of {w : World} {lo : Nat} {v : Value} {l : List ByteArray} (h : Owns w lo v l) : Own w lo w.heap.size v l := ⟨h, fun k hk => (h.lt k hk).2⟩
theorem own_kept {w w' : World} {lo hi : Nat} {v : Value} {l : List ByteArray} (h : Own w lo hi v l) (hb : Below w.heap.size w w') : Own w' lo hi v l := ⟨owns_kept h.1 hb, h.2⟩
theorem own_reads {w : World} {lo hi : Nat} {v : Value} {l : List ByteArray} (h : Own w lo hi v l) : Reads w v l := owns_reads h.1
theorem own_apart {w w' wu : World} {lo hi lo' hi' : Nat} {v u : Value} {l m : List ByteArray} (h : Own w lo hi v l) (hu : Own wu lo' hi' u m) (hg : w.grownBy w' u.ownBlock) (hap : hi ≤ lo' ∨ hi' ≤ lo) : Own w' lo hi v l := by
  refine ⟨h.1.kept hg ?_, h.2⟩
  cases hv : v.ownBlock with
  | none => exact .inl rfl
  | some k =>
    right
    intro e
    have h1 := h.2 k hv
    have h2 := (h.1.lt k hv).1
    have h3 := hu.2 k e.symm
    have h4 := (hu.1.lt k e.symm).1
    omega
theorem below_own {B : Nat} {a w w' wu : World} {lo hi : Nat} {u : Value} {m : List ByteArray} (h : Below B a w) (hB : B ≤ w.heap.size) (hu : Own wu lo hi u m) (hlo : B ≤ lo) (hg : w.grownBy w' u.ownBlock) : Below B a w' :=
  h.grown hg hB (fun k hk => Nat.le_trans hlo (hu.1.lt k hk).1)
theorem below_step {B : Nat} {a w w' : World} (h : Below B a w) (hB : B ≤ w.heap.size) (hb : Below w.heap.size w w') : Below B a w' := h.trans (hb.mono hB)

end Go.Proofs.Ytbkllceceaedpaa
