/- What stands under a key: the program's. -/
import Derived.Test.YtnaklhompdcgeaaEnP
namespace Go.Proofs.Ytnaklhompdcgeaa
open Go.RowKit
set_option linter.unusedVariables false

theorem range7 {w : World} {B : Nat} {x0 x1 x2 x3 x4 x5 x6 : Value} {t : TypeId} {fr : Nat × Nat} (h : w.heap[B]? = some (.cells #[x0, x1, x2, x3, x4, x5, x6] t fr)) : w.rangeAt B 0 [x0, x1, x2, x3, x4, x5, x6] := by
  have hb := box7_row h
  intro j v hv
  rw [Nat.zero_add]
  match j, hv with
  | 0, hv => cases hv; exact hb.c0
  | 1, hv => cases hv; exact hb.c1
  | 2, hv => cases hv; exact hb.c2
  | 3, hv => cases hv; exact hb.c3
  | 4, hv => cases hv; exact hb.c4
  | 5, hv => cases hv; exact hb.c5
  | 6, hv => cases hv; exact hb.c6
  | j + 7, hv => simp at hv
/-- the row of a key; nothing, if there is none -/
def esFound (l : List Row) (s : ByteArray) : Row := if esIdx l s < l.length then esAt l (esIdx l s) else rowZ
def esHas (l : List Row) (s : ByteArray) : Bool := decide (esIdx l s < l.length)
abbrev rowV (x : Row) : Value := .agg #[.string x.e.key, .int .i64 x.e.til, .int .i64 x.e.kind, .string x.e.text, .slice x.al x.e.list.length x.cl, .slice x.as_ x.e.scores.length x.cs, .slice x.af x.e.fields.length x.cf]
end Go.Proofs.Ytnaklhompdcgeaa
