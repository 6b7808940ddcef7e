/- An entry: a struct of seven cells with three slices inside. How much is left of a purse behind it; a copy in new memory; are two alike. -/
import Derived.Test.YtdaahcenplepjaaScG
import Derived.Test.YtdaahcenplepjaaPrG
import Derived.Test.YtdaahcenplepjaaSetOk
namespace Go.Proofs.Ytdaahcenplepjaa
open Go.RowKit

structure Ent where
  key : ByteArray
  til : Int
  kind : Int
  text : ByteArray
  list : List ByteArray
  scores : List (ByteArray × Int)
  fields : List (ByteArray × ByteArray)
/-- an entry's value, its lists where they are -/
abbrev enV (e : Ent) (vl vs vf : Value) : Value := .agg #[.string e.key, .int .i64 e.til, .int .i64 e.kind, .string e.text, vl, vs, vf]
structure EnReads (w : World) (vl vs vf : Value) (e : Ent) : Prop where
  l : Reads w vl e.list
  s : ScReads w vs e.scores
  f : PrReads w vf e.fields
structure EnFit (e : Ent) : Prop where
  key : e.key.size ≤ maxLen
  til : (Lit.int .i64 e.til).wf = true
  kind : (Lit.int .i64 e.kind).wf = true
  text : e.text.size ≤ maxLen
  list : ∀ s ∈ e.list, s.size ≤ maxLen
  listn : e.list.length ≤ maxLen
  scores : scFit e.scores
  scoresn : e.scores.length ≤ maxLen
  fields : prFit e.fields
  fieldsn : e.fields.length ≤ maxLen
/-- what a purse of 2^20 is enough for -/
structure EnSmall (e : Ent) : Prop where
  key : e.key.size ≤ 1048576
  text : e.text.size ≤ 1048576
  list : e.list.length ≤ 1048576
  scores : e.scores.length ≤ 1048576
  fields : e.fields.length ≤ 1048576
theorem enReads_kept {w w' : World} {vl vs vf : Value} {e : Ent} (h : EnReads w vl vs vf e) (hb : Below w.heap.size w w') : EnReads w' vl vs vf e :=
  ⟨reads_kept h.l hb, readsR_kept h.s hb, readsR_kept h.f hb⟩
theorem enReads_shape {w : World} {vl vs vf : Value} {e : Ent} (h : EnReads w vl vs vf e) : ∃ al cl as_ cs af cf, vl = .slice al e.list.length cl ∧ vs = .slice as_ e.scores.length cs ∧ vf = .slice af e.fields.length cf := by
  obtain ⟨al, cl, h1⟩ := reads_shape h.l
  obtain ⟨a2, c2, h2⟩ := readsR_shape h.s
  obtain ⟨a3, c3, h3⟩ := readsR_shape h.f
  exact ⟨_, _, _, _, _, _, h1, h2, h3⟩

/-- seven cells in a box of their own -/
structure Box7 (w : World) (B : Nat) (x0 x1 x2 x3 x4 x5 x6 : Value) : Prop where
  c0 : w.cell? ⟨B, 0, none⟩ = some x0
  c1 : w.cell? ⟨B, 1, none⟩ = some x1
  c2 : w.cell? ⟨B, 2, none⟩ = some x2
  c3 : w.cell? ⟨B, 3, none⟩ = some x3
  c4 : w.cell? ⟨B, 4, none⟩ = some x4
  c5 : w.cell? ⟨B, 5, none⟩ = some x5
  c6 : w.cell? ⟨B, 6, none⟩ = some x6
theorem box7_row {w : World} {B : Nat} {x0 x1 x2 x3 x4 x5 x6 : Value} {t : TypeId} {fr : Nat × Nat} (h : w.heap[B]? = some (.cells #[x0, x1, x2, x3, x4, x5, x6] t fr)) : Box7 w B x0 x1 x2 x3 x4 x5 x6 :=
  ⟨by rw [cell_of_row _ _ _ _ _ _ h]; rfl, by rw [cell_of_row _ _ _ _ _ _ h]; rfl, by rw [cell_of_row _ _ _ _ _ _ h]; rfl, by rw [cell_of_row _ _ _ _ _ _ h]; rfl, by rw [cell_of_row _ _ _ _ _ _ h]; rfl, by rw [cell_of_row _ _ _ _ _ _ h]; rfl, by rw [cell_of_row _ _ _ _ _ _ h]; rfl⟩
theorem box7_below {B' : Nat} {w w' : World} {B : Nat} {x0 x1 x2 x3 x4 x5 x6 : Value} (h : Box7 w B x0 x1 x2 x3 x4 x5 x6) (hb : Below B' w w') (hlt : B < B') : Box7 w' B x0 x1 x2 x3 x4 x5 x6 :=
  ⟨(hb.cell (p := ⟨B, 0, none⟩) hlt).trans h.c0, (hb.cell (p := ⟨B, 1, none⟩) hlt).trans h.c1, (hb.cell (p := ⟨B, 2, none⟩) hlt).trans h.c2, (hb.cell (p := ⟨B, 3, none⟩) hlt).trans h.c3, (hb.cell (p := ⟨B, 4, none⟩) hlt).trans h.c4, (hb.cell (p := ⟨B, 5, none⟩) hlt).trans h.c5, (hb.cell (p := ⟨B, 6, none⟩) hlt).trans h.c6⟩

end Go.Proofs.Ytdaahcenplepjaa
