/- Items that grow by append: the outer block may move behind their lists. -/
import Derived.Test.YtbkllceceaedpaaItM
import Derived.Test.YtbkllceceaedpaaAq
namespace Go.Proofs.Ytbkllceceaedpaa
open Go.RowKit
set_option linter.unusedVariables false

theorem itG_nil {w : World} {lo hi : Nat} (h : lo ≤ hi) : ItG w lo hi (.slice none 0 0) [] := ⟨⟨⟨rfl, .inl ⟨rfl, rfl⟩⟩, fun k hk => by cases hk⟩, h⟩
theorem itG_up {w w' : World} {lo : Nat} {v : Value} {ys : List ItRow} (h : ItG w lo w.heap.size v ys) (hb : Below w.heap.size w w') : ItG w' lo w'.heap.size v ys :=
  itG_lower (itG_kept h hb) (Nat.le_refl _) hb.size
theorem itG_set {w : World} {lo hi : Nat} {v : Value} {ys : List ItRow} (h : ItG w lo hi v ys) (a : Addr) (u : Value) (ha : a.block < lo) : ItG (w.setCell a u) lo hi v ys :=
  ⟨ownR_set h.rows a u ha, itsOwn_set h.ins a u ha⟩
theorem itG_ne {w : World} {lo hi k : Nat} {v : Value} {ys : List ItRow} (h : ItG w lo hi v ys) (hk : k < lo ∨ hi ≤ k) : some k ≠ v.ownBlock := fun e => by
  have := ownR_in h.rows k e.symm
  omega
/-- one more: its list is new (from m on), the literal is laid, then the append -/
theorem itG_add {w2 w' : World} {lo m hi h0 : Nat} {v v' : Value} {ys : List ItRow} {x : ItRow} (hr : OwnR itC 3 59 w2 lo h0 v ys) (hi1 : ItsOwn w2 lo m ys) (hx : PrOwn w2 m hi x.v x.e.l) (hm : m ≤ hi) (h12 : hi ≤ w2.heap.size)
    (ha : w'.ownsRow lo 59 3 v' (ys.length + 1) (ys.flatMap itC ++ itC x)) (hg : w2.grownBy w' v.ownBlock) : ItG w' lo w'.heap.size v' (ys ++ [x]) := by
  have hr' : OwnsR itC 3 59 w' lo v' (ys ++ [x]) := by
    unfold OwnsR
    rw [List.length_append, List.flatMap_append]
    simpa using ha
  refine ⟨ownR_of hr', ?_⟩
  have hall : ItsOwn w2 lo w2.heap.size (ys ++ [x]) := chain_top h12 (itsOwn_snoc hi1 hx hm)
  have hsz : w2.heap.size ≤ w'.heap.size := hg.size
  rcases hr.1.2 with ⟨rfl, _⟩ | ⟨g, cap, cur, rfl, _, hrow, _⟩
  · exact chain_top hsz (itsOwn_apart (p := 0) (q := 0) (within_grown hg (fun k hk => by cases hk)) (.inr (Nat.zero_le _)) hall)
  · exact chain_top hsz (itsOwn_outer ⟨cur, hrow⟩ hg hall)
theorem it_one_at {w : World} {B : Nat} {x : ItRow} {t : TypeId} {fr : Nat × Nat} (h : w.heap[B]? = some (.cells (itC x).toArray t fr)) : ReadsR itC 3 w (.slice (some ⟨B, 0, none⟩) 1 1) [x] := by
  refine .inr ⟨by simp, B, 0, 1, rfl, (Array.getElem?_eq_some_iff.1 h).1, by simp, by unfold maxLen; omega, fun k y hk => ?_⟩
  match k, hk with
  | 0, hk =>
    cases hk
    intro j u hu
    rw [Nat.zero_mul, Nat.zero_add, cell_of_row _ _ _ _ _ _ h]
    simpa using hu
end Go.Proofs.Ytbkllceceaedpaa
