/- An entry's lists marked, and asked for again; nothing outside their stretch is written. -/
import Derived.Test.YtaiboncomibikaaGreatDoorEnH
import Derived.Test.YtaiboncomibikaaGreatDoorScM
import Derived.Test.YtaiboncomibikaaGreatDoorPrM
namespace Go.Proofs.YtaiboncomibikaaGreatDoor
open Go.RowKit
set_option linter.unusedVariables false

/-- what was there is as it was, but for the blocks from lo to hi -/
structure Within (w w' : World) (lo hi : Nat) : Prop where
  os : w'.os = w.os
  tape : w'.tape = w.tape
  output : w'.output = w.output
  size : w.heap.size ≤ w'.heap.size
  block : ∀ k, k < w.heap.size → (k < lo ∨ hi ≤ k) → w'.heap[k]? = w.heap[k]?
theorem within_refl (w : World) (lo hi : Nat) : Within w w lo hi := ⟨rfl, rfl, rfl, Nat.le_refl _, fun _ _ _ => rfl⟩
theorem within_trans {a b c : World} {lo hi : Nat} (h : Within a b lo hi) (g : Within b c lo hi) : Within a c lo hi :=
  ⟨g.os.trans h.os, g.tape.trans h.tape, g.output.trans h.output, Nat.le_trans h.size g.size, fun k hk hr => (g.block k (Nat.lt_of_lt_of_le hk h.size) hr).trans (h.block k hk hr)⟩
theorem within_below {w w' : World} (h : Below w.heap.size w w') (lo hi : Nat) : Within w w' lo hi := ⟨h.os, h.tape, h.output, h.size, fun k hk _ => h.block k hk⟩
theorem within_mono {w w' : World} {lo hi lo' hi' : Nat} (h : Within w w' lo hi) (h1 : lo' ≤ lo) (h2 : hi ≤ hi') : Within w w' lo' hi' :=
  ⟨h.os, h.tape, h.output, h.size, fun k hk hr => h.block k hk (by omega)⟩
theorem within_grown {w w' : World} {lo hi : Nat} {r : Option Nat} (h : w.grownBy w' r) (hr : ∀ k, r = some k → lo ≤ k ∧ k < hi) : Within w w' lo hi :=
  ⟨h.os, h.tape, h.output, h.size, fun k hk hkk => h.block k hk (fun e => by have := hr k e.symm; omega)⟩
theorem own_in {w : World} {lo hi : Nat} {v : Value} {l : List ByteArray} (h : Own w lo hi v l) : ∀ k, v.ownBlock = some k → lo ≤ k ∧ k < hi := fun k hk => ⟨(h.1.lt k hk).1, h.2 k hk⟩
theorem ownR_in {α : Type} {c : α → List Value} {sz : Nat} {t : TypeId} {w : World} {lo hi : Nat} {v : Value} {l : List α} (h : OwnR c sz t w lo hi v l) : ∀ k, v.ownBlock = some k → lo ≤ k ∧ k < hi := fun k hk => ⟨(h.1.lt k hk).1, h.2 k hk⟩
theorem ownsRow_block {w w' : World} {base : Nat} {e : TypeId} {size : Nat} {v : Value} {n : Nat} {xs : List Value} (h : w.ownsRow base e size v n xs) (hb : ∀ g, v.ownBlock = some g → w'.heap[g]? = w.heap[g]?) : w'.ownsRow base e size v n xs := by
  refine ⟨h.1, ?_⟩
  rcases h.2 with hn | ⟨g, cap, cur, rfl, hbg, hgg, rest⟩
  · exact .inl hn
  · exact .inr ⟨g, cap, cur, rfl, hbg, (hb g rfl).trans hgg, rest⟩
theorem own_within {w w' : World} {lo hi a b : Nat} {v : Value} {l : List ByteArray} (h : Own w lo hi v l) (hw : Within w w' a b) (hap : hi ≤ a ∨ b ≤ lo) : Own w' lo hi v l :=
  ⟨ownsRow_block h.1 fun g hg => hw.block g (h.1.lt g hg).2 (by have := own_in h g hg; omega), h.2⟩
theorem ownR_within {α : Type} {c : α → List Value} {sz : Nat} {t : TypeId} {w w' : World} {lo hi a b : Nat} {v : Value} {l : List α} (h : OwnR c sz t w lo hi v l) (hw : Within w w' a b) (hap : hi ≤ a ∨ b ≤ lo) : OwnR c sz t w' lo hi v l :=
  ⟨ownsRow_block h.1 fun g hg => hw.block g (h.1.lt g hg).2 (by have := ownR_in h g hg; omega), h.2⟩
theorem enOwn_within {w w' : World} {lo hi a b : Nat} {vl vs vf : Value} {e : Ent} (h : EnOwn w lo hi vl vs vf e) (hw : Within w w' a b) (hap : hi ≤ a ∨ b ≤ lo) : EnOwn w' lo hi vl vs vf e := by
  obtain ⟨x, y, h1, h2, h3, h4, h5, h6⟩ := h
  exact ⟨x, y, h1, h2, h3, own_within h4 hw (by omega), ownR_within h5 hw (by omega), ownR_within h6 hw (by omega)⟩

/-- the entry, its lists marked from 1 on -/
def mkd (e : Ent) : Ent := { e with list := marks 1 e.list.length, scores := scMarks (1 + e.list.length) e.scores.length, fields := prMarks (1 + e.list.length + 2 * e.scores.length) e.fields.length }
def entM (e : Ent) : Int := 1 + (e.list.length : Int) + 2 * (e.scores.length : Int) + 2 * (e.fields.length : Int)

theorem mkd_len (e : Ent) : (mkd e).list.length = e.list.length ∧ (mkd e).scores.length = e.scores.length ∧ (mkd e).fields.length = e.fields.length := ⟨marks_len _ _, scMarks_len _ _, prMarks_len _ _⟩
end Go.Proofs.YtaiboncomibikaaGreatDoor
