/- Nothing outside a stretch of blocks is written. Plain facts. -/
import Derived.Test.YtbkllceceaedpaaRwP
import Derived.Test.YtbkllceceaedpaaOwn
namespace Go.Proofs.Ytbkllceceaedpaa
open Go.RowKit
set_option linter.unusedVariables false

/-- what was there is as it was, but for the blocks from lo to hi -/
structure Within (w w' : World) (lo hi : Nat) : Prop where
  os : w'.os = w.os
  tape : w'.tape = w.tape
  output : w'.output = w.output
  size : w.heap.size ≤ w'.heap.size
  block : ∀ k, k < w.heap.size → (k < lo ∨ hi ≤ k) → w'.heap[k]? = w.heap[k]?
theorem within_refl (w : World) (lo hi : Nat) : Within w w lo hi := ⟨rfl, rfl, rfl, Nat.le_refl _, fun _ _ _ => rfl⟩
theorem within_trans {a b c : World} {lo hi : Nat} (h : Within a b lo hi) (g : Within b c lo hi) : Within a c lo hi :=
  ⟨g.os.trans h.os, g.tape.trans h.tape, g.output.trans h.output, Nat.le_trans h.size g.size, fun k hk hr => (g.block k (Nat.lt_of_lt_of_le hk h.size) hr).trans (h.block k hk hr)⟩
theorem within_below {w w' : World} (h : Below w.heap.size w w') (lo hi : Nat) : Within w w' lo hi := ⟨h.os, h.tape, h.output, h.size, fun k hk _ => h.block k hk⟩
theorem within_mono {w w' : World} {lo hi lo' hi' : Nat} (h : Within w w' lo hi) (h1 : lo' ≤ lo) (h2 : hi ≤ hi') : Within w w' lo' hi' :=
  ⟨h.os, h.tape, h.output, h.size, fun k hk hr => h.block k hk (by omega)⟩
theorem within_grown {w w' : World} {lo hi : Nat} {r : Option Nat} (h : w.grownBy w' r) (hr : ∀ k, r = some k → lo ≤ k ∧ k < hi) : Within w w' lo hi :=
  ⟨h.os, h.tape, h.output, h.size, fun k hk hkk => h.block k hk (fun e => by have := hr k e.symm; omega)⟩
theorem own_in {w : World} {lo hi : Nat} {v : Value} {l : List ByteArray} (h : Own w lo hi v l) : ∀ k, v.ownBlock = some k → lo ≤ k ∧ k < hi := fun k hk => ⟨(h.1.lt k hk).1, h.2 k hk⟩
theorem ownR_in {α : Type} {c : α → List Value} {sz : Nat} {t : TypeId} {w : World} {lo hi : Nat} {v : Value} {l : List α} (h : OwnR c sz t w lo hi v l) : ∀ k, v.ownBlock = some k → lo ≤ k ∧ k < hi := fun k hk => ⟨(h.1.lt k hk).1, h.2 k hk⟩
theorem ownsRow_block {w w' : World} {base : Nat} {e : TypeId} {size : Nat} {v : Value} {n : Nat} {xs : List Value} (h : w.ownsRow base e size v n xs) (hb : ∀ g, v.ownBlock = some g → w'.heap[g]? = w.heap[g]?) : w'.ownsRow base e size v n xs := by
  refine ⟨h.1, ?_⟩
  rcases h.2 with hn | ⟨g, cap, cur, rfl, hbg, hgg, rest⟩
  · exact .inl hn
  · exact .inr ⟨g, cap, cur, rfl, hbg, (hb g rfl).trans hgg, rest⟩
theorem own_within {w w' : World} {lo hi a b : Nat} {v : Value} {l : List ByteArray} (h : Own w lo hi v l) (hw : Within w w' a b) (hap : hi ≤ a ∨ b ≤ lo) : Own w' lo hi v l :=
  ⟨ownsRow_block h.1 fun g hg => hw.block g (h.1.lt g hg).2 (by have := own_in h g hg; omega), h.2⟩
theorem ownR_within {α : Type} {c : α → List Value} {sz : Nat} {t : TypeId} {w w' : World} {lo hi a b : Nat} {v : Value} {l : List α} (h : OwnR c sz t w lo hi v l) (hw : Within w w' a b) (hap : hi ≤ a ∨ b ≤ lo) : OwnR c sz t w' lo hi v l :=
  ⟨ownsRow_block h.1 fun g hg => hw.block g (h.1.lt g hg).2 (by have := ownR_in h g hg; omega), h.2⟩
theorem within_set {w w' : World} {lo hi : Nat} (h : Within w w' lo hi) (g o : Nat) (u : Value) (h1 : lo ≤ g) (h2 : g < hi) : Within w (w'.setCell ⟨g, o, none⟩ u) lo hi :=
  ⟨h.os, h.tape, h.output, Nat.le_trans h.size ((Below.refl 0 w').setCell (p := ⟨g, o, none⟩) (Nat.zero_le _) u).size, fun k hk hr => (Below.heap_setCell w' ⟨g, o, none⟩ u k (by show k ≠ g; omega)).trans (h.block k hk hr)⟩

theorem within_own {w w' : World} {lo hi : Nat} {v : Value} (h : w.grownBy w' v.ownBlock) (hr : ∀ k, v.ownBlock = some k → lo ≤ k ∧ k < hi) : Within w w' lo hi := within_grown h hr
/-- a row's block of another type is another block -/
theorem ownR_other {α : Type} {c : α → List Value} {sz : Nat} {t u : TypeId} (ht : t ≠ u) {w : World} {lo hi g : Nat} {v : Value} {l : List α} (hg : ∃ cs, w.heap[g]? = some (.cells cs u (0, 0))) (h : OwnR c sz t w lo hi v l) : v.ownBlock ≠ some g := by
  intro e
  obtain ⟨cs, hg⟩ := hg
  rcases h.1.2 with ⟨hv, _⟩ | ⟨g', cap', cur, hv, _, hrow, _⟩
  · rw [hv] at e; cases e
  · rw [hv] at e
    have e2 : g' = g := by simpa [Value.ownBlock] using e
    rw [e2, hg] at hrow
    simp only [Option.some.injEq, Obj.cells.injEq] at hrow
    exact ht hrow.2.1.symm
theorem ownsR_rowG {α : Type} {c : α → List Value} {sz : Nat} {t : TypeId} {w : World} {base g n cap : Nat} {M : List α} (h : OwnsR c sz t w base (.slice (some ⟨g, 0, none⟩) n cap) M) : ∃ cs, w.heap[g]? = some (.cells cs t (0, 0)) := by
  rcases h.2 with ⟨hv, _⟩ | ⟨g', cap', cur, hv, _, hrow, _⟩
  · simp at hv
  · simp only [Value.slice.injEq, Option.some.injEq, Addr.mk.injEq, and_true] at hv
    obtain ⟨rfl, _⟩ := hv
    exact ⟨cur, hrow⟩
theorem chain_low {α : Type} {P : Nat → Nat → α → Prop} (hP : ∀ (lo lo' hi : Nat) (x : α), lo' ≤ lo → P lo hi x → P lo' hi x) : ∀ {l : List α} {lo lo' hi : Nat}, lo' ≤ lo → Chain P lo hi l → Chain P lo' hi l
  | [], _, _, _, h, hc => Nat.le_trans h hc
  | _ :: _, _, _, _, h, ⟨m, h1, h2, h3⟩ => ⟨m, Nat.le_trans h h1, hP _ _ _ _ h h2, h3⟩
/-- a change in one stretch leaves what lies apart from it -/
theorem chain_apart {α : Type} {P Q : Nat → Nat → α → Prop} {p q : Nat} (hle : ∀ (lo hi : Nat) (x : α), P lo hi x → lo ≤ hi) (hP : ∀ (lo hi : Nat) (x : α), hi ≤ p ∨ q ≤ lo → P lo hi x → Q lo hi x) : ∀ {l : List α} {lo hi : Nat}, hi ≤ p ∨ q ≤ lo → Chain P lo hi l → Chain Q lo hi l
  | [], _, _, _, h => h
  | _ :: _, lo, hi, hap, ⟨m, h1, h2, h3⟩ => ⟨m, h1, hP _ _ _ (by have := chain_le h3; omega) h2, chain_apart hle hP (by omega) h3⟩
end Go.Proofs.Ytbkllceceaedpaa
