/- Slices of structs in memory: read, owned, kept. Plain facts on worlds: no Go text here. -/
import Derived.WalkKit
import Derived.WalkSpells
import Derived.Outline
import Derived.Lib.Strings
import Derived.Deep.QuietTactic
import Derived.BigQuiet
import Derived.WalkSmall
import Derived.WalkLawsBesides
import Derived.Deep.MidRow
import Derived.Laws.OwnMore
namespace Go.Proofs.Ytbkllceceaedpaa
open Go.RowKit

section
variable {α : Type}

/-- the value leads to rows of sz cells each, one for each x of l, in the world w -/
def ReadsR (c : α → List Value) (sz : Nat) (w : World) (v : Value) (l : List α) : Prop :=
  (l = [] ∧ ∃ ao cap, v = .slice ao 0 cap ∧ (ao = none → cap = 0)) ∨
  (0 < l.length ∧ ∃ b off cap, v = .slice (some ⟨b, off, none⟩) l.length cap ∧ b < w.heap.size ∧ l.length ≤ cap ∧ cap ≤ maxLen ∧ ∀ k x, l[k]? = some x → w.rangeAt b (off + k * sz) (c x))

/-- the value is a row of its own from block 'base' on, of just the elements l -/
def OwnsR (c : α → List Value) (sz : Nat) (e : TypeId) (w : World) (base : Nat) (v : Value) (l : List α) : Prop := w.ownsRow base e sz v l.length (l.flatMap c)

variable {c : α → List Value} {sz : Nat} {e : TypeId}

theorem ownsR_kept {w w' : World} {base : Nat} {v : Value} {l : List α} (h : OwnsR c sz e w base v l) (hb : Below w.heap.size w w') : OwnsR c sz e w' base v l :=
  h.kept (row := none) ⟨hb.os, hb.tape, hb.output, hb.size, fun k hk _ => hb.block k hk⟩ (by cases hv : v.ownBlock <;> simp)

theorem rangeAt_kept {w w' : World} {b o : Nat} {cs : List Value} (h : w.rangeAt b o cs) (hb : Below w.heap.size w w') (hlt : b < w.heap.size) : w'.rangeAt b o cs :=
  fun j v hv => (hb.cell (p := ⟨b, o + j, none⟩) hlt).trans (h j v hv)
theorem rangeAt_keptB {B : Nat} {w w' : World} {b o : Nat} {cs : List Value} (h : w.rangeAt b o cs) (hb : Below B w w') (hlt : b < B) : w'.rangeAt b o cs :=
  fun j v hv => (hb.cell (p := ⟨b, o + j, none⟩) hlt).trans (h j v hv)

theorem readsR_kept {w w' : World} {v : Value} {l : List α} (h : ReadsR c sz w v l) (hb : Below w.heap.size w w') : ReadsR c sz w' v l := by
  rcases h with h | ⟨h0, b, off, cap, hv, hlt, h1, h2, hc⟩
  · exact .inl h
  · exact .inr ⟨h0, b, off, cap, hv, Nat.lt_of_lt_of_le hlt hb.size, h1, h2, fun k x hk => rangeAt_kept (hc k x hk) hb hlt⟩

theorem readsR_shape {w : World} {v : Value} {l : List α} (h : ReadsR c sz w v l) : ∃ ao cap, v = .slice ao l.length cap := by
  rcases h with ⟨rfl, ao, cap, rfl, _⟩ | ⟨h0, b, off, cap, rfl, _⟩
  · exact ⟨_, _, rfl⟩
  · exact ⟨_, _, rfl⟩

theorem flat_len (hsz : ∀ x, (c x).length = sz) : ∀ (l : List α), (l.flatMap c).length = l.length * sz
  | [] => by simp
  | x :: l => by rw [List.flatMap_cons, List.length_append, flat_len hsz l, hsz, List.length_cons, Nat.add_mul, Nat.one_mul, Nat.add_comm]
theorem flat_get (hsz : ∀ x, (c x).length = sz) : ∀ (l : List α) (k : Nat) (x : α), l[k]? = some x → ∀ j u, (c x)[j]? = some u → (l.flatMap c)[k * sz + j]? = some u
  | [], k, x, h, _, _, _ => by simp at h
  | y :: l, 0, x, h, j, u, hu => by
    simp at h; subst h
    have hj := (List.getElem?_eq_some_iff.1 hu).1
    rw [List.flatMap_cons, Nat.zero_mul, Nat.zero_add, List.getElem?_append_left hj, hu]
  | y :: l, k + 1, x, h, j, u, hu => by
    have h' : l[k]? = some x := by simpa using h
    rw [List.flatMap_cons, Nat.add_mul, Nat.one_mul, List.getElem?_append_right (by rw [hsz]; omega), hsz, show k * sz + sz + j - sz = k * sz + j by omega]
    exact flat_get hsz l k x h' j u hu
theorem flat_inv (hsz : ∀ x, (c x).length = sz) : ∀ (l : List α) (j : Nat) (u : Value), (l.flatMap c)[j]? = some u → ∃ k x r, l[k]? = some x ∧ (c x)[r]? = some u ∧ j = k * sz + r
  | [], j, u, h => by simp at h
  | y :: l, j, u, h => by
    rw [List.flatMap_cons] at h
    by_cases hj : j < (c y).length
    · rw [List.getElem?_append_left hj] at h
      exact ⟨0, y, j, rfl, h, by simp⟩
    · rw [List.getElem?_append_right (by omega)] at h
      obtain ⟨k, x, r, h1, h2, h3⟩ := flat_inv hsz l _ u h
      refine ⟨k + 1, x, r, by simpa using h1, h2, ?_⟩
      rw [hsz] at hj h3
      rw [Nat.add_mul, Nat.one_mul]; omega
theorem flat_one (h1 : ∀ x, ∀ u ∈ c x, u.oneCell' = true) (l : List α) : ∀ u ∈ l.flatMap c, u.oneCell' = true := by
  intro u hu; rw [List.mem_flatMap] at hu; obtain ⟨x, _, hx⟩ := hu; exact h1 x u hx

theorem ownsR_reads (hsz : ∀ x, (c x).length = sz) {w : World} {base : Nat} {v : Value} {l : List α} (h : OwnsR c sz e w base v l) : ReadsR c sz w v l := by
  rcases h.2 with ⟨rfl, hn⟩ | ⟨g, cap, cur, rfl, _, hg, hnc, hcm, hcs, ht⟩
  · exact .inl ⟨List.length_eq_zero_iff.1 hn, none, 0, by simp, fun _ => rfl⟩
  · by_cases h0 : 0 < l.length
    · refine .inr ⟨h0, g, 0, cap, rfl, (Array.getElem?_eq_some_iff.1 hg).1, hnc, hcm, fun k x hk j u hu => ?_⟩
      have hf := flat_get hsz l k x hk j u hu
      have hlt := (List.getElem?_eq_some_iff.1 hf).1
      rw [flat_len hsz] at hlt
      rw [Nat.zero_add, World.ownsRow.cellAt h _ hlt, hf]
    · have e : l = [] := List.length_eq_zero_iff.1 (by omega)
      subst e
      exact .inl ⟨rfl, _, _, rfl, by simp⟩
theorem ownsR_base {w : World} {base base' : Nat} {v : Value} {l : List α} (h : OwnsR c sz e w base v l) (hb : base' ≤ base) : OwnsR c sz e w base' v l := by
  refine ⟨h.1, ?_⟩
  rcases h.2 with h2 | ⟨g, cap, cur, hv, hg, r⟩
  · exact .inl h2
  · exact .inr ⟨g, cap, cur, hv, Nat.le_trans hb hg, r⟩

/-- the cells of a list that is read, as an append wants them -/
theorem rows_at (hsz : ∀ x, (c x).length = sz) {w : World} {b off : Nat} {l : List α} (hc : ∀ k x, l[k]? = some x → w.rangeAt b (off + k * sz) (c x)) :
    ∀ j u, (l.flatMap c)[j]? = some u → w.cell? ((⟨b, off, none⟩ : Addr).add j) = some u := by
  intro j u hu
  obtain ⟨k, x, r, h1, h2, rfl⟩ := flat_inv hsz l j u hu
  rw [Addr.add_mid, ← Nat.add_assoc]
  exact hc k x h1 r u h2

/-- a cut of a list, however its address is written -/
theorem readsR_cut {w : World} {b off cap : Nat} {l : List α} (hb : b < w.heap.size) (hnc : l.length ≤ cap) (hcm : cap ≤ maxLen) (hc : ∀ k x, l[k]? = some x → w.rangeAt b (off + k * sz) (c x))
    {ao : Option Addr} {a e n k : Nat} (hao : ¬ cap = a → ao = some ⟨b, off + a * sz, none⟩) (hne : ao ≠ none) (hae : a ≤ e) (he : e ≤ l.length) (hn : n = e - a) (hcc : k = cap - a) : ReadsR c sz w (.slice ao n k) ((l.take e).drop a) := by
  subst hn hcc
  have hlen : ((l.take e).drop a).length = e - a := by simp; omega
  by_cases h0 : e - a = 0
  · rw [h0]
    refine .inl ⟨List.length_eq_zero_iff.1 (by omega), ao, _, rfl, fun h => absurd h hne⟩
  · refine .inr ⟨by omega, b, off + a * sz, cap - a, by rw [hao (by omega), hlen], hb, by omega, by omega, fun k x hk => ?_⟩
    rw [List.getElem?_drop, List.getElem?_take] at hk
    split at hk
    · have := hc (a + k) x hk
      rw [Nat.add_mul, ← Nat.add_assoc] at this
      exact this
    · cases hk

/-- told by the stretch of blocks that it lies in -/
def OwnR (c : α → List Value) (sz : Nat) (e : TypeId) (w : World) (lo hi : Nat) (v : Value) (l : List α) : Prop := OwnsR c sz e w lo v l ∧ ∀ k, v.ownBlock = some k → k < hi
theorem ownR_of {w : World} {lo : Nat} {v : Value} {l : List α} (h : OwnsR c sz e w lo v l) : OwnR c sz e w lo w.heap.size v l := ⟨h, fun k hk => (h.lt k hk).2⟩
theorem ownR_kept {w w' : World} {lo hi : Nat} {v : Value} {l : List α} (h : OwnR c sz e w lo hi v l) (hb : Below w.heap.size w w') : OwnR c sz e w' lo hi v l := ⟨ownsR_kept h.1 hb, h.2⟩
theorem ownR_reads (hsz : ∀ x, (c x).length = sz) {w : World} {lo hi : Nat} {v : Value} {l : List α} (h : OwnR c sz e w lo hi v l) : ReadsR c sz w v l := ownsR_reads hsz h.1
theorem ownR_apart {β : Type} {c' : β → List Value} {sz' : Nat} {e' : TypeId} {w w' wu : World} {lo hi lo' hi' : Nat} {v u : Value} {l : List α} {m : List β} (h : OwnR c sz e w lo hi v l) (hu : OwnR c' sz' e' wu lo' hi' u m) (hg : w.grownBy w' u.ownBlock) (hap : hi ≤ lo' ∨ hi' ≤ lo) : OwnR c sz e w' lo hi v l := by
  refine ⟨h.1.kept hg ?_, h.2⟩
  cases hv : v.ownBlock with
  | none => exact .inl rfl
  | some k =>
    right
    intro e
    have h1 := h.2 k hv
    have h2 := (h.1.lt k hv).1
    have h3 := hu.2 k e.symm
    have h4 := (hu.1.lt k e.symm).1
    omega
theorem below_ownR {B : Nat} {a w w' wu : World} {lo hi : Nat} {u : Value} {m : List α} (h : Below B a w) (hB : B ≤ w.heap.size) (hu : OwnR c sz e wu lo hi u m) (hlo : B ≤ lo) (hg : w.grownBy w' u.ownBlock) : Below B a w' :=
  h.grown hg hB (fun k hk => Nat.le_trans hlo (hu.1.lt k hk).1)
theorem ownsR_form {w : World} {base : Nat} {v : Value} {l : List α} (h : OwnsR c sz e w base v l) :
    (l = [] ∧ ∃ ao cap, v = .slice ao 0 cap) ∨ (0 < l.length ∧ ∃ g cap, v = .slice (some ⟨g, 0, none⟩) l.length cap) := by
  rcases h.2 with ⟨rfl, hn⟩ | ⟨g, cap, cur, rfl, _, _, _, _, _, _⟩
  · exact .inl ⟨List.length_eq_zero_iff.1 hn, _, _, rfl⟩
  · by_cases h0 : l.length = 0
    · refine .inl ⟨List.length_eq_zero_iff.1 h0, ?_⟩; rw [h0]; exact ⟨_, _, rfl⟩
    · exact .inr ⟨by omega, g, cap, rfl⟩

/-- one cell of an element is written -/
theorem flat_set (hsz : ∀ x, (c x).length = sz) : ∀ (l : List α) (k : Nat) (x y : α), l[k]? = some x → ∀ j u, j < sz → (c x).set j u = c y → (l.flatMap c).set (k * sz + j) u = (l.set k y).flatMap c
  | [], k, x, y, h, _, _, _, _ => by simp at h
  | z :: l, 0, x, y, h, j, u, hj, hu => by
    simp at h; subst h
    rw [List.flatMap_cons, Nat.zero_mul, Nat.zero_add, List.set_append_left _ _ (by rw [hsz]; exact hj), hu, List.set_cons_zero, List.flatMap_cons]
  | z :: l, k + 1, x, y, h, j, u, hj, hu => by
    have h' : l[k]? = some x := by simpa using h
    rw [List.flatMap_cons, Nat.add_mul, Nat.one_mul, List.set_append_right _ _ (by rw [hsz]; omega), hsz, show k * sz + sz + j - sz = k * sz + j by omega, List.set_cons_succ, List.flatMap_cons, flat_set hsz l k x y h' j u hj hu]
theorem ownsR_stored (hsz : ∀ x, (c x).length = sz) {w : World} {base g cap : Nat} {l : List α} (h : OwnsR c sz e w base (.slice (some ⟨g, 0, none⟩) l.length cap) l) (k j : Nat) (x y : α) (u : Value) (hk : l[k]? = some x) (hj : j < sz) (hu : (c x).set j u = c y) :
    OwnsR c sz e (w.setCell ⟨g, k * sz + j, none⟩ u) base (.slice (some ⟨g, 0, none⟩) l.length cap) (l.set k y) ∧ w.grownBy (w.setCell ⟨g, k * sz + j, none⟩ u) (some g) := by
  unfold OwnsR
  have := World.ownsRow.stored h (k * sz + j) u
  rw [flat_set hsz l k x y hk j u hj hu] at this
  rw [List.length_set]
  exact this
end
end Go.Proofs.Ytbkllceceaedpaa
