/- Slices of texts in memory: read, owned, kept. Plain facts on worlds: no Go text here. -/
import Derived.WalkKit
import Derived.WalkSpells
import Derived.Outline
import Derived.Lib.Strings
import Derived.Deep.QuietTactic
import Derived.BigQuiet
import Derived.SliceStrings
import Derived.WalkSmall
import Derived.WalkLawsBesides
namespace Go.Proofs.Ytbkllceceaedpaa
open Go.RowKit

/-- text number k of a list -/
def at_ (l : List ByteArray) (k : Nat) : ByteArray := l.getD k ByteArray.empty

/-- the value leads to the texts l in the world w -/
def Reads (w : World) (v : Value) (l : List ByteArray) : Prop :=
  (l = [] ∧ ∃ ao cap, v = .slice ao 0 cap ∧ (ao = none → cap = 0)) ∨
  (0 < l.length ∧ ∃ b off cap, v = .slice (some ⟨b, off, none⟩) l.length cap ∧ b < w.heap.size ∧ l.length ≤ cap ∧ cap ≤ maxLen ∧ ∀ k, k < l.length → w.cell? ⟨b, off + k, none⟩ = some (.string (at_ l k)))

/-- the value is a row of its own from block 'base' on, of just the texts l -/
def Owns (w : World) (base : Nat) (v : Value) (l : List ByteArray) : Prop := w.ownsRow base 9 1 v l.length (l.map Value.string)

theorem owns_kept {w w' : World} {base : Nat} {v : Value} {l : List ByteArray} (h : Owns w base v l) (hb : Below w.heap.size w w') : Owns w' base v l :=
  h.kept (row := none) ⟨hb.os, hb.tape, hb.output, hb.size, fun k hk _ => hb.block k hk⟩ (by cases hv : v.ownBlock <;> simp)

theorem reads_kept {w w' : World} {v : Value} {l : List ByteArray} (h : Reads w v l) (hb : Below w.heap.size w w') : Reads w' v l := by
  rcases h with h | ⟨h0, b, off, cap, hv, hlt, h1, h2, hc⟩
  · exact .inl h
  · exact .inr ⟨h0, b, off, cap, hv, Nat.lt_of_lt_of_le hlt hb.size, h1, h2, fun k hk => (hb.cell (p := ⟨b, off + k, none⟩) hlt).trans (hc k hk)⟩

theorem at_lt {l : List ByteArray} {k : Nat} (h : k < l.length) : at_ l k = l[k] := by
  unfold at_; rw [List.getD_eq_getElem?_getD, List.getElem?_eq_getElem h]; rfl

theorem owns_reads {w : World} {base : Nat} {v : Value} {l : List ByteArray} (h : Owns w base v l) : Reads w v l := by
  rcases h.2 with ⟨rfl, hn⟩ | ⟨g, cap, cur, rfl, _, hg, hnc, hcm, hcs, ht⟩
  · exact .inl ⟨List.length_eq_zero_iff.1 hn, none, 0, by simp, fun _ => rfl⟩
  · by_cases h0 : 0 < l.length
    · refine .inr ⟨h0, g, 0, cap, rfl, (Array.getElem?_eq_some_iff.1 hg).1, hnc, hcm, fun k hk => ?_⟩
      rw [Nat.zero_add, World.ownsRow.cellAt h k (by omega), List.getElem?_map, List.getElem?_eq_getElem hk, at_lt hk]; rfl
    · have e : l = [] := List.length_eq_zero_iff.1 (by omega)
      subst e
      exact .inl ⟨rfl, _, _, rfl, by simp⟩

theorem owns_base {w : World} {base base' : Nat} {v : Value} {l : List ByteArray} (h : Owns w base v l) (hb : base' ≤ base) : Owns w base' v l := by
  refine ⟨h.1, ?_⟩
  rcases h.2 with h2 | ⟨g, cap, cur, hv, hg, r⟩
  · exact .inl h2
  · exact .inr ⟨g, cap, cur, hv, Nat.le_trans hb hg, r⟩

theorem ret_bool {a b : Bool} (h : a = b) : Ending.returned (.bool a) = .returned (.bool b) := by rw [h]
theorem ret_int' {a b : Int} (h : a = b) : Ending.returned (.int .i64 a) = .returned (.int .i64 b) := by rw [h]

/-- how much is left of a purse behind a list of texts; -1 where it is not enough -/
def szTo (l : List ByteArray) (left : Int) (k : Nat) : Int := left - l.length - ((l.take k).map fun s => (s.size : Int)).sum
def sz (l : List ByteArray) (left : Int) : Int := if szTo l left l.length < 0 then -1 else szTo l left l.length
theorem szTo_succ {l : List ByteArray} {left : Int} {k : Nat} (h : k < l.length) : szTo l left (k + 1) = szTo l left k - (at_ l k).size := by
  unfold szTo
  rw [List.take_succ_eq_append_getElem h, List.map_append, List.sum_append, at_lt h]
  simp; omega
theorem szTo_mono {l : List ByteArray} {left : Int} {k : Nat} (h : k ≤ l.length) : szTo l left l.length ≤ szTo l left k := by
  obtain ⟨d, hd⟩ : ∃ d, l.length = k + d := ⟨l.length - k, by omega⟩
  rw [hd]
  clear h
  induction d generalizing k with
  | zero => exact Int.le_refl _
  | succ d ih =>
    have h1 := szTo_succ (left := left) (show k < l.length by omega)
    have h2 := ih (k := k + 1) (by omega)
    have e : k + 1 + d = k + (d + 1) := by omega
    rw [e] at h2
    omega
theorem sz_neg {l : List ByteArray} {left : Int} {k : Nat} (hk : k ≤ l.length) (h : szTo l left k < 0) : sz l left = -1 := by
  unfold sz; rw [if_pos]; have := szTo_mono (left := left) hk; omega
theorem sz_len {l : List ByteArray} {left : Int} (h : 0 ≤ sz l left) : (l.length : Int) ≤ left ∧ sz l left ≤ left ∧ ∀ s ∈ l, (s.size : Int) ≤ left := by
  have h0 : 0 ≤ szTo l left l.length ∧ sz l left = szTo l left l.length := by
    unfold sz at h ⊢; split at h
    · omega
    · rename_i hn; exact ⟨by omega, if_neg hn⟩
  have h1 := szTo_mono (l := l) (left := left) (Nat.zero_le _)
  have h2 : szTo l left 0 = left - l.length := by simp [szTo]
  refine ⟨by omega, by omega, fun s hs => ?_⟩
  obtain ⟨k, hk, rfl⟩ := List.getElem_of_mem hs
  have h3 := szTo_succ (left := left) hk
  have h4 := szTo_mono (l := l) (left := left) (k := k + 1) hk
  have h5 : szTo l left k ≤ left - l.length := by
    have : ∀ j, j ≤ l.length → szTo l left j ≤ left - l.length := by
      intro j hj
      induction j with
      | zero => omega
      | succ j ih => have := szTo_succ (left := left) (show j < l.length by omega); have := ih (by omega); omega
    exact this k (by omega)
  rw [at_lt hk] at h3
  omega
end Go.Proofs.Ytbkllceceaedpaa
