/- The laws' own helpers over slices of texts: how much is left of a purse; a copy in new memory; are two alike. -/
import Derived.Test.YtbkllceceaedpaaRows
import Derived.Test.YtbkllceceaedpaaStrs
namespace Go.Proofs.Ytbkllceceaedpaa
open Go.RowKit

theorem reads_of_none {W : World} {a : Option Addr} {n c : Nat} (h : a = none ∧ n = 0 ∧ c = 0) :
    ∃ l, Reads W (.slice a n c) l ∧ (∀ s ∈ l, s.size ≤ maxLen) ∧ l.length ≤ maxLen := by
  obtain ⟨rfl, rfl, rfl⟩ := h
  exact ⟨[], .inl ⟨rfl, _, _, rfl, by simp⟩, by simp, by simp⟩
theorem reads_of_some {W : World} {a : Option Addr} {n c ln cp : Nat} {x : Addr} {ss : List ByteArray} (h : a = some x ∧ n = ln ∧ c = cp) (hl : ln ≤ cp) (hm : cp ≤ maxLen) (hz : ss.length = cp)
    (hcell : ∀ i, i < ss.length → W.cell? (x.add i) = some (.string (ss.getD i ByteArray.empty))) (hws : ∀ s ∈ ss, s.size ≤ maxLen) :
    ∃ l, Reads W (.slice a n c) l ∧ (∀ s ∈ l, s.size ≤ maxLen) ∧ l.length ≤ maxLen := by
  obtain ⟨rfl, rfl, rfl⟩ := h
  have e : (ss.take n).length = n := by simp; omega
  refine ⟨ss.take n, ?_, fun s hs => hws s (List.mem_of_mem_take hs), by omega⟩
  by_cases h0 : n = 0
  · subst h0; exact .inl ⟨by simp, _, _, rfl, by simp⟩
  · obtain ⟨b, off, spot⟩ := x
    have hc := hcell 0 (by omega)
    have hspot : spot = none := by simpa [Addr.add] using World.cell?_spot hc
    subst hspot
    refine .inr ⟨by omega, b, off, c, by rw [e], World.block_lt_of_cell? W _ hc, by omega, hm, fun k hk => ?_⟩
    have h1 := hcell k (by omega)
    have h2 : at_ (ss.take n) k = ss.getD k ByteArray.empty := by
      unfold at_; rw [List.getD_eq_getElem?_getD, List.getD_eq_getElem?_getD, List.getElem?_take, if_pos (by omega)]
    rw [h2, ← h1]
    congr 1
    unfold Addr.add; split <;> simp_all

theorem infoS : (Try.prog.info? 9).map (fun i => (i.zero, i.size, i.bytes)) = some (some (.string ByteArray.empty), 1, 16) := by kernel_rfl

/-- the first k texts of l in a row of as many as l has -/
def part (l : List ByteArray) (k : Nat) : List Value := (l.take k).map Value.string ++ List.replicate (l.length - k) (Value.string ByteArray.empty)
theorem part_len (l : List ByteArray) (k : Nat) (h : k ≤ l.length) : (part l k).length = l.length := by simp [part]; omega
theorem part_set (l : List ByteArray) (k : Nat) (h : k < l.length) : (part l k).set k (.string (at_ l k)) = part l (k + 1) := by
  unfold part
  have e : l.length - k = (l.length - (k + 1)) + 1 := by omega
  rw [List.set_append_right _ _ (by simp; omega), e, List.replicate_succ]
  have e2 : k - ((l.take k).map Value.string).length = 0 := by simp; omega
  rw [e2, List.set_cons_zero, List.take_succ_eq_append_getElem h, at_lt h, List.map_append, List.append_assoc]
  rfl
theorem part_all (l : List ByteArray) : part l l.length = l.map Value.string := by simp [part]
theorem part_none (l : List ByteArray) : part l 0 = List.replicate l.length (Value.string ByteArray.empty) := by simp [part]

/-- texts are alike up to k -/
def alikeTo (a b : List ByteArray) (k : Nat) : Prop := ∀ j, j < k → at_ a j = at_ b j
theorem alike_all {a b : List ByteArray} (h : a.length = b.length) (hk : alikeTo a b a.length) : a = b := by
  apply List.ext_getElem h
  intro i h1 h2
  have := hk i h1
  rwa [at_lt h1, at_lt h2] at this
theorem alike_not {a b : List ByteArray} {k : Nat} (hk : (at_ a k).toList ≠ (at_ b k).toList) : decide (a = b) = false := by
  simp only [decide_eq_false_iff_not]
  intro e; rw [e] at hk; exact hk rfl
theorem bytes_ext {a b : ByteArray} (h : a.toList = b.toList) : a = b := by
  rw [Lib.toList_data, Lib.toList_data] at h
  cases a; cases b; simp only [ByteArray.mk.injEq]; exact Array.toList_inj.1 h

theorem ne_of {a b : ByteArray} (h : (!a.toList == b.toList) = true) : a.toList ≠ b.toList := by simpa using h
theorem eq_of {a b : ByteArray} (h : (!a.toList == b.toList) = false) : a = b := bytes_ext (by simpa using h)

end Go.Proofs.Ytbkllceceaedpaa
