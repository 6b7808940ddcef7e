/- The model's copy of a list. -/
import Derived.Test.YtndegickekjkjaaOkS
import Derived.Laws.AppendOwnNone
import Derived.Maps.AppendAt
namespace Go.Proofs.Ytndegickekjkjaa
open Go.RowKit

theorem strs_one (l : List ByteArray) : ∀ u ∈ l.map Value.string, u.oneCell' = true := by
  intro u hu; rw [List.mem_map] at hu; obtain ⟨s, _, rfl⟩ := hu; rfl
theorem strs_at {w : World} {b off : Nat} {l : List ByteArray} (hc : ∀ k, k < l.length → w.cell? ⟨b, off + k, none⟩ = some (.string (at_ l k))) :
    ∀ j u, (l.map Value.string)[j]? = some u → w.cell? ((⟨b, off, none⟩ : Addr).add j) = some u := by
  intro j u hu
  have hadd : (⟨b, off, none⟩ : Addr).add j = ⟨b, off + j, none⟩ := by unfold Addr.add; split <;> simp_all
  rw [List.getElem?_map] at hu
  cases hl : l[j]? with
  | none => rw [hl] at hu; cases hu
  | some s =>
    have hj := (List.getElem?_eq_some_iff.1 hl).1
    rw [hl] at hu
    rw [hadd, hc j hj, ← hu, at_lt hj]
    rw [List.getElem?_eq_getElem hj] at hl
    cases hl; rfl

/-- a cut of a list, however its address is written -/
theorem reads_cut {w : World} {b off cap : Nat} {l : List ByteArray} (hb : b < w.heap.size) (hnc : l.length ≤ cap) (hcm : cap ≤ maxLen) (hc : ∀ k, k < l.length → w.cell? ⟨b, off + k, none⟩ = some (.string (at_ l k)))
    {ao : Option Addr} {a e n c : Nat} (hao : ¬ cap = a → ao = some ⟨b, off + a, none⟩) (hne : ao ≠ none) (hae : a ≤ e) (he : e ≤ l.length) (hn : n = e - a) (hcc : c = cap - a) : Reads w (.slice ao n c) ((l.take e).drop a) := by
  subst hn hcc
  have hlen : ((l.take e).drop a).length = e - a := by simp; omega
  by_cases h0 : e - a = 0
  · rw [h0]
    refine .inl ⟨List.length_eq_zero_iff.1 (by omega), ao, _, rfl, fun h => absurd h hne⟩
  · refine .inr ⟨by omega, b, off + a, cap - a, by rw [hao (by omega), hlen], hb, by omega, by omega, fun k hk => ?_⟩
    rw [Nat.add_assoc, hc (a + k) (by omega)]
    unfold at_
    rw [List.getD_eq_getElem?_getD, List.getD_eq_getElem?_getD, List.getElem?_drop, List.getElem?_take, if_pos (by omega)]

end Go.Proofs.Ytndegickekjkjaa
