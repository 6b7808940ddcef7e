/- The library's Clone of texts; what Sort and Compact make of texts is ascending, and has the same texts. -/
import Derived.Test.YtndegickekjkjaaSetU
import Derived.Test.YtndegickekjkjaaShelf
import Derived.Lib.SliceRun
import Derived.Lib.RowBridge
import Derived.Sort.OwnSorted
namespace Go.Proofs.Ytndegickekjkjaa
open Go.RowKit

theorem le_of_not {x y : List UInt8} (h : ¬ y < x) : x ≤ y := List.not_lt.1 h
theorem lt_of_le_ne {x y : List UInt8} (h : x ≤ y) (hne : x ≠ y) : x < y := by
  by_cases hl : x < y
  · exact hl
  · exact absurd (List.le_antisymm h (le_of_not hl)) hne
theorem lt_of_le_lt {x y z : List UInt8} (h : x ≤ y) (h2 : y < z) : x < z := by
  by_cases hl : x < z
  · exact hl
  · have := List.le_trans (le_of_not hl) h
    exact absurd h2 (List.not_lt.2 this)
theorem compact_sorted (d : Array (List UInt8)) (hs : ∀ i j, i ≤ j → j < d.size → d[i]! ≤ d[j]!) : ∀ m, m ≤ d.size → (∀ x, x ∈ Lib.compactUpTo d m ↔ ∃ j, j < m ∧ d[j]! = x) ∧ (Lib.compactUpTo d m).Pairwise (· < ·)
  | 0, _ => by simp [Lib.compactUpTo]
  | m + 1, hm => by
    obtain ⟨ih1, ih2⟩ := compact_sorted d hs m (by omega)
    rw [Lib.compactUpTo_succ]
    cases hk : Lib.keeps d m with
    | true =>
      rw [if_pos rfl]
      constructor
      · intro x
        rw [List.mem_append, ih1, List.mem_singleton]
        constructor
        · rintro (⟨j, hj, h⟩ | h)
          · exact ⟨j, by omega, h⟩
          · exact ⟨m, by omega, h.symm⟩
        · rintro ⟨j, hj, h⟩
          by_cases e : j = m
          · exact .inr (by rw [← h, e])
          · exact .inl ⟨j, by omega, h⟩
      · rw [List.pairwise_append]
        refine ⟨ih2, by simp, fun x hx y hy => ?_⟩
        rw [List.mem_singleton] at hy
        obtain ⟨j, hj, rfl⟩ := (ih1 x).1 hx
        subst hy
        have hk' : m = 0 ∨ d[m]! ≠ d[m - 1]! := by unfold Lib.keeps at hk; simpa using hk
        rcases hk' with h0 | hne
        · omega
        · exact lt_of_le_lt (hs j (m - 1) (by omega) (by omega)) (lt_of_le_ne (hs (m - 1) m (by omega) (by omega)) (fun e => hne e.symm))
    | false =>
      have hk' : ¬ (m = 0 ∨ d[m]! ≠ d[m - 1]!) := by unfold Lib.keeps at hk; simpa using hk
      have h0 : m ≠ 0 := fun e => hk' (.inl e)
      have he : d[m]! = d[m - 1]! := by
        by_cases e : d[m]! = d[m - 1]!
        · exact e
        · exact absurd (.inr e) hk'
      rw [if_neg (by simp), List.append_nil]
      refine ⟨fun x => ?_, ih2⟩
      rw [ih1]
      constructor
      · rintro ⟨j, hj, h⟩; exact ⟨j, by omega, h⟩
      · rintro ⟨j, hj, h⟩
        by_cases e : j = m
        · exact ⟨m - 1, by omega, by rw [← he, ← e]; exact h⟩
        · exact ⟨j, by omega, h⟩
def ofB (b : List UInt8) : ByteArray := ⟨b.toArray⟩
theorem ofB_toList (b : List UInt8) : (ofB b).toList = b := ByteArray.toList_mk b
theorem ofB_to (s : ByteArray) : ofB s.toList = s := toList_inj (ofB_toList _)
theorem enc_ofB (b : List UInt8) : encStr b = .string (ofB b) := rfl
def srtL (l : List ByteArray) : List (List UInt8) := (l.map ByteArray.toList).mergeSort fun x y => decide (x ≤ y)
def cmpL (l : List ByteArray) : List ByteArray := (Lib.compact (srtL l)).map ofB
theorem srtL_len (l : List ByteArray) : (srtL l).length = l.length := by unfold srtL; simp
theorem cmp_facts (l : List ByteArray) : Asc (cmpL l) ∧ ∀ s, s ∈ cmpL l ↔ s ∈ l := by
  have hp : (srtL l).Pairwise (fun x y => decide (x ≤ y) = true) := List.pairwise_mergeSort (fun a b c h1 h2 => by simp only [decide_eq_true_eq] at *; exact List.le_trans h1 h2) (fun a b => by simp only [Bool.or_eq_true, decide_eq_true_eq]; exact List.le_total a b) _
  have hs : ∀ i j, i ≤ j → j < (srtL l).toArray.size → (srtL l).toArray[i]! ≤ (srtL l).toArray[j]! := by
    intro i j hij hj
    have hj' : j < (srtL l).length := by simpa using hj
    rw [getElem!_pos _ i (by simp; omega), getElem!_pos _ j (by simpa using hj')]
    by_cases e : i = j
    · subst e; exact List.le_refl _
    · have := (List.pairwise_iff_getElem.1 hp) i j (by omega) hj' (by omega)
      simpa using this
  obtain ⟨h1, h2⟩ := compact_sorted (srtL l).toArray hs (srtL l).toArray.size (Nat.le_refl _)
  have e : Lib.compact (srtL l) = Lib.compactUpTo (srtL l).toArray (srtL l).toArray.size := by unfold Lib.compact; simp
  constructor
  · unfold cmpL Asc; rw [List.pairwise_map, e]
    refine h2.imp fun {x y} h => ?_
    rw [ltT_iff, ofB_toList, ofB_toList]; exact h
  · intro s
    unfold cmpL; rw [List.mem_map, e]
    constructor
    · rintro ⟨b, hb, rfl⟩
      obtain ⟨j, hj, rfl⟩ := (h1 b).1 hb
      rw [getElem!_pos _ j hj]
      have hm : (srtL l).toArray[j] ∈ srtL l := by simp
      unfold srtL at hm ⊢
      rw [List.mem_mergeSort, List.mem_map] at hm
      obtain ⟨t, ht, hte⟩ := hm
      rw [← hte, ofB_to]; exact ht
    · intro h
      refine ⟨s.toList, ?_, ofB_to s⟩
      have hm : s.toList ∈ srtL l := by unfold srtL; rw [List.mem_mergeSort, List.mem_map]; exact ⟨s, h, rfl⟩
      obtain ⟨j, hj, hje⟩ := List.getElem_of_mem hm
      exact (h1 _).2 ⟨j, by simpa using hj, by rw [getElem!_pos _ j (by simpa using hj)]; simpa using hje⟩
theorem cmpL_len (l : List ByteArray) : (cmpL l).length ≤ l.length := by
  unfold cmpL; rw [List.length_map]; have := Lib.compact_length_le (srtL l); rw [srtL_len] at this; exact this
end Go.Proofs.Ytndegickekjkjaa
