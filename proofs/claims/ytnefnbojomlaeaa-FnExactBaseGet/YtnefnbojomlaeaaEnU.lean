/- In a base that is ok the model's place of a key is the program's. -/
import Derived.Test.YtnefnbojomlaeaaEnT
import Derived.Test.YtnefnbojomlaeaaEnS
import Derived.Sort.Walk0
namespace Go.Proofs.Ytnefnbojomlaeaa
open Go.RowKit
set_option linter.unusedVariables false

theorem keyLt_irr {a b : ByteArray} (h : Op.bytesLess a.toList b.toList = true) : a ≠ b := by
  rintro rfl
  rw [bytesLess_eq] at h
  exact absurd (by simpa using h) (List.lt_irrefl _)
theorem keyLt_trans {a b c : ByteArray} (h1 : Op.bytesLess a.toList b.toList = true) (h2 : Op.bytesLess b.toList c.toList = true) : Op.bytesLess a.toList c.toList = true := by
  rw [bytesLess_eq] at *
  simp only [decide_eq_true_eq] at *
  exact List.lt_trans h1 h2
/-- the keys of a base that is ok go up -/
theorem bsOk_up {n : Int} {l : List Row} (h : bsOkB n (l.map Row.e) = true) {k : Nat} (hk : k + 1 < l.length) :
    Op.bytesLess (esAt l k).e.key.toList (esAt l (k + 1)).e.key.toList = true := by
  unfold bsOkB at h
  simp only [Bool.and_eq_true] at h
  have h1 := List.all_eq_true.1 h.1.1 (k + 1) (List.mem_range.2 (by rw [List.length_map]; exact hk))
  unfold bsRowOk at h1
  simp only [Bool.and_eq_true, Bool.or_eq_true, decide_eq_true_eq] at h1
  have h2 := h1.2.resolve_left (by omega)
  rw [Nat.add_sub_cancel, enAt_map l k (by omega), enAt_map l (k + 1) hk] at h2
  exact h2
theorem bsOk_lt {n : Int} {l : List Row} (h : bsOkB n (l.map Row.e) = true) (i d : Nat) (hk : i + d + 1 < l.length) :
    Op.bytesLess (esAt l i).e.key.toList (esAt l (i + d + 1)).e.key.toList = true := by
  induction d with
  | zero => exact bsOk_up h hk
  | succ d ih => exact keyLt_trans (ih (by omega)) (bsOk_up h (by omega))
/-- the place that the model finds is the key's, if the key is there -/
theorem at_idx {n : Int} {l : List Row} {s : ByteArray} (h : bsOkB n (l.map Row.e) = true) {k : Nat} (hk : k ≤ l.length)
    (hlt : ∀ j, j < k → Op.bytesLess (esAt l j).e.key.toList s.toList = true) (hge : k < l.length → Op.bytesLess (esAt l k).e.key.toList s.toList = false) :
    (decide (k < l.length) && decide ((esAt l k).e.key = s)) = esHas l s ∧ (esHas l s = true → k = esIdx l s) := by
  have hno : esNo l s k := fun j hj => keyLt_irr (hlt j hj)
  by_cases hkl : k < l.length
  · by_cases he : (esAt l k).e.key = s
    · have hx := (esPlc_hit hkl hno he).1
      refine ⟨?_, fun _ => hx.symm⟩
      unfold esHas
      rw [hx, decide_eq_true hkl, decide_eq_true he]; rfl
    · have hall : esNo l s l.length := by
        intro j hj e
        by_cases hjk : j < k
        · exact hno j hjk e
        · by_cases hjk2 : j = k
          · exact he (hjk2 ▸ e)
          · have h2 := bsOk_lt h k (j - k - 1) (by omega)
            rw [show k + (j - k - 1) + 1 = j by omega, e, hge hkl] at h2
            cases h2
      have hn : ¬ esIdx l s < l.length := by
        intro hh
        have := esPlc_none hall
        unfold esPlc at this
        rw [if_pos hh] at this; omega
      have hf : esHas l s = false := by unfold esHas; exact decide_eq_false hn
      rw [hf, decide_eq_false he, Bool.and_false]
      exact ⟨rfl, fun e => by cases e⟩
  · have hkk : k = l.length := by omega
    subst hkk
    have hn : ¬ esIdx l s < l.length := by
      intro hh
      have := esPlc_none hno
      unfold esPlc at this
      rw [if_pos hh] at this; omega
    have hf : esHas l s = false := by unfold esHas; exact decide_eq_false hn
    rw [hf, decide_eq_false hkl, Bool.false_and]
    exact ⟨rfl, fun e => by cases e⟩
end Go.Proofs.Ytnefnbojomlaeaa
