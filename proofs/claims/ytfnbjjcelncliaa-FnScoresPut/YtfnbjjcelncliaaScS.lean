/- A score put into scores that are ok: the program's answer and the model's are one; what is there behind it. Plain facts. -/
import Derived.Test.YtfnbjjcelncliaaScR
import Derived.Test.YtfnbjjcelncliaaScWk
namespace Go.Proofs.Ytfnbjjcelncliaa
open Go.RowKit

theorem sc_new_put {l : List (ByteArray × Int)} (y : ByteArray × Int) (h : scOkB l = true) : scNew l y = scPutL l y := by
  unfold scNew scPutL scWo; rw [scFl_erase y.1 l (scOk_pair h)]
theorem sc_ptB (l : List (ByteArray × Int)) (y : ByteArray × Int) : scPtB l y = scPutB l y := by
  unfold scPtB scPutB
  cases h : scOkB l with
  | false => rfl
  | true => rw [sc_new_put y h]
theorem sc_ptR (l : List (ByteArray × Int)) (y : ByteArray × Int) : scPtR l y = scPutR l y := by
  unfold scPtR scPutR
  cases h : scOkB l with
  | false => rfl
  | true => rw [sc_new_put y h]
theorem sc_ptF (l : List (ByteArray × Int)) (y : ByteArray × Int) : scPtF l y = scPutF l y := by
  unfold scPtF scPutF
  rw [sc_ptB]
  cases h : scOkB l with
  | false => unfold scPutB; rw [h]; rfl
  | true =>
    have e : decide (l.length < (scNew l y).length) = (((scFl l y.1).length : Int) == (l.length : Int)) := by
      rw [sc_new_put y h]; unfold scPutL; rw [scIns_len]
      have := scFl_len l y.1
      rw [Bool.eq_iff_iff]; simp; omega
    rw [e]
theorem scFl_names {l : List (ByteArray × Int)} {s : ByteArray} : ∀ z ∈ scFl l s, z.1 ≠ s := by
  intro z hz
  have := (List.mem_filter.1 hz).2
  rw [scNe_iff] at this
  simpa using this
/-- behind a put that was well: where the score stands, and what is left without it -/
theorem sc_put_facts {l : List (ByteArray × Int)} {y : ByteArray × Int} (hB : scPutB l y = true) :
    scOkB l = true ∧ scOkB (scPutR l y) = true ∧ (∃ k : Nat, scFindI (scPutR l y) y.1 = (k : Int) ∧ k < (scPutR l y).length ∧ scAt (scPutR l y) k = y) ∧
      scPutF l y = decide (scFindI l y.1 < 0) ∧ scDropB (scPutR l y) y.1 = true ∧ scDropR (scPutR l y) y.1 = scDropR l y.1 ∧ (scPutR l y).length ≤ 16 := by
  have hB' := hB
  unfold scPutB at hB'
  rw [Bool.and_eq_true] at hB'
  obtain ⟨h1, h2⟩ := hB'
  have hR : scPutR l y = scPutL l y := by unfold scPutR; rw [if_pos h1, if_pos h2]
  rw [hR]
  have hpl := scIPos_le (scFl l y.1) y
  have hA : ∀ j, j < scIPos (scFl l y.1) y → (scAt (scPutL l y) j).1 ≠ y.1 := by
    intro j hj
    unfold scPutL scIns
    have hjl : j < (scFl l y.1).length := by omega
    rw [scAt_get (by simp; omega), List.getElem_append_left (by rw [List.length_take]; omega), List.getElem_take]
    exact scFl_names _ (List.getElem_mem hjl)
  have hlen : (scPutL l y).length = (scFl l y.1).length + 1 := by unfold scPutL; rw [scIns_len]
  have hy : scAt (scPutL l y) (scIPos (scFl l y.1) y) = y := by
    unfold scPutL scIns
    rw [scAt_get (by simp; omega), List.getElem_append_right (by rw [List.length_take]; omega)]
    simp [List.length_take, Nat.min_eq_left hpl]
  obtain ⟨hi, hp⟩ := scPlc_hit (l := scPutL l y) (s := y.1) (k := scIPos (scFl l y.1) y) (by omega) hA (by rw [hy])
  have hF : scFindI (scPutL l y) y.1 = (scIPos (scFl l y.1) y : Int) := by unfold scFindI; rw [if_pos h2]; exact hp
  have hW : scWo l y.1 = scFl l y.1 := by unfold scWo; rw [scFl_erase y.1 l (scOk_pair h1)]
  refine ⟨h1, h2, ⟨_, hF, by omega, hy⟩, ?_, by unfold scDropB; rw [hF]; simp, ?_, ?_⟩
  · unfold scPutF; rw [hB, Bool.true_and]
    unfold scFindI; rw [if_pos h1]
    have hle := scFl_len l y.1
    rw [Bool.eq_iff_iff]
    simp only [beq_iff_eq, decide_eq_true_eq]
    rcases Int.lt_or_le (scPlc l y.1) 0 with hn | hn
    · have := scWo_miss hn
      rw [hW] at this
      rw [this]; simp [hn]
    · obtain ⟨_, hlt⟩ := scPlc_idx hn
      have h3 : (scWo l y.1).length = l.length - 1 := by unfold scWo; rw [List.length_eraseIdx, if_pos hlt]
      rw [hW] at h3
      omega
  · unfold scDropR; rw [if_pos h2, if_pos h1, hW]
    unfold scWo; rw [hi]
    unfold scPutL scIns
    rw [List.eraseIdx_append_of_length_le (by rw [List.length_take]; omega), List.length_take, Nat.min_eq_left hpl, Nat.sub_self, List.eraseIdx_cons_zero, List.take_append_drop]
  · exact scOk_len h2
theorem sc_put_len {l : List (ByteArray × Int)} {y : ByteArray × Int} (h : l.length ≤ 17) : (scPutR l y).length ≤ 18 := by
  unfold scPutR; split
  · split
    · unfold scPutL; rw [scIns_len]; have := scFl_len l y.1; omega
    · omega
  · simp
end Go.Proofs.Ytfnbjjcelncliaa
