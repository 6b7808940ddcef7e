/- Scores that are ok, as a list: fitting, in order, each text once; one that is new is put in order. Plain facts: no walk. -/
import Derived.Test.YtndegickekjkjaaScQ
namespace Go.Proofs.Ytndegickekjkjaa
open Go.RowKit

theorem scLt_irrefl (a : ByteArray) : scLt a a = false := by
  cases h : scLt a a with
  | false => rfl
  | true => unfold scLt at h; rw [bytesLess_eq] at h; exact absurd (by simpa using h) (List.lt_irrefl _)
theorem scLt_trans {a b c : ByteArray} (h1 : scLt a b = true) (h2 : scLt b c = true) : scLt a c = true := by
  unfold scLt at *; rw [bytesLess_eq] at *
  simp only [decide_eq_true_eq] at *
  exact List.lt_trans h1 h2
theorem scLt_total {a b : ByteArray} (hne : a ≠ b) (h : scLt a b = false) : scLt b a = true := by
  unfold scLt at *; rw [bytesLess_eq] at *
  simp only [decide_eq_true_eq, decide_eq_false_iff_not] at *
  rcases List.le_iff_lt_or_eq.1 (List.not_lt.1 h) with h' | h'
  · exact h'
  · exact absurd (by apply ByteArray.ext; apply Array.toList_inj.1; rw [← ByteArray.toList_eq, ← ByteArray.toList_eq]; exact h'.symm) hne
theorem scAhead_trans {x y z : ByteArray × Int} (h1 : scAheadB x y = true) (h2 : scAheadB y z = true) : scAheadB x z = true := by
  unfold scAheadB at *
  simp only [Bool.or_eq_true, Bool.and_eq_true, decide_eq_true_eq] at *
  rcases h1 with h1 | ⟨h1, h3⟩ <;> rcases h2 with h2 | ⟨h2, h4⟩
  · left; omega
  · left; omega
  · left; omega
  · right; exact ⟨by omega, scLt_trans h3 h4⟩
theorem scAhead_total {x y : ByteArray × Int} (hne : x.1 ≠ y.1) (h : scAheadB x y = false) : scAheadB y x = true := by
  unfold scAheadB at *
  simp only [Bool.or_eq_false_iff, Bool.and_eq_false_iff, Bool.or_eq_true, Bool.and_eq_true, decide_eq_true_eq, decide_eq_false_iff_not] at *
  by_cases e : x.2 = y.2
  · right; refine ⟨e.symm, scLt_total hne ?_⟩
    rcases h.2 with h' | h'
    · exact absurd e h'
    · exact h'
  · left; omega
def scAll (l : List (ByteArray × Int)) : Prop := (∀ x ∈ l, scFitsB x = true) ∧ l.Pairwise (fun x y => scAheadB x y = true) ∧ l.Pairwise (fun x y => x.1 ≠ y.1)
theorem scAll_of {l : List (ByteArray × Int)} (h : scAllB l = true) : scAll l := by
  have hr : ∀ j, j < l.length → scRowOk l j = true := fun j hj => List.all_eq_true.1 h j (List.mem_range.2 hj)
  have hp : ∀ j, j < l.length → scFitsB (scAt l j) = true ∧ (0 < j → scAheadB (scAt l (j - 1)) (scAt l j) = true) ∧ scPlc l (scAt l j).1 = (j : Int) := fun j hj => by
    have := hr j hj
    unfold scRowOk at this
    simp only [Bool.and_eq_true, Bool.or_eq_true, decide_eq_true_eq] at this
    refine ⟨this.1.1, fun h0 => ?_, this.2⟩
    rcases this.1.2 with h' | h'
    · omega
    · exact h'
  refine ⟨fun x hx => ?_, ?_, ?_⟩
  · obtain ⟨j, hj, rfl⟩ := List.getElem_of_mem hx
    rw [← scAt_get hj]; exact (hp j hj).1
  · rw [List.pairwise_iff_getElem]
    intro i j hi hj hij
    have key : ∀ d i, i + d + 1 < l.length → scAheadB (scAt l i) (scAt l (i + d + 1)) = true := by
      intro d
      induction d with
      | zero => intro i h1; simpa using (hp (i + 1) h1).2.1 (by omega)
      | succ d ih =>
        intro i h1
        exact scAhead_trans (ih i (by omega)) (by have := (hp (i + (d + 1) + 1) h1).2.1 (by omega); rw [Nat.add_sub_cancel, ← Nat.add_assoc] at this; rw [← Nat.add_assoc]; exact this)
    have := key (j - i - 1) i (by omega)
    rw [show i + (j - i - 1) + 1 = j by omega, scAt_get hi, scAt_get hj] at this
    exact this
  · rw [List.pairwise_iff_getElem]
    intro i j hi hj hij he
    have h1 := (hp i hi).2.2
    have h2 := (hp j hj).2.2
    rw [scAt_get hi] at h1
    rw [scAt_get hj, ← he] at h2
    omega
theorem scAll_to {l : List (ByteArray × Int)} (h : scAll l) : scAllB l = true := by
  obtain ⟨h1, h2, h3⟩ := h
  unfold scAllB
  rw [List.all_eq_true]
  intro j hj
  have hj := List.mem_range.1 hj
  rw [List.pairwise_iff_getElem] at h2 h3
  unfold scRowOk
  simp only [Bool.and_eq_true, Bool.or_eq_true, decide_eq_true_eq]
  refine ⟨⟨h1 _ (scAt_mem hj), ?_⟩, (scPlc_hit hj (fun i hi => ?_) rfl).2⟩
  · rcases Nat.eq_zero_or_pos j with e | e
    · exact .inl e
    · right
      have := h2 (j - 1) j (by omega) hj (by omega)
      rw [scAt_get (by omega), scAt_get hj]; exact this
  · rw [scAt_get (by omega), scAt_get hj]; exact h3 i j (by omega) hj hi
theorem scOk_len {l : List (ByteArray × Int)} (h : scOkB l = true) : l.length ≤ 16 := by
  unfold scOkB at h; rw [Bool.and_eq_true] at h; simpa using h.1
theorem scOk_all {l : List (ByteArray × Int)} (h : scOkB l = true) : scAll l := by
  unfold scOkB at h; rw [Bool.and_eq_true] at h; exact scAll_of h.2
theorem scOk_mk {l : List (ByteArray × Int)} (h : l.length ≤ 16) (ha : scAll l) : scOkB l = true := by
  unfold scOkB; rw [Bool.and_eq_true]; exact ⟨by simpa using h, scAll_to ha⟩
theorem scIPos_low {r : List (ByteArray × Int)} {x y : ByteArray × Int} (hy : y ∈ r.take (scIPos r x)) : scAheadB y x = true := by
  obtain ⟨j, hj, rfl⟩ := List.getElem_of_mem hy
  rw [List.length_take] at hj
  have := List.not_of_lt_findIdx (p := fun y => !scAheadB y x) (xs := r) (i := j) (by unfold scIPos at hj; omega)
  rw [List.getElem_take]; simpa using this
theorem scIPos_high {r : List (ByteArray × Int)} {x y : ByteArray × Int} (ha : r.Pairwise (fun x y => scAheadB x y = true)) (hn : ∀ z ∈ r, z.1 ≠ x.1) (hy : y ∈ r.drop (scIPos r x)) : scAheadB x y = true := by
  obtain ⟨j, hj, rfl⟩ := List.getElem_of_mem hy
  rw [List.length_drop] at hj
  rw [List.getElem_drop]
  have hp : scIPos r x < r.length := by omega
  have h0 : scAheadB (r[scIPos r x]) x = false := by
    have := List.findIdx_getElem (p := fun y => !scAheadB y x) (xs := r) (w := hp)
    have h : (!scAheadB r[scIPos r x] x) = true := this
    simpa using h
  have h1 := scAhead_total (hn _ (List.getElem_mem hp)) h0
  rcases Nat.eq_zero_or_pos j with e | e
  · subst e; simpa using h1
  · rw [List.pairwise_iff_getElem] at ha
    exact scAhead_trans h1 (ha _ _ hp (by omega) (by omega))
theorem scIns_mem {r : List (ByteArray × Int)} {x y : ByteArray × Int} : y ∈ scIns r x ↔ y = x ∨ y ∈ r := by
  unfold scIns
  rw [List.mem_append, List.mem_cons]
  conv => rhs; rhs; rw [← List.take_append_drop (scIPos r x) r, List.mem_append]
  constructor
  · rintro (h | h | h)
    · exact .inr (.inl h)
    · exact .inl h
    · exact .inr (.inr h)
  · rintro (h | h | h)
    · exact .inr (.inl h)
    · exact .inl h
    · exact .inr (.inr h)
theorem scIns_all {r : List (ByteArray × Int)} {x : ByteArray × Int} (h : scAll r) (hx : scFitsB x = true) (hn : ∀ z ∈ r, z.1 ≠ x.1) : scAll (scIns r x) := by
  obtain ⟨h1, h2, h3⟩ := h
  have e := List.take_append_drop (scIPos r x) r
  refine ⟨fun y hy => ?_, ?_, ?_⟩
  · rcases scIns_mem.1 hy with h | h
    · rw [h]; exact hx
    · exact h1 y h
  · have h2' := h2; rw [← e, List.pairwise_append] at h2'
    unfold scIns; rw [List.pairwise_append, List.pairwise_cons]
    refine ⟨h2'.1, ⟨fun y hy => scIPos_high h2 hn hy, h2'.2.1⟩, fun a ha b hb => ?_⟩
    rcases List.mem_cons.1 hb with hb | hb
    · rw [hb]; exact scIPos_low ha
    · exact h2'.2.2 a ha b hb
  · have h3' := h3; rw [← e, List.pairwise_append] at h3'
    unfold scIns; rw [List.pairwise_append, List.pairwise_cons]
    refine ⟨h3'.1, ⟨fun y hy => fun he => hn y (List.mem_of_mem_drop hy) he.symm, h3'.2.1⟩, fun a ha b hb => ?_⟩
    rcases List.mem_cons.1 hb with hb | hb
    · rw [hb]; exact hn a (List.mem_of_mem_take ha)
    · exact h3'.2.2 a ha b hb
theorem scFl_new {l : List (ByteArray × Int)} {s : ByteArray} (hn : ∀ z ∈ l, z.1 ≠ s) : scFl l s = l := by
  unfold scFl
  rw [List.filter_eq_self]
  intro z hz; rw [scNe_iff]; simp [hn z hz]
/-- one that is new, and fits, where there is room -/
theorem scPut_new {l : List (ByteArray × Int)} {x : ByteArray × Int} (h : scOkB l = true) (hx : scFitsB x = true) (hn : ∀ z ∈ l, z.1 ≠ x.1) (hr : l.length < 16) : scPutR l x = scIns l x ∧ scOkB (scIns l x) = true := by
  have hok : scOkB (scIns l x) = true := scOk_mk (by rw [scIns_len]; omega) (scIns_all (scOk_all h) hx hn)
  unfold scPutR scPutL
  rw [scFl_new hn, if_pos h, if_pos hok]
  exact ⟨rfl, hok⟩
/-- whatever is put: ok still, one longer at the most, no text that was neither there nor put -/
theorem scPut_any {l : List (ByteArray × Int)} {x : ByteArray × Int} (h : scOkB l = true) : scOkB (scPutR l x) = true ∧ (scPutR l x).length ≤ l.length + 1 ∧ ∀ z ∈ scPutR l x, z = x ∨ z ∈ l := by
  unfold scPutR
  rw [if_pos h]
  split
  · next hok =>
    refine ⟨hok, ?_, fun z hz => ?_⟩
    · unfold scPutL; rw [scIns_len]; have := scFl_len l x.1; omega
    · rcases scIns_mem.1 hz with h' | h'
      · exact .inl h'
      · exact .inr ((List.mem_filter.1 h').1)
  · exact ⟨h, by omega, fun z hz => .inr hz⟩
end Go.Proofs.Ytndegickekjkjaa
