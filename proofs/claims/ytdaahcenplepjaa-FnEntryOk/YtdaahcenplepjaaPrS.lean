/- Fields that are ok, as a list: fitting, in order; one that is new is put in order; what is there behind a put. Plain facts: no walk. -/
import Derived.Test.YtdaahcenplepjaaPrR
namespace Go.Proofs.Ytdaahcenplepjaa
open Go.RowKit

theorem prLt_total {a b : ByteArray} (hne : a ≠ b) (h : prLt a b = false) : prLt b a = true := by
  unfold prLt at *; rw [bytesLess_eq] at *
  simp only [decide_eq_true_eq, decide_eq_false_iff_not] at *
  rcases List.le_iff_lt_or_eq.1 (List.not_lt.1 h) with h' | h'
  · exact h'
  · exact absurd (by apply ByteArray.ext; apply Array.toList_inj.1; rw [← ByteArray.toList_eq, ← ByteArray.toList_eq]; exact h'.symm) hne
theorem prAhead_trans {x y z : ByteArray × ByteArray} (h1 : prAheadB x y = true) (h2 : prAheadB y z = true) : prAheadB x z = true := prLt_trans h1 h2
theorem prAhead_total {x y : ByteArray × ByteArray} (hne : x.1 ≠ y.1) (h : prAheadB x y = false) : prAheadB y x = true := prLt_total hne h
def prAll (l : List (ByteArray × ByteArray)) : Prop := (∀ x ∈ l, prFitsB x = true) ∧ l.Pairwise (fun x y => prAheadB x y = true) ∧ l.Pairwise (fun x y => x.1 ≠ y.1)
theorem prAllL_of {l : List (ByteArray × ByteArray)} (h : prAllB l = true) : prAll l := by
  have hr : ∀ j, j < l.length → prRowOk l j = true := fun j hj => List.all_eq_true.1 h j (List.mem_range.2 hj)
  have hp : ∀ j, j < l.length → prFitsB (prAt l j) = true ∧ (0 < j → prAheadB (prAt l (j - 1)) (prAt l j) = true) ∧ prPlc l (prAt l j).1 = (j : Int) := fun j hj => by
    have := hr j hj
    unfold prRowOk at this
    simp only [Bool.and_eq_true, Bool.or_eq_true, decide_eq_true_eq] at this
    refine ⟨this.1.1, fun h0 => ?_, this.2⟩
    rcases this.1.2 with h' | h'
    · omega
    · exact h'
  refine ⟨fun x hx => ?_, ?_, ?_⟩
  · obtain ⟨j, hj, rfl⟩ := List.getElem_of_mem hx
    rw [← prAt_get hj]; exact (hp j hj).1
  · rw [List.pairwise_iff_getElem]
    intro i j hi hj hij
    have key : ∀ d i, i + d + 1 < l.length → prAheadB (prAt l i) (prAt l (i + d + 1)) = true := by
      intro d
      induction d with
      | zero => intro i h1; simpa using (hp (i + 1) h1).2.1 (by omega)
      | succ d ih =>
        intro i h1
        exact prAhead_trans (ih i (by omega)) (by have := (hp (i + (d + 1) + 1) h1).2.1 (by omega); rw [Nat.add_sub_cancel, ← Nat.add_assoc] at this; rw [← Nat.add_assoc]; exact this)
    have := key (j - i - 1) i (by omega)
    rw [show i + (j - i - 1) + 1 = j by omega, prAt_get hi, prAt_get hj] at this
    exact this
  · rw [List.pairwise_iff_getElem]
    intro i j hi hj hij he
    have h1 := (hp i hi).2.2
    have h2 := (hp j hj).2.2
    rw [prAt_get hi] at h1
    rw [prAt_get hj, ← he] at h2
    omega
theorem prAll_to {l : List (ByteArray × ByteArray)} (h : prAll l) : prAllB l = true := by
  obtain ⟨h1, h2, h3⟩ := h
  unfold prAllB
  rw [List.all_eq_true]
  intro j hj
  have hj := List.mem_range.1 hj
  rw [List.pairwise_iff_getElem] at h2 h3
  unfold prRowOk
  simp only [Bool.and_eq_true, Bool.or_eq_true, decide_eq_true_eq]
  refine ⟨⟨h1 _ (prAt_mem hj), ?_⟩, (prPlc_hit hj (fun i hi => ?_) rfl).2⟩
  · rcases Nat.eq_zero_or_pos j with e | e
    · exact .inl e
    · right
      have := h2 (j - 1) j (by omega) hj (by omega)
      rw [prAt_get (by omega), prAt_get hj]; exact this
  · rw [prAt_get (by omega), prAt_get hj]; exact h3 i j (by omega) hj hi
theorem prOk_len {l : List (ByteArray × ByteArray)} (h : prOkB l = true) : l.length ≤ 16 := by
  unfold prOkB at h; rw [Bool.and_eq_true] at h; simpa using h.1
theorem prOk_all {l : List (ByteArray × ByteArray)} (h : prOkB l = true) : prAll l := by
  unfold prOkB at h; rw [Bool.and_eq_true] at h; exact prAllL_of h.2
theorem prOk_mk {l : List (ByteArray × ByteArray)} (h : l.length ≤ 16) (ha : prAll l) : prOkB l = true := by
  unfold prOkB; rw [Bool.and_eq_true]; exact ⟨by simpa using h, prAll_to ha⟩
theorem prIPos_low {r : List (ByteArray × ByteArray)} {x y : ByteArray × ByteArray} (hy : y ∈ r.take (prIPos r x)) : prAheadB y x = true := by
  obtain ⟨j, hj, rfl⟩ := List.getElem_of_mem hy
  rw [List.length_take] at hj
  have := List.not_of_lt_findIdx (p := fun y => !prAheadB y x) (xs := r) (i := j) (by unfold prIPos at hj; omega)
  rw [List.getElem_take]; simpa using this
theorem prIPos_high {r : List (ByteArray × ByteArray)} {x y : ByteArray × ByteArray} (ha : r.Pairwise (fun x y => prAheadB x y = true)) (hn : ∀ z ∈ r, z.1 ≠ x.1) (hy : y ∈ r.drop (prIPos r x)) : prAheadB x y = true := by
  obtain ⟨j, hj, rfl⟩ := List.getElem_of_mem hy
  rw [List.length_drop] at hj
  rw [List.getElem_drop]
  have hp : prIPos r x < r.length := by omega
  have h0 : prAheadB (r[prIPos r x]) x = false := by
    have := List.findIdx_getElem (p := fun y => !prAheadB y x) (xs := r) (w := hp)
    have h : (!prAheadB r[prIPos r x] x) = true := this
    simpa using h
  have h1 := prAhead_total (hn _ (List.getElem_mem hp)) h0
  rcases Nat.eq_zero_or_pos j with e | e
  · subst e; simpa using h1
  · rw [List.pairwise_iff_getElem] at ha
    exact prAhead_trans h1 (ha _ _ hp (by omega) (by omega))
theorem prIns_mem {r : List (ByteArray × ByteArray)} {x y : ByteArray × ByteArray} : y ∈ prIns r x ↔ y = x ∨ y ∈ r := by
  unfold prIns
  rw [List.mem_append, List.mem_cons]
  conv => rhs; rhs; rw [← List.take_append_drop (prIPos r x) r, List.mem_append]
  constructor
  · rintro (h | h | h)
    · exact .inr (.inl h)
    · exact .inl h
    · exact .inr (.inr h)
  · rintro (h | h | h)
    · exact .inr (.inl h)
    · exact .inl h
    · exact .inr (.inr h)
theorem prIns_all {r : List (ByteArray × ByteArray)} {x : ByteArray × ByteArray} (h : prAll r) (hx : prFitsB x = true) (hn : ∀ z ∈ r, z.1 ≠ x.1) : prAll (prIns r x) := by
  obtain ⟨h1, h2, h3⟩ := h
  have e := List.take_append_drop (prIPos r x) r
  refine ⟨fun y hy => ?_, ?_, ?_⟩
  · rcases prIns_mem.1 hy with h | h
    · rw [h]; exact hx
    · exact h1 y h
  · have h2' := h2; rw [← e, List.pairwise_append] at h2'
    unfold prIns; rw [List.pairwise_append, List.pairwise_cons]
    refine ⟨h2'.1, ⟨fun y hy => prIPos_high h2 hn hy, h2'.2.1⟩, fun a ha b hb => ?_⟩
    rcases List.mem_cons.1 hb with hb | hb
    · rw [hb]; exact prIPos_low ha
    · exact h2'.2.2 a ha b hb
  · have h3' := h3; rw [← e, List.pairwise_append] at h3'
    unfold prIns; rw [List.pairwise_append, List.pairwise_cons]
    refine ⟨h3'.1, ⟨fun y hy => fun he => hn y (List.mem_of_mem_drop hy) he.symm, h3'.2.1⟩, fun a ha b hb => ?_⟩
    rcases List.mem_cons.1 hb with hb | hb
    · rw [hb]; exact hn a (List.mem_of_mem_take ha)
    · exact h3'.2.2 a ha b hb
theorem prThere_mem {l : List (ByteArray × ByteArray)} {s : ByteArray} (hn : ∀ z ∈ l, z.1 ≠ s) : prThere l s = false := by
  cases h : prThere l s with
  | false => rfl
  | true =>
    unfold prThere at h
    simp only [Bool.and_eq_true, decide_eq_true_eq] at h
    exact absurd h.2 (hn _ (prAt_mem h.1))
/-- one that is new, and fits, where there is room -/
theorem prPut_new {l : List (ByteArray × ByteArray)} {x : ByteArray × ByteArray} (h : prOkB l = true) (hx : prFitsB x = true) (hn : ∀ z ∈ l, z.1 ≠ x.1) (hr : l.length < 16) : prPutR l x = prIns l x ∧ prOkB (prIns l x) = true := by
  have hok : prOkB (prIns l x) = true := prOk_mk (by rw [prIns_len]; omega) (prIns_all (prOk_all h) hx hn)
  have hL : prPutL l x = prIns l x := by
    unfold prPutL; rw [prThere_mem hn]; rfl
  unfold prPutR
  rw [hL, if_pos h, if_pos hok]
  exact ⟨rfl, hok⟩
/-- whatever is put: ok still, one longer at the most, no field that was neither there nor put -/
theorem prPut_any {l : List (ByteArray × ByteArray)} {x : ByteArray × ByteArray} (h : prOkB l = true) : prOkB (prPutR l x) = true ∧ (prPutR l x).length ≤ l.length + 1 ∧ ∀ z ∈ prPutR l x, z = x ∨ z ∈ l := by
  unfold prPutR
  rw [if_pos h]
  split
  · next hok =>
    refine ⟨hok, ?_, fun z hz => ?_⟩
    · unfold prPutL; have := prPos_le l x.1
      split
      · rw [List.length_set]; omega
      · simp; omega
    · unfold prPutL at hz
      split at hz
      · rcases List.mem_or_eq_of_mem_set hz with h' | h'
        · exact .inr h'
        · exact .inl h'
      · rcases List.mem_append.1 hz with h' | h'
        · exact .inr (List.mem_of_mem_take h')
        · rcases List.mem_cons.1 h' with h'' | h''
          · exact .inl h''
          · exact .inr (List.mem_of_mem_drop h'')
  · exact ⟨h, by omega, fun z hz => .inr hz⟩
theorem pr_ptB (l : List (ByteArray × ByteArray)) (y : ByteArray × ByteArray) : prPtB l y = prPutB l y := by
  unfold prPtB prPutB
  cases h : prOkB l with
  | false => rfl
  | true => rw [new_put y h]
theorem pr_ptR (l : List (ByteArray × ByteArray)) (y : ByteArray × ByteArray) : prPtR l y = prPutR l y := by
  unfold prPtR prPutR
  cases h : prOkB l with
  | false => rfl
  | true => rw [new_put y h]
theorem pr_ptF (l : List (ByteArray × ByteArray)) (y : ByteArray × ByteArray) : prPtF l y = prPutF l y := by
  unfold prPtF prPutF
  rw [pr_ptB]
  cases h : prOkB l with
  | false => unfold prPutB; rw [h]; rfl
  | true =>
    have e : decide (l.length < (prNew l y).length) = !prThere l y.1 := by
      rw [new_put y h]; unfold prPutL
      have := prPos_le l y.1
      cases prThere l y.1 <;> simp; omega
    rw [e]
theorem pr_put_len {l : List (ByteArray × ByteArray)} {y : ByteArray × ByteArray} (h : l.length ≤ 17) : (prPutR l y).length ≤ 18 := by
  unfold prPutR; split
  · split
    · unfold prPutL; have := prPos_le l y.1
      split
      · rw [List.length_set]; omega
      · simp; omega
    · omega
  · simp
theorem pr_drop_len (l : List (ByteArray × ByteArray)) (s : ByteArray) (h : l.length ≤ 18) : (prDropR l s).length ≤ 18 := by
  unfold prDropR; split
  · have := prWo_len l s; omega
  · simp
end Go.Proofs.Ytdaahcenplepjaa
