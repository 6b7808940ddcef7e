/- Entries: two that are the same; whether one is ok, the model's. -/
import Derived.Test.YtdaahcenplepjaaEnA
import Derived.Test.YtdaahcenplepjaaScF
import Derived.Test.YtdaahcenplepjaaPrF
namespace Go.Proofs.Ytdaahcenplepjaa
open Go.RowKit

theorem two_rows (w : World) (A B : Obj) : ((w.alloc A).alloc B).heap[w.heap.size]? = some A ∧ ((w.alloc A).alloc B).heap[w.heap.size + 1]? = some B := by
  refine ⟨?_, heap_alloc2_new w A B⟩
  rw [Below.heap_alloc _ _ _ (by simp), heap_alloc_new]
def keyOkB (s : ByteArray) : Bool := decide (1 ≤ s.size) && decide (s.size ≤ 12)
def tilOkB (n : Int) : Bool := decide (0 ≤ n) && decide (n ≤ 2000000)
/-- what an entry has, by its kind, and nothing else -/
def heldOkB (e : Ent) : Bool :=
  if e.kind = 1 then decide (e.text.size ≤ 40) && decide (e.list = []) && decide (e.scores = []) && decide (e.fields = [])
  else if e.kind = 2 then decide (e.text.toList = []) && !decide (e.list = []) && okB e.list && decide (e.scores = []) && decide (e.fields = [])
  else if e.kind = 3 then decide (e.text.toList = []) && !decide (e.list = []) && setB e.list && decide (e.scores = []) && decide (e.fields = [])
  else if e.kind = 4 then decide (e.text.toList = []) && decide (e.list = []) && !decide (e.scores = []) && scOkB e.scores && decide (e.fields = [])
  else if e.kind = 5 then decide (e.text.toList = []) && decide (e.list = []) && decide (e.scores = []) && !decide (e.fields = []) && prOkB e.fields
  else false
theorem held1 {e : Ent} (h : e.kind = 1) : heldOkB e = (decide (e.text.size ≤ 40) && decide (e.list = []) && decide (e.scores = []) && decide (e.fields = [])) := by unfold heldOkB; rw [if_pos h]
theorem held2 {e : Ent} (h : e.kind = 2) : heldOkB e = (decide (e.text.toList = []) && !decide (e.list = []) && okB e.list && decide (e.scores = []) && decide (e.fields = [])) := by unfold heldOkB; rw [if_neg (by omega), if_pos h]
theorem held3 {e : Ent} (h : e.kind = 3) : heldOkB e = (decide (e.text.toList = []) && !decide (e.list = []) && setB e.list && decide (e.scores = []) && decide (e.fields = [])) := by unfold heldOkB; rw [if_neg (by omega), if_neg (by omega), if_pos h]
theorem held4 {e : Ent} (h : e.kind = 4) : heldOkB e = (decide (e.text.toList = []) && decide (e.list = []) && !decide (e.scores = []) && scOkB e.scores && decide (e.fields = [])) := by unfold heldOkB; rw [if_neg (by omega), if_neg (by omega), if_neg (by omega), if_pos h]
theorem held5 {e : Ent} (h : e.kind = 5) : heldOkB e = (decide (e.text.toList = []) && decide (e.list = []) && decide (e.scores = []) && !decide (e.fields = []) && prOkB e.fields) := by unfold heldOkB; rw [if_neg (by omega), if_neg (by omega), if_neg (by omega), if_neg (by omega), if_pos h]
theorem held0 {e : Ent} (h : e.kind ≠ 1 ∧ e.kind ≠ 2 ∧ e.kind ≠ 3 ∧ e.kind ≠ 4 ∧ e.kind ≠ 5) : heldOkB e = false := by unfold heldOkB; rw [if_neg h.1, if_neg h.2.1, if_neg h.2.2.1, if_neg h.2.2.2.1, if_neg h.2.2.2.2]
def enOkB (e : Ent) : Bool := keyOkB e.key && tilOkB e.til && heldOkB e
set_option maxHeartbeats 1000000 in
theorem l4Key_any (s : ByteArray) (w : World) : Calls Try.prog 12 #[.string s] w fun e w' => e = .returned (.bool (keyOkB s)) ∧ w = w' := by
  go_enter Try.func12, Try.ntmps12
  go_wp2_with (go_at_call 13; refine (l1In_any _ _ _ _).mono ?_; rintro e w' ⟨rfl, rfl⟩)
  go_ret
  exact ⟨ret_bool (by unfold keyOkB; rw [Bool.eq_iff_iff]; simp; omega), rfl⟩
set_option maxHeartbeats 8000000 in
theorem specEntryOk_0 (e : Ent) (vl vs vf : Value) (w : World) (hr : EnReads w vl vs vf e) (hs : EnSmall e) (hK : keyOkB e.key = true) (hT : tilOkB e.til = true) (hk : e.kind ≠ 1 ∧ e.kind ≠ 2 ∧ e.kind ≠ 3 ∧ e.kind ≠ 4 ∧ e.kind ≠ 5) :
    Calls Try.prog 6 #[enV e vl vs vf] w fun x w' => x = .returned (.bool (heldOkB e)) ∧ Below w.heap.size w w' := by
  obtain ⟨al, cl, as_, cs, af, cf, rfl, rfl, rfl⟩ := enReads_shape hr
  have hT1 : (decide ((0 : Int) ≤ e.til) && decide (e.til ≤ 2000000)) = true := hT
  have HH : Hid _ := held0 hk
  obtain ⟨k1, k2, k3, k4, k5⟩ := hk
  have z1 : (e.kind == 1) = false := by simpa using k1
  have z2 : (e.kind == 2) = false := by simpa using k2
  have z3 : (e.kind == 3) = false := by simpa using k3
  have z4 : (e.kind == 4) = false := by simpa using k4
  have z5 : (e.kind == 5) = false := by simpa using k5
  clear k1 k2 k3 k4 k5
  have hB : ∀ A, Below w.heap.size w (w.alloc A) := fun A => (Below.refl _ w).alloc (Nat.le_refl _) A
  have HR : Hid (∀ A, EnReads (w.alloc A) (.slice al e.list.length cl) (.slice as_ e.scores.length cs) (.slice af e.fields.length cf) e) := fun A => enReads_kept hr (hB A)
  have HS : Hid (EnSmall e) := hs
  clear hr hs
  go_enter Try.func6, Try.ntmps6
  go_wp2_with (first | (go_at_call 12; refine (l4Key_any _ _).mono ?_; rw [hK]; rintro e w' ⟨rfl, rfl⟩) | (go_at_call 13; refine (l1In_any _ _ _ _).mono ?_; rw [hT1]; rintro e w' ⟨rfl, rfl⟩))
  all_goals go_ret
  all_goals (refine ⟨ret_bool (Eq.trans ?_ HH.out.symm), by first | exact hB _ | assumption⟩; first | rfl | (simp_all; done) | (simp_all; omega) | (rw [Bool.eq_iff_iff]; simp_all; done) | (rw [Bool.eq_iff_iff]; simp_all; omega))
set_option maxHeartbeats 8000000 in
theorem specEntryOk_1 (e : Ent) (vl vs vf : Value) (w : World) (hr : EnReads w vl vs vf e) (hs : EnSmall e) (hK : keyOkB e.key = true) (hT : tilOkB e.til = true) (hk : e.kind = 1) :
    Calls Try.prog 6 #[enV e vl vs vf] w fun x w' => x = .returned (.bool (heldOkB e)) ∧ Below w.heap.size w w' := by
  obtain ⟨al, cl, as_, cs, af, cf, rfl, rfl, rfl⟩ := enReads_shape hr
  have hT1 : (decide ((0 : Int) ≤ e.til) && decide (e.til ≤ 2000000)) = true := hT
  have HH : Hid _ := held1 hk
  have hB : ∀ A, Below w.heap.size w (w.alloc A) := fun A => (Below.refl _ w).alloc (Nat.le_refl _) A
  have HR : Hid (∀ A, EnReads (w.alloc A) (.slice al e.list.length cl) (.slice as_ e.scores.length cs) (.slice af e.fields.length cf) e) := fun A => enReads_kept hr (hB A)
  have HS : Hid (EnSmall e) := hs
  clear hr hs
  go_enter Try.func6, Try.ntmps6
  go_wp2_with (first | (go_at_call 12; refine (l4Key_any _ _).mono ?_; rw [hK]; rintro e w' ⟨rfl, rfl⟩) | (go_at_call 13; refine (l1In_any _ _ _ _).mono ?_; rw [hT1]; rintro e w' ⟨rfl, rfl⟩))
  all_goals go_ret
  all_goals (refine ⟨ret_bool (Eq.trans ?_ HH.out.symm), by first | exact hB _ | assumption⟩; first | rfl | (simp_all; done) | (simp_all; omega) | (rw [Bool.eq_iff_iff]; simp_all; done) | (rw [Bool.eq_iff_iff]; simp_all; omega))
set_option maxHeartbeats 8000000 in
theorem specEntryOk_2 (e : Ent) (vl vs vf : Value) (w : World) (hr : EnReads w vl vs vf e) (hs : EnSmall e) (hK : keyOkB e.key = true) (hT : tilOkB e.til = true) (hk : e.kind = 2) :
    Calls Try.prog 6 #[enV e vl vs vf] w fun x w' => x = .returned (.bool (heldOkB e)) ∧ Below w.heap.size w w' := by
  obtain ⟨al, cl, as_, cs, af, cf, rfl, rfl, rfl⟩ := enReads_shape hr
  have hT1 : (decide ((0 : Int) ≤ e.til) && decide (e.til ≤ 2000000)) = true := hT
  have HH : Hid _ := held2 hk
  have hB : ∀ A, Below w.heap.size w (w.alloc A) := fun A => (Below.refl _ w).alloc (Nat.le_refl _) A
  have HR : Hid (∀ A, EnReads (w.alloc A) (.slice al e.list.length cl) (.slice as_ e.scores.length cs) (.slice af e.fields.length cf) e) := fun A => enReads_kept hr (hB A)
  have HS : Hid (EnSmall e) := hs
  clear hr hs
  go_enter Try.func6, Try.ntmps6
  go_wp2_with (first | (go_at_call 12; refine (l4Key_any _ _).mono ?_; rw [hK]; rintro e w' ⟨rfl, rfl⟩) | (go_at_call 13; refine (l1In_any _ _ _ _).mono ?_; rw [hT1]; rintro e w' ⟨rfl, rfl⟩) | (go_at_call 14; refine (l2Texts_any _ e.list _ (HR.out _).l HS.out.list).mono ?_; rintro x w' ⟨rfl, rfl⟩))
  all_goals go_ret
  all_goals (refine ⟨ret_bool (Eq.trans ?_ HH.out.symm), by first | exact hB _ | assumption⟩; first | rfl | (simp_all; done) | (simp_all; omega) | (rw [Bool.eq_iff_iff]; simp_all; done) | (rw [Bool.eq_iff_iff]; simp_all; omega))
set_option maxHeartbeats 8000000 in
theorem specEntryOk_3 (e : Ent) (vl vs vf : Value) (w : World) (hr : EnReads w vl vs vf e) (hs : EnSmall e) (hK : keyOkB e.key = true) (hT : tilOkB e.til = true) (hk : e.kind = 3) :
    Calls Try.prog 6 #[enV e vl vs vf] w fun x w' => x = .returned (.bool (heldOkB e)) ∧ Below w.heap.size w w' := by
  obtain ⟨al, cl, as_, cs, af, cf, rfl, rfl, rfl⟩ := enReads_shape hr
  have hT1 : (decide ((0 : Int) ≤ e.til) && decide (e.til ≤ 2000000)) = true := hT
  have HH : Hid _ := held3 hk
  have hB : ∀ A, Below w.heap.size w (w.alloc A) := fun A => (Below.refl _ w).alloc (Nat.le_refl _) A
  have HR : Hid (∀ A, EnReads (w.alloc A) (.slice al e.list.length cl) (.slice as_ e.scores.length cs) (.slice af e.fields.length cf) e) := fun A => enReads_kept hr (hB A)
  have HS : Hid (EnSmall e) := hs
  clear hr hs
  go_enter Try.func6, Try.ntmps6
  go_wp2_with (first | (go_at_call 12; refine (l4Key_any _ _).mono ?_; rw [hK]; rintro e w' ⟨rfl, rfl⟩) | (go_at_call 13; refine (l1In_any _ _ _ _).mono ?_; rw [hT1]; rintro e w' ⟨rfl, rfl⟩) | (go_at_call 15; refine (specSetOk_any _ e.list _ (HR.out _).l HS.out.list).mono ?_; rintro x w' ⟨rfl, hb⟩; have hb2 := (hB _).trans (hb.mono (by simp)); clear hb))
  all_goals go_ret
  all_goals (refine ⟨ret_bool (Eq.trans ?_ HH.out.symm), by first | exact hB _ | assumption⟩; first | rfl | (simp_all; done) | (simp_all; omega) | (rw [Bool.eq_iff_iff]; simp_all; done) | (rw [Bool.eq_iff_iff]; simp_all; omega))
set_option maxHeartbeats 8000000 in
theorem specEntryOk_4 (e : Ent) (vl vs vf : Value) (w : World) (hr : EnReads w vl vs vf e) (hs : EnSmall e) (hK : keyOkB e.key = true) (hT : tilOkB e.til = true) (hk : e.kind = 4) :
    Calls Try.prog 6 #[enV e vl vs vf] w fun x w' => x = .returned (.bool (heldOkB e)) ∧ Below w.heap.size w w' := by
  obtain ⟨al, cl, as_, cs, af, cf, rfl, rfl, rfl⟩ := enReads_shape hr
  have hT1 : (decide ((0 : Int) ≤ e.til) && decide (e.til ≤ 2000000)) = true := hT
  have HH : Hid _ := held4 hk
  have hB : ∀ A, Below w.heap.size w (w.alloc A) := fun A => (Below.refl _ w).alloc (Nat.le_refl _) A
  have HR : Hid (∀ A, EnReads (w.alloc A) (.slice al e.list.length cl) (.slice as_ e.scores.length cs) (.slice af e.fields.length cf) e) := fun A => enReads_kept hr (hB A)
  have HS : Hid (EnSmall e) := hs
  clear hr hs
  go_enter Try.func6, Try.ntmps6
  go_wp2_with (first | (go_at_call 12; refine (l4Key_any _ _).mono ?_; rw [hK]; rintro e w' ⟨rfl, rfl⟩) | (go_at_call 13; refine (l1In_any _ _ _ _).mono ?_; rw [hT1]; rintro e w' ⟨rfl, rfl⟩) | (go_at_call 16; refine (specScoresOk_any _ e.scores _ (HR.out _).s HS.out.scores).mono ?_; rintro x w' ⟨rfl, hb⟩; have hb2 := (hB _).trans (hb.mono (by simp)); clear hb))
  all_goals go_ret
  all_goals (refine ⟨ret_bool (Eq.trans ?_ HH.out.symm), by first | exact hB _ | assumption⟩; first | rfl | (simp_all; done) | (simp_all; omega) | (rw [Bool.eq_iff_iff]; simp_all; done) | (rw [Bool.eq_iff_iff]; simp_all; omega))
set_option maxHeartbeats 8000000 in
theorem specEntryOk_5 (e : Ent) (vl vs vf : Value) (w : World) (hr : EnReads w vl vs vf e) (hs : EnSmall e) (hK : keyOkB e.key = true) (hT : tilOkB e.til = true) (hk : e.kind = 5) :
    Calls Try.prog 6 #[enV e vl vs vf] w fun x w' => x = .returned (.bool (heldOkB e)) ∧ Below w.heap.size w w' := by
  obtain ⟨al, cl, as_, cs, af, cf, rfl, rfl, rfl⟩ := enReads_shape hr
  have hT1 : (decide ((0 : Int) ≤ e.til) && decide (e.til ≤ 2000000)) = true := hT
  have HH : Hid _ := held5 hk
  have hB : ∀ A, Below w.heap.size w (w.alloc A) := fun A => (Below.refl _ w).alloc (Nat.le_refl _) A
  have HR : Hid (∀ A, EnReads (w.alloc A) (.slice al e.list.length cl) (.slice as_ e.scores.length cs) (.slice af e.fields.length cf) e) := fun A => enReads_kept hr (hB A)
  have HS : Hid (EnSmall e) := hs
  clear hr hs
  go_enter Try.func6, Try.ntmps6
  go_wp2_with (first | (go_at_call 12; refine (l4Key_any _ _).mono ?_; rw [hK]; rintro e w' ⟨rfl, rfl⟩) | (go_at_call 13; refine (l1In_any _ _ _ _).mono ?_; rw [hT1]; rintro e w' ⟨rfl, rfl⟩) | (go_at_call 17; refine (specFieldsOk_any _ e.fields _ (HR.out _).f HS.out.fields).mono ?_; rintro x w' ⟨rfl, hb⟩; have hb2 := (hB _).trans (hb.mono (by simp)); clear hb))
  all_goals go_ret
  all_goals (refine ⟨ret_bool (Eq.trans ?_ HH.out.symm), by first | exact hB _ | assumption⟩; first | rfl | (simp_all; done) | (simp_all; omega) | (rw [Bool.eq_iff_iff]; simp_all; done) | (rw [Bool.eq_iff_iff]; simp_all; omega))
set_option maxHeartbeats 4000000 in
theorem specEntryOk_any (e : Ent) (vl vs vf : Value) (w : World) (hr : EnReads w vl vs vf e) (hs : EnSmall e) :
    Calls Try.prog 6 #[enV e vl vs vf] w fun x w' => x = .returned (.bool (enOkB e)) ∧ Below w.heap.size w w' := by
  cases hK : keyOkB e.key with
  | false =>
    obtain ⟨al, cl, as_, cs, af, cf, rfl, rfl, rfl⟩ := enReads_shape hr
    have HH : Hid (enOkB e = false) := by show _ = _; unfold enOkB; rw [hK]; rfl
    go_enter Try.func6, Try.ntmps6
    go_wp2_with (go_at_call 12; refine (l4Key_any _ _).mono ?_; rw [hK]; rintro e w' ⟨rfl, rfl⟩)
    go_ret
    exact ⟨ret_bool HH.out.symm, (Below.refl _ w).alloc (Nat.le_refl _) _⟩
  | true =>
    cases hT : tilOkB e.til with
    | false =>
      obtain ⟨al, cl, as_, cs, af, cf, rfl, rfl, rfl⟩ := enReads_shape hr
      have HH : Hid (enOkB e = false) := by show _ = _; unfold enOkB; rw [hK, hT]; rfl
      have hT1 : (decide ((0 : Int) ≤ e.til) && decide (e.til ≤ 2000000)) = false := hT
      go_enter Try.func6, Try.ntmps6
      go_wp2_with (first | (go_at_call 12; refine (l4Key_any _ _).mono ?_; rw [hK]; rintro e w' ⟨rfl, rfl⟩) | (go_at_call 13; refine (l1In_any _ _ _ _).mono ?_; rw [hT1]; rintro e w' ⟨rfl, rfl⟩))
      go_ret
      exact ⟨ret_bool HH.out.symm, (Below.refl _ w).alloc (Nat.le_refl _) _⟩
    | true =>
      have HH : enOkB e = heldOkB e := by unfold enOkB; rw [hK, hT]; rfl
      rw [HH]
      by_cases k1 : e.kind = 1
      · exact specEntryOk_1 e vl vs vf w hr hs hK hT k1
      by_cases k2 : e.kind = 2
      · exact specEntryOk_2 e vl vs vf w hr hs hK hT k2
      by_cases k3 : e.kind = 3
      · exact specEntryOk_3 e vl vs vf w hr hs hK hT k3
      by_cases k4 : e.kind = 4
      · exact specEntryOk_4 e vl vs vf w hr hs hK hT k4
      by_cases k5 : e.kind = 5
      · exact specEntryOk_5 e vl vs vf w hr hs hK hT k5
      exact specEntryOk_0 e vl vs vf w hr hs hK hT ⟨k1, k2, k3, k4, k5⟩
end Go.Proofs.Ytdaahcenplepjaa
