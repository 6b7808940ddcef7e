/- Entries: two that are the same; whether one is ok, the model's. -/
import Derived.Test.YtaiboncomibikaaGreatDoorEnA
import Derived.Test.YtaiboncomibikaaGreatDoorScF
import Derived.Test.YtaiboncomibikaaGreatDoorPrF
namespace Go.Proofs.YtaiboncomibikaaGreatDoor
open Go.RowKit

theorem two_rows (w : World) (A B : Obj) : ((w.alloc A).alloc B).heap[w.heap.size]? = some A ∧ ((w.alloc A).alloc B).heap[w.heap.size + 1]? = some B := by
  refine ⟨?_, heap_alloc2_new w A B⟩
  rw [Below.heap_alloc _ _ _ (by simp), heap_alloc_new]
set_option maxHeartbeats 4000000 in
theorem eqEntry_true (e : Ent) (vl vs vf ul us uf : Value) (w : World) (hr : EnReads w vl vs vf e) (hq : EnReads w ul us uf e) (hs : EnSmall e) :
    Calls Tryz.prog 30 #[enV e vl vs vf, enV e ul us uf] w fun x w' => x = .returned (.bool true) ∧ Below w.heap.size w w' := by
  obtain ⟨al, cl, as_, cs, af, cf, rfl, rfl, rfl⟩ := enReads_shape hr
  obtain ⟨bl, dl, bs, ds, bf, df, rfl, rfl, rfl⟩ := enReads_shape hq
  have hk : (!e.key.toList == e.key.toList) = false := by simp
  have ht : (!e.text.toList == e.text.toList) = false := by simp
  have hi : (e.til != e.til) = false := by simp
  have hj : (e.kind != e.kind) = false := by simp
  have hA : ∀ A B, Below w.heap.size w ((w.alloc A).alloc B) := fun A B => ((Below.refl _ w).alloc (Nat.le_refl _) A).alloc (by simp) B
  go_enter Tryz.func30, Tryz.ntmps30
  go_wp2_with fail
  obtain ⟨w0, hW⟩ : ∃ W, (w.alloc (.cells #[.string e.key, .int .i64 e.til, .int .i64 e.kind, .string e.text, .slice al e.list.length cl, .slice as_ e.scores.length cs, .slice af e.fields.length cf] 43)).alloc (.cells #[.string e.key, .int .i64 e.til, .int .i64 e.kind, .string e.text, .slice bl e.list.length dl, .slice bs e.scores.length ds, .slice bf e.fields.length df] 43) = W := ⟨_, rfl⟩
  have hB0 : Below w.heap.size w w0 := by rw [← hW]; exact hA _ _
  have hz0 : w0.heap.size = w.heap.size + 2 := by rw [← hW]; simp
  obtain ⟨q0, q1⟩ : w0.heap[w.heap.size]? = some _ ∧ w0.heap[w.heap.size + 1]? = some _ := by rw [← hW]; exact two_rows _ _ _
  rw [hW]
  have Q0 : Hid _ := q0
  have Q1 : Hid _ := q1
  clear hW hA q0 q1
  refine (eq_true _ _ e.list _ (reads_kept hr.l hB0) (reads_kept hq.l hB0) hs.list).mono ?_
  rintro x w1 ⟨rfl, hb1⟩
  have hB1 := hB0.trans (hb1.mono hB0.size)
  have hz1 := hb1.size
  rw [hz0] at hz1
  have q0 := (hb1.block w.heap.size (by omega)).trans Q0.out
  have q1 := (hb1.block (w.heap.size + 1) (by omega)).trans Q1.out
  have c5 : w1.cell? ⟨w.heap.size, 5, none⟩ = some _ := (box7_row q0).c5
  have d5 : w1.cell? ⟨w.heap.size + 1, 5, none⟩ = some _ := (box7_row q1).c5
  have P0 : Hid _ := q0
  have P1 : Hid _ := q1
  clear q0 q1 Q0 Q1 hb1 hB0
  go_wp2_with fail
  refine (eqScoreS_true _ _ e.scores _ (readsR_kept hr.s hB1) (readsR_kept hq.s hB1) hs.scores).mono ?_
  rintro x w2 ⟨rfl, hb2⟩
  have hB2 := hB1.trans (hb2.mono hB1.size)
  have q0 := (hb2.block w.heap.size (by omega)).trans P0.out
  have q1 := (hb2.block (w.heap.size + 1) (by omega)).trans P1.out
  have c6 : w2.cell? ⟨w.heap.size, 6, none⟩ = some _ := (box7_row q0).c6
  have d6 : w2.cell? ⟨w.heap.size + 1, 6, none⟩ = some _ := (box7_row q1).c6
  clear q0 q1 P0 P1 hb2 hB1 c5 d5
  go_wp2_with fail
  refine (eqPairS_true _ _ e.fields _ (readsR_kept hr.f hB2) (readsR_kept hq.f hB2) hs.fields).mono ?_
  rintro x w3 ⟨rfl, hb3⟩
  have hB3 := hB2.trans (hb3.mono hB2.size)
  clear hb3 hB2 c6 d6
  go_wp2_with fail
  go_ret
  exact ⟨rfl, hB3⟩

def keyOkB (s : ByteArray) : Bool := decide (1 ≤ s.size) && decide (s.size ≤ 12)
def tilOkB (n : Int) : Bool := decide (0 ≤ n) && decide (n ≤ 2000000)
/-- what an entry has, by its kind, and nothing else -/
def heldOkB (e : Ent) : Bool :=
  if e.kind = 1 then decide (e.text.size ≤ 40) && decide (e.list = []) && decide (e.scores = []) && decide (e.fields = [])
  else if e.kind = 2 then decide (e.text.toList = []) && !decide (e.list = []) && okB e.list && decide (e.scores = []) && decide (e.fields = [])
  else if e.kind = 3 then decide (e.text.toList = []) && !decide (e.list = []) && setB e.list && decide (e.scores = []) && decide (e.fields = [])
  else if e.kind = 4 then decide (e.text.toList = []) && decide (e.list = []) && !decide (e.scores = []) && scOkB e.scores && decide (e.fields = [])
  else if e.kind = 5 then decide (e.text.toList = []) && decide (e.list = []) && decide (e.scores = []) && !decide (e.fields = []) && prOkB e.fields
  else false
theorem held1 {e : Ent} (h : e.kind = 1) : heldOkB e = (decide (e.text.size ≤ 40) && decide (e.list = []) && decide (e.scores = []) && decide (e.fields = [])) := by unfold heldOkB; rw [if_pos h]
theorem held2 {e : Ent} (h : e.kind = 2) : heldOkB e = (decide (e.text.toList = []) && !decide (e.list = []) && okB e.list && decide (e.scores = []) && decide (e.fields = [])) := by unfold heldOkB; rw [if_neg (by omega), if_pos h]
theorem held3 {e : Ent} (h : e.kind = 3) : heldOkB e = (decide (e.text.toList = []) && !decide (e.list = []) && setB e.list && decide (e.scores = []) && decide (e.fields = [])) := by unfold heldOkB; rw [if_neg (by omega), if_neg (by omega), if_pos h]
theorem held4 {e : Ent} (h : e.kind = 4) : heldOkB e = (decide (e.text.toList = []) && decide (e.list = []) && !decide (e.scores = []) && scOkB e.scores && decide (e.fields = [])) := by unfold heldOkB; rw [if_neg (by omega), if_neg (by omega), if_neg (by omega), if_pos h]
theorem held5 {e : Ent} (h : e.kind = 5) : heldOkB e = (decide (e.text.toList = []) && decide (e.list = []) && decide (e.scores = []) && !decide (e.fields = []) && prOkB e.fields) := by unfold heldOkB; rw [if_neg (by omega), if_neg (by omega), if_neg (by omega), if_neg (by omega), if_pos h]
theorem held0 {e : Ent} (h : e.kind ≠ 1 ∧ e.kind ≠ 2 ∧ e.kind ≠ 3 ∧ e.kind ≠ 4 ∧ e.kind ≠ 5) : heldOkB e = false := by unfold heldOkB; rw [if_neg h.1, if_neg h.2.1, if_neg h.2.2.1, if_neg h.2.2.2.1, if_neg h.2.2.2.2]
def enOkB (e : Ent) : Bool := keyOkB e.key && tilOkB e.til && heldOkB e
set_option maxHeartbeats 1000000 in
theorem l4Key_any (s : ByteArray) (w : World) : Calls Tryz.prog 36 #[.string s] w fun e w' => e = .returned (.bool (keyOkB s)) ∧ w = w' := by
  go_enter Tryz.func36, Tryz.ntmps36
  go_wp2_with (go_at_call 24; refine (l1In_any _ _ _ _).mono ?_; rintro e w' ⟨rfl, rfl⟩)
  go_ret
  exact ⟨ret_bool (by unfold keyOkB; rw [Bool.eq_iff_iff]; simp; omega), rfl⟩
set_option maxHeartbeats 8000000 in
theorem specEntryOk_0 (e : Ent) (vl vs vf : Value) (w : World) (hr : EnReads w vl vs vf e) (hs : EnSmall e) (hK : keyOkB e.key = true) (hT : tilOkB e.til = true) (hk : e.kind ≠ 1 ∧ e.kind ≠ 2 ∧ e.kind ≠ 3 ∧ e.kind ≠ 4 ∧ e.kind ≠ 5) :
    Calls Tryz.prog 23 #[enV e vl vs vf] w fun x w' => x = .returned (.bool (heldOkB e)) ∧ Below w.heap.size w w' := by
  obtain ⟨al, cl, as_, cs, af, cf, rfl, rfl, rfl⟩ := enReads_shape hr
  have hT1 : (decide ((0 : Int) ≤ e.til) && decide (e.til ≤ 2000000)) = true := hT
  have HH : Hid _ := held0 hk
  obtain ⟨k1, k2, k3, k4, k5⟩ := hk
  have z1 : (e.kind == 1) = false := by simpa using k1
  have z2 : (e.kind == 2) = false := by simpa using k2
  have z3 : (e.kind == 3) = false := by simpa using k3
  have z4 : (e.kind == 4) = false := by simpa using k4
  have z5 : (e.kind == 5) = false := by simpa using k5
  clear k1 k2 k3 k4 k5
  have hB : ∀ A, Below w.heap.size w (w.alloc A) := fun A => (Below.refl _ w).alloc (Nat.le_refl _) A
  have HR : Hid (∀ A, EnReads (w.alloc A) (.slice al e.list.length cl) (.slice as_ e.scores.length cs) (.slice af e.fields.length cf) e) := fun A => enReads_kept hr (hB A)
  have HS : Hid (EnSmall e) := hs
  clear hr hs
  go_enter Tryz.func23, Tryz.ntmps23
  go_wp2_with (first | (go_at_call 36; refine (l4Key_any _ _).mono ?_; rw [hK]; rintro e w' ⟨rfl, rfl⟩) | (go_at_call 24; refine (l1In_any _ _ _ _).mono ?_; rw [hT1]; rintro e w' ⟨rfl, rfl⟩))
  all_goals go_ret
  all_goals (refine ⟨ret_bool (Eq.trans ?_ HH.out.symm), by first | exact hB _ | assumption⟩; first | rfl | (simp_all; done) | (simp_all; omega) | (rw [Bool.eq_iff_iff]; simp_all; done) | (rw [Bool.eq_iff_iff]; simp_all; omega))
set_option maxHeartbeats 8000000 in
theorem specEntryOk_1 (e : Ent) (vl vs vf : Value) (w : World) (hr : EnReads w vl vs vf e) (hs : EnSmall e) (hK : keyOkB e.key = true) (hT : tilOkB e.til = true) (hk : e.kind = 1) :
    Calls Tryz.prog 23 #[enV e vl vs vf] w fun x w' => x = .returned (.bool (heldOkB e)) ∧ Below w.heap.size w w' := by
  obtain ⟨al, cl, as_, cs, af, cf, rfl, rfl, rfl⟩ := enReads_shape hr
  have hT1 : (decide ((0 : Int) ≤ e.til) && decide (e.til ≤ 2000000)) = true := hT
  have HH : Hid _ := held1 hk
  have hB : ∀ A, Below w.heap.size w (w.alloc A) := fun A => (Below.refl _ w).alloc (Nat.le_refl _) A
  have HR : Hid (∀ A, EnReads (w.alloc A) (.slice al e.list.length cl) (.slice as_ e.scores.length cs) (.slice af e.fields.length cf) e) := fun A => enReads_kept hr (hB A)
  have HS : Hid (EnSmall e) := hs
  clear hr hs
  go_enter Tryz.func23, Tryz.ntmps23
  go_wp2_with (first | (go_at_call 36; refine (l4Key_any _ _).mono ?_; rw [hK]; rintro e w' ⟨rfl, rfl⟩) | (go_at_call 24; refine (l1In_any _ _ _ _).mono ?_; rw [hT1]; rintro e w' ⟨rfl, rfl⟩))
  all_goals go_ret
  all_goals (refine ⟨ret_bool (Eq.trans ?_ HH.out.symm), by first | exact hB _ | assumption⟩; first | rfl | (simp_all; done) | (simp_all; omega) | (rw [Bool.eq_iff_iff]; simp_all; done) | (rw [Bool.eq_iff_iff]; simp_all; omega))
set_option maxHeartbeats 8000000 in
theorem specEntryOk_2 (e : Ent) (vl vs vf : Value) (w : World) (hr : EnReads w vl vs vf e) (hs : EnSmall e) (hK : keyOkB e.key = true) (hT : tilOkB e.til = true) (hk : e.kind = 2) :
    Calls Tryz.prog 23 #[enV e vl vs vf] w fun x w' => x = .returned (.bool (heldOkB e)) ∧ Below w.heap.size w w' := by
  obtain ⟨al, cl, as_, cs, af, cf, rfl, rfl, rfl⟩ := enReads_shape hr
  have hT1 : (decide ((0 : Int) ≤ e.til) && decide (e.til ≤ 2000000)) = true := hT
  have HH : Hid _ := held2 hk
  have hB : ∀ A, Below w.heap.size w (w.alloc A) := fun A => (Below.refl _ w).alloc (Nat.le_refl _) A
  have HR : Hid (∀ A, EnReads (w.alloc A) (.slice al e.list.length cl) (.slice as_ e.scores.length cs) (.slice af e.fields.length cf) e) := fun A => enReads_kept hr (hB A)
  have HS : Hid (EnSmall e) := hs
  clear hr hs
  go_enter Tryz.func23, Tryz.ntmps23
  go_wp2_with (first | (go_at_call 36; refine (l4Key_any _ _).mono ?_; rw [hK]; rintro e w' ⟨rfl, rfl⟩) | (go_at_call 24; refine (l1In_any _ _ _ _).mono ?_; rw [hT1]; rintro e w' ⟨rfl, rfl⟩) | (go_at_call 37; refine (l2Texts_any _ e.list _ (HR.out _).l HS.out.list).mono ?_; rintro x w' ⟨rfl, rfl⟩))
  all_goals go_ret
  all_goals (refine ⟨ret_bool (Eq.trans ?_ HH.out.symm), by first | exact hB _ | assumption⟩; first | rfl | (simp_all; done) | (simp_all; omega) | (rw [Bool.eq_iff_iff]; simp_all; done) | (rw [Bool.eq_iff_iff]; simp_all; omega))
set_option maxHeartbeats 8000000 in
theorem specEntryOk_3 (e : Ent) (vl vs vf : Value) (w : World) (hr : EnReads w vl vs vf e) (hs : EnSmall e) (hK : keyOkB e.key = true) (hT : tilOkB e.til = true) (hk : e.kind = 3) :
    Calls Tryz.prog 23 #[enV e vl vs vf] w fun x w' => x = .returned (.bool (heldOkB e)) ∧ Below w.heap.size w w' := by
  obtain ⟨al, cl, as_, cs, af, cf, rfl, rfl, rfl⟩ := enReads_shape hr
  have hT1 : (decide ((0 : Int) ≤ e.til) && decide (e.til ≤ 2000000)) = true := hT
  have HH : Hid _ := held3 hk
  have hB : ∀ A, Below w.heap.size w (w.alloc A) := fun A => (Below.refl _ w).alloc (Nat.le_refl _) A
  have HR : Hid (∀ A, EnReads (w.alloc A) (.slice al e.list.length cl) (.slice as_ e.scores.length cs) (.slice af e.fields.length cf) e) := fun A => enReads_kept hr (hB A)
  have HS : Hid (EnSmall e) := hs
  clear hr hs
  go_enter Tryz.func23, Tryz.ntmps23
  go_wp2_with (first | (go_at_call 36; refine (l4Key_any _ _).mono ?_; rw [hK]; rintro e w' ⟨rfl, rfl⟩) | (go_at_call 24; refine (l1In_any _ _ _ _).mono ?_; rw [hT1]; rintro e w' ⟨rfl, rfl⟩) | (go_at_call 38; refine (specSetOk_any _ e.list _ (HR.out _).l HS.out.list).mono ?_; rintro x w' ⟨rfl, hb⟩; have hb2 := (hB _).trans (hb.mono (by simp)); clear hb))
  all_goals go_ret
  all_goals (refine ⟨ret_bool (Eq.trans ?_ HH.out.symm), by first | exact hB _ | assumption⟩; first | rfl | (simp_all; done) | (simp_all; omega) | (rw [Bool.eq_iff_iff]; simp_all; done) | (rw [Bool.eq_iff_iff]; simp_all; omega))
set_option maxHeartbeats 8000000 in
theorem specEntryOk_4 (e : Ent) (vl vs vf : Value) (w : World) (hr : EnReads w vl vs vf e) (hs : EnSmall e) (hK : keyOkB e.key = true) (hT : tilOkB e.til = true) (hk : e.kind = 4) :
    Calls Tryz.prog 23 #[enV e vl vs vf] w fun x w' => x = .returned (.bool (heldOkB e)) ∧ Below w.heap.size w w' := by
  obtain ⟨al, cl, as_, cs, af, cf, rfl, rfl, rfl⟩ := enReads_shape hr
  have hT1 : (decide ((0 : Int) ≤ e.til) && decide (e.til ≤ 2000000)) = true := hT
  have HH : Hid _ := held4 hk
  have hB : ∀ A, Below w.heap.size w (w.alloc A) := fun A => (Below.refl _ w).alloc (Nat.le_refl _) A
  have HR : Hid (∀ A, EnReads (w.alloc A) (.slice al e.list.length cl) (.slice as_ e.scores.length cs) (.slice af e.fields.length cf) e) := fun A => enReads_kept hr (hB A)
  have HS : Hid (EnSmall e) := hs
  clear hr hs
  go_enter Tryz.func23, Tryz.ntmps23
  go_wp2_with (first | (go_at_call 36; refine (l4Key_any _ _).mono ?_; rw [hK]; rintro e w' ⟨rfl, rfl⟩) | (go_at_call 24; refine (l1In_any _ _ _ _).mono ?_; rw [hT1]; rintro e w' ⟨rfl, rfl⟩) | (go_at_call 39; refine (specScoresOk_any _ e.scores _ (HR.out _).s HS.out.scores).mono ?_; rintro x w' ⟨rfl, hb⟩; have hb2 := (hB _).trans (hb.mono (by simp)); clear hb))
  all_goals go_ret
  all_goals (refine ⟨ret_bool (Eq.trans ?_ HH.out.symm), by first | exact hB _ | assumption⟩; first | rfl | (simp_all; done) | (simp_all; omega) | (rw [Bool.eq_iff_iff]; simp_all; done) | (rw [Bool.eq_iff_iff]; simp_all; omega))
set_option maxHeartbeats 8000000 in
theorem specEntryOk_5 (e : Ent) (vl vs vf : Value) (w : World) (hr : EnReads w vl vs vf e) (hs : EnSmall e) (hK : keyOkB e.key = true) (hT : tilOkB e.til = true) (hk : e.kind = 5) :
    Calls Tryz.prog 23 #[enV e vl vs vf] w fun x w' => x = .returned (.bool (heldOkB e)) ∧ Below w.heap.size w w' := by
  obtain ⟨al, cl, as_, cs, af, cf, rfl, rfl, rfl⟩ := enReads_shape hr
  have hT1 : (decide ((0 : Int) ≤ e.til) && decide (e.til ≤ 2000000)) = true := hT
  have HH : Hid _ := held5 hk
  have hB : ∀ A, Below w.heap.size w (w.alloc A) := fun A => (Below.refl _ w).alloc (Nat.le_refl _) A
  have HR : Hid (∀ A, EnReads (w.alloc A) (.slice al e.list.length cl) (.slice as_ e.scores.length cs) (.slice af e.fields.length cf) e) := fun A => enReads_kept hr (hB A)
  have HS : Hid (EnSmall e) := hs
  clear hr hs
  go_enter Tryz.func23, Tryz.ntmps23
  go_wp2_with (first | (go_at_call 36; refine (l4Key_any _ _).mono ?_; rw [hK]; rintro e w' ⟨rfl, rfl⟩) | (go_at_call 24; refine (l1In_any _ _ _ _).mono ?_; rw [hT1]; rintro e w' ⟨rfl, rfl⟩) | (go_at_call 40; refine (specFieldsOk_any _ e.fields _ (HR.out _).f HS.out.fields).mono ?_; rintro x w' ⟨rfl, hb⟩; have hb2 := (hB _).trans (hb.mono (by simp)); clear hb))
  all_goals go_ret
  all_goals (refine ⟨ret_bool (Eq.trans ?_ HH.out.symm), by first | exact hB _ | assumption⟩; first | rfl | (simp_all; done) | (simp_all; omega) | (rw [Bool.eq_iff_iff]; simp_all; done) | (rw [Bool.eq_iff_iff]; simp_all; omega))
set_option maxHeartbeats 4000000 in
theorem specEntryOk_any (e : Ent) (vl vs vf : Value) (w : World) (hr : EnReads w vl vs vf e) (hs : EnSmall e) :
    Calls Tryz.prog 23 #[enV e vl vs vf] w fun x w' => x = .returned (.bool (enOkB e)) ∧ Below w.heap.size w w' := by
  cases hK : keyOkB e.key with
  | false =>
    obtain ⟨al, cl, as_, cs, af, cf, rfl, rfl, rfl⟩ := enReads_shape hr
    have HH : Hid (enOkB e = false) := by show _ = _; unfold enOkB; rw [hK]; rfl
    go_enter Tryz.func23, Tryz.ntmps23
    go_wp2_with (go_at_call 36; refine (l4Key_any _ _).mono ?_; rw [hK]; rintro e w' ⟨rfl, rfl⟩)
    go_ret
    exact ⟨ret_bool HH.out.symm, (Below.refl _ w).alloc (Nat.le_refl _) _⟩
  | true =>
    cases hT : tilOkB e.til with
    | false =>
      obtain ⟨al, cl, as_, cs, af, cf, rfl, rfl, rfl⟩ := enReads_shape hr
      have HH : Hid (enOkB e = false) := by show _ = _; unfold enOkB; rw [hK, hT]; rfl
      have hT1 : (decide ((0 : Int) ≤ e.til) && decide (e.til ≤ 2000000)) = false := hT
      go_enter Tryz.func23, Tryz.ntmps23
      go_wp2_with (first | (go_at_call 36; refine (l4Key_any _ _).mono ?_; rw [hK]; rintro e w' ⟨rfl, rfl⟩) | (go_at_call 24; refine (l1In_any _ _ _ _).mono ?_; rw [hT1]; rintro e w' ⟨rfl, rfl⟩))
      go_ret
      exact ⟨ret_bool HH.out.symm, (Below.refl _ w).alloc (Nat.le_refl _) _⟩
    | true =>
      have HH : enOkB e = heldOkB e := by unfold enOkB; rw [hK, hT]; rfl
      rw [HH]
      by_cases k1 : e.kind = 1
      · exact specEntryOk_1 e vl vs vf w hr hs hK hT k1
      by_cases k2 : e.kind = 2
      · exact specEntryOk_2 e vl vs vf w hr hs hK hT k2
      by_cases k3 : e.kind = 3
      · exact specEntryOk_3 e vl vs vf w hr hs hK hT k3
      by_cases k4 : e.kind = 4
      · exact specEntryOk_4 e vl vs vf w hr hs hK hT k4
      by_cases k5 : e.kind = 5
      · exact specEntryOk_5 e vl vs vf w hr hs hK hT k5
      exact specEntryOk_0 e vl vs vf w hr hs hK hT ⟨k1, k2, k3, k4, k5⟩
end Go.Proofs.YtaiboncomibikaaGreatDoor
