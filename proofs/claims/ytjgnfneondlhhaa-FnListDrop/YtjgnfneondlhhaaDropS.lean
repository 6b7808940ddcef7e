/- The model's ListDrop. -/
import Derived.Test.YtjgnfneondlhhaaDropI
namespace Go.Proofs.Ytjgnfneondlhhaa
open Go.RowKit

set_option maxHeartbeats 4000000 in
theorem specDrop_bad (v : Value) (l : List ByteArray) (c : Int) (t : ByteArray) (w : World) (hr : Reads w v l) (hlen : l.length ≤ 1048576) (hb : dropB l c = false) :
    Calls Try.prog 32 #[v, .int .i64 c, .string t] w fun e w' => ∃ u, e = .returned (.tuple #[u, .int .i64 0]) ∧ Owns w' w.heap.size u [] ∧ Below w.heap.size w w' := by
  have ho : Owns (w.alloc (.cells #[] 9)) w.heap.size (.slice (some ⟨w.heap.size, 0, none⟩) 0 0) [] := World.ownsRow_lit w #[] 0 (Nat.le_refl _) (by simp) rfl
  have hB : Below w.heap.size w (w.alloc (.cells #[] 9)) := (Below.refl _ _).alloc (Nat.le_refl _) _
  cases hok : okB l with
  | false =>
    go_enter Try.func32, Try.ntmps32
    go_wp2_with (first | (go_at_call 40; refine (l2Texts_any _ l _ hr hlen).mono ?_; rintro e w' ⟨rfl, rfl⟩) | (go_at_call 47; refine (l2Place_any _ _).mono ?_; rintro e w' ⟨rfl, rfl⟩))
    go_ret2
    exact ⟨_, rfl, ho, hB⟩
  | true =>
    have hp : placeB c = false := by unfold dropB at hb; rw [hok] at hb; simpa using hb
    go_enter Try.func32, Try.ntmps32
    go_wp2_with (first | (go_at_call 40; refine (l2Texts_any _ l _ hr hlen).mono ?_; rintro e w' ⟨rfl, rfl⟩) | (go_at_call 47; refine (l2Place_any _ _).mono ?_; rintro e w' ⟨rfl, rfl⟩))
    go_ret2
    exact ⟨_, rfl, ho, hB⟩

/-- what holds at each round -/
def DropSRel (w2 : World) (P : List ByteArray) (t : ByteArray) (m : Nat) (x n i : Value) (wr : World) : Prop :=
  ∃ k : Nat, k ≤ P.length ∧ i = .int .i64 (k : Int) ∧ n = .int .i64 ((runD t m (P.take k)).2 : Nat) ∧ Owns wr w2.heap.size x (runD t m (P.take k)).1 ∧ Below w2.heap.size w2 wr

theorem inB_of3 {a : Int} (h1 : -1000000000 ≤ a) (h2 : a ≤ 1000000000) : placeB a = true := by simp [placeB, inB]; omega

set_option maxHeartbeats 8000000 in
theorem specDrop_neg (v : Value) (l : List ByteArray) (m : Nat) (t : ByteArray) (w : World) (hr : Reads w v l) (hok : okB l = true) (hm0 : m ≠ 0) (hm : m ≤ 1000000000) :
    Calls Try.prog 32 #[v, .int .i64 (-(m : Int)), .string t] w fun e w' => ∃ u, e = .returned (.tuple #[u, .int .i64 (((runD t (m) (turn false l)).2 : Nat) : Int)]) ∧ Owns w' w.heap.size u (turn false (runD t (m) (turn false l)).1) ∧ Below w.heap.size w w' := by
  obtain ⟨i0, hi, hz0, hz1, hz2⟩ := info_parts infoS
  have hn : l.length ≤ 16 := by unfold okB at hok; simp at hok; exact hok.1
  have hp : placeB (-(m : Int)) = true := inB_of3 (by omega) (by omega)
  obtain ⟨ao, cap, rfl⟩ := reads_shape hr
  have hc0 : ((-(m : Int)) == 0) = false := beq_eq_false_iff_ne.2 (by omega)
  go_enter Try.func32, Try.ntmps32
  go_wp2_with (first | (go_at_call 40; refine (l2Texts_any _ l _ hr (by omega)).mono ?_; rintro e w' ⟨rfl, rfl⟩) | (go_at_call 47; refine (l2Place_any _ _).mono ?_; rintro e w' ⟨rfl, rfl⟩))
  refine (copy_any _ l _ hr (by omega)).mono ?_
  rintro e w0 ⟨x0, rfl, ox0, hb0⟩
  have hs0 := hb0.size
  go_wp2_with fail
  refine (turn_any _ l _ (reads_kept hr hb0) (by omega)).mono ?_
  rintro e w2 ⟨x2, rfl, ox2, hb2⟩
  have hB2 := hb0.trans (hb2.mono hs0)
  have hR2 := owns_reads ox2
  clear ox0 hb0 hb2 ox2 hr
  go_wp2_with fail
  have hsw := hB2.size
  have hPl : (turn false l).length = l.length := turn_len _ _
  have hR3 : Reads w2 x2 (turn false l) := hR2
  have ho0 : Owns (w2.alloc (.cells #[] 9)) w2.heap.size (.slice (some ⟨w2.heap.size, 0, none⟩) 0 0) [] := World.ownsRow_lit w2 #[] 0 (Nat.le_refl _) (by simp) rfl
  have hB0 : Below w2.heap.size w2 (w2.alloc (.cells #[] 9)) := (Below.refl _ _).alloc (Nat.le_refl _) _
  obtain ⟨P, hP⟩ : ∃ P, turn false l = P := ⟨_, rfl⟩
  rw [hP] at hPl hR3
  have HP : Hid (turn false l = P) := hP
  obtain ⟨aP, cP, rfl⟩ := reads_shape hR3
  rw [hPl]
  have HPL : Hid (P.length = l.length) := hPl
  clear hP hPl hR2
  go_loopw [10, 11, 12] (fun x n i wr => DropSRel w2 P t (m) x n i wr) (fun _ _ i _ => l.length - (intOf i).toNat)
  case atStart => exact ⟨0, Nat.zero_le _, rfl, rfl, ho0, hB0⟩
  case round =>
    obtain ⟨k, hk, rfl, rfl, ho, hB⟩ := hrel
    clear ho0 hB0
    rw [HPL.out] at hk
    have hsz := hB.size
    have hrb := runD_bd t (m) (P.take k)
    by_cases hlt : k < l.length
    · have hkP : k < P.length := by rw [HPL.out]; exact hlt
      obtain ⟨b, off, rfl, hb, hcq⟩ := reads_some hR3 (by omega)
      have hcell : wr.cell? ⟨b, off + k, none⟩ = some (.string (at_ P k)) := (hB.cell (p := ⟨b, off + k, none⟩) hb).trans (hcq k hkP)
      have HSN : Hid (runD t (m) (P.take (k + 1)) = stepD t (m) (runD t (m) (P.take k)) (at_ P k)) := by
        show _ = _; rw [List.take_succ_eq_append_getElem hkP, at_lt hkP]; exact runD_snoc _ _ _ _
      have hlen1 : (P.take k).length = k := by simp; omega
      clear hcq hR3
      by_cases hst : at_ P k = t ∧ (runD t (m) (P.take k)).2 < m
      · have HS2 : Hid (runD t (m) (P.take (k + 1)) = ((runD t (m) (P.take k)).1, (runD t (m) (P.take k)).2 + 1)) := by show _ = _; rw [HSN.out]; exact stepD_hit hst.1 hst.2
        have heq : ((at_ P k).toList == t.toList) = true := by rw [hst.1]; simp
        have hlt2 : (((runD t (m) (P.take k)).2 : Nat) : Int) < ((m : Nat) : Int) := by have := hst.2; omega
        clear hst
        go_wp2_with fail
        go_roundw
        case rel =>
          have hfin : DropSRel w2 P t (m) _ (.int .i64 ((((runD t (m) (P.take k)).2 : Nat) : Int) + 1)) (.int .i64 ((k : Int) + 1)) wr := ⟨k + 1, hkP, by go_num, by rw [HS2.out]; go_num, by rw [HS2.out]; exact ho, hB⟩
          first | exact hfin | ((repeat apply Exists.intro); exact ⟨hfin, rfl⟩)
        case measure => simp [intOf]; omega
      · have HS2 : Hid (runD t (m) (P.take (k + 1)) = ((runD t (m) (P.take k)).1 ++ [at_ P k], (runD t (m) (P.take k)).2)) := by show _ = _; rw [HSN.out]; exact stepD_miss hst
        have hcase : ((at_ P k).toList == t.toList) = false ∨ (((at_ P k).toList == t.toList) = true ∧ ((m : Nat) : Int) ≤ (((runD t (m) (P.take k)).2 : Nat) : Int)) := by
          cases he : ((at_ P k).toList == t.toList) with
          | false => exact .inl rfl
          | true => right; refine ⟨rfl, ?_⟩; have : ¬ (runD t (m) (P.take k)).2 < m := fun h => hst ⟨bytes_ext (by simpa using he), h⟩; omega
        clear hst
        have hol := ho
        unfold Owns at hol
        have hB3a := hB.alloc hsz (.cells #[.string (at_ P k)] 9)
        generalize hN : (runD t (m) (P.take k)).2 = N at *
        generalize hQ : (runD t (m) (P.take k)).1 = Q at *
        rcases hcase with heq | ⟨heq, hge⟩
        all_goals
          go_wp2_with (at_builtin; refine wpList_append_own _ rfl (.tmp 55) (.tmp 60) 22 rfl w2.heap.size 9 i0 (.string ByteArray.empty) 1 16 Try.underlying22 hi hz0 hz1 hz2 rfl (by decide) _ _ _ rfl (hol.alloc _) ⟨wr.heap.size, 0, none⟩ 1 1 [.string (at_ P k)] rfl rfl (cell_one_new _ _ _) (strs_one [at_ P k]) (by unfold maxLen; omega) (by omega) (by simp; omega) ?_)
          intro x4 w4 hown4 hgrow4 _
          have ho4 : Owns w4 w2.heap.size x4 (Q ++ [at_ P k]) := by unfold Owns; rw [List.length_append, List.map_append]; exact hown4
          have hB4 : Below w2.heap.size w2 w4 := hB3a.grown hgrow4 (by simp; omega) (fun j hj => (hol.lt j hj).1)
          clear hown4 hgrow4 hol hB3a ho
          go_wp2_with fail
          go_roundw
          case rel =>
            have hfin : DropSRel w2 P t (m) x4 (.int .i64 (N : Int)) (.int .i64 ((k : Int) + 1)) w4 := ⟨k + 1, hkP, by go_num, by rw [HS2.out], by rw [HS2.out]; exact ho4, hB4⟩
            first | exact hfin | ((repeat apply Exists.intro); exact ⟨hfin, rfl⟩)
          case measure => simp [intOf]; omega
    · have e : k = l.length := by omega
      subst e
      have eT : P.take l.length = P := by rw [← HPL.out]; exact List.take_length
      rw [eT] at ho
      have hB5 := hB2.trans (hB.mono hsw)
      have HPP : Hid (P = turn false l) := HP.out.symm
      clear hR3
      have hrl : (runD t (m) P).1.length ≤ 1000 := by rw [eT] at hrb; rw [HPL.out] at hrb; omega
      have HNN : Hid (runD t (m) (P.take l.length) = runD t (m) P) := by show _ = _; rw [eT]
      go_wp2_with fail
      refine (turn_any _ _ _ (owns_reads ho) hrl).mono ?_
      rintro e w5 ⟨x5, rfl, ox5, hb5⟩
      have hs5 := hB5.size
      have hB6 := hB5.trans (hb5.mono hs5)
      have ox6 := owns_base ox5 hs5
      clear ox5 hb5
      go_wp2_with fail
      go_ret2
      exact ⟨_, by rw [HP.out, ← HNN.out]; rfl, by rw [HP.out]; exact ox6, hB6⟩

set_option maxHeartbeats 8000000 in
theorem specDrop_all (v : Value) (l : List ByteArray) (t : ByteArray) (w : World) (hr : Reads w v l) (hok : okB l = true) :
    Calls Try.prog 32 #[v, .int .i64 (0), .string t] w fun e w' => ∃ u, e = .returned (.tuple #[u, .int .i64 (((runD t (l.length) (turn true l)).2 : Nat) : Int)]) ∧ Owns w' w.heap.size u (turn true (runD t (l.length) (turn true l)).1) ∧ Below w.heap.size w w' := by
  obtain ⟨i0, hi, hz0, hz1, hz2⟩ := info_parts infoS
  have hn : l.length ≤ 16 := by unfold okB at hok; simp at hok; exact hok.1
  have hp : placeB (0) = true := inB_of3 (by omega) (by omega)
  obtain ⟨ao, cap, rfl⟩ := reads_shape hr
  go_enter Try.func32, Try.ntmps32
  go_wp2_with (first | (go_at_call 40; refine (l2Texts_any _ l _ hr (by omega)).mono ?_; rintro e w' ⟨rfl, rfl⟩) | (go_at_call 47; refine (l2Place_any _ _).mono ?_; rintro e w' ⟨rfl, rfl⟩))
  refine (copy_any _ l _ hr (by omega)).mono ?_
  rintro e w0 ⟨x0, rfl, ox0, hb0⟩
  have hs0 := hb0.size
  go_wp2_with fail
  obtain ⟨w2, hw2⟩ : ∃ w2, w2 = w0 := ⟨w0, rfl⟩
  subst hw2
  obtain ⟨x2, hx2⟩ : ∃ x2, x2 = x0 := ⟨x0, rfl⟩
  subst hx2
  have hB2 := hb0
  have hR2 := owns_reads ox0
  clear ox0 hb0 hr
  have hsw := hB2.size
  have hPl : (turn true l).length = l.length := turn_len _ _
  have hR3 : Reads w2 x2 (turn true l) := hR2
  have ho0 : Owns (w2.alloc (.cells #[] 9)) w2.heap.size (.slice (some ⟨w2.heap.size, 0, none⟩) 0 0) [] := World.ownsRow_lit w2 #[] 0 (Nat.le_refl _) (by simp) rfl
  have hB0 : Below w2.heap.size w2 (w2.alloc (.cells #[] 9)) := (Below.refl _ _).alloc (Nat.le_refl _) _
  obtain ⟨P, hP⟩ : ∃ P, turn true l = P := ⟨_, rfl⟩
  rw [hP] at hPl hR3
  have HP : Hid (turn true l = P) := hP
  obtain ⟨aP, cP, rfl⟩ := reads_shape hR3
  rw [hPl]
  have HPL : Hid (P.length = l.length) := hPl
  clear hP hPl hR2
  go_loopw [10, 11, 12] (fun x n i wr => DropSRel w2 P t (l.length) x n i wr) (fun _ _ i _ => l.length - (intOf i).toNat)
  case atStart => exact ⟨0, Nat.zero_le _, rfl, rfl, ho0, hB0⟩
  case round =>
    obtain ⟨k, hk, rfl, rfl, ho, hB⟩ := hrel
    clear ho0 hB0
    rw [HPL.out] at hk
    have hsz := hB.size
    have hrb := runD_bd t (l.length) (P.take k)
    by_cases hlt : k < l.length
    · have hkP : k < P.length := by rw [HPL.out]; exact hlt
      obtain ⟨b, off, rfl, hb, hcq⟩ := reads_some hR3 (by omega)
      have hcell : wr.cell? ⟨b, off + k, none⟩ = some (.string (at_ P k)) := (hB.cell (p := ⟨b, off + k, none⟩) hb).trans (hcq k hkP)
      have HSN : Hid (runD t (l.length) (P.take (k + 1)) = stepD t (l.length) (runD t (l.length) (P.take k)) (at_ P k)) := by
        show _ = _; rw [List.take_succ_eq_append_getElem hkP, at_lt hkP]; exact runD_snoc _ _ _ _
      have hlen1 : (P.take k).length = k := by simp; omega
      clear hcq hR3
      by_cases hst : at_ P k = t ∧ (runD t (l.length) (P.take k)).2 < l.length
      · have HS2 : Hid (runD t (l.length) (P.take (k + 1)) = ((runD t (l.length) (P.take k)).1, (runD t (l.length) (P.take k)).2 + 1)) := by show _ = _; rw [HSN.out]; exact stepD_hit hst.1 hst.2
        have heq : ((at_ P k).toList == t.toList) = true := by rw [hst.1]; simp
        have hlt2 : (((runD t (l.length) (P.take k)).2 : Nat) : Int) < ((l.length : Nat) : Int) := by have := hst.2; omega
        clear hst
        go_wp2_with fail
        go_roundw
        case rel =>
          have hfin : DropSRel w2 P t (l.length) _ (.int .i64 ((((runD t (l.length) (P.take k)).2 : Nat) : Int) + 1)) (.int .i64 ((k : Int) + 1)) wr := ⟨k + 1, hkP, by go_num, by rw [HS2.out]; go_num, by rw [HS2.out]; exact ho, hB⟩
          first | exact hfin | ((repeat apply Exists.intro); exact ⟨hfin, rfl⟩)
        case measure => simp [intOf]; omega
      · have HS2 : Hid (runD t (l.length) (P.take (k + 1)) = ((runD t (l.length) (P.take k)).1 ++ [at_ P k], (runD t (l.length) (P.take k)).2)) := by show _ = _; rw [HSN.out]; exact stepD_miss hst
        have hcase : ((at_ P k).toList == t.toList) = false ∨ (((at_ P k).toList == t.toList) = true ∧ ((l.length : Nat) : Int) ≤ (((runD t (l.length) (P.take k)).2 : Nat) : Int)) := by
          cases he : ((at_ P k).toList == t.toList) with
          | false => exact .inl rfl
          | true => right; refine ⟨rfl, ?_⟩; have : ¬ (runD t (l.length) (P.take k)).2 < l.length := fun h => hst ⟨bytes_ext (by simpa using he), h⟩; omega
        clear hst
        have hol := ho
        unfold Owns at hol
        have hB3a := hB.alloc hsz (.cells #[.string (at_ P k)] 9)
        generalize hN : (runD t (l.length) (P.take k)).2 = N at *
        generalize hQ : (runD t (l.length) (P.take k)).1 = Q at *
        have heq := hcase.resolve_right (fun h => by have := h.2; omega)
        go_wp2_with (at_builtin; refine wpList_append_own _ rfl (.tmp 55) (.tmp 60) 22 rfl w2.heap.size 9 i0 (.string ByteArray.empty) 1 16 Try.underlying22 hi hz0 hz1 hz2 rfl (by decide) _ _ _ rfl (hol.alloc _) ⟨wr.heap.size, 0, none⟩ 1 1 [.string (at_ P k)] rfl rfl (cell_one_new _ _ _) (strs_one [at_ P k]) (by unfold maxLen; omega) (by omega) (by simp; omega) ?_)
        intro x4 w4 hown4 hgrow4 _
        have ho4 : Owns w4 w2.heap.size x4 (Q ++ [at_ P k]) := by unfold Owns; rw [List.length_append, List.map_append]; exact hown4
        have hB4 : Below w2.heap.size w2 w4 := hB3a.grown hgrow4 (by simp; omega) (fun j hj => (hol.lt j hj).1)
        clear hown4 hgrow4 hol hB3a ho
        go_wp2_with fail
        go_roundw
        case rel =>
          have hfin : DropSRel w2 P t (l.length) x4 (.int .i64 (N : Int)) (.int .i64 ((k : Int) + 1)) w4 := ⟨k + 1, hkP, by go_num, by rw [HS2.out], by rw [HS2.out]; exact ho4, hB4⟩
          first | exact hfin | ((repeat apply Exists.intro); exact ⟨hfin, rfl⟩)
        case measure => simp [intOf]; omega
    · have e : k = l.length := by omega
      subst e
      have eT : P.take l.length = P := by rw [← HPL.out]; exact List.take_length
      rw [eT] at ho
      have hB5 := hB2.trans (hB.mono hsw)
      have HPP : Hid (P = turn true l) := HP.out.symm
      clear hR3
      have HNN : Hid (runD t (l.length) (P.take l.length) = runD t (l.length) P) := by show _ = _; rw [eT]
      go_wp2_with fail
      go_ret2
      exact ⟨_, by rw [HP.out, ← HNN.out]; rfl, by rw [HP.out]; exact owns_base ho hsw, hB5⟩

set_option maxHeartbeats 8000000 in
theorem specDrop_pos (v : Value) (l : List ByteArray) (m : Nat) (t : ByteArray) (w : World) (hr : Reads w v l) (hok : okB l = true) (hm0 : m ≠ 0) (hm : m ≤ 1000000000) :
    Calls Try.prog 32 #[v, .int .i64 ((m : Int)), .string t] w fun e w' => ∃ u, e = .returned (.tuple #[u, .int .i64 (((runD t (m) (turn true l)).2 : Nat) : Int)]) ∧ Owns w' w.heap.size u (turn true (runD t (m) (turn true l)).1) ∧ Below w.heap.size w w' := by
  obtain ⟨i0, hi, hz0, hz1, hz2⟩ := info_parts infoS
  have hn : l.length ≤ 16 := by unfold okB at hok; simp at hok; exact hok.1
  have hp : placeB ((m : Int)) = true := inB_of3 (by omega) (by omega)
  obtain ⟨ao, cap, rfl⟩ := reads_shape hr
  have hc0 : (((m : Int)) == 0) = false := beq_eq_false_iff_ne.2 (by omega)
  go_enter Try.func32, Try.ntmps32
  go_wp2_with (first | (go_at_call 40; refine (l2Texts_any _ l _ hr (by omega)).mono ?_; rintro e w' ⟨rfl, rfl⟩) | (go_at_call 47; refine (l2Place_any _ _).mono ?_; rintro e w' ⟨rfl, rfl⟩))
  refine (copy_any _ l _ hr (by omega)).mono ?_
  rintro e w0 ⟨x0, rfl, ox0, hb0⟩
  have hs0 := hb0.size
  go_wp2_with fail
  obtain ⟨w2, hw2⟩ : ∃ w2, w2 = w0 := ⟨w0, rfl⟩
  subst hw2
  obtain ⟨x2, hx2⟩ : ∃ x2, x2 = x0 := ⟨x0, rfl⟩
  subst hx2
  have hB2 := hb0
  have hR2 := owns_reads ox0
  clear ox0 hb0 hr
  have hsw := hB2.size
  have hPl : (turn true l).length = l.length := turn_len _ _
  have hR3 : Reads w2 x2 (turn true l) := hR2
  have ho0 : Owns (w2.alloc (.cells #[] 9)) w2.heap.size (.slice (some ⟨w2.heap.size, 0, none⟩) 0 0) [] := World.ownsRow_lit w2 #[] 0 (Nat.le_refl _) (by simp) rfl
  have hB0 : Below w2.heap.size w2 (w2.alloc (.cells #[] 9)) := (Below.refl _ _).alloc (Nat.le_refl _) _
  obtain ⟨P, hP⟩ : ∃ P, turn true l = P := ⟨_, rfl⟩
  rw [hP] at hPl hR3
  have HP : Hid (turn true l = P) := hP
  obtain ⟨aP, cP, rfl⟩ := reads_shape hR3
  rw [hPl]
  have HPL : Hid (P.length = l.length) := hPl
  clear hP hPl hR2
  go_loopw [10, 11, 12] (fun x n i wr => DropSRel w2 P t (m) x n i wr) (fun _ _ i _ => l.length - (intOf i).toNat)
  case atStart => exact ⟨0, Nat.zero_le _, rfl, rfl, ho0, hB0⟩
  case round =>
    obtain ⟨k, hk, rfl, rfl, ho, hB⟩ := hrel
    clear ho0 hB0
    rw [HPL.out] at hk
    have hsz := hB.size
    have hrb := runD_bd t (m) (P.take k)
    by_cases hlt : k < l.length
    · have hkP : k < P.length := by rw [HPL.out]; exact hlt
      obtain ⟨b, off, rfl, hb, hcq⟩ := reads_some hR3 (by omega)
      have hcell : wr.cell? ⟨b, off + k, none⟩ = some (.string (at_ P k)) := (hB.cell (p := ⟨b, off + k, none⟩) hb).trans (hcq k hkP)
      have HSN : Hid (runD t (m) (P.take (k + 1)) = stepD t (m) (runD t (m) (P.take k)) (at_ P k)) := by
        show _ = _; rw [List.take_succ_eq_append_getElem hkP, at_lt hkP]; exact runD_snoc _ _ _ _
      have hlen1 : (P.take k).length = k := by simp; omega
      clear hcq hR3
      by_cases hst : at_ P k = t ∧ (runD t (m) (P.take k)).2 < m
      · have HS2 : Hid (runD t (m) (P.take (k + 1)) = ((runD t (m) (P.take k)).1, (runD t (m) (P.take k)).2 + 1)) := by show _ = _; rw [HSN.out]; exact stepD_hit hst.1 hst.2
        have heq : ((at_ P k).toList == t.toList) = true := by rw [hst.1]; simp
        have hlt2 : (((runD t (m) (P.take k)).2 : Nat) : Int) < ((m : Nat) : Int) := by have := hst.2; omega
        clear hst
        go_wp2_with fail
        go_roundw
        case rel =>
          have hfin : DropSRel w2 P t (m) _ (.int .i64 ((((runD t (m) (P.take k)).2 : Nat) : Int) + 1)) (.int .i64 ((k : Int) + 1)) wr := ⟨k + 1, hkP, by go_num, by rw [HS2.out]; go_num, by rw [HS2.out]; exact ho, hB⟩
          first | exact hfin | ((repeat apply Exists.intro); exact ⟨hfin, rfl⟩)
        case measure => simp [intOf]; omega
      · have HS2 : Hid (runD t (m) (P.take (k + 1)) = ((runD t (m) (P.take k)).1 ++ [at_ P k], (runD t (m) (P.take k)).2)) := by show _ = _; rw [HSN.out]; exact stepD_miss hst
        have hcase : ((at_ P k).toList == t.toList) = false ∨ (((at_ P k).toList == t.toList) = true ∧ ((m : Nat) : Int) ≤ (((runD t (m) (P.take k)).2 : Nat) : Int)) := by
          cases he : ((at_ P k).toList == t.toList) with
          | false => exact .inl rfl
          | true => right; refine ⟨rfl, ?_⟩; have : ¬ (runD t (m) (P.take k)).2 < m := fun h => hst ⟨bytes_ext (by simpa using he), h⟩; omega
        clear hst
        have hol := ho
        unfold Owns at hol
        have hB3a := hB.alloc hsz (.cells #[.string (at_ P k)] 9)
        generalize hN : (runD t (m) (P.take k)).2 = N at *
        generalize hQ : (runD t (m) (P.take k)).1 = Q at *
        rcases hcase with heq | ⟨heq, hge⟩
        all_goals
          go_wp2_with (at_builtin; refine wpList_append_own _ rfl (.tmp 55) (.tmp 60) 22 rfl w2.heap.size 9 i0 (.string ByteArray.empty) 1 16 Try.underlying22 hi hz0 hz1 hz2 rfl (by decide) _ _ _ rfl (hol.alloc _) ⟨wr.heap.size, 0, none⟩ 1 1 [.string (at_ P k)] rfl rfl (cell_one_new _ _ _) (strs_one [at_ P k]) (by unfold maxLen; omega) (by omega) (by simp; omega) ?_)
          intro x4 w4 hown4 hgrow4 _
          have ho4 : Owns w4 w2.heap.size x4 (Q ++ [at_ P k]) := by unfold Owns; rw [List.length_append, List.map_append]; exact hown4
          have hB4 : Below w2.heap.size w2 w4 := hB3a.grown hgrow4 (by simp; omega) (fun j hj => (hol.lt j hj).1)
          clear hown4 hgrow4 hol hB3a ho
          go_wp2_with fail
          go_roundw
          case rel =>
            have hfin : DropSRel w2 P t (m) x4 (.int .i64 (N : Int)) (.int .i64 ((k : Int) + 1)) w4 := ⟨k + 1, hkP, by go_num, by rw [HS2.out], by rw [HS2.out]; exact ho4, hB4⟩
            first | exact hfin | ((repeat apply Exists.intro); exact ⟨hfin, rfl⟩)
          case measure => simp [intOf]; omega
    · have e : k = l.length := by omega
      subst e
      have eT : P.take l.length = P := by rw [← HPL.out]; exact List.take_length
      rw [eT] at ho
      have hB5 := hB2.trans (hB.mono hsw)
      have HPP : Hid (P = turn true l) := HP.out.symm
      clear hR3
      have HNN : Hid (runD t (m) (P.take l.length) = runD t (m) P) := by show _ = _; rw [eT]
      go_wp2_with fail
      go_ret2
      exact ⟨_, by rw [HP.out, ← HNN.out]; rfl, by rw [HP.out]; exact owns_base ho hsw, hB5⟩

end Go.Proofs.Ytjgnfneondlhhaa
