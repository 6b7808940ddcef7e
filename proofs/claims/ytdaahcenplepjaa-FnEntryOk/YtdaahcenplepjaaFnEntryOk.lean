/- Proved: at every code EntryOk of the drawn entry is as its model's, and what is ok of one kind is of no other one, nor of none, and has something. No condition. -/
import Derived.Test.YtdaahcenplepjaaEnG
import Derived.ProofKit
import Derived.OpenShut
import Derived.ShutString
import Derived.ChangeOld
import Derived.Below
import Derived.Deep.RegionWith
namespace Go.Proofs.Ytdaahcenplepjaa.fnEntryOk
open Go.ChangeShapes Go.WideShapes Go.ChangeAt Go.RowKit
open Go.ChangeMaps (open_string shut_string)
set_option linter.unusedVariables false

theorem own : ownKnob Try.prog.godebug = none := by kernel_rfl
theorem laidOut : laidOutB Try.prog = true := by kernel_rfl

theorem ok_parts {e : Ent} (h : enOkB e = true) : keyOkB e.key = true ∧ tilOkB e.til = true ∧ heldOkB e = true := by
  unfold enOkB at h; simp only [Bool.and_eq_true] at h; exact ⟨h.1.1, h.1.2, h.2⟩
theorem ok_kind {e : Ent} (h : heldOkB e = true) : e.kind = 1 ∨ e.kind = 2 ∨ e.kind = 3 ∨ e.kind = 4 ∨ e.kind = 5 := by
  by_cases k1 : e.kind = 1
  · exact .inl k1
  by_cases k2 : e.kind = 2
  · exact .inr (.inl k2)
  by_cases k3 : e.kind = 3
  · exact .inr (.inr (.inl k3))
  by_cases k4 : e.kind = 4
  · exact .inr (.inr (.inr (.inl k4)))
  by_cases k5 : e.kind = 5
  · exact .inr (.inr (.inr (.inr k5)))
  rw [held0 ⟨k1, k2, k3, k4, k5⟩] at h; cases h
theorem not_ok {e : Ent} {n : Int} (h : heldOkB { e with kind := n } = false) : enOkB { e with kind := n } = false := by
  unfold enOkB; rw [h, Bool.and_false]
theorem no_0 (e : Ent) : enOkB { e with kind := 0 } = false := not_ok (held0 ⟨show (0 : Int) ≠ 1 by decide, show (0 : Int) ≠ 2 by decide, show (0 : Int) ≠ 3 by decide, show (0 : Int) ≠ 4 by decide, show (0 : Int) ≠ 5 by decide⟩)
theorem no_12 {e : Ent} (ht : ¬ e.text.toList = []) : enOkB { e with kind := 2 } = false := not_ok (by rw [held2 rfl]; simp [ht])
theorem no_14 {e : Ent} (h : heldOkB e = true) (k : e.kind = 1) : enOkB { e with kind := 4 } = false := not_ok (by rw [held1 k] at h; rw [held4 rfl]; simp_all)
theorem no_24 {e : Ent} (h : heldOkB e = true) (k : e.kind = 2) : enOkB { e with kind := 4 } = false := not_ok (by rw [held2 k] at h; rw [held4 rfl]; simp_all)
theorem no_34 {e : Ent} (h : heldOkB e = true) (k : e.kind = 3) : enOkB { e with kind := 4 } = false := not_ok (by rw [held3 k] at h; rw [held4 rfl]; simp_all)
theorem no_45 {e : Ent} (h : heldOkB e = true) (k : e.kind = 4) : enOkB { e with kind := 5 } = false := not_ok (by rw [held4 k] at h; rw [held5 rfl]; simp_all)
theorem no_51 {e : Ent} (h : heldOkB e = true) (k : e.kind = 5) : enOkB { e with kind := 1 } = false := not_ok (by rw [held5 k] at h; rw [held1 rfl]; simp_all)
theorem pos_of {α : Type} {l : List α} (h : ¬ l = []) : 0 < l.length := by
  cases l with
  | nil => exact absurd rfl h
  | cons a t => simp
theorem has_2 {e : Ent} (h : heldOkB e = true) (k : e.kind = 2) : 0 < e.list.length := by rw [held2 k] at h; simp at h; exact pos_of h.1.1.1.2
theorem has_3 {e : Ent} (h : heldOkB e = true) (k : e.kind = 3) : 0 < e.list.length := by rw [held3 k] at h; simp at h; exact pos_of h.1.1.1.2
theorem has_4 {e : Ent} (h : heldOkB e = true) (k : e.kind = 4) : 0 < e.scores.length := by rw [held4 k] at h; simp at h; exact pos_of h.1.1.2
theorem has_5 {e : Ent} (h : heldOkB e = true) (k : e.kind = 5) : 0 < e.fields.length := by rw [held5 k] at h; simp at h; exact pos_of h.1.2
theorem reads_kind {w : World} {vl vs vf : Value} {e : Ent} (n : Int) (h : EnReads w vl vs vf e) : EnReads w vl vs vf { e with kind := n } := ⟨h.l, h.s, h.f⟩
theorem small_kind {e : Ent} (n : Int) (h : EnSmall e) : EnSmall { e with kind := n } := ⟨h.key, h.text, h.list, h.scores, h.fields⟩

set_option maxHeartbeats 16000000 in
set_option maxRecDepth 100000 in
theorem walk (v : Value) (zs : List Int) (w : World) (h : IsBytes w v zs) :
    Calls Try.prog 3 #[v] w fun x w' => x = .returned (.bool true) ∧ Below w.heap.size w w' := by
  obtain ⟨ao, cap, hv, hc1, hc2, _⟩ := id h
  subst hv
  unfold maxLen at hc2
  rcases Int.lt_or_le (1048576 : Int) (zs.length : Int) with hl | hl
  · go_enter Try.func3, Try.ntmps3
    go_wp2_with fail
    go_ret
    exact ⟨rfl, Below.refl _ _⟩
  go_enter Try.func3, Try.ntmps3
  go_wp2_with fail
  refine (drawEntryOk_any _ zs _ h).mono ?_
  rintro x w1 ⟨⟨e, vl, vs, vf, rfl, hr, ht⟩, hB1⟩
  obtain ⟨al, cl, as_, cs, af, cf, rfl, rfl, rfl⟩ := enReads_shape hr
  have hs := tiny_small ht
  clear h ht
  go_wp2_with fail
  obtain ⟨w2, hW⟩ : ∃ W, w1.alloc (.cells #[.string e.key, .int .i64 e.til, .int .i64 e.kind, .string e.text, .slice al e.list.length cl, .slice as_ e.scores.length cs, .slice af e.fields.length cf] 27) = W := ⟨_, rfl⟩
  have hb : Below w1.heap.size w1 w2 := by rw [← hW]; exact (Below.refl _ _).alloc (Nat.le_refl _) _
  have e2 : Hid (w2.heap[w1.heap.size]? = some (.cells #[.string e.key, .int .i64 e.til, .int .i64 e.kind, .string e.text, .slice al e.list.length cl, .slice as_ e.scores.length cs, .slice af e.fields.length cf] 27 (0, 0))) := by show _ = _; rw [← hW]; exact heap_alloc_new _ _
  have hz2 : w1.heap.size < w2.heap.size := by rw [← hW]; simp
  have hB2 := hB1.trans (hb.mono hB1.size)
  have hr2 := enReads_kept hr hb
  rw [hW]
  clear hW hb hr hB1
  refine (implEntryOk_any e _ _ _ _ hr2 hs hs.key hs.text).mono ?_
  rintro x w3 ⟨rfl, hb⟩
  have e3 : Hid _ := row_below e2.out hb hz2
  have hz3 := Nat.lt_of_lt_of_le hz2 hb.size
  have hB3 := hB2.trans (hb.mono hB2.size)
  have hr3 := enReads_kept hr2 hb
  clear hb hr2 hB2 e2
  have c0 : w3.cell? ⟨w1.heap.size, 0, none⟩ = some (.string e.key) := by rw [cell_of_row _ _ _ _ _ _ e3.out]; rfl
  have c1 : w3.cell? ⟨w1.heap.size, 1, none⟩ = some (.int .i64 e.til) := by rw [cell_of_row _ _ _ _ _ _ e3.out]; rfl
  have c2 : w3.cell? ⟨w1.heap.size, 2, none⟩ = some (.int .i64 e.kind) := by rw [cell_of_row _ _ _ _ _ _ e3.out]; rfl
  have c3 : w3.cell? ⟨w1.heap.size, 3, none⟩ = some (.string e.text) := by rw [cell_of_row _ _ _ _ _ _ e3.out]; rfl
  have c4 : w3.cell? ⟨w1.heap.size, 4, none⟩ = some (.slice al e.list.length cl) := by rw [cell_of_row _ _ _ _ _ _ e3.out]; rfl
  have c5 : w3.cell? ⟨w1.heap.size, 5, none⟩ = some (.slice as_ e.scores.length cs) := by rw [cell_of_row _ _ _ _ _ _ e3.out]; rfl
  have c6 : w3.cell? ⟨w1.heap.size, 6, none⟩ = some (.slice af e.fields.length cf) := by rw [cell_of_row _ _ _ _ _ _ e3.out]; rfl
  go_wp2_with fail
  refine (specEntryOk_any e _ _ _ _ hr3 hs).mono ?_
  rintro x w4 ⟨rfl, hb⟩
  have e4 : Hid _ := row_below e3.out hb hz3
  have hz4 := Nat.lt_of_lt_of_le hz3 hb.size
  have hB4 := hB3.trans (hb.mono hB3.size)
  have hr4 := enReads_kept hr3 hb
  clear c0 c1 c2 c3 c4 c5 c6
  clear hb hr3 hB3 e3
  have hne : (enOkB e != enOkB e) = false := by simp
  cases hok : enOkB e with
  | false =>
    rw [hok] at hne
    have c0 : w4.cell? ⟨w1.heap.size, 0, none⟩ = some (.string e.key) := by rw [cell_of_row _ _ _ _ _ _ e4.out]; rfl
    have c1 : w4.cell? ⟨w1.heap.size, 1, none⟩ = some (.int .i64 e.til) := by rw [cell_of_row _ _ _ _ _ _ e4.out]; rfl
    have c2 : w4.cell? ⟨w1.heap.size, 2, none⟩ = some (.int .i64 e.kind) := by rw [cell_of_row _ _ _ _ _ _ e4.out]; rfl
    have c3 : w4.cell? ⟨w1.heap.size, 3, none⟩ = some (.string e.text) := by rw [cell_of_row _ _ _ _ _ _ e4.out]; rfl
    have c4 : w4.cell? ⟨w1.heap.size, 4, none⟩ = some (.slice al e.list.length cl) := by rw [cell_of_row _ _ _ _ _ _ e4.out]; rfl
    have c5 : w4.cell? ⟨w1.heap.size, 5, none⟩ = some (.slice as_ e.scores.length cs) := by rw [cell_of_row _ _ _ _ _ _ e4.out]; rfl
    have c6 : w4.cell? ⟨w1.heap.size, 6, none⟩ = some (.slice af e.fields.length cf) := by rw [cell_of_row _ _ _ _ _ _ e4.out]; rfl
    go_wp2_with fail
    refine (specEntryOk_any e _ _ _ _ hr4 hs).mono ?_
    rintro x w5 ⟨he, hb⟩
    rw [hok] at he
    subst he
    have hB5 := hB4.trans (hb.mono hB4.size)
    clear c0 c1 c2 c3 c4 c5 c6
    clear hb hr4 hB4 e4
    go_wp2_with fail
    go_ret
    exact ⟨rfl, hB5⟩
  | true =>
    rw [hok] at hne
    obtain ⟨_, _, hh⟩ := ok_parts hok
    clear hok
    have hkk : (e.kind = 1 ∧ ¬ e.text.toList = []) ∨ (e.kind = 1 ∧ e.text.toList = []) ∨ e.kind = 2 ∨ e.kind = 3 ∨ e.kind = 4 ∨ e.kind = 5 := by
      by_cases ht : e.text.toList = []
      · rcases ok_kind hh with k | k | k | k | k
        · exact .inr (.inl ⟨k, ht⟩)
        all_goals omega
      · rcases ok_kind hh with k | k | k | k | k
        · exact .inl ⟨k, ht⟩
        all_goals omega
    rcases hkk with ⟨hk, ht⟩ | ⟨hk, ht⟩ | hk | hk | hk | hk
    ·
      have HX : Hid (enOkB { e with kind := 2 } = false) := no_12 ht
      have ht0 : e.text.toList.isEmpty = false := by cases he : e.text.toList with | nil => exact absurd he ht | cons a b => rfl
      have ht1 : (e.text.toList == []) = false := by cases he : e.text.toList with | nil => exact absurd he ht | cons a b => rfl
      have HK : Hid (e.kind = 1) := hk
      rw [hk] at e4
      clear hh hk
      have c0 : w4.cell? ⟨w1.heap.size, 0, none⟩ = some (.string e.key) := by rw [cell_of_row _ _ _ _ _ _ e4.out]; rfl
      have c1 : w4.cell? ⟨w1.heap.size, 1, none⟩ = some (.int .i64 e.til) := by rw [cell_of_row _ _ _ _ _ _ e4.out]; rfl
      have c2 : w4.cell? ⟨w1.heap.size, 2, none⟩ = some (.int .i64 1) := by rw [cell_of_row _ _ _ _ _ _ e4.out]; rfl
      have c3 : w4.cell? ⟨w1.heap.size, 3, none⟩ = some (.string e.text) := by rw [cell_of_row _ _ _ _ _ _ e4.out]; rfl
      have c4 : w4.cell? ⟨w1.heap.size, 4, none⟩ = some (.slice al e.list.length cl) := by rw [cell_of_row _ _ _ _ _ _ e4.out]; rfl
      have c5 : w4.cell? ⟨w1.heap.size, 5, none⟩ = some (.slice as_ e.scores.length cs) := by rw [cell_of_row _ _ _ _ _ _ e4.out]; rfl
      have c6 : w4.cell? ⟨w1.heap.size, 6, none⟩ = some (.slice af e.fields.length cf) := by rw [cell_of_row _ _ _ _ _ _ e4.out]; rfl
      go_wp2_with fail
      clear c0 c1 c2 c3 c4 c5 c6
      obtain ⟨w5, hW⟩ : ∃ W, (w4.alloc (.cells #[.string e.key, .int .i64 e.til, .int .i64 2, .string e.text, .slice al e.list.length cl, .slice as_ e.scores.length cs, .slice af e.fields.length cf] 27)).alloc (.cells #[.string e.key, .int .i64 e.til, .int .i64 0, .string e.text, .slice al e.list.length cl, .slice as_ e.scores.length cs, .slice af e.fields.length cf] 27) = W := ⟨_, rfl⟩
      have hb : Below w4.heap.size w4 w5 := by rw [← hW]; exact ((Below.refl _ _).alloc (Nat.le_refl _) _).alloc (by simp) _
      have y5 : Hid (w5.heap[w4.heap.size + 1]? = some (.cells #[.string e.key, .int .i64 e.til, .int .i64 0, .string e.text, .slice al e.list.length cl, .slice as_ e.scores.length cs, .slice af e.fields.length cf] 27 (0, 0))) := by show _ = _; rw [← hW]; exact heap_alloc2_new _ _ _
      have hzy : w4.heap.size + 1 < w5.heap.size := by rw [← hW]; simp
      have e5 : Hid _ := row_below e4.out hb hz4
      have hB5 := hB4.trans (hb.mono hB4.size)
      have hr5 := enReads_kept hr4 hb
      have hz5 := Nat.lt_of_lt_of_le hz4 hb.size
      rw [hW]
      clear hW hb hr4 hB4 e4
      refine (implEntryOk_any { e with kind := 2 } _ _ _ _ (reads_kind 2 hr5) (small_kind 2 hs) hs.key hs.text).mono ?_
      rintro x w6 ⟨he, hb⟩
      rw [HX.out] at he
      subst he
      have y6 : Hid _ := row_below y5.out hb hzy
      have e6 : Hid _ := row_below e5.out hb hz5
      have hB6 := hB5.trans (hb.mono hB5.size)
      have hr6 := enReads_kept hr5 hb
      have hz6 := Nat.lt_of_lt_of_le hz5 hb.size
      clear hb hr5 hB5 e5 y5
      have d0 : w6.cell? ⟨w4.heap.size + 1, 0, none⟩ = some (.string e.key) := by rw [cell_of_row _ _ _ _ _ _ y6.out]; rfl
      have d1 : w6.cell? ⟨w4.heap.size + 1, 1, none⟩ = some (.int .i64 e.til) := by rw [cell_of_row _ _ _ _ _ _ y6.out]; rfl
      have d2 : w6.cell? ⟨w4.heap.size + 1, 2, none⟩ = some (.int .i64 0) := by rw [cell_of_row _ _ _ _ _ _ y6.out]; rfl
      have d3 : w6.cell? ⟨w4.heap.size + 1, 3, none⟩ = some (.string e.text) := by rw [cell_of_row _ _ _ _ _ _ y6.out]; rfl
      have d4 : w6.cell? ⟨w4.heap.size + 1, 4, none⟩ = some (.slice al e.list.length cl) := by rw [cell_of_row _ _ _ _ _ _ y6.out]; rfl
      have d5 : w6.cell? ⟨w4.heap.size + 1, 5, none⟩ = some (.slice as_ e.scores.length cs) := by rw [cell_of_row _ _ _ _ _ _ y6.out]; rfl
      have d6 : w6.cell? ⟨w4.heap.size + 1, 6, none⟩ = some (.slice af e.fields.length cf) := by rw [cell_of_row _ _ _ _ _ _ y6.out]; rfl
      go_wp2_with fail
      clear d0 d1 d2 d3 d4 d5 d6
      refine (implEntryOk_any { e with kind := 0 } _ _ _ _ (reads_kind 0 hr6) (small_kind 0 hs) hs.key hs.text).mono ?_
      rintro x w7 ⟨he, hb⟩
      rw [no_0 e] at he
      subst he
      have e7 : Hid _ := row_below e6.out hb hz6
      have hB7 := hB6.trans (hb.mono hB6.size)
      clear hb hr6 hB6 e6 y6
      have n1 := hs.list
      have n2 := hs.scores
      have n3 := hs.fields
      have c0 : w7.cell? ⟨w1.heap.size, 0, none⟩ = some (.string e.key) := by rw [cell_of_row _ _ _ _ _ _ e7.out]; rfl
      have c1 : w7.cell? ⟨w1.heap.size, 1, none⟩ = some (.int .i64 e.til) := by rw [cell_of_row _ _ _ _ _ _ e7.out]; rfl
      have c2 : w7.cell? ⟨w1.heap.size, 2, none⟩ = some (.int .i64 1) := by rw [cell_of_row _ _ _ _ _ _ e7.out]; rfl
      have c3 : w7.cell? ⟨w1.heap.size, 3, none⟩ = some (.string e.text) := by rw [cell_of_row _ _ _ _ _ _ e7.out]; rfl
      have c4 : w7.cell? ⟨w1.heap.size, 4, none⟩ = some (.slice al e.list.length cl) := by rw [cell_of_row _ _ _ _ _ _ e7.out]; rfl
      have c5 : w7.cell? ⟨w1.heap.size, 5, none⟩ = some (.slice as_ e.scores.length cs) := by rw [cell_of_row _ _ _ _ _ _ e7.out]; rfl
      have c6 : w7.cell? ⟨w1.heap.size, 6, none⟩ = some (.slice af e.fields.length cf) := by rw [cell_of_row _ _ _ _ _ _ e7.out]; rfl
      go_wp2_with fail
      go_ret
      exact ⟨rfl, hB7⟩
    ·
      have HX : Hid (enOkB { e with kind := 4 } = false) := no_14 hh hk
      have HK : Hid (e.kind = 1) := hk
      rw [hk] at e4
      clear hh hk
      have c0 : w4.cell? ⟨w1.heap.size, 0, none⟩ = some (.string e.key) := by rw [cell_of_row _ _ _ _ _ _ e4.out]; rfl
      have c1 : w4.cell? ⟨w1.heap.size, 1, none⟩ = some (.int .i64 e.til) := by rw [cell_of_row _ _ _ _ _ _ e4.out]; rfl
      have c2 : w4.cell? ⟨w1.heap.size, 2, none⟩ = some (.int .i64 1) := by rw [cell_of_row _ _ _ _ _ _ e4.out]; rfl
      have c3 : w4.cell? ⟨w1.heap.size, 3, none⟩ = some (.string e.text) := by rw [cell_of_row _ _ _ _ _ _ e4.out]; rfl
      have c4 : w4.cell? ⟨w1.heap.size, 4, none⟩ = some (.slice al e.list.length cl) := by rw [cell_of_row _ _ _ _ _ _ e4.out]; rfl
      have c5 : w4.cell? ⟨w1.heap.size, 5, none⟩ = some (.slice as_ e.scores.length cs) := by rw [cell_of_row _ _ _ _ _ _ e4.out]; rfl
      have c6 : w4.cell? ⟨w1.heap.size, 6, none⟩ = some (.slice af e.fields.length cf) := by rw [cell_of_row _ _ _ _ _ _ e4.out]; rfl
      go_wp2_with fail
      clear c0 c1 c2 c3 c4 c5 c6
      obtain ⟨w5, hW⟩ : ∃ W, (w4.alloc (.cells #[.string e.key, .int .i64 e.til, .int .i64 4, .string e.text, .slice al e.list.length cl, .slice as_ e.scores.length cs, .slice af e.fields.length cf] 27)).alloc (.cells #[.string e.key, .int .i64 e.til, .int .i64 0, .string e.text, .slice al e.list.length cl, .slice as_ e.scores.length cs, .slice af e.fields.length cf] 27) = W := ⟨_, rfl⟩
      have hb : Below w4.heap.size w4 w5 := by rw [← hW]; exact ((Below.refl _ _).alloc (Nat.le_refl _) _).alloc (by simp) _
      have y5 : Hid (w5.heap[w4.heap.size + 1]? = some (.cells #[.string e.key, .int .i64 e.til, .int .i64 0, .string e.text, .slice al e.list.length cl, .slice as_ e.scores.length cs, .slice af e.fields.length cf] 27 (0, 0))) := by show _ = _; rw [← hW]; exact heap_alloc2_new _ _ _
      have hzy : w4.heap.size + 1 < w5.heap.size := by rw [← hW]; simp
      have e5 : Hid _ := row_below e4.out hb hz4
      have hB5 := hB4.trans (hb.mono hB4.size)
      have hr5 := enReads_kept hr4 hb
      have hz5 := Nat.lt_of_lt_of_le hz4 hb.size
      rw [hW]
      clear hW hb hr4 hB4 e4
      refine (implEntryOk_any { e with kind := 4 } _ _ _ _ (reads_kind 4 hr5) (small_kind 4 hs) hs.key hs.text).mono ?_
      rintro x w6 ⟨he, hb⟩
      rw [HX.out] at he
      subst he
      have y6 : Hid _ := row_below y5.out hb hzy
      have e6 : Hid _ := row_below e5.out hb hz5
      have hB6 := hB5.trans (hb.mono hB5.size)
      have hr6 := enReads_kept hr5 hb
      have hz6 := Nat.lt_of_lt_of_le hz5 hb.size
      clear hb hr5 hB5 e5 y5
      have d0 : w6.cell? ⟨w4.heap.size + 1, 0, none⟩ = some (.string e.key) := by rw [cell_of_row _ _ _ _ _ _ y6.out]; rfl
      have d1 : w6.cell? ⟨w4.heap.size + 1, 1, none⟩ = some (.int .i64 e.til) := by rw [cell_of_row _ _ _ _ _ _ y6.out]; rfl
      have d2 : w6.cell? ⟨w4.heap.size + 1, 2, none⟩ = some (.int .i64 0) := by rw [cell_of_row _ _ _ _ _ _ y6.out]; rfl
      have d3 : w6.cell? ⟨w4.heap.size + 1, 3, none⟩ = some (.string e.text) := by rw [cell_of_row _ _ _ _ _ _ y6.out]; rfl
      have d4 : w6.cell? ⟨w4.heap.size + 1, 4, none⟩ = some (.slice al e.list.length cl) := by rw [cell_of_row _ _ _ _ _ _ y6.out]; rfl
      have d5 : w6.cell? ⟨w4.heap.size + 1, 5, none⟩ = some (.slice as_ e.scores.length cs) := by rw [cell_of_row _ _ _ _ _ _ y6.out]; rfl
      have d6 : w6.cell? ⟨w4.heap.size + 1, 6, none⟩ = some (.slice af e.fields.length cf) := by rw [cell_of_row _ _ _ _ _ _ y6.out]; rfl
      go_wp2_with fail
      clear d0 d1 d2 d3 d4 d5 d6
      refine (implEntryOk_any { e with kind := 0 } _ _ _ _ (reads_kind 0 hr6) (small_kind 0 hs) hs.key hs.text).mono ?_
      rintro x w7 ⟨he, hb⟩
      rw [no_0 e] at he
      subst he
      have e7 : Hid _ := row_below e6.out hb hz6
      have hB7 := hB6.trans (hb.mono hB6.size)
      clear hb hr6 hB6 e6 y6
      have n1 := hs.list
      have n2 := hs.scores
      have n3 := hs.fields
      have c0 : w7.cell? ⟨w1.heap.size, 0, none⟩ = some (.string e.key) := by rw [cell_of_row _ _ _ _ _ _ e7.out]; rfl
      have c1 : w7.cell? ⟨w1.heap.size, 1, none⟩ = some (.int .i64 e.til) := by rw [cell_of_row _ _ _ _ _ _ e7.out]; rfl
      have c2 : w7.cell? ⟨w1.heap.size, 2, none⟩ = some (.int .i64 1) := by rw [cell_of_row _ _ _ _ _ _ e7.out]; rfl
      have c3 : w7.cell? ⟨w1.heap.size, 3, none⟩ = some (.string e.text) := by rw [cell_of_row _ _ _ _ _ _ e7.out]; rfl
      have c4 : w7.cell? ⟨w1.heap.size, 4, none⟩ = some (.slice al e.list.length cl) := by rw [cell_of_row _ _ _ _ _ _ e7.out]; rfl
      have c5 : w7.cell? ⟨w1.heap.size, 5, none⟩ = some (.slice as_ e.scores.length cs) := by rw [cell_of_row _ _ _ _ _ _ e7.out]; rfl
      have c6 : w7.cell? ⟨w1.heap.size, 6, none⟩ = some (.slice af e.fields.length cf) := by rw [cell_of_row _ _ _ _ _ _ e7.out]; rfl
      go_wp2_with fail
      go_ret
      exact ⟨rfl, hB7⟩
    ·
      have HX : Hid (enOkB { e with kind := 4 } = false) := no_24 hh hk
      have hp := has_2 hh hk
      have HK : Hid (e.kind = 2) := hk
      rw [hk] at e4
      clear hh hk
      have c0 : w4.cell? ⟨w1.heap.size, 0, none⟩ = some (.string e.key) := by rw [cell_of_row _ _ _ _ _ _ e4.out]; rfl
      have c1 : w4.cell? ⟨w1.heap.size, 1, none⟩ = some (.int .i64 e.til) := by rw [cell_of_row _ _ _ _ _ _ e4.out]; rfl
      have c2 : w4.cell? ⟨w1.heap.size, 2, none⟩ = some (.int .i64 2) := by rw [cell_of_row _ _ _ _ _ _ e4.out]; rfl
      have c3 : w4.cell? ⟨w1.heap.size, 3, none⟩ = some (.string e.text) := by rw [cell_of_row _ _ _ _ _ _ e4.out]; rfl
      have c4 : w4.cell? ⟨w1.heap.size, 4, none⟩ = some (.slice al e.list.length cl) := by rw [cell_of_row _ _ _ _ _ _ e4.out]; rfl
      have c5 : w4.cell? ⟨w1.heap.size, 5, none⟩ = some (.slice as_ e.scores.length cs) := by rw [cell_of_row _ _ _ _ _ _ e4.out]; rfl
      have c6 : w4.cell? ⟨w1.heap.size, 6, none⟩ = some (.slice af e.fields.length cf) := by rw [cell_of_row _ _ _ _ _ _ e4.out]; rfl
      go_wp2_with fail
      clear c0 c1 c2 c3 c4 c5 c6
      obtain ⟨w5, hW⟩ : ∃ W, (w4.alloc (.cells #[.string e.key, .int .i64 e.til, .int .i64 4, .string e.text, .slice al e.list.length cl, .slice as_ e.scores.length cs, .slice af e.fields.length cf] 27)).alloc (.cells #[.string e.key, .int .i64 e.til, .int .i64 0, .string e.text, .slice al e.list.length cl, .slice as_ e.scores.length cs, .slice af e.fields.length cf] 27) = W := ⟨_, rfl⟩
      have hb : Below w4.heap.size w4 w5 := by rw [← hW]; exact ((Below.refl _ _).alloc (Nat.le_refl _) _).alloc (by simp) _
      have y5 : Hid (w5.heap[w4.heap.size + 1]? = some (.cells #[.string e.key, .int .i64 e.til, .int .i64 0, .string e.text, .slice al e.list.length cl, .slice as_ e.scores.length cs, .slice af e.fields.length cf] 27 (0, 0))) := by show _ = _; rw [← hW]; exact heap_alloc2_new _ _ _
      have hzy : w4.heap.size + 1 < w5.heap.size := by rw [← hW]; simp
      have e5 : Hid _ := row_below e4.out hb hz4
      have hB5 := hB4.trans (hb.mono hB4.size)
      have hr5 := enReads_kept hr4 hb
      have hz5 := Nat.lt_of_lt_of_le hz4 hb.size
      rw [hW]
      clear hW hb hr4 hB4 e4
      refine (implEntryOk_any { e with kind := 4 } _ _ _ _ (reads_kind 4 hr5) (small_kind 4 hs) hs.key hs.text).mono ?_
      rintro x w6 ⟨he, hb⟩
      rw [HX.out] at he
      subst he
      have y6 : Hid _ := row_below y5.out hb hzy
      have e6 : Hid _ := row_below e5.out hb hz5
      have hB6 := hB5.trans (hb.mono hB5.size)
      have hr6 := enReads_kept hr5 hb
      have hz6 := Nat.lt_of_lt_of_le hz5 hb.size
      clear hb hr5 hB5 e5 y5
      have d0 : w6.cell? ⟨w4.heap.size + 1, 0, none⟩ = some (.string e.key) := by rw [cell_of_row _ _ _ _ _ _ y6.out]; rfl
      have d1 : w6.cell? ⟨w4.heap.size + 1, 1, none⟩ = some (.int .i64 e.til) := by rw [cell_of_row _ _ _ _ _ _ y6.out]; rfl
      have d2 : w6.cell? ⟨w4.heap.size + 1, 2, none⟩ = some (.int .i64 0) := by rw [cell_of_row _ _ _ _ _ _ y6.out]; rfl
      have d3 : w6.cell? ⟨w4.heap.size + 1, 3, none⟩ = some (.string e.text) := by rw [cell_of_row _ _ _ _ _ _ y6.out]; rfl
      have d4 : w6.cell? ⟨w4.heap.size + 1, 4, none⟩ = some (.slice al e.list.length cl) := by rw [cell_of_row _ _ _ _ _ _ y6.out]; rfl
      have d5 : w6.cell? ⟨w4.heap.size + 1, 5, none⟩ = some (.slice as_ e.scores.length cs) := by rw [cell_of_row _ _ _ _ _ _ y6.out]; rfl
      have d6 : w6.cell? ⟨w4.heap.size + 1, 6, none⟩ = some (.slice af e.fields.length cf) := by rw [cell_of_row _ _ _ _ _ _ y6.out]; rfl
      go_wp2_with fail
      clear d0 d1 d2 d3 d4 d5 d6
      refine (implEntryOk_any { e with kind := 0 } _ _ _ _ (reads_kind 0 hr6) (small_kind 0 hs) hs.key hs.text).mono ?_
      rintro x w7 ⟨he, hb⟩
      rw [no_0 e] at he
      subst he
      have e7 : Hid _ := row_below e6.out hb hz6
      have hB7 := hB6.trans (hb.mono hB6.size)
      clear hb hr6 hB6 e6 y6
      have n1 := hs.list
      have n2 := hs.scores
      have n3 := hs.fields
      have hps : (0 : Int) < (e.list.length : Int) + (e.scores.length : Int) + (e.fields.length : Int) := by omega
      have c0 : w7.cell? ⟨w1.heap.size, 0, none⟩ = some (.string e.key) := by rw [cell_of_row _ _ _ _ _ _ e7.out]; rfl
      have c1 : w7.cell? ⟨w1.heap.size, 1, none⟩ = some (.int .i64 e.til) := by rw [cell_of_row _ _ _ _ _ _ e7.out]; rfl
      have c2 : w7.cell? ⟨w1.heap.size, 2, none⟩ = some (.int .i64 2) := by rw [cell_of_row _ _ _ _ _ _ e7.out]; rfl
      have c3 : w7.cell? ⟨w1.heap.size, 3, none⟩ = some (.string e.text) := by rw [cell_of_row _ _ _ _ _ _ e7.out]; rfl
      have c4 : w7.cell? ⟨w1.heap.size, 4, none⟩ = some (.slice al e.list.length cl) := by rw [cell_of_row _ _ _ _ _ _ e7.out]; rfl
      have c5 : w7.cell? ⟨w1.heap.size, 5, none⟩ = some (.slice as_ e.scores.length cs) := by rw [cell_of_row _ _ _ _ _ _ e7.out]; rfl
      have c6 : w7.cell? ⟨w1.heap.size, 6, none⟩ = some (.slice af e.fields.length cf) := by rw [cell_of_row _ _ _ _ _ _ e7.out]; rfl
      go_wp2_with fail
      go_ret
      exact ⟨rfl, hB7⟩
    ·
      have HX : Hid (enOkB { e with kind := 4 } = false) := no_34 hh hk
      have hp := has_3 hh hk
      have HK : Hid (e.kind = 3) := hk
      rw [hk] at e4
      clear hh hk
      have c0 : w4.cell? ⟨w1.heap.size, 0, none⟩ = some (.string e.key) := by rw [cell_of_row _ _ _ _ _ _ e4.out]; rfl
      have c1 : w4.cell? ⟨w1.heap.size, 1, none⟩ = some (.int .i64 e.til) := by rw [cell_of_row _ _ _ _ _ _ e4.out]; rfl
      have c2 : w4.cell? ⟨w1.heap.size, 2, none⟩ = some (.int .i64 3) := by rw [cell_of_row _ _ _ _ _ _ e4.out]; rfl
      have c3 : w4.cell? ⟨w1.heap.size, 3, none⟩ = some (.string e.text) := by rw [cell_of_row _ _ _ _ _ _ e4.out]; rfl
      have c4 : w4.cell? ⟨w1.heap.size, 4, none⟩ = some (.slice al e.list.length cl) := by rw [cell_of_row _ _ _ _ _ _ e4.out]; rfl
      have c5 : w4.cell? ⟨w1.heap.size, 5, none⟩ = some (.slice as_ e.scores.length cs) := by rw [cell_of_row _ _ _ _ _ _ e4.out]; rfl
      have c6 : w4.cell? ⟨w1.heap.size, 6, none⟩ = some (.slice af e.fields.length cf) := by rw [cell_of_row _ _ _ _ _ _ e4.out]; rfl
      go_wp2_with fail
      clear c0 c1 c2 c3 c4 c5 c6
      obtain ⟨w5, hW⟩ : ∃ W, (w4.alloc (.cells #[.string e.key, .int .i64 e.til, .int .i64 4, .string e.text, .slice al e.list.length cl, .slice as_ e.scores.length cs, .slice af e.fields.length cf] 27)).alloc (.cells #[.string e.key, .int .i64 e.til, .int .i64 0, .string e.text, .slice al e.list.length cl, .slice as_ e.scores.length cs, .slice af e.fields.length cf] 27) = W := ⟨_, rfl⟩
      have hb : Below w4.heap.size w4 w5 := by rw [← hW]; exact ((Below.refl _ _).alloc (Nat.le_refl _) _).alloc (by simp) _
      have y5 : Hid (w5.heap[w4.heap.size + 1]? = some (.cells #[.string e.key, .int .i64 e.til, .int .i64 0, .string e.text, .slice al e.list.length cl, .slice as_ e.scores.length cs, .slice af e.fields.length cf] 27 (0, 0))) := by show _ = _; rw [← hW]; exact heap_alloc2_new _ _ _
      have hzy : w4.heap.size + 1 < w5.heap.size := by rw [← hW]; simp
      have e5 : Hid _ := row_below e4.out hb hz4
      have hB5 := hB4.trans (hb.mono hB4.size)
      have hr5 := enReads_kept hr4 hb
      have hz5 := Nat.lt_of_lt_of_le hz4 hb.size
      rw [hW]
      clear hW hb hr4 hB4 e4
      refine (implEntryOk_any { e with kind := 4 } _ _ _ _ (reads_kind 4 hr5) (small_kind 4 hs) hs.key hs.text).mono ?_
      rintro x w6 ⟨he, hb⟩
      rw [HX.out] at he
      subst he
      have y6 : Hid _ := row_below y5.out hb hzy
      have e6 : Hid _ := row_below e5.out hb hz5
      have hB6 := hB5.trans (hb.mono hB5.size)
      have hr6 := enReads_kept hr5 hb
      have hz6 := Nat.lt_of_lt_of_le hz5 hb.size
      clear hb hr5 hB5 e5 y5
      have d0 : w6.cell? ⟨w4.heap.size + 1, 0, none⟩ = some (.string e.key) := by rw [cell_of_row _ _ _ _ _ _ y6.out]; rfl
      have d1 : w6.cell? ⟨w4.heap.size + 1, 1, none⟩ = some (.int .i64 e.til) := by rw [cell_of_row _ _ _ _ _ _ y6.out]; rfl
      have d2 : w6.cell? ⟨w4.heap.size + 1, 2, none⟩ = some (.int .i64 0) := by rw [cell_of_row _ _ _ _ _ _ y6.out]; rfl
      have d3 : w6.cell? ⟨w4.heap.size + 1, 3, none⟩ = some (.string e.text) := by rw [cell_of_row _ _ _ _ _ _ y6.out]; rfl
      have d4 : w6.cell? ⟨w4.heap.size + 1, 4, none⟩ = some (.slice al e.list.length cl) := by rw [cell_of_row _ _ _ _ _ _ y6.out]; rfl
      have d5 : w6.cell? ⟨w4.heap.size + 1, 5, none⟩ = some (.slice as_ e.scores.length cs) := by rw [cell_of_row _ _ _ _ _ _ y6.out]; rfl
      have d6 : w6.cell? ⟨w4.heap.size + 1, 6, none⟩ = some (.slice af e.fields.length cf) := by rw [cell_of_row _ _ _ _ _ _ y6.out]; rfl
      go_wp2_with fail
      clear d0 d1 d2 d3 d4 d5 d6
      refine (implEntryOk_any { e with kind := 0 } _ _ _ _ (reads_kind 0 hr6) (small_kind 0 hs) hs.key hs.text).mono ?_
      rintro x w7 ⟨he, hb⟩
      rw [no_0 e] at he
      subst he
      have e7 : Hid _ := row_below e6.out hb hz6
      have hB7 := hB6.trans (hb.mono hB6.size)
      clear hb hr6 hB6 e6 y6
      have n1 := hs.list
      have n2 := hs.scores
      have n3 := hs.fields
      have hps : (0 : Int) < (e.list.length : Int) + (e.scores.length : Int) + (e.fields.length : Int) := by omega
      have c0 : w7.cell? ⟨w1.heap.size, 0, none⟩ = some (.string e.key) := by rw [cell_of_row _ _ _ _ _ _ e7.out]; rfl
      have c1 : w7.cell? ⟨w1.heap.size, 1, none⟩ = some (.int .i64 e.til) := by rw [cell_of_row _ _ _ _ _ _ e7.out]; rfl
      have c2 : w7.cell? ⟨w1.heap.size, 2, none⟩ = some (.int .i64 3) := by rw [cell_of_row _ _ _ _ _ _ e7.out]; rfl
      have c3 : w7.cell? ⟨w1.heap.size, 3, none⟩ = some (.string e.text) := by rw [cell_of_row _ _ _ _ _ _ e7.out]; rfl
      have c4 : w7.cell? ⟨w1.heap.size, 4, none⟩ = some (.slice al e.list.length cl) := by rw [cell_of_row _ _ _ _ _ _ e7.out]; rfl
      have c5 : w7.cell? ⟨w1.heap.size, 5, none⟩ = some (.slice as_ e.scores.length cs) := by rw [cell_of_row _ _ _ _ _ _ e7.out]; rfl
      have c6 : w7.cell? ⟨w1.heap.size, 6, none⟩ = some (.slice af e.fields.length cf) := by rw [cell_of_row _ _ _ _ _ _ e7.out]; rfl
      go_wp2_with fail
      go_ret
      exact ⟨rfl, hB7⟩
    ·
      have HX : Hid (enOkB { e with kind := 5 } = false) := no_45 hh hk
      have hp := has_4 hh hk
      have HK : Hid (e.kind = 4) := hk
      rw [hk] at e4
      clear hh hk
      have c0 : w4.cell? ⟨w1.heap.size, 0, none⟩ = some (.string e.key) := by rw [cell_of_row _ _ _ _ _ _ e4.out]; rfl
      have c1 : w4.cell? ⟨w1.heap.size, 1, none⟩ = some (.int .i64 e.til) := by rw [cell_of_row _ _ _ _ _ _ e4.out]; rfl
      have c2 : w4.cell? ⟨w1.heap.size, 2, none⟩ = some (.int .i64 4) := by rw [cell_of_row _ _ _ _ _ _ e4.out]; rfl
      have c3 : w4.cell? ⟨w1.heap.size, 3, none⟩ = some (.string e.text) := by rw [cell_of_row _ _ _ _ _ _ e4.out]; rfl
      have c4 : w4.cell? ⟨w1.heap.size, 4, none⟩ = some (.slice al e.list.length cl) := by rw [cell_of_row _ _ _ _ _ _ e4.out]; rfl
      have c5 : w4.cell? ⟨w1.heap.size, 5, none⟩ = some (.slice as_ e.scores.length cs) := by rw [cell_of_row _ _ _ _ _ _ e4.out]; rfl
      have c6 : w4.cell? ⟨w1.heap.size, 6, none⟩ = some (.slice af e.fields.length cf) := by rw [cell_of_row _ _ _ _ _ _ e4.out]; rfl
      go_wp2_with fail
      clear c0 c1 c2 c3 c4 c5 c6
      obtain ⟨w5, hW⟩ : ∃ W, (w4.alloc (.cells #[.string e.key, .int .i64 e.til, .int .i64 5, .string e.text, .slice al e.list.length cl, .slice as_ e.scores.length cs, .slice af e.fields.length cf] 27)).alloc (.cells #[.string e.key, .int .i64 e.til, .int .i64 0, .string e.text, .slice al e.list.length cl, .slice as_ e.scores.length cs, .slice af e.fields.length cf] 27) = W := ⟨_, rfl⟩
      have hb : Below w4.heap.size w4 w5 := by rw [← hW]; exact ((Below.refl _ _).alloc (Nat.le_refl _) _).alloc (by simp) _
      have y5 : Hid (w5.heap[w4.heap.size + 1]? = some (.cells #[.string e.key, .int .i64 e.til, .int .i64 0, .string e.text, .slice al e.list.length cl, .slice as_ e.scores.length cs, .slice af e.fields.length cf] 27 (0, 0))) := by show _ = _; rw [← hW]; exact heap_alloc2_new _ _ _
      have hzy : w4.heap.size + 1 < w5.heap.size := by rw [← hW]; simp
      have e5 : Hid _ := row_below e4.out hb hz4
      have hB5 := hB4.trans (hb.mono hB4.size)
      have hr5 := enReads_kept hr4 hb
      have hz5 := Nat.lt_of_lt_of_le hz4 hb.size
      rw [hW]
      clear hW hb hr4 hB4 e4
      refine (implEntryOk_any { e with kind := 5 } _ _ _ _ (reads_kind 5 hr5) (small_kind 5 hs) hs.key hs.text).mono ?_
      rintro x w6 ⟨he, hb⟩
      rw [HX.out] at he
      subst he
      have y6 : Hid _ := row_below y5.out hb hzy
      have e6 : Hid _ := row_below e5.out hb hz5
      have hB6 := hB5.trans (hb.mono hB5.size)
      have hr6 := enReads_kept hr5 hb
      have hz6 := Nat.lt_of_lt_of_le hz5 hb.size
      clear hb hr5 hB5 e5 y5
      have d0 : w6.cell? ⟨w4.heap.size + 1, 0, none⟩ = some (.string e.key) := by rw [cell_of_row _ _ _ _ _ _ y6.out]; rfl
      have d1 : w6.cell? ⟨w4.heap.size + 1, 1, none⟩ = some (.int .i64 e.til) := by rw [cell_of_row _ _ _ _ _ _ y6.out]; rfl
      have d2 : w6.cell? ⟨w4.heap.size + 1, 2, none⟩ = some (.int .i64 0) := by rw [cell_of_row _ _ _ _ _ _ y6.out]; rfl
      have d3 : w6.cell? ⟨w4.heap.size + 1, 3, none⟩ = some (.string e.text) := by rw [cell_of_row _ _ _ _ _ _ y6.out]; rfl
      have d4 : w6.cell? ⟨w4.heap.size + 1, 4, none⟩ = some (.slice al e.list.length cl) := by rw [cell_of_row _ _ _ _ _ _ y6.out]; rfl
      have d5 : w6.cell? ⟨w4.heap.size + 1, 5, none⟩ = some (.slice as_ e.scores.length cs) := by rw [cell_of_row _ _ _ _ _ _ y6.out]; rfl
      have d6 : w6.cell? ⟨w4.heap.size + 1, 6, none⟩ = some (.slice af e.fields.length cf) := by rw [cell_of_row _ _ _ _ _ _ y6.out]; rfl
      go_wp2_with fail
      clear d0 d1 d2 d3 d4 d5 d6
      refine (implEntryOk_any { e with kind := 0 } _ _ _ _ (reads_kind 0 hr6) (small_kind 0 hs) hs.key hs.text).mono ?_
      rintro x w7 ⟨he, hb⟩
      rw [no_0 e] at he
      subst he
      have e7 : Hid _ := row_below e6.out hb hz6
      have hB7 := hB6.trans (hb.mono hB6.size)
      clear hb hr6 hB6 e6 y6
      have n1 := hs.list
      have n2 := hs.scores
      have n3 := hs.fields
      have hps : (0 : Int) < (e.list.length : Int) + (e.scores.length : Int) + (e.fields.length : Int) := by omega
      have c0 : w7.cell? ⟨w1.heap.size, 0, none⟩ = some (.string e.key) := by rw [cell_of_row _ _ _ _ _ _ e7.out]; rfl
      have c1 : w7.cell? ⟨w1.heap.size, 1, none⟩ = some (.int .i64 e.til) := by rw [cell_of_row _ _ _ _ _ _ e7.out]; rfl
      have c2 : w7.cell? ⟨w1.heap.size, 2, none⟩ = some (.int .i64 4) := by rw [cell_of_row _ _ _ _ _ _ e7.out]; rfl
      have c3 : w7.cell? ⟨w1.heap.size, 3, none⟩ = some (.string e.text) := by rw [cell_of_row _ _ _ _ _ _ e7.out]; rfl
      have c4 : w7.cell? ⟨w1.heap.size, 4, none⟩ = some (.slice al e.list.length cl) := by rw [cell_of_row _ _ _ _ _ _ e7.out]; rfl
      have c5 : w7.cell? ⟨w1.heap.size, 5, none⟩ = some (.slice as_ e.scores.length cs) := by rw [cell_of_row _ _ _ _ _ _ e7.out]; rfl
      have c6 : w7.cell? ⟨w1.heap.size, 6, none⟩ = some (.slice af e.fields.length cf) := by rw [cell_of_row _ _ _ _ _ _ e7.out]; rfl
      go_wp2_with fail
      go_ret
      exact ⟨rfl, hB7⟩
    ·
      have HX : Hid (enOkB { e with kind := 1 } = false) := no_51 hh hk
      have hp := has_5 hh hk
      have HK : Hid (e.kind = 5) := hk
      rw [hk] at e4
      clear hh hk
      have c0 : w4.cell? ⟨w1.heap.size, 0, none⟩ = some (.string e.key) := by rw [cell_of_row _ _ _ _ _ _ e4.out]; rfl
      have c1 : w4.cell? ⟨w1.heap.size, 1, none⟩ = some (.int .i64 e.til) := by rw [cell_of_row _ _ _ _ _ _ e4.out]; rfl
      have c2 : w4.cell? ⟨w1.heap.size, 2, none⟩ = some (.int .i64 5) := by rw [cell_of_row _ _ _ _ _ _ e4.out]; rfl
      have c3 : w4.cell? ⟨w1.heap.size, 3, none⟩ = some (.string e.text) := by rw [cell_of_row _ _ _ _ _ _ e4.out]; rfl
      have c4 : w4.cell? ⟨w1.heap.size, 4, none⟩ = some (.slice al e.list.length cl) := by rw [cell_of_row _ _ _ _ _ _ e4.out]; rfl
      have c5 : w4.cell? ⟨w1.heap.size, 5, none⟩ = some (.slice as_ e.scores.length cs) := by rw [cell_of_row _ _ _ _ _ _ e4.out]; rfl
      have c6 : w4.cell? ⟨w1.heap.size, 6, none⟩ = some (.slice af e.fields.length cf) := by rw [cell_of_row _ _ _ _ _ _ e4.out]; rfl
      go_wp2_with fail
      clear c0 c1 c2 c3 c4 c5 c6
      obtain ⟨w5, hW⟩ : ∃ W, (w4.alloc (.cells #[.string e.key, .int .i64 e.til, .int .i64 1, .string e.text, .slice al e.list.length cl, .slice as_ e.scores.length cs, .slice af e.fields.length cf] 27)).alloc (.cells #[.string e.key, .int .i64 e.til, .int .i64 0, .string e.text, .slice al e.list.length cl, .slice as_ e.scores.length cs, .slice af e.fields.length cf] 27) = W := ⟨_, rfl⟩
      have hb : Below w4.heap.size w4 w5 := by rw [← hW]; exact ((Below.refl _ _).alloc (Nat.le_refl _) _).alloc (by simp) _
      have y5 : Hid (w5.heap[w4.heap.size + 1]? = some (.cells #[.string e.key, .int .i64 e.til, .int .i64 0, .string e.text, .slice al e.list.length cl, .slice as_ e.scores.length cs, .slice af e.fields.length cf] 27 (0, 0))) := by show _ = _; rw [← hW]; exact heap_alloc2_new _ _ _
      have hzy : w4.heap.size + 1 < w5.heap.size := by rw [← hW]; simp
      have e5 : Hid _ := row_below e4.out hb hz4
      have hB5 := hB4.trans (hb.mono hB4.size)
      have hr5 := enReads_kept hr4 hb
      have hz5 := Nat.lt_of_lt_of_le hz4 hb.size
      rw [hW]
      clear hW hb hr4 hB4 e4
      refine (implEntryOk_any { e with kind := 1 } _ _ _ _ (reads_kind 1 hr5) (small_kind 1 hs) hs.key hs.text).mono ?_
      rintro x w6 ⟨he, hb⟩
      rw [HX.out] at he
      subst he
      have y6 : Hid _ := row_below y5.out hb hzy
      have e6 : Hid _ := row_below e5.out hb hz5
      have hB6 := hB5.trans (hb.mono hB5.size)
      have hr6 := enReads_kept hr5 hb
      have hz6 := Nat.lt_of_lt_of_le hz5 hb.size
      clear hb hr5 hB5 e5 y5
      have d0 : w6.cell? ⟨w4.heap.size + 1, 0, none⟩ = some (.string e.key) := by rw [cell_of_row _ _ _ _ _ _ y6.out]; rfl
      have d1 : w6.cell? ⟨w4.heap.size + 1, 1, none⟩ = some (.int .i64 e.til) := by rw [cell_of_row _ _ _ _ _ _ y6.out]; rfl
      have d2 : w6.cell? ⟨w4.heap.size + 1, 2, none⟩ = some (.int .i64 0) := by rw [cell_of_row _ _ _ _ _ _ y6.out]; rfl
      have d3 : w6.cell? ⟨w4.heap.size + 1, 3, none⟩ = some (.string e.text) := by rw [cell_of_row _ _ _ _ _ _ y6.out]; rfl
      have d4 : w6.cell? ⟨w4.heap.size + 1, 4, none⟩ = some (.slice al e.list.length cl) := by rw [cell_of_row _ _ _ _ _ _ y6.out]; rfl
      have d5 : w6.cell? ⟨w4.heap.size + 1, 5, none⟩ = some (.slice as_ e.scores.length cs) := by rw [cell_of_row _ _ _ _ _ _ y6.out]; rfl
      have d6 : w6.cell? ⟨w4.heap.size + 1, 6, none⟩ = some (.slice af e.fields.length cf) := by rw [cell_of_row _ _ _ _ _ _ y6.out]; rfl
      go_wp2_with fail
      clear d0 d1 d2 d3 d4 d5 d6
      refine (implEntryOk_any { e with kind := 0 } _ _ _ _ (reads_kind 0 hr6) (small_kind 0 hs) hs.key hs.text).mono ?_
      rintro x w7 ⟨he, hb⟩
      rw [no_0 e] at he
      subst he
      have e7 : Hid _ := row_below e6.out hb hz6
      have hB7 := hB6.trans (hb.mono hB6.size)
      clear hb hr6 hB6 e6 y6
      have n1 := hs.list
      have n2 := hs.scores
      have n3 := hs.fields
      have hps : (0 : Int) < (e.list.length : Int) + (e.scores.length : Int) + (e.fields.length : Int) := by omega
      have c0 : w7.cell? ⟨w1.heap.size, 0, none⟩ = some (.string e.key) := by rw [cell_of_row _ _ _ _ _ _ e7.out]; rfl
      have c1 : w7.cell? ⟨w1.heap.size, 1, none⟩ = some (.int .i64 e.til) := by rw [cell_of_row _ _ _ _ _ _ e7.out]; rfl
      have c2 : w7.cell? ⟨w1.heap.size, 2, none⟩ = some (.int .i64 5) := by rw [cell_of_row _ _ _ _ _ _ e7.out]; rfl
      have c3 : w7.cell? ⟨w1.heap.size, 3, none⟩ = some (.string e.text) := by rw [cell_of_row _ _ _ _ _ _ e7.out]; rfl
      have c4 : w7.cell? ⟨w1.heap.size, 4, none⟩ = some (.slice al e.list.length cl) := by rw [cell_of_row _ _ _ _ _ _ e7.out]; rfl
      have c5 : w7.cell? ⟨w1.heap.size, 5, none⟩ = some (.slice as_ e.scores.length cs) := by rw [cell_of_row _ _ _ _ _ _ e7.out]; rfl
      have c6 : w7.cell? ⟨w1.heap.size, 6, none⟩ = some (.slice af e.fields.length cf) := by rw [cell_of_row _ _ _ _ _ _ e7.out]; rfl
      go_wp2_with fail
      go_ret
      exact ⟨rfl, hB7⟩

set_option maxRecDepth 100000 in
theorem lifted (os : Os) (started : os.Started) (H : Type) (enc : TypeId × Value → H) :
    ReturnsInHanded {} Try.checked os 3 .any (Rows.fnEntryOkSpec.pre6 enc Try.prog Try.f3 Rows.fnEntryOkRow.domain false) (Rows.fnEntryOkSpec.post enc Try.prog Try.f3 false true false false) := by
  refine returnsInHanded_of_change (C := Try.checked) own started (by kernel_rfl) Try.func3
    (ChangeSpec.witness6 (enc := enc) (C := Try.checked) false ⟨#[], #[.slice none 0 0], []⟩ 8 (by kernel_rfl) (by kernel_rfl) (by kernel_rfl) (by kernel_rfl)) ?_
  intro W base args ds gs before hval0 hW hcnd _
  have hval : ∀ (j : Nat) t v, Try.f3.params[j]? = some t → args[j]? = some v → Value.okWide Try.prog W .any base t v := hval0
  have hW' := hW
  obtain ⟨p, q, hA0, hV, rfl, hfz, hnd⟩ := hW
  have hA : DataW.TrodAll enc Try.prog W 0 (fun _ => true) true Try.f3.params.toList args.toList ds p := hA0
  rw [Try.params3] at hA hval
  obtain ⟨v0, vs0, d0, ds0, p0, q0, hargs, rfl, rfl, h0, r0⟩ := trodAll_cons hA
  obtain ⟨rfl, rfl, rfl⟩ := trodAll_nil r0
  obtain rfl : args = #[v0] := by cases args; simp_all
  obtain ⟨rfl, rfl⟩ := trodVars_none hV
  obtain ⟨a0, len0, cap0, rfl⟩ := okWide_slice Try.underlying22 (hval 0 22 v0 rfl rfl)
  have k0 := h0
  have lt0 : ∀ x ∈ p0, x.block < W.heap.size := by obtain ⟨m, hm⟩ := k0; exact DataW.trod_lt m _ _ _ hm
  obtain ⟨z0, w0⟩ : ∃ zs, IsBytes W (.slice a0 len0 cap0) zs := by
    obtain ⟨fuel, hf⟩ := h0
    rcases open_ints Try.underlying22 Try.underlying5 (by kernel_rfl) hf with ⟨hcs, _⟩ | ⟨x, ln, cp, zs, hcs, _, hl, hm, hz, _, hcell, hwz⟩
    · exact bytes_of_none (by simpa [Value.cells] using hcs)
    · exact bytes_of_some (by simpa [Value.cells] using hcs) hl hm (by simpa using hz) hcell hwz
  clear hA0 hval0
  refine (walk (.slice a0 len0 cap0) z0 W w0).mono fun e W' ⟨he, bel⟩ => ?_
  subst he
  exact ⟨_, rfl, _, _, _, [], _, [], hW', trodAll_mk1 (shut_bool Try.underlying4 _), (trodAll_cons_mk (Below.trod laidOut (by kernel_rfl) (of_decide_eq_true (by kernel_rfl)) k0 bel lt0) trodAll_mk0), rfl, bel.frame _, fun h => by cases h⟩

theorem over : Rows.fnEntryOkRow.holds Try.pinned (OpenSpec.ofChange Rows.fnEntryOkSpec) :=
  OpenClaim.holds_of_wide 3 Try.f3 rfl rfl rfl rfl rfl rfl rfl ⟨rfl, rfl, rfl, rfl, rfl⟩ rfl rfl rfl rfl rfl (by kernel_rfl) Try.func3 (by kernel_rfl)
    (of_decide_eq_true (by kernel_rfl)) (by unfold Func.isWrapper; first | (rw [if_pos (by decide +kernel)]; kernel_rfl) | (rw [if_neg (by decide +kernel)]; exact ⟨rfl, rfl⟩))
    (fun os started H enc _ => lifted os started H enc)

theorem proved : Rows.FnEntryOkSaid := over
end Go.Proofs.Ytdaahcenplepjaa.fnEntryOk
