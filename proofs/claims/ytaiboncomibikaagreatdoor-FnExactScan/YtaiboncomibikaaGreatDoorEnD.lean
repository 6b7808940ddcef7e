/- Whether an entry is ok, the program's, whatever its kind; an entry among the arguments, opened. -/
import Derived.Test.YtaiboncomibikaaGreatDoorEnC
import Derived.SliceStrings
namespace Go.Proofs.YtaiboncomibikaaGreatDoor
open Go.RowKit
set_option linter.unusedVariables false

set_option maxHeartbeats 1000000 in
theorem heldIn_0 (e : Ent) (al as_ af : Option Addr) (cl cs cf : Nat) (w : World) (z1 : (e.kind == 1) = false) (z2 : (e.kind == 2) = false) (z3 : (e.kind == 3) = false) (z4 : (e.kind == 4) = false) (z5 : (e.kind == 5) = false) :
    Calls Tryz.prog 65 #[enV e (.slice al e.list.length cl) (.slice as_ e.scores.length cs) (.slice af e.fields.length cf)] w fun x w' => x = .returned (.tuple #[.nilIface, .bool false]) ∧ Below w.heap.size w w' := by
  go_enter Tryz.func65, Tryz.ntmps65
  go_wp2_with fail
  go_ret2
  exact ⟨rfl, (Below.refl _ w).alloc (Nat.le_refl _) _⟩
set_option maxHeartbeats 8000000 in
set_option maxRecDepth 100000 in
theorem implEntryOk_0 (e : Ent) (vl vs vf : Value) (w : World) (hr : EnReads w vl vs vf e) (hy : e.key.size ≤ 1048576) (hK : keyOkB e.key = true) (hT : tilOkB e.til = true) (z1 : (e.kind == 1) = false) (z2 : (e.kind == 2) = false) (z3 : (e.kind == 3) = false) (z4 : (e.kind == 4) = false) (z5 : (e.kind == 5) = false) :
    Calls Tryz.prog 45 #[enV e vl vs vf] w fun x w' => x = .returned (.bool false) ∧ Below w.heap.size w w' := by
  obtain ⟨al, cl, as_, cs, af, cf, rfl, rfl, rfl⟩ := enReads_shape hr
  have hT1 : 0 ≤ e.til ∧ e.til ≤ 2000000 := by unfold tilOkB at hT; simpa using hT
  obtain ⟨t1, t2⟩ := hT1
  clear hT
  go_enter Tryz.func45, Tryz.ntmps45
  go_wp2_with (first | (go_at_call 64; refine (keyOk_any _ _ hy).mono ?_; rw [hK]; rintro e w' ⟨rfl, rfl⟩) | (go_at_call 65; refine (heldIn_0 e _ _ _ _ _ _ _ z1 z2 z3 z4 z5).mono ?_; rintro x w1 ⟨rfl, hb1⟩))
  have hB0 : Below w.heap.size w (w.alloc (.cells #[.string e.key, .int .i64 e.til, .int .i64 e.kind, .string e.text, .slice al e.list.length cl, .slice as_ e.scores.length cs, .slice af e.fields.length cf] 43)) := (Below.refl _ w).alloc (Nat.le_refl _) _
  have hB1 := hB0.trans (hb1.mono hB0.size)
  clear hb1 hB0 hr z1 z2 z3 z4 z5
  refine wp_region_held_drew (S := (fun w' => Below w1.heap.size w1 w')) (by kernel_rfl) (by exact (Below.refl _ _).drew) (fun hHeld => ?_)
  refine takeH (i := 0) (d := (some 24)) (v := ?_) rfl rfl (by kernel_rfl) (by kernel_rfl) (by kernel_rfl) (fun _ _ _ h => h) (by kernel_rfl) ?_ (by assumption) ?_
  rotate_left
  · (intro w hSw; (try dsimp only at hSw); go_simp; try with_reducible rfl)
  try simp only [Act.put, List.setIfInBounds_toArray, List.set_cons_succ, List.set_cons_zero]
  refine takeH (i := 1) (d := (some 25)) (v := ?_) rfl rfl (by kernel_rfl) (by kernel_rfl) (by kernel_rfl) (fun _ _ _ h => h) (by kernel_rfl) ?_ (by assumption) ?_
  rotate_left
  · (intro w hSw; (try dsimp only at hSw); go_simp; try with_reducible rfl)
  try simp only [Act.put, List.setIfInBounds_toArray, List.set_cons_succ, List.set_cons_zero]
  refine skipH (i := 2) (d := (some 26)) rfl rfl (by kernel_rfl) (by kernel_rfl) (by kernel_rfl) (fun _ _ _ h => h) (by kernel_rfl) (by assumption) ?_
  try simp only [Act.put, List.setIfInBounds_toArray, List.set_cons_succ, List.set_cons_zero]
  refine skipH (i := 3) (d := (some 27)) rfl rfl (by kernel_rfl) (by kernel_rfl) (by kernel_rfl) (fun _ _ _ h => h) (by kernel_rfl) (by assumption) ?_
  try simp only [Act.put, List.setIfInBounds_toArray, List.set_cons_succ, List.set_cons_zero]
  refine takeH (i := 4) (d := (some 28)) (v := ?_) rfl rfl (by kernel_rfl) (by kernel_rfl) (by kernel_rfl) (fun _ _ _ h => h) (by kernel_rfl) ?_ (by assumption) ?_
  rotate_left
  · (intro w hSw; (try dsimp only at hSw); go_simp; try with_reducible rfl)
  try simp only [Act.put, List.setIfInBounds_toArray, List.set_cons_succ, List.set_cons_zero]
  refine takeH (i := 5) (d := (some 29)) (v := ?_) rfl rfl (by kernel_rfl) (by kernel_rfl) (by kernel_rfl) (fun _ _ _ h => h) (by kernel_rfl) ?_ (by assumption) ?_
  rotate_left
  · (intro w hSw; (try dsimp only at hSw); go_simp; try with_reducible rfl)
  try simp only [Act.put, List.setIfInBounds_toArray, List.set_cons_succ, List.set_cons_zero]
  refine skipH (i := 6) (d := (some 30)) rfl rfl (by kernel_rfl) (by kernel_rfl) (by kernel_rfl) (fun _ _ _ h => h) (by kernel_rfl) (by assumption) ?_
  try simp only [Act.put, List.setIfInBounds_toArray, List.set_cons_succ, List.set_cons_zero]
  refine skipH (i := 7) (d := (some 31)) rfl rfl (by kernel_rfl) (by kernel_rfl) (by kernel_rfl) (fun _ _ _ h => h) (by kernel_rfl) (by assumption) ?_
  try simp only [Act.put, List.setIfInBounds_toArray, List.set_cons_succ, List.set_cons_zero]
  refine skipH (i := 8) (d := (some 32)) rfl rfl (by kernel_rfl) (by kernel_rfl) (by kernel_rfl) (fun _ _ _ h => h) (by kernel_rfl) (by assumption) ?_
  try simp only [Act.put, List.setIfInBounds_toArray, List.set_cons_succ, List.set_cons_zero]
  refine skipH (i := 9) (d := (some 33)) rfl rfl (by kernel_rfl) (by kernel_rfl) (by kernel_rfl) (fun _ _ _ h => h) (by kernel_rfl) (by assumption) ?_
  try simp only [Act.put, List.setIfInBounds_toArray, List.set_cons_succ, List.set_cons_zero]
  refine skipH (i := 10) (d := (some 34)) rfl rfl (by kernel_rfl) (by kernel_rfl) (by kernel_rfl) (fun _ _ _ h => h) (by kernel_rfl) (by assumption) ?_
  try simp only [Act.put, List.setIfInBounds_toArray, List.set_cons_succ, List.set_cons_zero]
  refine takeH (i := 11) (d := (some 35)) (v := ?_) rfl rfl (by kernel_rfl) (by kernel_rfl) (by kernel_rfl) (fun _ _ _ h => h) (by kernel_rfl) ?_ (by assumption) ?_
  rotate_left
  · (intro w hSw; (try dsimp only at hSw); go_simp; try with_reducible rfl)
  try simp only [Act.put, List.setIfInBounds_toArray, List.set_cons_succ, List.set_cons_zero]
  refine takeH (i := 12) (d := (some 2)) (v := ?_) rfl rfl (by kernel_rfl) (by kernel_rfl) (by kernel_rfl) (fun _ _ _ h => h) (by kernel_rfl) ?_ (by assumption) ?_
  rotate_left
  · (intro w hSw; (try dsimp only at hSw); go_simp; try with_reducible rfl)
  try simp only [Act.put, List.setIfInBounds_toArray, List.set_cons_succ, List.set_cons_zero]
  refine wpAnyH_done (by kernel_rfl) ?_ _
  go_wp2_with fail
  go_ret
  exact ⟨rfl, hB1.drew⟩
set_option maxHeartbeats 4000000 in
theorem implEntryOk_any (e : Ent) (vl vs vf : Value) (w : World) (hr : EnReads w vl vs vf e) (hs : EnSmall e) (hy : e.key.size ≤ 1048576) (ht : e.text.size ≤ 1048576) :
    Calls Tryz.prog 45 #[enV e vl vs vf] w fun x w' => x = .returned (.bool (enOkB e)) ∧ Below w.heap.size w w' := by
  cases hK : keyOkB e.key with
  | false =>
    obtain ⟨al, cl, as_, cs, af, cf, rfl, rfl, rfl⟩ := enReads_shape hr
    have HH : Hid (enOkB e = false) := by show _ = _; unfold enOkB; rw [hK]; rfl
    go_enter Tryz.func45, Tryz.ntmps45
    go_wp2_with (go_at_call 64; refine (keyOk_any _ _ hy).mono ?_; rw [hK]; rintro e w' ⟨rfl, rfl⟩)
    go_ret
    exact ⟨ret_bool HH.out.symm, (Below.refl _ w).alloc (Nat.le_refl _) _⟩
  | true =>
    cases hT : tilOkB e.til with
    | false =>
      obtain ⟨al, cl, as_, cs, af, cf, rfl, rfl, rfl⟩ := enReads_shape hr
      have HH : Hid (enOkB e = false) := by show _ = _; unfold enOkB; rw [hK, hT]; rfl
      have hT1 : e.til < 0 ∨ 2000000 < e.til := by unfold tilOkB at hT; simp at hT; omega
      rcases hT1 with t1 | t1
      · clear hT
        go_enter Tryz.func45, Tryz.ntmps45
        go_wp2_with (go_at_call 64; refine (keyOk_any _ _ hy).mono ?_; rw [hK]; rintro e w' ⟨rfl, rfl⟩)
        go_ret
        exact ⟨ret_bool HH.out.symm, (Below.refl _ w).alloc (Nat.le_refl _) _⟩
      · have t2 : 0 ≤ e.til := by omega
        clear hT
        go_enter Tryz.func45, Tryz.ntmps45
        go_wp2_with (go_at_call 64; refine (keyOk_any _ _ hy).mono ?_; rw [hK]; rintro e w' ⟨rfl, rfl⟩)
        go_ret
        exact ⟨ret_bool HH.out.symm, (Below.refl _ w).alloc (Nat.le_refl _) _⟩
    | true =>
      have HH : enOkB e = heldOkB e := by unfold enOkB; rw [hK, hT]; rfl
      rw [HH]
      by_cases k1 : e.kind = 1
      · exact implEntryOk_1 e vl vs vf w hr hs hy ht hK hT k1
      by_cases k2 : e.kind = 2
      · exact implEntryOk_2 e vl vs vf w hr hs hy ht hK hT k2
      by_cases k3 : e.kind = 3
      · exact implEntryOk_3 e vl vs vf w hr hs hy ht hK hT k3
      by_cases k4 : e.kind = 4
      · exact implEntryOk_4 e vl vs vf w hr hs hy ht hK hT k4
      by_cases k5 : e.kind = 5
      · exact implEntryOk_5 e vl vs vf w hr hs hy ht hK hT k5
      rw [held0 ⟨k1, k2, k3, k4, k5⟩]
      exact implEntryOk_0 e vl vs vf w hr hy hK hT (by simpa using k1) (by simpa using k2) (by simpa using k3) (by simpa using k4) (by simpa using k5)
end Go.Proofs.YtaiboncomibikaaGreatDoor
