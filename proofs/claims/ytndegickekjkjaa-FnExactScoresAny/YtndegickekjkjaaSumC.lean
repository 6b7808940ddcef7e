/- The model's parts of ScoresAny and ScoresBoth: the number of a text, a number within limits, a score put in order. -/
import Derived.Test.YtndegickekjkjaaSumA
namespace Go.Proofs.Ytndegickekjkjaa
open Go.RowKit
set_option linter.unusedVariables false

set_option maxHeartbeats 4000000 in
theorem l8Num_any (v : Value) (l : List (ByteArray × Int)) (s : ByteArray) (w : World) (hr : ScReads w v l) (hlen : l.length ≤ 1048576) :
    Calls Try.prog 16 #[v, .string s] w fun e w' => e = .returned (.tuple #[.int .i64 (scNum l s), .bool (scHas l s)]) ∧ w = w' := by
  obtain ⟨ao, cap, rfl⟩ := readsR_shape hr
  go_enter Try.func16, Try.ntmps16
  go_wp2_with fail
  go_loopw [6] (fun i wr => ∃ k : Nat, k ≤ l.length ∧ i = .int .i64 k ∧ scNo l s k ∧ w = wr) (fun i _ => l.length - (intOf i).toNat)
  case atStart => exact ⟨0, Nat.zero_le _, rfl, fun j hj => by omega, rfl⟩
  case round =>
    obtain ⟨k, hk, rfl, hno, rfl⟩ := hrel
    by_cases hlt : k < l.length
    · have hk1 : (k : Int) < (l.length : Int) := by omega
      obtain ⟨b, off, rfl, hb, _, _, hc⟩ := sc_some hr (by omega)
      obtain ⟨c0, c1⟩ := sc_cells hc hlt
      by_cases he : (scAt l k).1 = s
      · have hp := scPlc_hit hlt hno he
        have HN : Hid (scNum l s = (scAt l k).2) := by show _ = _; unfold scNum; rw [if_pos (by rw [hp.2]; omega), hp.1]
        have HH : Hid (scHas l s = true) := by show _ = _; unfold scHas; rw [hp.2]; simp
        have hd : ((scAt l k).1.toList == s.toList) = true := by rw [he]; simp
        clear hp he hc hr
        go_wp2_with fail
        go_ret2
        exact ⟨by rw [HN.out, HH.out]; rfl, rfl⟩
      · have hd : ((scAt l k).1.toList == s.toList) = false := by
          cases h : ((scAt l k).1.toList == s.toList) with
          | true => exact absurd (sc_sEq h) he
          | false => rfl
        have HNO : Hid (scNo l s (k + 1)) := scNo_step hno he
        clear he hc hr
        go_wp2_with fail
        go_roundw
        case rel => exact ⟨k + 1, hlt, by go_num, HNO.out, by first | trivial | rfl⟩
        case measure => simp [intOf]; omega
    · obtain rfl : k = l.length := by omega
      have hp := scPlc_none hno
      have HN : Hid (scNum l s = 0) := by show _ = _; unfold scNum; rw [if_neg (by rw [hp]; omega)]
      have HH : Hid (scHas l s = false) := by show _ = _; unfold scHas; rw [hp]; simp
      clear hp
      go_wp2_with fail
      go_ret2
      exact ⟨by rw [HN.out, HH.out]; rfl, rfl⟩

set_option maxHeartbeats 1000000 in
theorem l8Within_any (n : Int) (w : World) :
    Calls Try.prog 18 #[.int .i64 n] w fun e w' => e = .returned (.int .i64 (clampS n)) ∧ w = w' := by
  rcases Int.lt_or_le 1000000000 n with h | h
  · have HN : Hid (clampS n = 1000000000) := by show _ = _; unfold clampS; rw [if_pos (by omega)]
    go_enter Try.func18, Try.ntmps18
    go_wp2_with fail
    go_ret
    exact ⟨ret_int' HN.out.symm, rfl⟩
  · rcases Int.lt_or_le n (-1000000000) with h2 | h2
    · have HN : Hid (clampS n = -1000000000) := by show _ = _; unfold clampS; rw [if_neg (by omega), if_pos (by omega)]
      go_enter Try.func18, Try.ntmps18
      go_wp2_with fail
      go_ret
      exact ⟨ret_int' HN.out.symm, rfl⟩
    · have HN : Hid (clampS n = n) := clampS_id ⟨h2, h⟩
      go_enter Try.func18, Try.ntmps18
      go_wp2_with fail
      go_ret
      exact ⟨ret_int' HN.out.symm, rfl⟩
set_option maxHeartbeats 8000000 in
set_option maxRecDepth 20000 in
theorem l8Put_any (g c2 : Nat) (R : List (ByteArray × Int)) (y : ByteArray × Int) (base : Nat) (w : World) (hor : ScOwns w base (.slice (some ⟨g, 0, none⟩) R.length c2) R) (hrl : R.length ≤ 1048576) :
    Calls Try.prog 17 #[.slice (some ⟨g, 0, none⟩) R.length c2, .agg #[.string y.1, .int .i64 y.2]] w fun e w' => ∃ x, e = .returned x ∧ ScOwns w' w.heap.size x (scIns R y) ∧ Below w.heap.size w w' := by
  obtain ⟨i0, hi0, hz0, hz1, hz2⟩ := info_parts scInfo
  obtain ⟨hgb, hgz⟩ : R.length ≤ c2 ∧ c2 ≤ maxLen := by
    rcases hor.2 with ⟨h, _⟩ | ⟨g', cap', cur, hv, _, _, hnc, hcm, _⟩
    · cases h
    · cases hv; exact ⟨hnc, hcm⟩
  unfold maxLen at hgz
  obtain ⟨w2, hW0⟩ : ∃ W0, w.alloc (.cells #[.string y.1, .int .i64 y.2] 36) = W0 := ⟨_, rfl⟩
  have hB2 : Below w.heap.size w w2 := by rw [← hW0]; exact (Below.refl _ w).alloc (Nat.le_refl _) _
  have hsz2 : w.heap.size + 1 ≤ w2.heap.size := by rw [← hW0]; simp
  have hp2 : w2.cell? ⟨w.heap.size, 0, none⟩ = some (.string y.1) ∧ w2.cell? ⟨w.heap.size, 0 + 1, none⟩ = some (.int .i64 y.2) := by
    rw [← hW0]; exact ⟨by rw [cell_of_row _ _ _ _ _ _ (heap_alloc_new w _)]; rfl, by rw [cell_of_row _ _ _ _ _ _ (heap_alloc_new w _)]; rfl⟩
  have ho2 : ScOwns w2 base (.slice (some ⟨g, 0, none⟩) R.length c2) R := ownsR_kept hor hB2
  go_enter Try.func17, Try.ntmps17
  go_wp2_with fail
  clear hW0 hor
  go_loopw [5] (fun i wr => ∃ k : Nat, k ≤ R.length ∧ i = .int .i64 (k : Int) ∧ scILow R y k ∧ Below w2.heap.size w2 wr) (fun i _ => R.length - (intOf i).toNat)
  case atStart => exact ⟨0, Nat.zero_le _, rfl, fun j hj => by omega, Below.refl _ _⟩
  case round =>
    obtain ⟨k, hk, rfl, hlow, hbr⟩ := hrel
    have hszr := hbr.size
    have hpr := sc_cell_kept hp2 hbr (by omega)
    have hor := ownsR_kept ho2 hbr
    by_cases hlt : k < R.length
    · obtain ⟨hq0, hq1⟩ := hpr
      have hkr : (k : Int) < (R.length : Int) := by omega
      have hd0 : wr.cell? ⟨g, k * 2, none⟩ = _ := cellR scC_len hor (scAt_some hlt) 0 _ rfl
      have hd1 : wr.cell? ⟨g, k * 2 + 1, none⟩ = _ := cellR scC_len hor (scAt_some hlt) 1 _ rfl
      have hgr : g < wr.heap.size := World.block_lt_of_cell? wr _ hd0
      have hwz : w.heap.size < wr.heap.size := by omega
      have HS : Hid (∀ w', Below wr.heap.size wr w' → (Below wr.heap.size wr w' ∧ w'.cell? ⟨w.heap.size, 0, none⟩ = some (.string y.1) ∧ w'.cell? ⟨w.heap.size, 1, none⟩ = some (.int .i64 y.2) ∧ w'.cell? ⟨g, k * 2, none⟩ = some (.string (scAt R k).1) ∧ w'.cell? ⟨g, k * 2 + 1, none⟩ = some (.int .i64 (scAt R k).2))) := fun w' h =>
        ⟨h, (h.cell (p := ⟨w.heap.size, 0, none⟩) hwz).trans hq0, (h.cell (p := ⟨w.heap.size, 1, none⟩) hwz).trans hq1, (h.cell (p := ⟨g, k * 2, none⟩) hgr).trans hd0, (h.cell (p := ⟨g, k * 2 + 1, none⟩) hgr).trans hd1⟩
      clear hq0 hq1 hd0 hd1 hor
      cases hA : scAheadB (scAt R k) y with
      | true =>
        have HL : Hid (scILow R y (k + 1)) := scILow_step hlow hA
        go_wp2_with fail
        refine wp_region_held_drew (S := (fun w' => Below wr.heap.size wr w' ∧ w'.cell? ⟨w.heap.size, 0, none⟩ = some (.string y.1) ∧ w'.cell? ⟨w.heap.size, 1, none⟩ = some (.int .i64 y.2) ∧ w'.cell? ⟨g, k * 2, none⟩ = some (.string (scAt R k).1) ∧ w'.cell? ⟨g, k * 2 + 1, none⟩ = some (.int .i64 (scAt R k).2))) (by kernel_rfl) (by exact HS.out _ (Below.refl _ _).drew) (fun hHeld => ?_)
        refine takeH (i := 0) (d := (some 6)) (v := ?_) rfl rfl (by kernel_rfl) (by kernel_rfl) (by kernel_rfl) (fun _ _ _ h => h) (by kernel_rfl) ?_ (by assumption) ?_
        rotate_left
        · (intro w hSw; (try dsimp only at hSw); go_simp; try with_reducible rfl)
        try simp only [Act.put, List.setIfInBounds_toArray, List.set_cons_succ, List.set_cons_zero]
        refine takeH (i := 1) (d := (some 7)) (v := ?_) rfl rfl (by kernel_rfl) (by kernel_rfl) (by kernel_rfl) (fun _ _ _ h => h) (by kernel_rfl) ?_ (by assumption) ?_
        rotate_left
        · (intro w hSw; (try dsimp only at hSw); go_simp; try with_reducible rfl)
        try simp only [Act.put, List.setIfInBounds_toArray, List.set_cons_succ, List.set_cons_zero]
        refine takeH (i := 2) (d := (some 8)) (v := ?_) rfl rfl (by kernel_rfl) (by kernel_rfl) (by kernel_rfl) (fun _ _ _ h => h) (by kernel_rfl) ?_ (by assumption) ?_
        rotate_left
        · (intro w hSw; (try dsimp only at hSw); go_simp; try with_reducible rfl)
        try simp only [Act.put, List.setIfInBounds_toArray, List.set_cons_succ, List.set_cons_zero]
        refine takeH (i := 3) (d := (some 9)) (v := ?_) rfl rfl (by kernel_rfl) (by kernel_rfl) (by kernel_rfl) (fun _ _ _ h => h) (by kernel_rfl) ?_ (by assumption) ?_
        rotate_left
        · (intro w hSw; (try dsimp only at hSw); go_simp; try with_reducible rfl)
        try simp only [Act.put, List.setIfInBounds_toArray, List.set_cons_succ, List.set_cons_zero]
        refine takeH (i := 4) (d := (some 10)) (v := ?_) rfl rfl (by kernel_rfl) (by kernel_rfl) (by kernel_rfl) (fun _ _ _ h => h) (by kernel_rfl) ?_ (by assumption) ?_
        rotate_left
        · (intro w hSw; (try dsimp only at hSw); go_simp; try with_reducible rfl)
        try simp only [Act.put, List.setIfInBounds_toArray, List.set_cons_succ, List.set_cons_zero]
        refine takeH (i := 5) (d := (some 11)) (v := ?_) rfl rfl (by kernel_rfl) (by kernel_rfl) (by kernel_rfl) (fun _ _ _ h => h) (by kernel_rfl) ?_ (by assumption) ?_
        rotate_left
        · (intro w hSw; (try dsimp only at hSw); go_simp; try with_reducible rfl)
        try simp only [Act.put, List.setIfInBounds_toArray, List.set_cons_succ, List.set_cons_zero]
        refine takeH (i := 6) (d := (some 12)) (v := ?_) rfl rfl (by kernel_rfl) (by kernel_rfl) (by kernel_rfl) (fun _ _ _ h => h) (by kernel_rfl) ?_ (by assumption) ?_
        rotate_left
        · (intro w hSw; (try dsimp only at hSw); go_simp; try with_reducible rfl)
        try simp only [Act.put, List.setIfInBounds_toArray, List.set_cons_succ, List.set_cons_zero]
        refine takeH (i := 7) (d := (some 13)) (v := ?_) rfl rfl (by kernel_rfl) (by kernel_rfl) (by kernel_rfl) (fun _ _ _ h => h) (by kernel_rfl) ?_ (by assumption) ?_
        rotate_left
        · (intro w hSw; (try dsimp only at hSw); go_simp; try with_reducible rfl)
        try simp only [Act.put, List.setIfInBounds_toArray, List.set_cons_succ, List.set_cons_zero]
        refine takeH (i := 8) (d := (some 14)) (v := ?_) rfl rfl (by kernel_rfl) (by kernel_rfl) (by kernel_rfl) (fun _ _ _ h => h) (by kernel_rfl) ?_ (by assumption) ?_
        rotate_left
        · (intro w hSw; (try dsimp only at hSw); go_simp; try with_reducible rfl)
        try simp only [Act.put, List.setIfInBounds_toArray, List.set_cons_succ, List.set_cons_zero]
        refine takeH (i := 9) (d := (some 15)) (v := ?_) rfl rfl (by kernel_rfl) (by kernel_rfl) (by kernel_rfl) (fun _ _ _ h => h) (by kernel_rfl) ?_ (by assumption) ?_
        rotate_left
        · (intro w hSw; (try dsimp only at hSw); go_simp; try with_reducible rfl)
        try simp only [Act.put, List.setIfInBounds_toArray, List.set_cons_succ, List.set_cons_zero]
        refine wpAnyH_ready (rs := [10]) (by kernel_rfl) (by simp) ?_
        refine AllReadyH.cons rfl (fun K hK => ?_) AllReadyH.nil
        go_simp
        refine (l3Ahead_any (scAt R k) y _).mono ?_; rintro e w3 ⟨he, hb3⟩; rw [hA] at he; subst he; have hk3 := HS.out _ (sc_heldStep hb3 ‹_›); clear hb3
        refine hK.out _ _ ?_ (fun hHeld => ?_)
        · exact hk3
        clear hK K
        try simp only [Act.put, List.setIfInBounds_toArray, List.set_cons_succ, List.set_cons_zero]
        refine takeH (i := 11) (d := (some 17)) (v := ?_) rfl rfl (by kernel_rfl) (by kernel_rfl) (by kernel_rfl) (fun _ _ _ h => h) (by kernel_rfl) ?_ (by assumption) ?_
        rotate_left
        · (intro w hSw; (try dsimp only at hSw); go_simp; try with_reducible rfl)
        try simp only [Act.put, List.setIfInBounds_toArray, List.set_cons_succ, List.set_cons_zero]
        refine wpAnyH_done (by kernel_rfl) ?_ _
        have hb5 := hbr.trans (hk3.1.mono hszr)
        clear hk3 hA HS hbr
        try clear hHeld
        go_wp2_with fail
        go_roundw
        case rel => exact ⟨k + 1, hlt, by go_num, HL.out, hb5⟩
        case measure => simp [intOf]; omega
      | false =>
        have HPOS : Hid (scIPos R y = k) := scIPos_at hlt hlow hA
        go_wp2_with fail
        refine wp_region_held_drew (S := (fun w' => Below wr.heap.size wr w' ∧ w'.cell? ⟨w.heap.size, 0, none⟩ = some (.string y.1) ∧ w'.cell? ⟨w.heap.size, 1, none⟩ = some (.int .i64 y.2) ∧ w'.cell? ⟨g, k * 2, none⟩ = some (.string (scAt R k).1) ∧ w'.cell? ⟨g, k * 2 + 1, none⟩ = some (.int .i64 (scAt R k).2))) (by kernel_rfl) (by exact HS.out _ (Below.refl _ _).drew) (fun hHeld => ?_)
        refine takeH (i := 0) (d := (some 6)) (v := ?_) rfl rfl (by kernel_rfl) (by kernel_rfl) (by kernel_rfl) (fun _ _ _ h => h) (by kernel_rfl) ?_ (by assumption) ?_
        rotate_left
        · (intro w hSw; (try dsimp only at hSw); go_simp; try with_reducible rfl)
        try simp only [Act.put, List.setIfInBounds_toArray, List.set_cons_succ, List.set_cons_zero]
        refine takeH (i := 1) (d := (some 7)) (v := ?_) rfl rfl (by kernel_rfl) (by kernel_rfl) (by kernel_rfl) (fun _ _ _ h => h) (by kernel_rfl) ?_ (by assumption) ?_
        rotate_left
        · (intro w hSw; (try dsimp only at hSw); go_simp; try with_reducible rfl)
        try simp only [Act.put, List.setIfInBounds_toArray, List.set_cons_succ, List.set_cons_zero]
        refine takeH (i := 2) (d := (some 8)) (v := ?_) rfl rfl (by kernel_rfl) (by kernel_rfl) (by kernel_rfl) (fun _ _ _ h => h) (by kernel_rfl) ?_ (by assumption) ?_
        rotate_left
        · (intro w hSw; (try dsimp only at hSw); go_simp; try with_reducible rfl)
        try simp only [Act.put, List.setIfInBounds_toArray, List.set_cons_succ, List.set_cons_zero]
        refine takeH (i := 3) (d := (some 9)) (v := ?_) rfl rfl (by kernel_rfl) (by kernel_rfl) (by kernel_rfl) (fun _ _ _ h => h) (by kernel_rfl) ?_ (by assumption) ?_
        rotate_left
        · (intro w hSw; (try dsimp only at hSw); go_simp; try with_reducible rfl)
        try simp only [Act.put, List.setIfInBounds_toArray, List.set_cons_succ, List.set_cons_zero]
        refine takeH (i := 4) (d := (some 10)) (v := ?_) rfl rfl (by kernel_rfl) (by kernel_rfl) (by kernel_rfl) (fun _ _ _ h => h) (by kernel_rfl) ?_ (by assumption) ?_
        rotate_left
        · (intro w hSw; (try dsimp only at hSw); go_simp; try with_reducible rfl)
        try simp only [Act.put, List.setIfInBounds_toArray, List.set_cons_succ, List.set_cons_zero]
        refine takeH (i := 5) (d := (some 11)) (v := ?_) rfl rfl (by kernel_rfl) (by kernel_rfl) (by kernel_rfl) (fun _ _ _ h => h) (by kernel_rfl) ?_ (by assumption) ?_
        rotate_left
        · (intro w hSw; (try dsimp only at hSw); go_simp; try with_reducible rfl)
        try simp only [Act.put, List.setIfInBounds_toArray, List.set_cons_succ, List.set_cons_zero]
        refine takeH (i := 6) (d := (some 12)) (v := ?_) rfl rfl (by kernel_rfl) (by kernel_rfl) (by kernel_rfl) (fun _ _ _ h => h) (by kernel_rfl) ?_ (by assumption) ?_
        rotate_left
        · (intro w hSw; (try dsimp only at hSw); go_simp; try with_reducible rfl)
        try simp only [Act.put, List.setIfInBounds_toArray, List.set_cons_succ, List.set_cons_zero]
        refine takeH (i := 7) (d := (some 13)) (v := ?_) rfl rfl (by kernel_rfl) (by kernel_rfl) (by kernel_rfl) (fun _ _ _ h => h) (by kernel_rfl) ?_ (by assumption) ?_
        rotate_left
        · (intro w hSw; (try dsimp only at hSw); go_simp; try with_reducible rfl)
        try simp only [Act.put, List.setIfInBounds_toArray, List.set_cons_succ, List.set_cons_zero]
        refine takeH (i := 8) (d := (some 14)) (v := ?_) rfl rfl (by kernel_rfl) (by kernel_rfl) (by kernel_rfl) (fun _ _ _ h => h) (by kernel_rfl) ?_ (by assumption) ?_
        rotate_left
        · (intro w hSw; (try dsimp only at hSw); go_simp; try with_reducible rfl)
        try simp only [Act.put, List.setIfInBounds_toArray, List.set_cons_succ, List.set_cons_zero]
        refine takeH (i := 9) (d := (some 15)) (v := ?_) rfl rfl (by kernel_rfl) (by kernel_rfl) (by kernel_rfl) (fun _ _ _ h => h) (by kernel_rfl) ?_ (by assumption) ?_
        rotate_left
        · (intro w hSw; (try dsimp only at hSw); go_simp; try with_reducible rfl)
        try simp only [Act.put, List.setIfInBounds_toArray, List.set_cons_succ, List.set_cons_zero]
        refine wpAnyH_ready (rs := [10]) (by kernel_rfl) (by simp) ?_
        refine AllReadyH.cons rfl (fun K hK => ?_) AllReadyH.nil
        go_simp
        refine (l3Ahead_any (scAt R k) y _).mono ?_; rintro e w3 ⟨he, hb3⟩; rw [hA] at he; subst he; have hk3 := HS.out _ (sc_heldStep hb3 ‹_›); clear hb3
        refine hK.out _ _ ?_ (fun hHeld => ?_)
        · exact hk3
        clear hK K
        try simp only [Act.put, List.setIfInBounds_toArray, List.set_cons_succ, List.set_cons_zero]
        refine takeH (i := 11) (d := (some 17)) (v := ?_) rfl rfl (by kernel_rfl) (by kernel_rfl) (by kernel_rfl) (fun _ _ _ h => h) (by kernel_rfl) ?_ (by assumption) ?_
        rotate_left
        · (intro w hSw; (try dsimp only at hSw); go_simp; try with_reducible rfl)
        try simp only [Act.put, List.setIfInBounds_toArray, List.set_cons_succ, List.set_cons_zero]
        refine wpAnyH_done (by kernel_rfl) ?_ _
        have hbq : Below w2.heap.size w2 w3 := hbr.trans (hk3.1.mono hszr)
        clear hk3 hA HS hbr
        try clear hHeld
        go_wp2_with fail
        have hoq := ownsR_kept ho2 hbq
        have hpq := sc_cell_kept hp2 hbq (by omega)
        have hqz := (hbq).size
        have hgq : g < (w3).heap.size := (World.ownsRow.lt hoq g rfl).2
        have hwq : w.heap.size < (w3).heap.size := by omega
        have hwq2 : w.heap.size ≤ (w3).heap.size := by omega
        have hrq := readsR_at (ownsR_reads scC_len hoq)
        have hBq : Below w.heap.size w (w3) := hB2.trans ((hbq).mono (by omega))
        have HA : Hid (ReadsR scC 2 (w3) (.slice (some ⟨g, 0, none⟩) (k) c2) (R.take (k))) := by
          have := readsR_cut (sz := 2) (c := scC) hgq hgb hgz hrq (ao := some ⟨g, 0, none⟩) (a := 0) (e := k) (n := k) (k := c2) (fun _ => by simp) (by simp) (Nat.zero_le _) (by omega) (by omega) (by omega)
          rw [List.drop_zero] at this; exact this
        obtain ⟨ab, hab⟩ : ∃ ab, (if c2 = k then some (⟨g, 0, none⟩ : Addr) else some ⟨g, (k) * 2, none⟩) = ab := ⟨_, rfl⟩
        have HBc : Hid (ReadsR scC 2 (w3) (.slice ab (R.length - (k)) (c2 - (k))) (R.drop (k))) := by
          have := readsR_cut (sz := 2) (c := scC) hgq hgb hgz hrq (ao := ab) (a := k) (e := R.length) (n := R.length - (k)) (k := c2 - (k)) (fun h => by rw [← hab, if_neg h]; simp) (by rw [← hab]; split <;> simp) (by omega) (Nat.le_refl _) rfl rfl
          rw [List.take_length] at this; exact this
        have HS2 : Hid (∀ w', Below (w3).heap.size (w3) w' → (w'.cell? ⟨w.heap.size, 0, none⟩ = some (.string y.1) ∧ w'.cell? ⟨w.heap.size, 1, none⟩ = some (.int .i64 y.2))) := fun w' h => ⟨(h.cell (p := ⟨w.heap.size, 0, none⟩) hwq).trans hpq.1, (h.cell (p := ⟨w.heap.size, 1, none⟩) hwq).trans hpq.2⟩
        have hj1 : ((k : Nat) : Int) ≤ (c2 : Int) := by omega
        have hj2 : ((k : Nat) : Int) ≤ (R.length : Int) := by omega
        have hj3 : (R.length : Int) ≤ (c2 : Int) := by omega
        have hRl : R.length ≤ 1048576 := hrl
        have hlw : ∀ (A : Array Value), A.size = 0 → Below (w3).heap.size (w3) ((w3).alloc (.cells A 36)) := fun A _ => (Below.refl _ _).alloc (Nat.le_refl _) _
        clear hoq hpq hrq hlw
        have hlitB : (((w3).alloc (.cells #[.string y.1, .int .i64 y.2] 36)).alloc (.cells #[] 36)).ownsRow (w3).heap.size 36 2 (.slice (some ⟨(w3).heap.size + 1, 0, none⟩) 0 0) 0 [] := by
          have := World.ownsRow_lit (base := (w3).heap.size) (e := 36) (size := 2) ((w3).alloc (.cells #[.string y.1, .int .i64 y.2] 36)) #[] 0 (by simp) (by simp) rfl
          rw [World.size_alloc] at this; exact this
        refine wp_region_held_drew (S := (fun w' => w'.cell? ⟨w.heap.size, 0, none⟩ = some (.string y.1) ∧ w'.cell? ⟨w.heap.size, 1, none⟩ = some (.int .i64 y.2))) (by kernel_rfl) (by exact HS2.out _ (Below.refl _ _).drew) (fun hHeld => ?_)
        refine takeH (i := 1) (d := (some 21)) (v := ?_) rfl rfl (by kernel_rfl) (by kernel_rfl) (by kernel_rfl) (fun _ _ _ h => h) (by kernel_rfl) ?_ (by assumption) ?_
        rotate_left
        · (intro w hSw; (try dsimp only at hSw); go_simp; try with_reducible rfl)
        try simp only [Act.put, List.setIfInBounds_toArray, List.set_cons_succ, List.set_cons_zero]
        refine takeH (i := 2) (d := (some 22)) (v := ?_) rfl rfl (by kernel_rfl) (by kernel_rfl) (by kernel_rfl) (fun _ _ _ h => h) (by kernel_rfl) ?_ (by assumption) ?_
        rotate_left
        · (intro w hSw; (try dsimp only at hSw); go_simp; try with_reducible rfl)
        try simp only [Act.put, List.setIfInBounds_toArray, List.set_cons_succ, List.set_cons_zero]
        refine takeH (i := 3) (d := (some 23)) (v := ?_) rfl rfl (by kernel_rfl) (by kernel_rfl) (by kernel_rfl) (fun _ _ _ h => h) (by kernel_rfl) ?_ (by assumption) ?_
        rotate_left
        · (intro w hSw; (try dsimp only at hSw); go_simp; try with_reducible rfl)
        try simp only [Act.put, List.setIfInBounds_toArray, List.set_cons_succ, List.set_cons_zero]
        refine takeH (i := 5) (d := (some 25)) (v := ?_) rfl rfl (by kernel_rfl) (by kernel_rfl) (by kernel_rfl) (fun _ _ _ h => h) (by kernel_rfl) ?_ (by assumption) ?_
        rotate_left
        · (intro w hSw; (try dsimp only at hSw); go_simp; try with_reducible rfl)
        try simp only [Act.put, List.setIfInBounds_toArray, List.set_cons_succ, List.set_cons_zero]
        refine takeH (i := 8) (d := (some 28)) (v := ?_) rfl rfl (by kernel_rfl) (by kernel_rfl) (by kernel_rfl) (fun _ _ _ h => h) (by kernel_rfl) ?_ (by assumption) ?_
        rotate_left
        · (intro w hSw; (try dsimp only at hSw); go_simp; try with_reducible rfl)
        try simp only [Act.put, List.setIfInBounds_toArray, List.set_cons_succ, List.set_cons_zero]
        refine takeH (i := 9) (d := (some 29)) (v := ?_) rfl rfl (by kernel_rfl) (by kernel_rfl) (by kernel_rfl) (fun _ _ _ h => h) (by kernel_rfl) ?_ (by assumption) ?_
        rotate_left
        · (intro w hSw; (try dsimp only at hSw); go_simp; try with_reducible rfl)
        try simp only [Act.put, List.setIfInBounds_toArray, List.set_cons_succ, List.set_cons_zero]
        refine takeH (i := 10) (d := (some 30)) (v := ?_) rfl rfl (by kernel_rfl) (by kernel_rfl) (by kernel_rfl) (fun _ _ _ h => h) (by kernel_rfl) ?_ (by assumption) ?_
        rotate_left
        · (intro w hSw; (try dsimp only at hSw); go_simp; try with_reducible rfl)
        try simp only [Act.put, List.setIfInBounds_toArray, List.set_cons_succ, List.set_cons_zero]
        refine wpAnyH_ready (rs := [0, 6]) (by kernel_rfl) (by simp) ?_
        refine AllReadyH.cons rfl (fun K hK => ?_) (AllReadyH.cons rfl (fun K hK => ?_) AllReadyH.nil)
        · go_simp
          refine hK.out _ _ ?_ (fun hHeld => ?_)
          · exact HS2.out _ ((Below.refl (w3).heap.size (w3)).alloc (Nat.le_refl _) (.cells #[] 36)).drew
          clear hK K
          (try simp only [Act.put]); (try simp only [List.setIfInBounds_toArray]); (try simp only [List.set_cons_succ]); (try simp only [List.set_cons_zero])
          refine wpAnyH_ready (rs := [4, 6]) (by kernel_rfl) (by simp) ?_
          refine AllReadyH.cons rfl (fun K hK => ?_) (AllReadyH.cons rfl (fun K hK => ?_) AllReadyH.nil)
          · refine step_append_R (c := scC) (d := some 24) rfl rfl (.tmp 20) (.tmp 23) 24 rfl (w3).heap.size 36 i0 _ 2 24 Try.underlying24 hi0 hz0 hz1 hz2 rfl (by decide) _ _ _ rfl (World.ownsRow.drew (World.ownsRow_lit (w3) #[] 0 (Nat.le_refl _) (by simp) rfl)) _ rfl (R.take (k)) (readsR_kept HA.out ((Below.refl (w3).heap.size (w3)).alloc (Nat.le_refl _) (.cells #[] 36)).drew) scC_len scC_one (by unfold maxLen; simp; omega) (by simp; omega) (by simp) ?_
            intro x5 w5 ho5 hg5
            have hb5 : Below (w3).heap.size (w3) w5 := Below.grown ((Below.refl (w3).heap.size (w3)).alloc (Nat.le_refl _) (.cells #[] 36)).drew hg5 (by simp) (fun k hk => by cases hk; exact Nat.le_refl _)
            refine hK.out _ _ ?_ (fun hHeld => ?_)
            · exact HS2.out _ hb5
            clear hK K
            (try simp only [Act.put]); (try simp only [List.setIfInBounds_toArray]); (try simp only [List.set_cons_succ]); (try simp only [List.set_cons_zero])
            have hz5 := hb5.size
            refine wpAnyH_ready (rs := [6]) (by kernel_rfl) (by simp) ?_
            refine AllReadyH.cons rfl (fun K hK => ?_) AllReadyH.nil
            go_simp
            refine hK.out _ _ ?_ (fun hHeld => ?_)
            · exact HS2.out _ (hb5.alloc hz5 (.cells #[.string y.1, .int .i64 y.2] 36))
            clear hK K
            (try simp only [Act.put]); (try simp only [List.setIfInBounds_toArray]); (try simp only [List.set_cons_succ]); (try simp only [List.set_cons_zero])
            refine wpAnyH_ready (rs := [7]) (by kernel_rfl) (by simp) ?_
            refine AllReadyH.cons rfl (fun K hK => ?_) AllReadyH.nil
            refine step_append_R (c := scC) (d := some 27) rfl rfl (.tmp 24) (.tmp 26) 24 rfl (w3).heap.size 36 i0 _ 2 24 Try.underlying24 hi0 hz0 hz1 hz2 rfl (by decide) _ _ _ rfl (World.ownsRow.alloc ho5 (.cells #[.string y.1, .int .i64 y.2] 36)) _ rfl [y] (sc_one_at (heap_alloc_new w5 (.cells #[.string y.1, .int .i64 y.2] 36))) scC_len scC_one (by unfold maxLen; simp; omega) (by simp; omega) (by simp; omega) ?_
            intro x6 w6 ho6 hg6
            have hb6 : Below (w3).heap.size (w3) w6 := Below.grown (hb5.alloc hz5 (.cells #[.string y.1, .int .i64 y.2] 36)) hg6 (by simp; omega) (fun k hk => (ho5.lt k hk).1)
            refine hK.out _ _ ?_ (fun hHeld => ?_)
            · exact HS2.out _ hb6
            clear hK K
            (try simp only [Act.put]); (try simp only [List.setIfInBounds_toArray]); (try simp only [List.set_cons_succ]); (try simp only [List.set_cons_zero])
            have hz6 := hb6.size
            refine wpAnyH_ready (rs := [11]) (by kernel_rfl) (by simp) ?_
            refine AllReadyH.cons rfl (fun K hK => ?_) AllReadyH.nil
            refine step_append_R (c := scC) (d := some 31) rfl rfl (.tmp 27) (.tmp 30) 24 rfl (w3).heap.size 36 i0 _ 2 24 Try.underlying24 hi0 hz0 hz1 hz2 rfl (by decide) _ _ _ rfl ho6 _ rfl (R.drop (k)) (readsR_kept HBc.out hb6) scC_len scC_one (by unfold maxLen; simp; omega) (by simp; omega) hz6 ?_
            intro x7 w7 ho7 hg7
            have hb7 : Below (w3).heap.size (w3) w7 := Below.grown hb6 hg7 hz6 (fun k hk => (ho6.lt k hk).1)
            refine hK.out _ _ ?_ (fun hHeld => ?_)
            · exact HS2.out _ hb7
            clear hK K
            (try simp only [Act.put]); (try simp only [List.setIfInBounds_toArray]); (try simp only [List.set_cons_succ]); (try simp only [List.set_cons_zero])
            refine takeH (i := 12) (d := (some 4)) (v := ?_) rfl rfl (by kernel_rfl) (by kernel_rfl) (by kernel_rfl) (fun _ _ _ h => h) (by kernel_rfl) ?_ (by assumption) ?_
            rotate_left
            · (intro w hSw; (try dsimp only at hSw); go_simp; try with_reducible rfl)
            (try simp only [Act.put]); (try simp only [List.setIfInBounds_toArray]); (try simp only [List.set_cons_succ]); (try simp only [List.set_cons_zero])
            refine wpAnyH_done (by kernel_rfl) ?_ _
            have hB7 : Below w.heap.size w w7 := hBq.trans (hb7.mono (by omega))
            have hoF0 : ScOwns w7 (w3).heap.size x7 (scIns R y) := by
              unfold scIns; rw [HPOS.out]; unfold ScOwns OwnsR
              rw [List.length_append, List.length_cons, List.flatMap_append, List.flatMap_cons]
              have h7 := ho7
              simp only [List.length_cons, List.length_nil, List.flatMap_cons, List.flatMap_nil, List.append_nil, List.nil_append, Nat.zero_add, List.append_assoc] at h7
              rw [show (R.take (k)).length + ((R.drop (k)).length + 1) = (R.take (k)).length + 1 + (R.drop (k)).length by omega]
              exact h7
            have hoF : ScOwns w7 w.heap.size x7 (scIns R y) := ownsR_base hoF0 hwq2
            clear hHeld HA HBc HS2 hab ho5 hg5 hb5 ho6 hg6 hb6 ho7 hg7 hb7 hoF0 hBq
            go_wp2_with fail
            go_ret
            exact ⟨_, rfl, hoF, hB7⟩
          · go_simp
            refine hK.out _ _ ?_ (fun hHeld => ?_)
            · exact HS2.out _ (((Below.refl (w3).heap.size (w3)).alloc (Nat.le_refl _) (.cells #[] 36)).alloc (by simp) (.cells #[.string y.1, .int .i64 y.2] 36)).drew
            clear hK K
            (try simp only [Act.put]); (try simp only [List.setIfInBounds_toArray]); (try simp only [List.set_cons_succ]); (try simp only [List.set_cons_zero])
            refine wpAnyH_ready (rs := [4]) (by kernel_rfl) (by simp) ?_
            refine AllReadyH.cons rfl (fun K hK => ?_) AllReadyH.nil
            refine step_append_R (c := scC) (d := some 24) rfl rfl (.tmp 20) (.tmp 23) 24 rfl (w3).heap.size 36 i0 _ 2 24 Try.underlying24 hi0 hz0 hz1 hz2 rfl (by decide) _ _ _ rfl (World.ownsRow.drew (World.ownsRow.alloc (World.ownsRow_lit (w3) #[] 0 (Nat.le_refl _) (by simp) rfl) (.cells #[.string y.1, .int .i64 y.2] 36))) _ rfl (R.take (k)) (readsR_kept HA.out (((Below.refl (w3).heap.size (w3)).alloc (Nat.le_refl _) (.cells #[] 36)).alloc (by simp) (.cells #[.string y.1, .int .i64 y.2] 36)).drew) scC_len scC_one (by unfold maxLen; simp; omega) (by simp; omega) (by simp; omega) ?_
            intro x5 w5 ho5 hg5
            have hb5 : Below (w3).heap.size (w3) w5 := Below.grown (((Below.refl (w3).heap.size (w3)).alloc (Nat.le_refl _) (.cells #[] 36)).alloc (by simp) (.cells #[.string y.1, .int .i64 y.2] 36)).drew hg5 (by simp; omega) (fun k hk => by cases hk; exact Nat.le_refl _)
            refine hK.out _ _ ?_ (fun hHeld => ?_)
            · exact HS2.out _ hb5
            clear hK K
            (try simp only [Act.put]); (try simp only [List.setIfInBounds_toArray]); (try simp only [List.set_cons_succ]); (try simp only [List.set_cons_zero])
            have hz5 := hb5.size
            have hq5 : w5.heap[(w3).heap.size + 1]? = some (.cells #[.string y.1, .int .i64 y.2] 36) := (hg5.block ((w3).heap.size + 1) (by simp) (show some ((w3).heap.size + 1) ≠ some (w3).heap.size by simp)).trans (heap_alloc2_new (w3) (.cells #[] 36) (.cells #[.string y.1, .int .i64 y.2] 36))
            refine wpAnyH_ready (rs := [7]) (by kernel_rfl) (by simp) ?_
            refine AllReadyH.cons rfl (fun K hK => ?_) AllReadyH.nil
            refine step_append_R (c := scC) (d := some 27) rfl rfl (.tmp 24) (.tmp 26) 24 rfl (w3).heap.size 36 i0 _ 2 24 Try.underlying24 hi0 hz0 hz1 hz2 rfl (by decide) _ _ _ rfl ho5 _ rfl [y] (sc_one_at hq5) scC_len scC_one (by unfold maxLen; simp; omega) (by simp; omega) hz5 ?_
            intro x6 w6 ho6 hg6
            have hb6 : Below (w3).heap.size (w3) w6 := Below.grown hb5 hg6 hz5 (fun k hk => (ho5.lt k hk).1)
            refine hK.out _ _ ?_ (fun hHeld => ?_)
            · exact HS2.out _ hb6
            clear hK K
            (try simp only [Act.put]); (try simp only [List.setIfInBounds_toArray]); (try simp only [List.set_cons_succ]); (try simp only [List.set_cons_zero])
            have hz6 := hb6.size
            refine wpAnyH_ready (rs := [11]) (by kernel_rfl) (by simp) ?_
            refine AllReadyH.cons rfl (fun K hK => ?_) AllReadyH.nil
            refine step_append_R (c := scC) (d := some 31) rfl rfl (.tmp 27) (.tmp 30) 24 rfl (w3).heap.size 36 i0 _ 2 24 Try.underlying24 hi0 hz0 hz1 hz2 rfl (by decide) _ _ _ rfl ho6 _ rfl (R.drop (k)) (readsR_kept HBc.out hb6) scC_len scC_one (by unfold maxLen; simp; omega) (by simp; omega) hz6 ?_
            intro x7 w7 ho7 hg7
            have hb7 : Below (w3).heap.size (w3) w7 := Below.grown hb6 hg7 hz6 (fun k hk => (ho6.lt k hk).1)
            refine hK.out _ _ ?_ (fun hHeld => ?_)
            · exact HS2.out _ hb7
            clear hK K
            (try simp only [Act.put]); (try simp only [List.setIfInBounds_toArray]); (try simp only [List.set_cons_succ]); (try simp only [List.set_cons_zero])
            refine takeH (i := 12) (d := (some 4)) (v := ?_) rfl rfl (by kernel_rfl) (by kernel_rfl) (by kernel_rfl) (fun _ _ _ h => h) (by kernel_rfl) ?_ (by assumption) ?_
            rotate_left
            · (intro w hSw; (try dsimp only at hSw); go_simp; try with_reducible rfl)
            (try simp only [Act.put]); (try simp only [List.setIfInBounds_toArray]); (try simp only [List.set_cons_succ]); (try simp only [List.set_cons_zero])
            refine wpAnyH_done (by kernel_rfl) ?_ _
            have hB7 : Below w.heap.size w w7 := hBq.trans (hb7.mono (by omega))
            have hoF0 : ScOwns w7 (w3).heap.size x7 (scIns R y) := by
              unfold scIns; rw [HPOS.out]; unfold ScOwns OwnsR
              rw [List.length_append, List.length_cons, List.flatMap_append, List.flatMap_cons]
              have h7 := ho7
              simp only [List.length_cons, List.length_nil, List.flatMap_cons, List.flatMap_nil, List.append_nil, List.nil_append, Nat.zero_add, List.append_assoc] at h7
              rw [show (R.take (k)).length + ((R.drop (k)).length + 1) = (R.take (k)).length + 1 + (R.drop (k)).length by omega]
              exact h7
            have hoF : ScOwns w7 w.heap.size x7 (scIns R y) := ownsR_base hoF0 hwq2
            clear hHeld HA HBc HS2 hab ho5 hg5 hb5 ho6 hg6 hb6 ho7 hg7 hb7 hoF0 hBq
            go_wp2_with fail
            go_ret
            exact ⟨_, rfl, hoF, hB7⟩
        · go_simp
          refine hK.out _ _ ?_ (fun hHeld => ?_)
          · exact HS2.out _ ((Below.refl (w3).heap.size (w3)).alloc (Nat.le_refl _) (.cells #[.string y.1, .int .i64 y.2] 36)).drew
          clear hK K
          (try simp only [Act.put]); (try simp only [List.setIfInBounds_toArray]); (try simp only [List.set_cons_succ]); (try simp only [List.set_cons_zero])
          refine wpAnyH_ready (rs := [0]) (by kernel_rfl) (by simp) ?_
          refine AllReadyH.cons rfl (fun K hK => ?_) AllReadyH.nil
          go_simp
          refine hK.out _ _ ?_ (fun hHeld => ?_)
          · exact HS2.out _ (((Below.refl (w3).heap.size (w3)).alloc (Nat.le_refl _) (.cells #[.string y.1, .int .i64 y.2] 36)).alloc (by simp) (.cells #[] 36)).drew
          clear hK K
          (try simp only [Act.put]); (try simp only [List.setIfInBounds_toArray]); (try simp only [List.set_cons_succ]); (try simp only [List.set_cons_zero])
          refine wpAnyH_ready (rs := [4]) (by kernel_rfl) (by simp) ?_
          refine AllReadyH.cons rfl (fun K hK => ?_) AllReadyH.nil
          refine step_append_R (c := scC) (d := some 24) rfl rfl (.tmp 20) (.tmp 23) 24 rfl (w3).heap.size 36 i0 _ 2 24 Try.underlying24 hi0 hz0 hz1 hz2 rfl (by decide) _ _ _ rfl (World.ownsRow.drew hlitB) _ rfl (R.take (k)) (readsR_kept HA.out (((Below.refl (w3).heap.size (w3)).alloc (Nat.le_refl _) (.cells #[.string y.1, .int .i64 y.2] 36)).alloc (by simp) (.cells #[] 36)).drew) scC_len scC_one (by unfold maxLen; simp; omega) (by simp; omega) (by simp; omega) ?_
          intro x5 w5 ho5 hg5
          have hb5 : Below (w3).heap.size (w3) w5 := Below.grown (((Below.refl (w3).heap.size (w3)).alloc (Nat.le_refl _) (.cells #[.string y.1, .int .i64 y.2] 36)).alloc (by simp) (.cells #[] 36)).drew hg5 (by simp; omega) (fun k hk => by cases hk; simp)
          refine hK.out _ _ ?_ (fun hHeld => ?_)
          · exact HS2.out _ hb5
          clear hK K
          (try simp only [Act.put]); (try simp only [List.setIfInBounds_toArray]); (try simp only [List.set_cons_succ]); (try simp only [List.set_cons_zero])
          have hz5 := hb5.size
          have hq5 : w5.heap[(w3).heap.size]? = some (.cells #[.string y.1, .int .i64 y.2] 36) := (hg5.block (w3).heap.size (by simp; omega) (show some (w3).heap.size ≠ some ((w3).heap.size + 1) by simp)).trans ((Below.heap_alloc ((w3).alloc (.cells #[.string y.1, .int .i64 y.2] 36)) (.cells #[] 36) (w3).heap.size (by simp)).trans (heap_alloc_new (w3) (.cells #[.string y.1, .int .i64 y.2] 36)))
          refine wpAnyH_ready (rs := [7]) (by kernel_rfl) (by simp) ?_
          refine AllReadyH.cons rfl (fun K hK => ?_) AllReadyH.nil
          refine step_append_R (c := scC) (d := some 27) rfl rfl (.tmp 24) (.tmp 26) 24 rfl (w3).heap.size 36 i0 _ 2 24 Try.underlying24 hi0 hz0 hz1 hz2 rfl (by decide) _ _ _ rfl ho5 _ rfl [y] (sc_one_at hq5) scC_len scC_one (by unfold maxLen; simp; omega) (by simp; omega) hz5 ?_
          intro x6 w6 ho6 hg6
          have hb6 : Below (w3).heap.size (w3) w6 := Below.grown hb5 hg6 hz5 (fun k hk => (ho5.lt k hk).1)
          refine hK.out _ _ ?_ (fun hHeld => ?_)
          · exact HS2.out _ hb6
          clear hK K
          (try simp only [Act.put]); (try simp only [List.setIfInBounds_toArray]); (try simp only [List.set_cons_succ]); (try simp only [List.set_cons_zero])
          have hz6 := hb6.size
          refine wpAnyH_ready (rs := [11]) (by kernel_rfl) (by simp) ?_
          refine AllReadyH.cons rfl (fun K hK => ?_) AllReadyH.nil
          refine step_append_R (c := scC) (d := some 31) rfl rfl (.tmp 27) (.tmp 30) 24 rfl (w3).heap.size 36 i0 _ 2 24 Try.underlying24 hi0 hz0 hz1 hz2 rfl (by decide) _ _ _ rfl ho6 _ rfl (R.drop (k)) (readsR_kept HBc.out hb6) scC_len scC_one (by unfold maxLen; simp; omega) (by simp; omega) hz6 ?_
          intro x7 w7 ho7 hg7
          have hb7 : Below (w3).heap.size (w3) w7 := Below.grown hb6 hg7 hz6 (fun k hk => (ho6.lt k hk).1)
          refine hK.out _ _ ?_ (fun hHeld => ?_)
          · exact HS2.out _ hb7
          clear hK K
          (try simp only [Act.put]); (try simp only [List.setIfInBounds_toArray]); (try simp only [List.set_cons_succ]); (try simp only [List.set_cons_zero])
          refine takeH (i := 12) (d := (some 4)) (v := ?_) rfl rfl (by kernel_rfl) (by kernel_rfl) (by kernel_rfl) (fun _ _ _ h => h) (by kernel_rfl) ?_ (by assumption) ?_
          rotate_left
          · (intro w hSw; (try dsimp only at hSw); go_simp; try with_reducible rfl)
          (try simp only [Act.put]); (try simp only [List.setIfInBounds_toArray]); (try simp only [List.set_cons_succ]); (try simp only [List.set_cons_zero])
          refine wpAnyH_done (by kernel_rfl) ?_ _
          have hB7 : Below w.heap.size w w7 := hBq.trans (hb7.mono (by omega))
          have hoF0 : ScOwns w7 (w3).heap.size x7 (scIns R y) := by
            unfold scIns; rw [HPOS.out]; unfold ScOwns OwnsR
            rw [List.length_append, List.length_cons, List.flatMap_append, List.flatMap_cons]
            have h7 := ho7
            simp only [List.length_cons, List.length_nil, List.flatMap_cons, List.flatMap_nil, List.append_nil, List.nil_append, Nat.zero_add, List.append_assoc] at h7
            rw [show (R.take (k)).length + ((R.drop (k)).length + 1) = (R.take (k)).length + 1 + (R.drop (k)).length by omega]
            exact h7
          have hoF : ScOwns w7 w.heap.size x7 (scIns R y) := ownsR_base hoF0 hwq2
          clear hHeld HA HBc HS2 hab ho5 hg5 hb5 ho6 hg6 hb6 ho7 hg7 hb7 hoF0 hBq
          go_wp2_with fail
          go_ret
          exact ⟨_, rfl, hoF, hB7⟩
    · have HPOS : Hid (scIPos R y = k) := by
        have e : k = R.length := by omega
        show _ = _; rw [scIPos_end (by rw [← e]; exact hlow), e]
      have hd : decide ((k : Int) < (R.length : Int)) = false := by simp; omega
      go_wp2_with fail
      refine wp_region_held_drew (S := (fun _ => True)) (by kernel_rfl) (by trivial) (fun hHeld => ?_)
      refine takeH (i := 0) (d := (some 6)) (v := ?_) rfl rfl (by kernel_rfl) (by kernel_rfl) (by kernel_rfl) (fun _ _ _ h => h) (by kernel_rfl) ?_ (by assumption) ?_
      rotate_left
      · (intro w hSw; (try dsimp only at hSw); go_simp; try with_reducible rfl)
      try simp only [Act.put, List.setIfInBounds_toArray, List.set_cons_succ, List.set_cons_zero]
      refine takeH (i := 1) (d := (some 7)) (v := ?_) rfl rfl (by kernel_rfl) (by kernel_rfl) (by kernel_rfl) (fun _ _ _ h => h) (by kernel_rfl) ?_ (by assumption) ?_
      rotate_left
      · (intro w hSw; (try dsimp only at hSw); go_simp; try with_reducible rfl)
      try simp only [Act.put, List.setIfInBounds_toArray, List.set_cons_succ, List.set_cons_zero]
      refine takeH (i := 2) (d := (some 8)) (v := ?_) rfl rfl (by kernel_rfl) (by kernel_rfl) (by kernel_rfl) (fun _ _ _ h => h) (by kernel_rfl) ?_ (by assumption) ?_
      rotate_left
      · (intro w hSw; (try dsimp only at hSw); go_simp; try with_reducible rfl)
      try simp only [Act.put, List.setIfInBounds_toArray, List.set_cons_succ, List.set_cons_zero]
      refine takeH (i := 3) (d := (some 9)) (v := ?_) rfl rfl (by kernel_rfl) (by kernel_rfl) (by kernel_rfl) (fun _ _ _ h => h) (by kernel_rfl) ?_ (by assumption) ?_
      rotate_left
      · (intro w hSw; (try dsimp only at hSw); go_simp; try with_reducible rfl)
      try simp only [Act.put, List.setIfInBounds_toArray, List.set_cons_succ, List.set_cons_zero]
      refine takeH (i := 4) (d := (some 10)) (v := ?_) rfl rfl (by kernel_rfl) (by kernel_rfl) (by kernel_rfl) (fun _ _ _ h => h) (by kernel_rfl) ?_ (by assumption) ?_
      rotate_left
      · (intro w hSw; (try dsimp only at hSw); go_simp; try with_reducible rfl)
      try simp only [Act.put, List.setIfInBounds_toArray, List.set_cons_succ, List.set_cons_zero]
      refine skipH (i := 5) (d := (some 11)) rfl rfl (by kernel_rfl) (by kernel_rfl) (by kernel_rfl) (fun _ _ _ h => h) (by kernel_rfl) (by assumption) ?_
      try simp only [Act.put, List.setIfInBounds_toArray, List.set_cons_succ, List.set_cons_zero]
      refine skipH (i := 6) (d := (some 12)) rfl rfl (by kernel_rfl) (by kernel_rfl) (by kernel_rfl) (fun _ _ _ h => h) (by kernel_rfl) (by assumption) ?_
      try simp only [Act.put, List.setIfInBounds_toArray, List.set_cons_succ, List.set_cons_zero]
      refine skipH (i := 7) (d := (some 13)) rfl rfl (by kernel_rfl) (by kernel_rfl) (by kernel_rfl) (fun _ _ _ h => h) (by kernel_rfl) (by assumption) ?_
      try simp only [Act.put, List.setIfInBounds_toArray, List.set_cons_succ, List.set_cons_zero]
      refine skipH (i := 8) (d := (some 14)) rfl rfl (by kernel_rfl) (by kernel_rfl) (by kernel_rfl) (fun _ _ _ h => h) (by kernel_rfl) (by assumption) ?_
      try simp only [Act.put, List.setIfInBounds_toArray, List.set_cons_succ, List.set_cons_zero]
      refine skipH (i := 9) (d := (some 15)) rfl rfl (by kernel_rfl) (by kernel_rfl) (by kernel_rfl) (fun _ _ _ h => h) (by kernel_rfl) (by assumption) ?_
      try simp only [Act.put, List.setIfInBounds_toArray, List.set_cons_succ, List.set_cons_zero]
      refine skipH (i := 10) (d := (some 16)) rfl rfl (by kernel_rfl) (by kernel_rfl) (by kernel_rfl) (fun _ _ _ h => h) (by kernel_rfl) (by assumption) ?_
      try simp only [Act.put, List.setIfInBounds_toArray, List.set_cons_succ, List.set_cons_zero]
      refine takeH (i := 11) (d := (some 17)) (v := ?_) rfl rfl (by kernel_rfl) (by kernel_rfl) (by kernel_rfl) (fun _ _ _ h => h) (by kernel_rfl) ?_ (by assumption) ?_
      rotate_left
      · (intro w hSw; (try dsimp only at hSw); go_simp; try with_reducible rfl)
      try simp only [Act.put, List.setIfInBounds_toArray, List.set_cons_succ, List.set_cons_zero]
      refine wpAnyH_done (by kernel_rfl) ?_ _
      clear hHeld hd
      go_wp2_with fail
      have hbq : Below w2.heap.size w2 wr.drew := hbr.drew
      clear hpr hor hbr hszr
      generalize wr.drew = wq at hbq ⊢
      have hoq := ownsR_kept ho2 hbq
      have hpq := sc_cell_kept hp2 hbq (by omega)
      have hqz := (hbq).size
      have hgq : g < (wq).heap.size := (World.ownsRow.lt hoq g rfl).2
      have hwq : w.heap.size < (wq).heap.size := by omega
      have hwq2 : w.heap.size ≤ (wq).heap.size := by omega
      have hrq := readsR_at (ownsR_reads scC_len hoq)
      have hBq : Below w.heap.size w (wq) := hB2.trans ((hbq).mono (by omega))
      have HA : Hid (ReadsR scC 2 (wq) (.slice (some ⟨g, 0, none⟩) (k) c2) (R.take (k))) := by
        have := readsR_cut (sz := 2) (c := scC) hgq hgb hgz hrq (ao := some ⟨g, 0, none⟩) (a := 0) (e := k) (n := k) (k := c2) (fun _ => by simp) (by simp) (Nat.zero_le _) (by omega) (by omega) (by omega)
        rw [List.drop_zero] at this; exact this
      obtain ⟨ab, hab⟩ : ∃ ab, (if c2 = k then some (⟨g, 0, none⟩ : Addr) else some ⟨g, (k) * 2, none⟩) = ab := ⟨_, rfl⟩
      have HBc : Hid (ReadsR scC 2 (wq) (.slice ab (R.length - (k)) (c2 - (k))) (R.drop (k))) := by
        have := readsR_cut (sz := 2) (c := scC) hgq hgb hgz hrq (ao := ab) (a := k) (e := R.length) (n := R.length - (k)) (k := c2 - (k)) (fun h => by rw [← hab, if_neg h]; simp) (by rw [← hab]; split <;> simp) (by omega) (Nat.le_refl _) rfl rfl
        rw [List.take_length] at this; exact this
      have HS2 : Hid (∀ w', Below (wq).heap.size (wq) w' → (w'.cell? ⟨w.heap.size, 0, none⟩ = some (.string y.1) ∧ w'.cell? ⟨w.heap.size, 1, none⟩ = some (.int .i64 y.2))) := fun w' h => ⟨(h.cell (p := ⟨w.heap.size, 0, none⟩) hwq).trans hpq.1, (h.cell (p := ⟨w.heap.size, 1, none⟩) hwq).trans hpq.2⟩
      have hj1 : ((k : Nat) : Int) ≤ (c2 : Int) := by omega
      have hj2 : ((k : Nat) : Int) ≤ (R.length : Int) := by omega
      have hj3 : (R.length : Int) ≤ (c2 : Int) := by omega
      have hRl : R.length ≤ 1048576 := hrl
      have hlw : ∀ (A : Array Value), A.size = 0 → Below (wq).heap.size (wq) ((wq).alloc (.cells A 36)) := fun A _ => (Below.refl _ _).alloc (Nat.le_refl _) _
      clear hoq hpq hrq hlw
      have hlitB : (((wq).alloc (.cells #[.string y.1, .int .i64 y.2] 36)).alloc (.cells #[] 36)).ownsRow (wq).heap.size 36 2 (.slice (some ⟨(wq).heap.size + 1, 0, none⟩) 0 0) 0 [] := by
        have := World.ownsRow_lit (base := (wq).heap.size) (e := 36) (size := 2) ((wq).alloc (.cells #[.string y.1, .int .i64 y.2] 36)) #[] 0 (by simp) (by simp) rfl
        rw [World.size_alloc] at this; exact this
      refine wp_region_held_drew (S := (fun w' => w'.cell? ⟨w.heap.size, 0, none⟩ = some (.string y.1) ∧ w'.cell? ⟨w.heap.size, 1, none⟩ = some (.int .i64 y.2))) (by kernel_rfl) (by exact HS2.out _ (Below.refl _ _).drew) (fun hHeld => ?_)
      refine takeH (i := 1) (d := (some 21)) (v := ?_) rfl rfl (by kernel_rfl) (by kernel_rfl) (by kernel_rfl) (fun _ _ _ h => h) (by kernel_rfl) ?_ (by assumption) ?_
      rotate_left
      · (intro w hSw; (try dsimp only at hSw); go_simp; try with_reducible rfl)
      try simp only [Act.put, List.setIfInBounds_toArray, List.set_cons_succ, List.set_cons_zero]
      refine takeH (i := 2) (d := (some 22)) (v := ?_) rfl rfl (by kernel_rfl) (by kernel_rfl) (by kernel_rfl) (fun _ _ _ h => h) (by kernel_rfl) ?_ (by assumption) ?_
      rotate_left
      · (intro w hSw; (try dsimp only at hSw); go_simp; try with_reducible rfl)
      try simp only [Act.put, List.setIfInBounds_toArray, List.set_cons_succ, List.set_cons_zero]
      refine takeH (i := 3) (d := (some 23)) (v := ?_) rfl rfl (by kernel_rfl) (by kernel_rfl) (by kernel_rfl) (fun _ _ _ h => h) (by kernel_rfl) ?_ (by assumption) ?_
      rotate_left
      · (intro w hSw; (try dsimp only at hSw); go_simp; try with_reducible rfl)
      try simp only [Act.put, List.setIfInBounds_toArray, List.set_cons_succ, List.set_cons_zero]
      refine takeH (i := 5) (d := (some 25)) (v := ?_) rfl rfl (by kernel_rfl) (by kernel_rfl) (by kernel_rfl) (fun _ _ _ h => h) (by kernel_rfl) ?_ (by assumption) ?_
      rotate_left
      · (intro w hSw; (try dsimp only at hSw); go_simp; try with_reducible rfl)
      try simp only [Act.put, List.setIfInBounds_toArray, List.set_cons_succ, List.set_cons_zero]
      refine takeH (i := 8) (d := (some 28)) (v := ?_) rfl rfl (by kernel_rfl) (by kernel_rfl) (by kernel_rfl) (fun _ _ _ h => h) (by kernel_rfl) ?_ (by assumption) ?_
      rotate_left
      · (intro w hSw; (try dsimp only at hSw); go_simp; try with_reducible rfl)
      try simp only [Act.put, List.setIfInBounds_toArray, List.set_cons_succ, List.set_cons_zero]
      refine takeH (i := 9) (d := (some 29)) (v := ?_) rfl rfl (by kernel_rfl) (by kernel_rfl) (by kernel_rfl) (fun _ _ _ h => h) (by kernel_rfl) ?_ (by assumption) ?_
      rotate_left
      · (intro w hSw; (try dsimp only at hSw); go_simp; try with_reducible rfl)
      try simp only [Act.put, List.setIfInBounds_toArray, List.set_cons_succ, List.set_cons_zero]
      refine takeH (i := 10) (d := (some 30)) (v := ?_) rfl rfl (by kernel_rfl) (by kernel_rfl) (by kernel_rfl) (fun _ _ _ h => h) (by kernel_rfl) ?_ (by assumption) ?_
      rotate_left
      · (intro w hSw; (try dsimp only at hSw); go_simp; try with_reducible rfl)
      try simp only [Act.put, List.setIfInBounds_toArray, List.set_cons_succ, List.set_cons_zero]
      refine wpAnyH_ready (rs := [0, 6]) (by kernel_rfl) (by simp) ?_
      refine AllReadyH.cons rfl (fun K hK => ?_) (AllReadyH.cons rfl (fun K hK => ?_) AllReadyH.nil)
      · go_simp
        refine hK.out _ _ ?_ (fun hHeld => ?_)
        · exact HS2.out _ ((Below.refl (wq).heap.size (wq)).alloc (Nat.le_refl _) (.cells #[] 36)).drew
        clear hK K
        (try simp only [Act.put]); (try simp only [List.setIfInBounds_toArray]); (try simp only [List.set_cons_succ]); (try simp only [List.set_cons_zero])
        refine wpAnyH_ready (rs := [4, 6]) (by kernel_rfl) (by simp) ?_
        refine AllReadyH.cons rfl (fun K hK => ?_) (AllReadyH.cons rfl (fun K hK => ?_) AllReadyH.nil)
        · refine step_append_R (c := scC) (d := some 24) rfl rfl (.tmp 20) (.tmp 23) 24 rfl (wq).heap.size 36 i0 _ 2 24 Try.underlying24 hi0 hz0 hz1 hz2 rfl (by decide) _ _ _ rfl (World.ownsRow.drew (World.ownsRow_lit (wq) #[] 0 (Nat.le_refl _) (by simp) rfl)) _ rfl (R.take (k)) (readsR_kept HA.out ((Below.refl (wq).heap.size (wq)).alloc (Nat.le_refl _) (.cells #[] 36)).drew) scC_len scC_one (by unfold maxLen; simp; omega) (by simp; omega) (by simp) ?_
          intro x5 w5 ho5 hg5
          have hb5 : Below (wq).heap.size (wq) w5 := Below.grown ((Below.refl (wq).heap.size (wq)).alloc (Nat.le_refl _) (.cells #[] 36)).drew hg5 (by simp) (fun k hk => by cases hk; exact Nat.le_refl _)
          refine hK.out _ _ ?_ (fun hHeld => ?_)
          · exact HS2.out _ hb5
          clear hK K
          (try simp only [Act.put]); (try simp only [List.setIfInBounds_toArray]); (try simp only [List.set_cons_succ]); (try simp only [List.set_cons_zero])
          have hz5 := hb5.size
          refine wpAnyH_ready (rs := [6]) (by kernel_rfl) (by simp) ?_
          refine AllReadyH.cons rfl (fun K hK => ?_) AllReadyH.nil
          go_simp
          refine hK.out _ _ ?_ (fun hHeld => ?_)
          · exact HS2.out _ (hb5.alloc hz5 (.cells #[.string y.1, .int .i64 y.2] 36))
          clear hK K
          (try simp only [Act.put]); (try simp only [List.setIfInBounds_toArray]); (try simp only [List.set_cons_succ]); (try simp only [List.set_cons_zero])
          refine wpAnyH_ready (rs := [7]) (by kernel_rfl) (by simp) ?_
          refine AllReadyH.cons rfl (fun K hK => ?_) AllReadyH.nil
          refine step_append_R (c := scC) (d := some 27) rfl rfl (.tmp 24) (.tmp 26) 24 rfl (wq).heap.size 36 i0 _ 2 24 Try.underlying24 hi0 hz0 hz1 hz2 rfl (by decide) _ _ _ rfl (World.ownsRow.alloc ho5 (.cells #[.string y.1, .int .i64 y.2] 36)) _ rfl [y] (sc_one_at (heap_alloc_new w5 (.cells #[.string y.1, .int .i64 y.2] 36))) scC_len scC_one (by unfold maxLen; simp; omega) (by simp; omega) (by simp; omega) ?_
          intro x6 w6 ho6 hg6
          have hb6 : Below (wq).heap.size (wq) w6 := Below.grown (hb5.alloc hz5 (.cells #[.string y.1, .int .i64 y.2] 36)) hg6 (by simp; omega) (fun k hk => (ho5.lt k hk).1)
          refine hK.out _ _ ?_ (fun hHeld => ?_)
          · exact HS2.out _ hb6
          clear hK K
          (try simp only [Act.put]); (try simp only [List.setIfInBounds_toArray]); (try simp only [List.set_cons_succ]); (try simp only [List.set_cons_zero])
          have hz6 := hb6.size
          refine wpAnyH_ready (rs := [11]) (by kernel_rfl) (by simp) ?_
          refine AllReadyH.cons rfl (fun K hK => ?_) AllReadyH.nil
          refine step_append_R (c := scC) (d := some 31) rfl rfl (.tmp 27) (.tmp 30) 24 rfl (wq).heap.size 36 i0 _ 2 24 Try.underlying24 hi0 hz0 hz1 hz2 rfl (by decide) _ _ _ rfl ho6 _ rfl (R.drop (k)) (readsR_kept HBc.out hb6) scC_len scC_one (by unfold maxLen; simp; omega) (by simp; omega) hz6 ?_
          intro x7 w7 ho7 hg7
          have hb7 : Below (wq).heap.size (wq) w7 := Below.grown hb6 hg7 hz6 (fun k hk => (ho6.lt k hk).1)
          refine hK.out _ _ ?_ (fun hHeld => ?_)
          · exact HS2.out _ hb7
          clear hK K
          (try simp only [Act.put]); (try simp only [List.setIfInBounds_toArray]); (try simp only [List.set_cons_succ]); (try simp only [List.set_cons_zero])
          refine takeH (i := 12) (d := (some 4)) (v := ?_) rfl rfl (by kernel_rfl) (by kernel_rfl) (by kernel_rfl) (fun _ _ _ h => h) (by kernel_rfl) ?_ (by assumption) ?_
          rotate_left
          · (intro w hSw; (try dsimp only at hSw); go_simp; try with_reducible rfl)
          (try simp only [Act.put]); (try simp only [List.setIfInBounds_toArray]); (try simp only [List.set_cons_succ]); (try simp only [List.set_cons_zero])
          refine wpAnyH_done (by kernel_rfl) ?_ _
          have hB7 : Below w.heap.size w w7 := hBq.trans (hb7.mono (by omega))
          have hoF0 : ScOwns w7 (wq).heap.size x7 (scIns R y) := by
            unfold scIns; rw [HPOS.out]; unfold ScOwns OwnsR
            rw [List.length_append, List.length_cons, List.flatMap_append, List.flatMap_cons]
            have h7 := ho7
            simp only [List.length_cons, List.length_nil, List.flatMap_cons, List.flatMap_nil, List.append_nil, List.nil_append, Nat.zero_add, List.append_assoc] at h7
            rw [show (R.take (k)).length + ((R.drop (k)).length + 1) = (R.take (k)).length + 1 + (R.drop (k)).length by omega]
            exact h7
          have hoF : ScOwns w7 w.heap.size x7 (scIns R y) := ownsR_base hoF0 hwq2
          clear hHeld HA HBc HS2 hab ho5 hg5 hb5 ho6 hg6 hb6 ho7 hg7 hb7 hoF0 hBq
          go_wp2_with fail
          go_ret
          exact ⟨_, rfl, hoF, hB7⟩
        · go_simp
          refine hK.out _ _ ?_ (fun hHeld => ?_)
          · exact HS2.out _ (((Below.refl (wq).heap.size (wq)).alloc (Nat.le_refl _) (.cells #[] 36)).alloc (by simp) (.cells #[.string y.1, .int .i64 y.2] 36)).drew
          clear hK K
          (try simp only [Act.put]); (try simp only [List.setIfInBounds_toArray]); (try simp only [List.set_cons_succ]); (try simp only [List.set_cons_zero])
          refine wpAnyH_ready (rs := [4]) (by kernel_rfl) (by simp) ?_
          refine AllReadyH.cons rfl (fun K hK => ?_) AllReadyH.nil
          refine step_append_R (c := scC) (d := some 24) rfl rfl (.tmp 20) (.tmp 23) 24 rfl (wq).heap.size 36 i0 _ 2 24 Try.underlying24 hi0 hz0 hz1 hz2 rfl (by decide) _ _ _ rfl (World.ownsRow.drew (World.ownsRow.alloc (World.ownsRow_lit (wq) #[] 0 (Nat.le_refl _) (by simp) rfl) (.cells #[.string y.1, .int .i64 y.2] 36))) _ rfl (R.take (k)) (readsR_kept HA.out (((Below.refl (wq).heap.size (wq)).alloc (Nat.le_refl _) (.cells #[] 36)).alloc (by simp) (.cells #[.string y.1, .int .i64 y.2] 36)).drew) scC_len scC_one (by unfold maxLen; simp; omega) (by simp; omega) (by simp; omega) ?_
          intro x5 w5 ho5 hg5
          have hb5 : Below (wq).heap.size (wq) w5 := Below.grown (((Below.refl (wq).heap.size (wq)).alloc (Nat.le_refl _) (.cells #[] 36)).alloc (by simp) (.cells #[.string y.1, .int .i64 y.2] 36)).drew hg5 (by simp; omega) (fun k hk => by cases hk; exact Nat.le_refl _)
          refine hK.out _ _ ?_ (fun hHeld => ?_)
          · exact HS2.out _ hb5
          clear hK K
          (try simp only [Act.put]); (try simp only [List.setIfInBounds_toArray]); (try simp only [List.set_cons_succ]); (try simp only [List.set_cons_zero])
          have hz5 := hb5.size
          have hq5 : w5.heap[(wq).heap.size + 1]? = some (.cells #[.string y.1, .int .i64 y.2] 36) := (hg5.block ((wq).heap.size + 1) (by simp) (show some ((wq).heap.size + 1) ≠ some (wq).heap.size by simp)).trans (heap_alloc2_new (wq) (.cells #[] 36) (.cells #[.string y.1, .int .i64 y.2] 36))
          refine wpAnyH_ready (rs := [7]) (by kernel_rfl) (by simp) ?_
          refine AllReadyH.cons rfl (fun K hK => ?_) AllReadyH.nil
          refine step_append_R (c := scC) (d := some 27) rfl rfl (.tmp 24) (.tmp 26) 24 rfl (wq).heap.size 36 i0 _ 2 24 Try.underlying24 hi0 hz0 hz1 hz2 rfl (by decide) _ _ _ rfl ho5 _ rfl [y] (sc_one_at hq5) scC_len scC_one (by unfold maxLen; simp; omega) (by simp; omega) hz5 ?_
          intro x6 w6 ho6 hg6
          have hb6 : Below (wq).heap.size (wq) w6 := Below.grown hb5 hg6 hz5 (fun k hk => (ho5.lt k hk).1)
          refine hK.out _ _ ?_ (fun hHeld => ?_)
          · exact HS2.out _ hb6
          clear hK K
          (try simp only [Act.put]); (try simp only [List.setIfInBounds_toArray]); (try simp only [List.set_cons_succ]); (try simp only [List.set_cons_zero])
          have hz6 := hb6.size
          refine wpAnyH_ready (rs := [11]) (by kernel_rfl) (by simp) ?_
          refine AllReadyH.cons rfl (fun K hK => ?_) AllReadyH.nil
          refine step_append_R (c := scC) (d := some 31) rfl rfl (.tmp 27) (.tmp 30) 24 rfl (wq).heap.size 36 i0 _ 2 24 Try.underlying24 hi0 hz0 hz1 hz2 rfl (by decide) _ _ _ rfl ho6 _ rfl (R.drop (k)) (readsR_kept HBc.out hb6) scC_len scC_one (by unfold maxLen; simp; omega) (by simp; omega) hz6 ?_
          intro x7 w7 ho7 hg7
          have hb7 : Below (wq).heap.size (wq) w7 := Below.grown hb6 hg7 hz6 (fun k hk => (ho6.lt k hk).1)
          refine hK.out _ _ ?_ (fun hHeld => ?_)
          · exact HS2.out _ hb7
          clear hK K
          (try simp only [Act.put]); (try simp only [List.setIfInBounds_toArray]); (try simp only [List.set_cons_succ]); (try simp only [List.set_cons_zero])
          refine takeH (i := 12) (d := (some 4)) (v := ?_) rfl rfl (by kernel_rfl) (by kernel_rfl) (by kernel_rfl) (fun _ _ _ h => h) (by kernel_rfl) ?_ (by assumption) ?_
          rotate_left
          · (intro w hSw; (try dsimp only at hSw); go_simp; try with_reducible rfl)
          (try simp only [Act.put]); (try simp only [List.setIfInBounds_toArray]); (try simp only [List.set_cons_succ]); (try simp only [List.set_cons_zero])
          refine wpAnyH_done (by kernel_rfl) ?_ _
          have hB7 : Below w.heap.size w w7 := hBq.trans (hb7.mono (by omega))
          have hoF0 : ScOwns w7 (wq).heap.size x7 (scIns R y) := by
            unfold scIns; rw [HPOS.out]; unfold ScOwns OwnsR
            rw [List.length_append, List.length_cons, List.flatMap_append, List.flatMap_cons]
            have h7 := ho7
            simp only [List.length_cons, List.length_nil, List.flatMap_cons, List.flatMap_nil, List.append_nil, List.nil_append, Nat.zero_add, List.append_assoc] at h7
            rw [show (R.take (k)).length + ((R.drop (k)).length + 1) = (R.take (k)).length + 1 + (R.drop (k)).length by omega]
            exact h7
          have hoF : ScOwns w7 w.heap.size x7 (scIns R y) := ownsR_base hoF0 hwq2
          clear hHeld HA HBc HS2 hab ho5 hg5 hb5 ho6 hg6 hb6 ho7 hg7 hb7 hoF0 hBq
          go_wp2_with fail
          go_ret
          exact ⟨_, rfl, hoF, hB7⟩
      · go_simp
        refine hK.out _ _ ?_ (fun hHeld => ?_)
        · exact HS2.out _ ((Below.refl (wq).heap.size (wq)).alloc (Nat.le_refl _) (.cells #[.string y.1, .int .i64 y.2] 36)).drew
        clear hK K
        (try simp only [Act.put]); (try simp only [List.setIfInBounds_toArray]); (try simp only [List.set_cons_succ]); (try simp only [List.set_cons_zero])
        refine wpAnyH_ready (rs := [0]) (by kernel_rfl) (by simp) ?_
        refine AllReadyH.cons rfl (fun K hK => ?_) AllReadyH.nil
        go_simp
        refine hK.out _ _ ?_ (fun hHeld => ?_)
        · exact HS2.out _ (((Below.refl (wq).heap.size (wq)).alloc (Nat.le_refl _) (.cells #[.string y.1, .int .i64 y.2] 36)).alloc (by simp) (.cells #[] 36)).drew
        clear hK K
        (try simp only [Act.put]); (try simp only [List.setIfInBounds_toArray]); (try simp only [List.set_cons_succ]); (try simp only [List.set_cons_zero])
        refine wpAnyH_ready (rs := [4]) (by kernel_rfl) (by simp) ?_
        refine AllReadyH.cons rfl (fun K hK => ?_) AllReadyH.nil
        refine step_append_R (c := scC) (d := some 24) rfl rfl (.tmp 20) (.tmp 23) 24 rfl (wq).heap.size 36 i0 _ 2 24 Try.underlying24 hi0 hz0 hz1 hz2 rfl (by decide) _ _ _ rfl (World.ownsRow.drew hlitB) _ rfl (R.take (k)) (readsR_kept HA.out (((Below.refl (wq).heap.size (wq)).alloc (Nat.le_refl _) (.cells #[.string y.1, .int .i64 y.2] 36)).alloc (by simp) (.cells #[] 36)).drew) scC_len scC_one (by unfold maxLen; simp; omega) (by simp; omega) (by simp; omega) ?_
        intro x5 w5 ho5 hg5
        have hb5 : Below (wq).heap.size (wq) w5 := Below.grown (((Below.refl (wq).heap.size (wq)).alloc (Nat.le_refl _) (.cells #[.string y.1, .int .i64 y.2] 36)).alloc (by simp) (.cells #[] 36)).drew hg5 (by simp; omega) (fun k hk => by cases hk; simp)
        refine hK.out _ _ ?_ (fun hHeld => ?_)
        · exact HS2.out _ hb5
        clear hK K
        (try simp only [Act.put]); (try simp only [List.setIfInBounds_toArray]); (try simp only [List.set_cons_succ]); (try simp only [List.set_cons_zero])
        have hz5 := hb5.size
        have hq5 : w5.heap[(wq).heap.size]? = some (.cells #[.string y.1, .int .i64 y.2] 36) := (hg5.block (wq).heap.size (by simp; omega) (show some (wq).heap.size ≠ some ((wq).heap.size + 1) by simp)).trans ((Below.heap_alloc ((wq).alloc (.cells #[.string y.1, .int .i64 y.2] 36)) (.cells #[] 36) (wq).heap.size (by simp)).trans (heap_alloc_new (wq) (.cells #[.string y.1, .int .i64 y.2] 36)))
        refine wpAnyH_ready (rs := [7]) (by kernel_rfl) (by simp) ?_
        refine AllReadyH.cons rfl (fun K hK => ?_) AllReadyH.nil
        refine step_append_R (c := scC) (d := some 27) rfl rfl (.tmp 24) (.tmp 26) 24 rfl (wq).heap.size 36 i0 _ 2 24 Try.underlying24 hi0 hz0 hz1 hz2 rfl (by decide) _ _ _ rfl ho5 _ rfl [y] (sc_one_at hq5) scC_len scC_one (by unfold maxLen; simp; omega) (by simp; omega) hz5 ?_
        intro x6 w6 ho6 hg6
        have hb6 : Below (wq).heap.size (wq) w6 := Below.grown hb5 hg6 hz5 (fun k hk => (ho5.lt k hk).1)
        refine hK.out _ _ ?_ (fun hHeld => ?_)
        · exact HS2.out _ hb6
        clear hK K
        (try simp only [Act.put]); (try simp only [List.setIfInBounds_toArray]); (try simp only [List.set_cons_succ]); (try simp only [List.set_cons_zero])
        have hz6 := hb6.size
        refine wpAnyH_ready (rs := [11]) (by kernel_rfl) (by simp) ?_
        refine AllReadyH.cons rfl (fun K hK => ?_) AllReadyH.nil
        refine step_append_R (c := scC) (d := some 31) rfl rfl (.tmp 27) (.tmp 30) 24 rfl (wq).heap.size 36 i0 _ 2 24 Try.underlying24 hi0 hz0 hz1 hz2 rfl (by decide) _ _ _ rfl ho6 _ rfl (R.drop (k)) (readsR_kept HBc.out hb6) scC_len scC_one (by unfold maxLen; simp; omega) (by simp; omega) hz6 ?_
        intro x7 w7 ho7 hg7
        have hb7 : Below (wq).heap.size (wq) w7 := Below.grown hb6 hg7 hz6 (fun k hk => (ho6.lt k hk).1)
        refine hK.out _ _ ?_ (fun hHeld => ?_)
        · exact HS2.out _ hb7
        clear hK K
        (try simp only [Act.put]); (try simp only [List.setIfInBounds_toArray]); (try simp only [List.set_cons_succ]); (try simp only [List.set_cons_zero])
        refine takeH (i := 12) (d := (some 4)) (v := ?_) rfl rfl (by kernel_rfl) (by kernel_rfl) (by kernel_rfl) (fun _ _ _ h => h) (by kernel_rfl) ?_ (by assumption) ?_
        rotate_left
        · (intro w hSw; (try dsimp only at hSw); go_simp; try with_reducible rfl)
        (try simp only [Act.put]); (try simp only [List.setIfInBounds_toArray]); (try simp only [List.set_cons_succ]); (try simp only [List.set_cons_zero])
        refine wpAnyH_done (by kernel_rfl) ?_ _
        have hB7 : Below w.heap.size w w7 := hBq.trans (hb7.mono (by omega))
        have hoF0 : ScOwns w7 (wq).heap.size x7 (scIns R y) := by
          unfold scIns; rw [HPOS.out]; unfold ScOwns OwnsR
          rw [List.length_append, List.length_cons, List.flatMap_append, List.flatMap_cons]
          have h7 := ho7
          simp only [List.length_cons, List.length_nil, List.flatMap_cons, List.flatMap_nil, List.append_nil, List.nil_append, Nat.zero_add, List.append_assoc] at h7
          rw [show (R.take (k)).length + ((R.drop (k)).length + 1) = (R.take (k)).length + 1 + (R.drop (k)).length by omega]
          exact h7
        have hoF : ScOwns w7 w.heap.size x7 (scIns R y) := ownsR_base hoF0 hwq2
        clear hHeld HA HBc HS2 hab ho5 hg5 hb5 ho6 hg6 hb6 ho7 hg7 hb7 hoF0 hBq
        go_wp2_with fail
        go_ret
        exact ⟨_, rfl, hoF, hB7⟩
end Go.Proofs.Ytndegickekjkjaa
