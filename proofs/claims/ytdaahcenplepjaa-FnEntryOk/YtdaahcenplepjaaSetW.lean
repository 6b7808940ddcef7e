/- The model's l2Put: a text among others, ascending, once: the walk. -/
import Derived.Test.YtdaahcenplepjaaSetV
namespace Go.Proofs.Ytdaahcenplepjaa
open Go.RowKit

theorem tx_one_at {w : World} {B : Nat} {s : ByteArray} {t : TypeId} {fr : Nat × Nat} (h : w.heap[B]? = some (.cells #[.string s] t fr)) : ReadsR tx 1 w (.slice (some ⟨B, 0, none⟩) 1 1) [s] := by
  refine .inr ⟨by simp, B, 0, 1, rfl, (Array.getElem?_eq_some_iff.1 h).1, by simp, by unfold maxLen; omega, fun k x hk => ?_⟩
  match k, hk with
  | 0, hk =>
    cases hk
    intro j u hu
    rw [Nat.zero_mul, Nat.zero_add, cell_of_row _ _ _ _ _ _ h]
    match j, hu with
    | 0, hu => cases hu; rfl
    | j + 1, hu => simp [tx] at hu
  | k + 1, hk => simp at hk

set_option maxHeartbeats 8000000 in
set_option maxRecDepth 20000 in
theorem l2Put_any (v : Value) (l : List ByteArray) (s : ByteArray) (base : Nat) (w : World) (ho : Owns w base v l) (hbase : base ≤ w.heap.size) (hlen : l.length ≤ 4194304) :
    Calls Try.prog 34 #[v, .string s] w fun e w' => ∃ x, e = .returned x ∧ Owns w' base x (putM l s) ∧ Below w.heap.size w w' := by
  obtain ⟨i0, hi0, hz0, hz1, hz2⟩ := info_parts infoS
  have hlitB : ((w.alloc (.cells #[.string s] 9)).alloc (.cells #[] 9)).ownsRow w.heap.size 9 1 (.slice (some ⟨w.heap.size + 1, 0, none⟩) 0 0) 0 [] := by
    have := World.ownsRow_lit (base := w.heap.size) (e := 9) (size := 1) (w.alloc (.cells #[.string s] 9)) #[] 0 (by simp) (by simp) rfl
    rw [World.size_alloc] at this; exact this
  rcases ho.2 with ⟨hv, h0⟩ | ⟨g, c2, cur, hv, hgbase, hgbk, hgb, hgz, _⟩
  · subst hv
    have hl0 : l = [] := List.length_eq_zero_iff.1 h0
    have HPUT : Hid (putM l s = l.take 0 ++ s :: l.drop 0) := by show _ = _; rw [hl0]; exact putM_end (l := []) (fun j hj => by simp at hj)
    have HA : Hid (ReadsR tx 1 w (.slice none 0 0) (l.take 0)) := .inl ⟨rfl, none, 0, rfl, fun _ => rfl⟩
    have HBc : Hid (ReadsR tx 1 w (.slice none 0 0) (l.drop 0)) := .inl ⟨by rw [hl0]; rfl, none, 0, rfl, fun _ => rfl⟩
    clear hl0 ho
    go_enter Try.func34, Try.ntmps34
    go_wp2_with fail
    refine wp_loop_rounds 1 ?_
    rw [rounds_succ]
    go_wp2_with fail
    refine wp_region_held_drew (S := (fun _ => True)) (by kernel_rfl) (by exact True.intro) (fun hHeld => ?_)
    refine takeH (i := 1) (d := (some 34)) (v := ?_) rfl rfl (by kernel_rfl) (by kernel_rfl) (by kernel_rfl) (fun _ _ _ h => h) (by kernel_rfl) ?_ (by assumption) ?_
    rotate_left
    · (intro w hSw; (try dsimp only at hSw); go_simp; try with_reducible rfl)
    try simp only [Act.put, List.setIfInBounds_toArray, List.set_cons_succ, List.set_cons_zero]
    refine takeH (i := 2) (d := (some 35)) (v := ?_) rfl rfl (by kernel_rfl) (by kernel_rfl) (by kernel_rfl) (fun _ _ _ h => h) (by kernel_rfl) ?_ (by assumption) ?_
    rotate_left
    · (intro w hSw; (try dsimp only at hSw); go_simp; try with_reducible rfl)
    try simp only [Act.put, List.setIfInBounds_toArray, List.set_cons_succ, List.set_cons_zero]
    refine takeH (i := 3) (d := (some 36)) (v := ?_) rfl rfl (by kernel_rfl) (by kernel_rfl) (by kernel_rfl) (fun _ _ _ h => h) (by kernel_rfl) ?_ (by assumption) ?_
    rotate_left
    · (intro w hSw; (try dsimp only at hSw); go_simp; try with_reducible rfl)
    try simp only [Act.put, List.setIfInBounds_toArray, List.set_cons_succ, List.set_cons_zero]
    refine takeH (i := 5) (d := (some 38)) (v := ?_) rfl rfl (by kernel_rfl) (by kernel_rfl) (by kernel_rfl) (fun _ _ _ h => h) (by kernel_rfl) ?_ (by assumption) ?_
    rotate_left
    · (intro w hSw; (try dsimp only at hSw); go_simp; try with_reducible rfl)
    try simp only [Act.put, List.setIfInBounds_toArray, List.set_cons_succ, List.set_cons_zero]
    refine takeH (i := 8) (d := (some 41)) (v := ?_) rfl rfl (by kernel_rfl) (by kernel_rfl) (by kernel_rfl) (fun _ _ _ h => h) (by kernel_rfl) ?_ (by assumption) ?_
    rotate_left
    · (intro w hSw; (try dsimp only at hSw); go_simp; try with_reducible rfl)
    try simp only [Act.put, List.setIfInBounds_toArray, List.set_cons_succ, List.set_cons_zero]
    refine takeH (i := 9) (d := (some 42)) (v := ?_) rfl rfl (by kernel_rfl) (by kernel_rfl) (by kernel_rfl) (fun _ _ _ h => h) (by kernel_rfl) ?_ (by assumption) ?_
    rotate_left
    · (intro w hSw; (try dsimp only at hSw); go_simp; try with_reducible rfl)
    try simp only [Act.put, List.setIfInBounds_toArray, List.set_cons_succ, List.set_cons_zero]
    refine takeH (i := 10) (d := (some 43)) (v := ?_) rfl rfl (by kernel_rfl) (by kernel_rfl) (by kernel_rfl) (fun _ _ _ h => h) (by kernel_rfl) ?_ (by assumption) ?_
    rotate_left
    · (intro w hSw; (try dsimp only at hSw); go_simp; try with_reducible rfl)
    try simp only [Act.put, List.setIfInBounds_toArray, List.set_cons_succ, List.set_cons_zero]
    refine wpAnyH_ready (rs := [0, 6]) (by kernel_rfl) (by simp) ?_
    refine AllReadyH.cons rfl (fun K hK => ?_) (AllReadyH.cons rfl (fun K hK => ?_) AllReadyH.nil)
    · go_simp
      refine hK.out _ _ True.intro (fun hHeld => ?_)
      clear hK K
      (try simp only [Act.put]); (try simp only [List.setIfInBounds_toArray]); (try simp only [List.set_cons_succ]); (try simp only [List.set_cons_zero])
      refine wpAnyH_ready (rs := [4, 6]) (by kernel_rfl) (by simp) ?_
      refine AllReadyH.cons rfl (fun K hK => ?_) (AllReadyH.cons rfl (fun K hK => ?_) AllReadyH.nil)
      · refine step_append_R (c := tx) (d := some 37) rfl rfl (.tmp 33) (.tmp 36) 23 rfl w.heap.size 9 i0 _ 1 16 Try.underlying23 hi0 hz0 hz1 hz2 rfl (by decide) _ _ _ rfl (World.ownsRow.drew (World.ownsRow_lit w #[] 0 (Nat.le_refl _) (by simp) rfl)) _ rfl (l.take (0)) (readsR_kept HA.out ((Below.refl w.heap.size w).alloc (Nat.le_refl _) (.cells #[] 9)).drew) tx_len tx_one (by unfold maxLen; simp <;> omega) (by simp <;> omega) (by simp) ?_
        intro x5 w5 ho5 hg5
        have hb5 : Below w.heap.size w w5 := Below.grown ((Below.refl w.heap.size w).alloc (Nat.le_refl _) (.cells #[] 9)).drew hg5 (by simp) (fun k hk => by cases hk; exact Nat.le_refl _)
        refine hK.out _ _ True.intro (fun hHeld => ?_)
        clear hK K
        (try simp only [Act.put]); (try simp only [List.setIfInBounds_toArray]); (try simp only [List.set_cons_succ]); (try simp only [List.set_cons_zero])
        have hz5 := hb5.size
        refine wpAnyH_ready (rs := [6]) (by kernel_rfl) (by simp) ?_
        refine AllReadyH.cons rfl (fun K hK => ?_) AllReadyH.nil
        go_simp
        refine hK.out _ _ True.intro (fun hHeld => ?_)
        clear hK K
        (try simp only [Act.put]); (try simp only [List.setIfInBounds_toArray]); (try simp only [List.set_cons_succ]); (try simp only [List.set_cons_zero])
        refine wpAnyH_ready (rs := [7]) (by kernel_rfl) (by simp) ?_
        refine AllReadyH.cons rfl (fun K hK => ?_) AllReadyH.nil
        refine step_append_R (c := tx) (d := some 40) rfl rfl (.tmp 37) (.tmp 39) 23 rfl w.heap.size 9 i0 _ 1 16 Try.underlying23 hi0 hz0 hz1 hz2 rfl (by decide) _ _ _ rfl (World.ownsRow.alloc ho5 (.cells #[.string s] 9)) _ rfl ([s]) (tx_one_at (heap_alloc_new w5 (.cells #[.string s] 9))) tx_len tx_one (by unfold maxLen; simp <;> omega) (by simp <;> omega) (by simp; omega) ?_
        intro x6 w6 ho6 hg6
        have hb6 : Below w.heap.size w w6 := Below.grown (hb5.alloc hz5 (.cells #[.string s] 9)) hg6 (by simp; omega) (fun k hk => (ho5.lt k hk).1)
        refine hK.out _ _ True.intro (fun hHeld => ?_)
        clear hK K
        (try simp only [Act.put]); (try simp only [List.setIfInBounds_toArray]); (try simp only [List.set_cons_succ]); (try simp only [List.set_cons_zero])
        have hz6 := hb6.size
        refine wpAnyH_ready (rs := [11]) (by kernel_rfl) (by simp) ?_
        refine AllReadyH.cons rfl (fun K hK => ?_) AllReadyH.nil
        refine step_append_R (c := tx) (d := some 44) rfl rfl (.tmp 40) (.tmp 43) 23 rfl w.heap.size 9 i0 _ 1 16 Try.underlying23 hi0 hz0 hz1 hz2 rfl (by decide) _ _ _ rfl (ho6) _ rfl (l.drop (0)) (readsR_kept HBc.out hb6) tx_len tx_one (by unfold maxLen; simp <;> omega) (by simp <;> omega) hz6 ?_
        intro x7 w7 ho7 hg7
        have hb7 : Below w.heap.size w w7 := Below.grown hb6 hg7 hz6 (fun k hk => (ho6.lt k hk).1)
        refine hK.out _ _ True.intro (fun hHeld => ?_)
        clear hK K
        (try simp only [Act.put]); (try simp only [List.setIfInBounds_toArray]); (try simp only [List.set_cons_succ]); (try simp only [List.set_cons_zero])
        refine takeH (i := 12) (d := (some 4)) (v := ?_) rfl rfl (by kernel_rfl) (by kernel_rfl) (by kernel_rfl) (fun _ _ _ h => h) (by kernel_rfl) ?_ (by assumption) ?_
        rotate_left
        · (intro w hSw; (try dsimp only at hSw); go_simp; try with_reducible rfl)
        (try simp only [Act.put]); (try simp only [List.setIfInBounds_toArray]); (try simp only [List.set_cons_succ]); (try simp only [List.set_cons_zero])
        refine wpAnyH_done (by kernel_rfl) ?_ _
        have hoF : Owns w7 w.heap.size x7 (putM l s) := by
          rw [HPUT.out, owns_R]; unfold OwnsR
          rw [List.length_append, List.length_cons, List.flatMap_append, List.flatMap_cons]
          have h7 := ho7
          simp only [List.length_cons, List.length_nil, List.flatMap_cons, List.flatMap_nil, List.append_nil, List.nil_append, Nat.zero_add, List.append_assoc] at h7
          rw [show (l.take (0)).length + ((l.drop (0)).length + 1) = (l.take (0)).length + 1 + (l.drop (0)).length by omega]
          exact h7
        clear hHeld HA HBc ho5 hg5 hb5 ho6 hg6 hb6 ho7 hg7
        go_wp2_with fail
        go_ret
        exact ⟨_, rfl, owns_base hoF hbase, hb7⟩
      · go_simp
        refine hK.out _ _ True.intro (fun hHeld => ?_)
        clear hK K
        (try simp only [Act.put]); (try simp only [List.setIfInBounds_toArray]); (try simp only [List.set_cons_succ]); (try simp only [List.set_cons_zero])
        refine wpAnyH_ready (rs := [4]) (by kernel_rfl) (by simp) ?_
        refine AllReadyH.cons rfl (fun K hK => ?_) AllReadyH.nil
        refine step_append_R (c := tx) (d := some 37) rfl rfl (.tmp 33) (.tmp 36) 23 rfl w.heap.size 9 i0 _ 1 16 Try.underlying23 hi0 hz0 hz1 hz2 rfl (by decide) _ _ _ rfl (World.ownsRow.drew (World.ownsRow.alloc (World.ownsRow_lit w #[] 0 (Nat.le_refl _) (by simp) rfl) (.cells #[.string s] 9))) _ rfl (l.take (0)) (readsR_kept HA.out (((Below.refl w.heap.size w).alloc (Nat.le_refl _) (.cells #[] 9)).alloc (by simp) (.cells #[.string s] 9)).drew) tx_len tx_one (by unfold maxLen; simp <;> omega) (by simp <;> omega) (by simp; omega) ?_
        intro x5 w5 ho5 hg5
        have hb5 : Below w.heap.size w w5 := Below.grown (((Below.refl w.heap.size w).alloc (Nat.le_refl _) (.cells #[] 9)).alloc (by simp) (.cells #[.string s] 9)).drew hg5 (by simp; omega) (fun k hk => by cases hk; exact Nat.le_refl _)
        refine hK.out _ _ True.intro (fun hHeld => ?_)
        clear hK K
        (try simp only [Act.put]); (try simp only [List.setIfInBounds_toArray]); (try simp only [List.set_cons_succ]); (try simp only [List.set_cons_zero])
        have hz5 := hb5.size
        have hq5 : w5.heap[w.heap.size + 1]? = some (.cells #[.string s] 9) := (hg5.block (w.heap.size + 1) (by simp) (show some (w.heap.size + 1) ≠ some w.heap.size by simp)).trans (heap_alloc2_new w (.cells #[] 9) (.cells #[.string s] 9))
        refine wpAnyH_ready (rs := [7]) (by kernel_rfl) (by simp) ?_
        refine AllReadyH.cons rfl (fun K hK => ?_) AllReadyH.nil
        refine step_append_R (c := tx) (d := some 40) rfl rfl (.tmp 37) (.tmp 39) 23 rfl w.heap.size 9 i0 _ 1 16 Try.underlying23 hi0 hz0 hz1 hz2 rfl (by decide) _ _ _ rfl (ho5) _ rfl ([s]) (tx_one_at hq5) tx_len tx_one (by unfold maxLen; simp <;> omega) (by simp <;> omega) hz5 ?_
        intro x6 w6 ho6 hg6
        have hb6 : Below w.heap.size w w6 := Below.grown hb5 hg6 hz5 (fun k hk => (ho5.lt k hk).1)
        refine hK.out _ _ True.intro (fun hHeld => ?_)
        clear hK K
        (try simp only [Act.put]); (try simp only [List.setIfInBounds_toArray]); (try simp only [List.set_cons_succ]); (try simp only [List.set_cons_zero])
        have hz6 := hb6.size
        refine wpAnyH_ready (rs := [11]) (by kernel_rfl) (by simp) ?_
        refine AllReadyH.cons rfl (fun K hK => ?_) AllReadyH.nil
        refine step_append_R (c := tx) (d := some 44) rfl rfl (.tmp 40) (.tmp 43) 23 rfl w.heap.size 9 i0 _ 1 16 Try.underlying23 hi0 hz0 hz1 hz2 rfl (by decide) _ _ _ rfl (ho6) _ rfl (l.drop (0)) (readsR_kept HBc.out hb6) tx_len tx_one (by unfold maxLen; simp <;> omega) (by simp <;> omega) hz6 ?_
        intro x7 w7 ho7 hg7
        have hb7 : Below w.heap.size w w7 := Below.grown hb6 hg7 hz6 (fun k hk => (ho6.lt k hk).1)
        refine hK.out _ _ True.intro (fun hHeld => ?_)
        clear hK K
        (try simp only [Act.put]); (try simp only [List.setIfInBounds_toArray]); (try simp only [List.set_cons_succ]); (try simp only [List.set_cons_zero])
        refine takeH (i := 12) (d := (some 4)) (v := ?_) rfl rfl (by kernel_rfl) (by kernel_rfl) (by kernel_rfl) (fun _ _ _ h => h) (by kernel_rfl) ?_ (by assumption) ?_
        rotate_left
        · (intro w hSw; (try dsimp only at hSw); go_simp; try with_reducible rfl)
        (try simp only [Act.put]); (try simp only [List.setIfInBounds_toArray]); (try simp only [List.set_cons_succ]); (try simp only [List.set_cons_zero])
        refine wpAnyH_done (by kernel_rfl) ?_ _
        have hoF : Owns w7 w.heap.size x7 (putM l s) := by
          rw [HPUT.out, owns_R]; unfold OwnsR
          rw [List.length_append, List.length_cons, List.flatMap_append, List.flatMap_cons]
          have h7 := ho7
          simp only [List.length_cons, List.length_nil, List.flatMap_cons, List.flatMap_nil, List.append_nil, List.nil_append, Nat.zero_add, List.append_assoc] at h7
          rw [show (l.take (0)).length + ((l.drop (0)).length + 1) = (l.take (0)).length + 1 + (l.drop (0)).length by omega]
          exact h7
        clear hHeld HA HBc ho5 hg5 hb5 ho6 hg6 hb6 ho7 hg7
        go_wp2_with fail
        go_ret
        exact ⟨_, rfl, owns_base hoF hbase, hb7⟩
    · go_simp
      refine hK.out _ _ True.intro (fun hHeld => ?_)
      clear hK K
      (try simp only [Act.put]); (try simp only [List.setIfInBounds_toArray]); (try simp only [List.set_cons_succ]); (try simp only [List.set_cons_zero])
      refine wpAnyH_ready (rs := [0]) (by kernel_rfl) (by simp) ?_
      refine AllReadyH.cons rfl (fun K hK => ?_) AllReadyH.nil
      go_simp
      refine hK.out _ _ True.intro (fun hHeld => ?_)
      clear hK K
      (try simp only [Act.put]); (try simp only [List.setIfInBounds_toArray]); (try simp only [List.set_cons_succ]); (try simp only [List.set_cons_zero])
      refine wpAnyH_ready (rs := [4]) (by kernel_rfl) (by simp) ?_
      refine AllReadyH.cons rfl (fun K hK => ?_) AllReadyH.nil
      refine step_append_R (c := tx) (d := some 37) rfl rfl (.tmp 33) (.tmp 36) 23 rfl w.heap.size 9 i0 _ 1 16 Try.underlying23 hi0 hz0 hz1 hz2 rfl (by decide) _ _ _ rfl (World.ownsRow.drew hlitB) _ rfl (l.take (0)) (readsR_kept HA.out (((Below.refl w.heap.size w).alloc (Nat.le_refl _) (.cells #[.string s] 9)).alloc (by simp) (.cells #[] 9)).drew) tx_len tx_one (by unfold maxLen; simp <;> omega) (by simp <;> omega) (by simp; omega) ?_
      intro x5 w5 ho5 hg5
      have hb5 : Below w.heap.size w w5 := Below.grown (((Below.refl w.heap.size w).alloc (Nat.le_refl _) (.cells #[.string s] 9)).alloc (by simp) (.cells #[] 9)).drew hg5 (by simp; omega) (fun k hk => by cases hk; simp)
      refine hK.out _ _ True.intro (fun hHeld => ?_)
      clear hK K
      (try simp only [Act.put]); (try simp only [List.setIfInBounds_toArray]); (try simp only [List.set_cons_succ]); (try simp only [List.set_cons_zero])
      have hz5 := hb5.size
      have hq5 : w5.heap[w.heap.size]? = some (.cells #[.string s] 9) := (hg5.block w.heap.size (by simp; omega) (show some w.heap.size ≠ some (w.heap.size + 1) by simp)).trans ((Below.heap_alloc (w.alloc (.cells #[.string s] 9)) (.cells #[] 9) w.heap.size (by simp)).trans (heap_alloc_new w (.cells #[.string s] 9)))
      refine wpAnyH_ready (rs := [7]) (by kernel_rfl) (by simp) ?_
      refine AllReadyH.cons rfl (fun K hK => ?_) AllReadyH.nil
      refine step_append_R (c := tx) (d := some 40) rfl rfl (.tmp 37) (.tmp 39) 23 rfl w.heap.size 9 i0 _ 1 16 Try.underlying23 hi0 hz0 hz1 hz2 rfl (by decide) _ _ _ rfl (ho5) _ rfl ([s]) (tx_one_at hq5) tx_len tx_one (by unfold maxLen; simp <;> omega) (by simp <;> omega) hz5 ?_
      intro x6 w6 ho6 hg6
      have hb6 : Below w.heap.size w w6 := Below.grown hb5 hg6 hz5 (fun k hk => (ho5.lt k hk).1)
      refine hK.out _ _ True.intro (fun hHeld => ?_)
      clear hK K
      (try simp only [Act.put]); (try simp only [List.setIfInBounds_toArray]); (try simp only [List.set_cons_succ]); (try simp only [List.set_cons_zero])
      have hz6 := hb6.size
      refine wpAnyH_ready (rs := [11]) (by kernel_rfl) (by simp) ?_
      refine AllReadyH.cons rfl (fun K hK => ?_) AllReadyH.nil
      refine step_append_R (c := tx) (d := some 44) rfl rfl (.tmp 40) (.tmp 43) 23 rfl w.heap.size 9 i0 _ 1 16 Try.underlying23 hi0 hz0 hz1 hz2 rfl (by decide) _ _ _ rfl (ho6) _ rfl (l.drop (0)) (readsR_kept HBc.out hb6) tx_len tx_one (by unfold maxLen; simp <;> omega) (by simp <;> omega) hz6 ?_
      intro x7 w7 ho7 hg7
      have hb7 : Below w.heap.size w w7 := Below.grown hb6 hg7 hz6 (fun k hk => (ho6.lt k hk).1)
      refine hK.out _ _ True.intro (fun hHeld => ?_)
      clear hK K
      (try simp only [Act.put]); (try simp only [List.setIfInBounds_toArray]); (try simp only [List.set_cons_succ]); (try simp only [List.set_cons_zero])
      refine takeH (i := 12) (d := (some 4)) (v := ?_) rfl rfl (by kernel_rfl) (by kernel_rfl) (by kernel_rfl) (fun _ _ _ h => h) (by kernel_rfl) ?_ (by assumption) ?_
      rotate_left
      · (intro w hSw; (try dsimp only at hSw); go_simp; try with_reducible rfl)
      (try simp only [Act.put]); (try simp only [List.setIfInBounds_toArray]); (try simp only [List.set_cons_succ]); (try simp only [List.set_cons_zero])
      refine wpAnyH_done (by kernel_rfl) ?_ _
      have hoF : Owns w7 w.heap.size x7 (putM l s) := by
        rw [HPUT.out, owns_R]; unfold OwnsR
        rw [List.length_append, List.length_cons, List.flatMap_append, List.flatMap_cons]
        have h7 := ho7
        simp only [List.length_cons, List.length_nil, List.flatMap_cons, List.flatMap_nil, List.append_nil, List.nil_append, Nat.zero_add, List.append_assoc] at h7
        rw [show (l.take (0)).length + ((l.drop (0)).length + 1) = (l.take (0)).length + 1 + (l.drop (0)).length by omega]
        exact h7
      clear hHeld HA HBc ho5 hg5 hb5 ho6 hg6 hb6 ho7 hg7
      go_wp2_with fail
      go_ret
      exact ⟨_, rfl, owns_base hoF hbase, hb7⟩
  · subst hv
    unfold maxLen at hgz
    have hgw : g < w.heap.size := (Array.getElem?_eq_some_iff.1 hgbk).1
    have hrq := readsR_at (ownsR_reads tx_len (owns_R.1 ho))
    have hr0 := owns_reads ho
    have HO : Hid (Owns w base (.slice (some ⟨g, 0, none⟩) l.length c2) l) := ho
    clear ho hgbk
    go_enter Try.func34, Try.ntmps34
    go_wp2_with fail
    go_loopw [5] (fun i wr => ∃ k : Nat, k ≤ l.length ∧ i = .int .i64 (k : Int) ∧ lowM l s k ∧ w = wr) (fun i _ => l.length - (intOf i).toNat)
    case atStart => exact ⟨0, Nat.zero_le _, rfl, fun j hj => by omega, rfl⟩
    case round =>
      obtain ⟨k, hk, rfl, hlow, rfl⟩ := hrel
      have HLOW : Hid (lowM l s k) := hlow
      clear hlow
      have HA : Hid (ReadsR tx 1 w (.slice (some ⟨g, 0, none⟩) k c2) (l.take k)) := by
        have := readsR_cut (sz := 1) (c := tx) hgw hgb (by unfold maxLen; exact hgz) hrq (ao := some ⟨g, 0, none⟩) (a := 0) (e := k) (n := k) (k := c2) (fun _ => by simp) (by simp) (Nat.zero_le _) (by omega) (by omega) (by omega)
        rw [List.drop_zero] at this; exact this
      obtain ⟨ab, hab⟩ : ∃ ab, (if c2 = k then some (⟨g, 0, none⟩ : Addr) else some ⟨g, k, none⟩) = ab := ⟨_, rfl⟩
      have HBc : Hid (ReadsR tx 1 w (.slice ab (l.length - k) (c2 - k)) (l.drop k)) := by
        have := readsR_cut (sz := 1) (c := tx) hgw hgb (by unfold maxLen; exact hgz) hrq (ao := ab) (a := k) (e := l.length) (n := l.length - k) (k := c2 - k) (fun h => by rw [← hab, if_neg h]; simp) (by rw [← hab]; split <;> simp) (by omega) (Nat.le_refl _) rfl rfl
        rw [List.take_length] at this; exact this
      have hj1 : ((k : Nat) : Int) ≤ (c2 : Int) := by omega
      have hj2 : ((k : Nat) : Int) ≤ (l.length : Int) := by omega
      have hj3 : (l.length : Int) ≤ (c2 : Int) := by omega
      by_cases hlt : k < l.length
      · obtain ⟨b, off, hbo, hb, hc⟩ := reads_someS hr0 (by omega)
        cases hbo
        have hcell := hc k hlt
        rw [Nat.zero_add] at hcell
        have hi1 : (k : Int) < (l.length : Int) := by omega
        clear hc
        cases hlt2 : Op.bytesLess (at_ l k).toList s.toList with
        | true =>
          have HL : Hid (lowM l s (k + 1)) := lowM_step HLOW.out hlt2
          clear HA HBc hab
          go_wp2_with fail
          go_roundw
          case rel => exact ⟨k + 1, hlt, by go_num, HL.out, by trivial⟩
          case measure => simp [intOf]; omega
        | false =>
          by_cases hst : at_ l k = s
          · have heq := eqB_true hst
            have HPUT : Hid (putM l s = l) := putM_there hlt HLOW.out hlt2 hst
            clear hst HA HBc hab
            go_wp2_with fail
            go_ret
            exact ⟨_, rfl, by rw [HPUT.out]; exact HO.out, Below.refl _ _⟩
          · have heq := eqB_false hst
            have HPUT : Hid (putM l s = l.take k ++ s :: l.drop k) := putM_new hlt HLOW.out hlt2 hst
            clear hst hrq hr0 HO
            go_wp2_with fail
            refine wp_region_held_drew (S := (fun _ => True)) (by kernel_rfl) (by exact True.intro) (fun hHeld => ?_)
            refine takeH (i := 1) (d := (some 34)) (v := ?_) rfl rfl (by kernel_rfl) (by kernel_rfl) (by kernel_rfl) (fun _ _ _ h => h) (by kernel_rfl) ?_ (by assumption) ?_
            rotate_left
            · (intro w hSw; (try dsimp only at hSw); go_simp; try with_reducible rfl)
            try simp only [Act.put, List.setIfInBounds_toArray, List.set_cons_succ, List.set_cons_zero]
            refine takeH (i := 2) (d := (some 35)) (v := ?_) rfl rfl (by kernel_rfl) (by kernel_rfl) (by kernel_rfl) (fun _ _ _ h => h) (by kernel_rfl) ?_ (by assumption) ?_
            rotate_left
            · (intro w hSw; (try dsimp only at hSw); go_simp; try with_reducible rfl)
            try simp only [Act.put, List.setIfInBounds_toArray, List.set_cons_succ, List.set_cons_zero]
            refine takeH (i := 3) (d := (some 36)) (v := ?_) rfl rfl (by kernel_rfl) (by kernel_rfl) (by kernel_rfl) (fun _ _ _ h => h) (by kernel_rfl) ?_ (by assumption) ?_
            rotate_left
            · (intro w hSw; (try dsimp only at hSw); go_simp; try with_reducible rfl)
            try simp only [Act.put, List.setIfInBounds_toArray, List.set_cons_succ, List.set_cons_zero]
            refine takeH (i := 5) (d := (some 38)) (v := ?_) rfl rfl (by kernel_rfl) (by kernel_rfl) (by kernel_rfl) (fun _ _ _ h => h) (by kernel_rfl) ?_ (by assumption) ?_
            rotate_left
            · (intro w hSw; (try dsimp only at hSw); go_simp; try with_reducible rfl)
            try simp only [Act.put, List.setIfInBounds_toArray, List.set_cons_succ, List.set_cons_zero]
            refine takeH (i := 8) (d := (some 41)) (v := ?_) rfl rfl (by kernel_rfl) (by kernel_rfl) (by kernel_rfl) (fun _ _ _ h => h) (by kernel_rfl) ?_ (by assumption) ?_
            rotate_left
            · (intro w hSw; (try dsimp only at hSw); go_simp; try with_reducible rfl)
            try simp only [Act.put, List.setIfInBounds_toArray, List.set_cons_succ, List.set_cons_zero]
            refine takeH (i := 9) (d := (some 42)) (v := ?_) rfl rfl (by kernel_rfl) (by kernel_rfl) (by kernel_rfl) (fun _ _ _ h => h) (by kernel_rfl) ?_ (by assumption) ?_
            rotate_left
            · (intro w hSw; (try dsimp only at hSw); go_simp; try with_reducible rfl)
            try simp only [Act.put, List.setIfInBounds_toArray, List.set_cons_succ, List.set_cons_zero]
            refine takeH (i := 10) (d := (some 43)) (v := ?_) rfl rfl (by kernel_rfl) (by kernel_rfl) (by kernel_rfl) (fun _ _ _ h => h) (by kernel_rfl) ?_ (by assumption) ?_
            rotate_left
            · (intro w hSw; (try dsimp only at hSw); go_simp; try with_reducible rfl)
            try simp only [Act.put, List.setIfInBounds_toArray, List.set_cons_succ, List.set_cons_zero]
            refine wpAnyH_ready (rs := [0, 6]) (by kernel_rfl) (by simp) ?_
            refine AllReadyH.cons rfl (fun K hK => ?_) (AllReadyH.cons rfl (fun K hK => ?_) AllReadyH.nil)
            · go_simp
              refine hK.out _ _ True.intro (fun hHeld => ?_)
              clear hK K
              (try simp only [Act.put]); (try simp only [List.setIfInBounds_toArray]); (try simp only [List.set_cons_succ]); (try simp only [List.set_cons_zero])
              refine wpAnyH_ready (rs := [4, 6]) (by kernel_rfl) (by simp) ?_
              refine AllReadyH.cons rfl (fun K hK => ?_) (AllReadyH.cons rfl (fun K hK => ?_) AllReadyH.nil)
              · refine step_append_R (c := tx) (d := some 37) rfl rfl (.tmp 33) (.tmp 36) 23 rfl w.heap.size 9 i0 _ 1 16 Try.underlying23 hi0 hz0 hz1 hz2 rfl (by decide) _ _ _ rfl (World.ownsRow.drew (World.ownsRow_lit w #[] 0 (Nat.le_refl _) (by simp) rfl)) _ rfl (l.take (k)) (readsR_kept HA.out ((Below.refl w.heap.size w).alloc (Nat.le_refl _) (.cells #[] 9)).drew) tx_len tx_one (by unfold maxLen; simp <;> omega) (by simp <;> omega) (by simp) ?_
                intro x5 w5 ho5 hg5
                have hb5 : Below w.heap.size w w5 := Below.grown ((Below.refl w.heap.size w).alloc (Nat.le_refl _) (.cells #[] 9)).drew hg5 (by simp) (fun k hk => by cases hk; exact Nat.le_refl _)
                refine hK.out _ _ True.intro (fun hHeld => ?_)
                clear hK K
                (try simp only [Act.put]); (try simp only [List.setIfInBounds_toArray]); (try simp only [List.set_cons_succ]); (try simp only [List.set_cons_zero])
                have hz5 := hb5.size
                refine wpAnyH_ready (rs := [6]) (by kernel_rfl) (by simp) ?_
                refine AllReadyH.cons rfl (fun K hK => ?_) AllReadyH.nil
                go_simp
                refine hK.out _ _ True.intro (fun hHeld => ?_)
                clear hK K
                (try simp only [Act.put]); (try simp only [List.setIfInBounds_toArray]); (try simp only [List.set_cons_succ]); (try simp only [List.set_cons_zero])
                refine wpAnyH_ready (rs := [7]) (by kernel_rfl) (by simp) ?_
                refine AllReadyH.cons rfl (fun K hK => ?_) AllReadyH.nil
                refine step_append_R (c := tx) (d := some 40) rfl rfl (.tmp 37) (.tmp 39) 23 rfl w.heap.size 9 i0 _ 1 16 Try.underlying23 hi0 hz0 hz1 hz2 rfl (by decide) _ _ _ rfl (World.ownsRow.alloc ho5 (.cells #[.string s] 9)) _ rfl ([s]) (tx_one_at (heap_alloc_new w5 (.cells #[.string s] 9))) tx_len tx_one (by unfold maxLen; simp <;> omega) (by simp <;> omega) (by simp; omega) ?_
                intro x6 w6 ho6 hg6
                have hb6 : Below w.heap.size w w6 := Below.grown (hb5.alloc hz5 (.cells #[.string s] 9)) hg6 (by simp; omega) (fun k hk => (ho5.lt k hk).1)
                refine hK.out _ _ True.intro (fun hHeld => ?_)
                clear hK K
                (try simp only [Act.put]); (try simp only [List.setIfInBounds_toArray]); (try simp only [List.set_cons_succ]); (try simp only [List.set_cons_zero])
                have hz6 := hb6.size
                refine wpAnyH_ready (rs := [11]) (by kernel_rfl) (by simp) ?_
                refine AllReadyH.cons rfl (fun K hK => ?_) AllReadyH.nil
                refine step_append_R (c := tx) (d := some 44) rfl rfl (.tmp 40) (.tmp 43) 23 rfl w.heap.size 9 i0 _ 1 16 Try.underlying23 hi0 hz0 hz1 hz2 rfl (by decide) _ _ _ rfl (ho6) _ rfl (l.drop (k)) (readsR_kept HBc.out hb6) tx_len tx_one (by unfold maxLen; simp <;> omega) (by simp <;> omega) hz6 ?_
                intro x7 w7 ho7 hg7
                have hb7 : Below w.heap.size w w7 := Below.grown hb6 hg7 hz6 (fun k hk => (ho6.lt k hk).1)
                refine hK.out _ _ True.intro (fun hHeld => ?_)
                clear hK K
                (try simp only [Act.put]); (try simp only [List.setIfInBounds_toArray]); (try simp only [List.set_cons_succ]); (try simp only [List.set_cons_zero])
                refine takeH (i := 12) (d := (some 4)) (v := ?_) rfl rfl (by kernel_rfl) (by kernel_rfl) (by kernel_rfl) (fun _ _ _ h => h) (by kernel_rfl) ?_ (by assumption) ?_
                rotate_left
                · (intro w hSw; (try dsimp only at hSw); go_simp; try with_reducible rfl)
                (try simp only [Act.put]); (try simp only [List.setIfInBounds_toArray]); (try simp only [List.set_cons_succ]); (try simp only [List.set_cons_zero])
                refine wpAnyH_done (by kernel_rfl) ?_ _
                have hoF : Owns w7 w.heap.size x7 (putM l s) := by
                  rw [HPUT.out, owns_R]; unfold OwnsR
                  rw [List.length_append, List.length_cons, List.flatMap_append, List.flatMap_cons]
                  have h7 := ho7
                  simp only [List.length_cons, List.length_nil, List.flatMap_cons, List.flatMap_nil, List.append_nil, List.nil_append, Nat.zero_add, List.append_assoc] at h7
                  rw [show (l.take (k)).length + ((l.drop (k)).length + 1) = (l.take (k)).length + 1 + (l.drop (k)).length by omega]
                  exact h7
                clear hHeld HA HBc ho5 hg5 hb5 ho6 hg6 hb6 ho7 hg7
                go_wp2_with fail
                go_ret
                exact ⟨_, rfl, owns_base hoF hbase, hb7⟩
              · go_simp
                refine hK.out _ _ True.intro (fun hHeld => ?_)
                clear hK K
                (try simp only [Act.put]); (try simp only [List.setIfInBounds_toArray]); (try simp only [List.set_cons_succ]); (try simp only [List.set_cons_zero])
                refine wpAnyH_ready (rs := [4]) (by kernel_rfl) (by simp) ?_
                refine AllReadyH.cons rfl (fun K hK => ?_) AllReadyH.nil
                refine step_append_R (c := tx) (d := some 37) rfl rfl (.tmp 33) (.tmp 36) 23 rfl w.heap.size 9 i0 _ 1 16 Try.underlying23 hi0 hz0 hz1 hz2 rfl (by decide) _ _ _ rfl (World.ownsRow.drew (World.ownsRow.alloc (World.ownsRow_lit w #[] 0 (Nat.le_refl _) (by simp) rfl) (.cells #[.string s] 9))) _ rfl (l.take (k)) (readsR_kept HA.out (((Below.refl w.heap.size w).alloc (Nat.le_refl _) (.cells #[] 9)).alloc (by simp) (.cells #[.string s] 9)).drew) tx_len tx_one (by unfold maxLen; simp <;> omega) (by simp <;> omega) (by simp; omega) ?_
                intro x5 w5 ho5 hg5
                have hb5 : Below w.heap.size w w5 := Below.grown (((Below.refl w.heap.size w).alloc (Nat.le_refl _) (.cells #[] 9)).alloc (by simp) (.cells #[.string s] 9)).drew hg5 (by simp; omega) (fun k hk => by cases hk; exact Nat.le_refl _)
                refine hK.out _ _ True.intro (fun hHeld => ?_)
                clear hK K
                (try simp only [Act.put]); (try simp only [List.setIfInBounds_toArray]); (try simp only [List.set_cons_succ]); (try simp only [List.set_cons_zero])
                have hz5 := hb5.size
                have hq5 : w5.heap[w.heap.size + 1]? = some (.cells #[.string s] 9) := (hg5.block (w.heap.size + 1) (by simp) (show some (w.heap.size + 1) ≠ some w.heap.size by simp)).trans (heap_alloc2_new w (.cells #[] 9) (.cells #[.string s] 9))
                refine wpAnyH_ready (rs := [7]) (by kernel_rfl) (by simp) ?_
                refine AllReadyH.cons rfl (fun K hK => ?_) AllReadyH.nil
                refine step_append_R (c := tx) (d := some 40) rfl rfl (.tmp 37) (.tmp 39) 23 rfl w.heap.size 9 i0 _ 1 16 Try.underlying23 hi0 hz0 hz1 hz2 rfl (by decide) _ _ _ rfl (ho5) _ rfl ([s]) (tx_one_at hq5) tx_len tx_one (by unfold maxLen; simp <;> omega) (by simp <;> omega) hz5 ?_
                intro x6 w6 ho6 hg6
                have hb6 : Below w.heap.size w w6 := Below.grown hb5 hg6 hz5 (fun k hk => (ho5.lt k hk).1)
                refine hK.out _ _ True.intro (fun hHeld => ?_)
                clear hK K
                (try simp only [Act.put]); (try simp only [List.setIfInBounds_toArray]); (try simp only [List.set_cons_succ]); (try simp only [List.set_cons_zero])
                have hz6 := hb6.size
                refine wpAnyH_ready (rs := [11]) (by kernel_rfl) (by simp) ?_
                refine AllReadyH.cons rfl (fun K hK => ?_) AllReadyH.nil
                refine step_append_R (c := tx) (d := some 44) rfl rfl (.tmp 40) (.tmp 43) 23 rfl w.heap.size 9 i0 _ 1 16 Try.underlying23 hi0 hz0 hz1 hz2 rfl (by decide) _ _ _ rfl (ho6) _ rfl (l.drop (k)) (readsR_kept HBc.out hb6) tx_len tx_one (by unfold maxLen; simp <;> omega) (by simp <;> omega) hz6 ?_
                intro x7 w7 ho7 hg7
                have hb7 : Below w.heap.size w w7 := Below.grown hb6 hg7 hz6 (fun k hk => (ho6.lt k hk).1)
                refine hK.out _ _ True.intro (fun hHeld => ?_)
                clear hK K
                (try simp only [Act.put]); (try simp only [List.setIfInBounds_toArray]); (try simp only [List.set_cons_succ]); (try simp only [List.set_cons_zero])
                refine takeH (i := 12) (d := (some 4)) (v := ?_) rfl rfl (by kernel_rfl) (by kernel_rfl) (by kernel_rfl) (fun _ _ _ h => h) (by kernel_rfl) ?_ (by assumption) ?_
                rotate_left
                · (intro w hSw; (try dsimp only at hSw); go_simp; try with_reducible rfl)
                (try simp only [Act.put]); (try simp only [List.setIfInBounds_toArray]); (try simp only [List.set_cons_succ]); (try simp only [List.set_cons_zero])
                refine wpAnyH_done (by kernel_rfl) ?_ _
                have hoF : Owns w7 w.heap.size x7 (putM l s) := by
                  rw [HPUT.out, owns_R]; unfold OwnsR
                  rw [List.length_append, List.length_cons, List.flatMap_append, List.flatMap_cons]
                  have h7 := ho7
                  simp only [List.length_cons, List.length_nil, List.flatMap_cons, List.flatMap_nil, List.append_nil, List.nil_append, Nat.zero_add, List.append_assoc] at h7
                  rw [show (l.take (k)).length + ((l.drop (k)).length + 1) = (l.take (k)).length + 1 + (l.drop (k)).length by omega]
                  exact h7
                clear hHeld HA HBc ho5 hg5 hb5 ho6 hg6 hb6 ho7 hg7
                go_wp2_with fail
                go_ret
                exact ⟨_, rfl, owns_base hoF hbase, hb7⟩
            · go_simp
              refine hK.out _ _ True.intro (fun hHeld => ?_)
              clear hK K
              (try simp only [Act.put]); (try simp only [List.setIfInBounds_toArray]); (try simp only [List.set_cons_succ]); (try simp only [List.set_cons_zero])
              refine wpAnyH_ready (rs := [0]) (by kernel_rfl) (by simp) ?_
              refine AllReadyH.cons rfl (fun K hK => ?_) AllReadyH.nil
              go_simp
              refine hK.out _ _ True.intro (fun hHeld => ?_)
              clear hK K
              (try simp only [Act.put]); (try simp only [List.setIfInBounds_toArray]); (try simp only [List.set_cons_succ]); (try simp only [List.set_cons_zero])
              refine wpAnyH_ready (rs := [4]) (by kernel_rfl) (by simp) ?_
              refine AllReadyH.cons rfl (fun K hK => ?_) AllReadyH.nil
              refine step_append_R (c := tx) (d := some 37) rfl rfl (.tmp 33) (.tmp 36) 23 rfl w.heap.size 9 i0 _ 1 16 Try.underlying23 hi0 hz0 hz1 hz2 rfl (by decide) _ _ _ rfl (World.ownsRow.drew hlitB) _ rfl (l.take (k)) (readsR_kept HA.out (((Below.refl w.heap.size w).alloc (Nat.le_refl _) (.cells #[.string s] 9)).alloc (by simp) (.cells #[] 9)).drew) tx_len tx_one (by unfold maxLen; simp <;> omega) (by simp <;> omega) (by simp; omega) ?_
              intro x5 w5 ho5 hg5
              have hb5 : Below w.heap.size w w5 := Below.grown (((Below.refl w.heap.size w).alloc (Nat.le_refl _) (.cells #[.string s] 9)).alloc (by simp) (.cells #[] 9)).drew hg5 (by simp; omega) (fun k hk => by cases hk; simp)
              refine hK.out _ _ True.intro (fun hHeld => ?_)
              clear hK K
              (try simp only [Act.put]); (try simp only [List.setIfInBounds_toArray]); (try simp only [List.set_cons_succ]); (try simp only [List.set_cons_zero])
              have hz5 := hb5.size
              have hq5 : w5.heap[w.heap.size]? = some (.cells #[.string s] 9) := (hg5.block w.heap.size (by simp; omega) (show some w.heap.size ≠ some (w.heap.size + 1) by simp)).trans ((Below.heap_alloc (w.alloc (.cells #[.string s] 9)) (.cells #[] 9) w.heap.size (by simp)).trans (heap_alloc_new w (.cells #[.string s] 9)))
              refine wpAnyH_ready (rs := [7]) (by kernel_rfl) (by simp) ?_
              refine AllReadyH.cons rfl (fun K hK => ?_) AllReadyH.nil
              refine step_append_R (c := tx) (d := some 40) rfl rfl (.tmp 37) (.tmp 39) 23 rfl w.heap.size 9 i0 _ 1 16 Try.underlying23 hi0 hz0 hz1 hz2 rfl (by decide) _ _ _ rfl (ho5) _ rfl ([s]) (tx_one_at hq5) tx_len tx_one (by unfold maxLen; simp <;> omega) (by simp <;> omega) hz5 ?_
              intro x6 w6 ho6 hg6
              have hb6 : Below w.heap.size w w6 := Below.grown hb5 hg6 hz5 (fun k hk => (ho5.lt k hk).1)
              refine hK.out _ _ True.intro (fun hHeld => ?_)
              clear hK K
              (try simp only [Act.put]); (try simp only [List.setIfInBounds_toArray]); (try simp only [List.set_cons_succ]); (try simp only [List.set_cons_zero])
              have hz6 := hb6.size
              refine wpAnyH_ready (rs := [11]) (by kernel_rfl) (by simp) ?_
              refine AllReadyH.cons rfl (fun K hK => ?_) AllReadyH.nil
              refine step_append_R (c := tx) (d := some 44) rfl rfl (.tmp 40) (.tmp 43) 23 rfl w.heap.size 9 i0 _ 1 16 Try.underlying23 hi0 hz0 hz1 hz2 rfl (by decide) _ _ _ rfl (ho6) _ rfl (l.drop (k)) (readsR_kept HBc.out hb6) tx_len tx_one (by unfold maxLen; simp <;> omega) (by simp <;> omega) hz6 ?_
              intro x7 w7 ho7 hg7
              have hb7 : Below w.heap.size w w7 := Below.grown hb6 hg7 hz6 (fun k hk => (ho6.lt k hk).1)
              refine hK.out _ _ True.intro (fun hHeld => ?_)
              clear hK K
              (try simp only [Act.put]); (try simp only [List.setIfInBounds_toArray]); (try simp only [List.set_cons_succ]); (try simp only [List.set_cons_zero])
              refine takeH (i := 12) (d := (some 4)) (v := ?_) rfl rfl (by kernel_rfl) (by kernel_rfl) (by kernel_rfl) (fun _ _ _ h => h) (by kernel_rfl) ?_ (by assumption) ?_
              rotate_left
              · (intro w hSw; (try dsimp only at hSw); go_simp; try with_reducible rfl)
              (try simp only [Act.put]); (try simp only [List.setIfInBounds_toArray]); (try simp only [List.set_cons_succ]); (try simp only [List.set_cons_zero])
              refine wpAnyH_done (by kernel_rfl) ?_ _
              have hoF : Owns w7 w.heap.size x7 (putM l s) := by
                rw [HPUT.out, owns_R]; unfold OwnsR
                rw [List.length_append, List.length_cons, List.flatMap_append, List.flatMap_cons]
                have h7 := ho7
                simp only [List.length_cons, List.length_nil, List.flatMap_cons, List.flatMap_nil, List.append_nil, List.nil_append, Nat.zero_add, List.append_assoc] at h7
                rw [show (l.take (k)).length + ((l.drop (k)).length + 1) = (l.take (k)).length + 1 + (l.drop (k)).length by omega]
                exact h7
              clear hHeld HA HBc ho5 hg5 hb5 ho6 hg6 hb6 ho7 hg7
              go_wp2_with fail
              go_ret
              exact ⟨_, rfl, owns_base hoF hbase, hb7⟩
      · have HPUT : Hid (putM l s = l.take k ++ s :: l.drop k) := by
          show _ = _
          have e : k = l.length := by omega
          rw [putM_end (by rw [← e]; exact HLOW.out), e, List.take_length, List.drop_length]
        have hi1 : ¬ (k : Int) < (l.length : Int) := by omega
        clear hrq hr0 HO
        go_wp2_with fail
        refine wp_region_held_drew (S := (fun _ => True)) (by kernel_rfl) (by exact True.intro) (fun hHeld => ?_)
        refine takeH (i := 1) (d := (some 34)) (v := ?_) rfl rfl (by kernel_rfl) (by kernel_rfl) (by kernel_rfl) (fun _ _ _ h => h) (by kernel_rfl) ?_ (by assumption) ?_
        rotate_left
        · (intro w hSw; (try dsimp only at hSw); go_simp; try with_reducible rfl)
        try simp only [Act.put, List.setIfInBounds_toArray, List.set_cons_succ, List.set_cons_zero]
        refine takeH (i := 2) (d := (some 35)) (v := ?_) rfl rfl (by kernel_rfl) (by kernel_rfl) (by kernel_rfl) (fun _ _ _ h => h) (by kernel_rfl) ?_ (by assumption) ?_
        rotate_left
        · (intro w hSw; (try dsimp only at hSw); go_simp; try with_reducible rfl)
        try simp only [Act.put, List.setIfInBounds_toArray, List.set_cons_succ, List.set_cons_zero]
        refine takeH (i := 3) (d := (some 36)) (v := ?_) rfl rfl (by kernel_rfl) (by kernel_rfl) (by kernel_rfl) (fun _ _ _ h => h) (by kernel_rfl) ?_ (by assumption) ?_
        rotate_left
        · (intro w hSw; (try dsimp only at hSw); go_simp; try with_reducible rfl)
        try simp only [Act.put, List.setIfInBounds_toArray, List.set_cons_succ, List.set_cons_zero]
        refine takeH (i := 5) (d := (some 38)) (v := ?_) rfl rfl (by kernel_rfl) (by kernel_rfl) (by kernel_rfl) (fun _ _ _ h => h) (by kernel_rfl) ?_ (by assumption) ?_
        rotate_left
        · (intro w hSw; (try dsimp only at hSw); go_simp; try with_reducible rfl)
        try simp only [Act.put, List.setIfInBounds_toArray, List.set_cons_succ, List.set_cons_zero]
        refine takeH (i := 8) (d := (some 41)) (v := ?_) rfl rfl (by kernel_rfl) (by kernel_rfl) (by kernel_rfl) (fun _ _ _ h => h) (by kernel_rfl) ?_ (by assumption) ?_
        rotate_left
        · (intro w hSw; (try dsimp only at hSw); go_simp; try with_reducible rfl)
        try simp only [Act.put, List.setIfInBounds_toArray, List.set_cons_succ, List.set_cons_zero]
        refine takeH (i := 9) (d := (some 42)) (v := ?_) rfl rfl (by kernel_rfl) (by kernel_rfl) (by kernel_rfl) (fun _ _ _ h => h) (by kernel_rfl) ?_ (by assumption) ?_
        rotate_left
        · (intro w hSw; (try dsimp only at hSw); go_simp; try with_reducible rfl)
        try simp only [Act.put, List.setIfInBounds_toArray, List.set_cons_succ, List.set_cons_zero]
        refine takeH (i := 10) (d := (some 43)) (v := ?_) rfl rfl (by kernel_rfl) (by kernel_rfl) (by kernel_rfl) (fun _ _ _ h => h) (by kernel_rfl) ?_ (by assumption) ?_
        rotate_left
        · (intro w hSw; (try dsimp only at hSw); go_simp; try with_reducible rfl)
        try simp only [Act.put, List.setIfInBounds_toArray, List.set_cons_succ, List.set_cons_zero]
        refine wpAnyH_ready (rs := [0, 6]) (by kernel_rfl) (by simp) ?_
        refine AllReadyH.cons rfl (fun K hK => ?_) (AllReadyH.cons rfl (fun K hK => ?_) AllReadyH.nil)
        · go_simp
          refine hK.out _ _ True.intro (fun hHeld => ?_)
          clear hK K
          (try simp only [Act.put]); (try simp only [List.setIfInBounds_toArray]); (try simp only [List.set_cons_succ]); (try simp only [List.set_cons_zero])
          refine wpAnyH_ready (rs := [4, 6]) (by kernel_rfl) (by simp) ?_
          refine AllReadyH.cons rfl (fun K hK => ?_) (AllReadyH.cons rfl (fun K hK => ?_) AllReadyH.nil)
          · refine step_append_R (c := tx) (d := some 37) rfl rfl (.tmp 33) (.tmp 36) 23 rfl w.heap.size 9 i0 _ 1 16 Try.underlying23 hi0 hz0 hz1 hz2 rfl (by decide) _ _ _ rfl (World.ownsRow.drew (World.ownsRow_lit w #[] 0 (Nat.le_refl _) (by simp) rfl)) _ rfl (l.take (k)) (readsR_kept HA.out ((Below.refl w.heap.size w).alloc (Nat.le_refl _) (.cells #[] 9)).drew) tx_len tx_one (by unfold maxLen; simp <;> omega) (by simp <;> omega) (by simp) ?_
            intro x5 w5 ho5 hg5
            have hb5 : Below w.heap.size w w5 := Below.grown ((Below.refl w.heap.size w).alloc (Nat.le_refl _) (.cells #[] 9)).drew hg5 (by simp) (fun k hk => by cases hk; exact Nat.le_refl _)
            refine hK.out _ _ True.intro (fun hHeld => ?_)
            clear hK K
            (try simp only [Act.put]); (try simp only [List.setIfInBounds_toArray]); (try simp only [List.set_cons_succ]); (try simp only [List.set_cons_zero])
            have hz5 := hb5.size
            refine wpAnyH_ready (rs := [6]) (by kernel_rfl) (by simp) ?_
            refine AllReadyH.cons rfl (fun K hK => ?_) AllReadyH.nil
            go_simp
            refine hK.out _ _ True.intro (fun hHeld => ?_)
            clear hK K
            (try simp only [Act.put]); (try simp only [List.setIfInBounds_toArray]); (try simp only [List.set_cons_succ]); (try simp only [List.set_cons_zero])
            refine wpAnyH_ready (rs := [7]) (by kernel_rfl) (by simp) ?_
            refine AllReadyH.cons rfl (fun K hK => ?_) AllReadyH.nil
            refine step_append_R (c := tx) (d := some 40) rfl rfl (.tmp 37) (.tmp 39) 23 rfl w.heap.size 9 i0 _ 1 16 Try.underlying23 hi0 hz0 hz1 hz2 rfl (by decide) _ _ _ rfl (World.ownsRow.alloc ho5 (.cells #[.string s] 9)) _ rfl ([s]) (tx_one_at (heap_alloc_new w5 (.cells #[.string s] 9))) tx_len tx_one (by unfold maxLen; simp <;> omega) (by simp <;> omega) (by simp; omega) ?_
            intro x6 w6 ho6 hg6
            have hb6 : Below w.heap.size w w6 := Below.grown (hb5.alloc hz5 (.cells #[.string s] 9)) hg6 (by simp; omega) (fun k hk => (ho5.lt k hk).1)
            refine hK.out _ _ True.intro (fun hHeld => ?_)
            clear hK K
            (try simp only [Act.put]); (try simp only [List.setIfInBounds_toArray]); (try simp only [List.set_cons_succ]); (try simp only [List.set_cons_zero])
            have hz6 := hb6.size
            refine wpAnyH_ready (rs := [11]) (by kernel_rfl) (by simp) ?_
            refine AllReadyH.cons rfl (fun K hK => ?_) AllReadyH.nil
            refine step_append_R (c := tx) (d := some 44) rfl rfl (.tmp 40) (.tmp 43) 23 rfl w.heap.size 9 i0 _ 1 16 Try.underlying23 hi0 hz0 hz1 hz2 rfl (by decide) _ _ _ rfl (ho6) _ rfl (l.drop (k)) (readsR_kept HBc.out hb6) tx_len tx_one (by unfold maxLen; simp <;> omega) (by simp <;> omega) hz6 ?_
            intro x7 w7 ho7 hg7
            have hb7 : Below w.heap.size w w7 := Below.grown hb6 hg7 hz6 (fun k hk => (ho6.lt k hk).1)
            refine hK.out _ _ True.intro (fun hHeld => ?_)
            clear hK K
            (try simp only [Act.put]); (try simp only [List.setIfInBounds_toArray]); (try simp only [List.set_cons_succ]); (try simp only [List.set_cons_zero])
            refine takeH (i := 12) (d := (some 4)) (v := ?_) rfl rfl (by kernel_rfl) (by kernel_rfl) (by kernel_rfl) (fun _ _ _ h => h) (by kernel_rfl) ?_ (by assumption) ?_
            rotate_left
            · (intro w hSw; (try dsimp only at hSw); go_simp; try with_reducible rfl)
            (try simp only [Act.put]); (try simp only [List.setIfInBounds_toArray]); (try simp only [List.set_cons_succ]); (try simp only [List.set_cons_zero])
            refine wpAnyH_done (by kernel_rfl) ?_ _
            have hoF : Owns w7 w.heap.size x7 (putM l s) := by
              rw [HPUT.out, owns_R]; unfold OwnsR
              rw [List.length_append, List.length_cons, List.flatMap_append, List.flatMap_cons]
              have h7 := ho7
              simp only [List.length_cons, List.length_nil, List.flatMap_cons, List.flatMap_nil, List.append_nil, List.nil_append, Nat.zero_add, List.append_assoc] at h7
              rw [show (l.take (k)).length + ((l.drop (k)).length + 1) = (l.take (k)).length + 1 + (l.drop (k)).length by omega]
              exact h7
            clear hHeld HA HBc ho5 hg5 hb5 ho6 hg6 hb6 ho7 hg7
            go_wp2_with fail
            go_ret
            exact ⟨_, rfl, owns_base hoF hbase, hb7⟩
          · go_simp
            refine hK.out _ _ True.intro (fun hHeld => ?_)
            clear hK K
            (try simp only [Act.put]); (try simp only [List.setIfInBounds_toArray]); (try simp only [List.set_cons_succ]); (try simp only [List.set_cons_zero])
            refine wpAnyH_ready (rs := [4]) (by kernel_rfl) (by simp) ?_
            refine AllReadyH.cons rfl (fun K hK => ?_) AllReadyH.nil
            refine step_append_R (c := tx) (d := some 37) rfl rfl (.tmp 33) (.tmp 36) 23 rfl w.heap.size 9 i0 _ 1 16 Try.underlying23 hi0 hz0 hz1 hz2 rfl (by decide) _ _ _ rfl (World.ownsRow.drew (World.ownsRow.alloc (World.ownsRow_lit w #[] 0 (Nat.le_refl _) (by simp) rfl) (.cells #[.string s] 9))) _ rfl (l.take (k)) (readsR_kept HA.out (((Below.refl w.heap.size w).alloc (Nat.le_refl _) (.cells #[] 9)).alloc (by simp) (.cells #[.string s] 9)).drew) tx_len tx_one (by unfold maxLen; simp <;> omega) (by simp <;> omega) (by simp; omega) ?_
            intro x5 w5 ho5 hg5
            have hb5 : Below w.heap.size w w5 := Below.grown (((Below.refl w.heap.size w).alloc (Nat.le_refl _) (.cells #[] 9)).alloc (by simp) (.cells #[.string s] 9)).drew hg5 (by simp; omega) (fun k hk => by cases hk; exact Nat.le_refl _)
            refine hK.out _ _ True.intro (fun hHeld => ?_)
            clear hK K
            (try simp only [Act.put]); (try simp only [List.setIfInBounds_toArray]); (try simp only [List.set_cons_succ]); (try simp only [List.set_cons_zero])
            have hz5 := hb5.size
            have hq5 : w5.heap[w.heap.size + 1]? = some (.cells #[.string s] 9) := (hg5.block (w.heap.size + 1) (by simp) (show some (w.heap.size + 1) ≠ some w.heap.size by simp)).trans (heap_alloc2_new w (.cells #[] 9) (.cells #[.string s] 9))
            refine wpAnyH_ready (rs := [7]) (by kernel_rfl) (by simp) ?_
            refine AllReadyH.cons rfl (fun K hK => ?_) AllReadyH.nil
            refine step_append_R (c := tx) (d := some 40) rfl rfl (.tmp 37) (.tmp 39) 23 rfl w.heap.size 9 i0 _ 1 16 Try.underlying23 hi0 hz0 hz1 hz2 rfl (by decide) _ _ _ rfl (ho5) _ rfl ([s]) (tx_one_at hq5) tx_len tx_one (by unfold maxLen; simp <;> omega) (by simp <;> omega) hz5 ?_
            intro x6 w6 ho6 hg6
            have hb6 : Below w.heap.size w w6 := Below.grown hb5 hg6 hz5 (fun k hk => (ho5.lt k hk).1)
            refine hK.out _ _ True.intro (fun hHeld => ?_)
            clear hK K
            (try simp only [Act.put]); (try simp only [List.setIfInBounds_toArray]); (try simp only [List.set_cons_succ]); (try simp only [List.set_cons_zero])
            have hz6 := hb6.size
            refine wpAnyH_ready (rs := [11]) (by kernel_rfl) (by simp) ?_
            refine AllReadyH.cons rfl (fun K hK => ?_) AllReadyH.nil
            refine step_append_R (c := tx) (d := some 44) rfl rfl (.tmp 40) (.tmp 43) 23 rfl w.heap.size 9 i0 _ 1 16 Try.underlying23 hi0 hz0 hz1 hz2 rfl (by decide) _ _ _ rfl (ho6) _ rfl (l.drop (k)) (readsR_kept HBc.out hb6) tx_len tx_one (by unfold maxLen; simp <;> omega) (by simp <;> omega) hz6 ?_
            intro x7 w7 ho7 hg7
            have hb7 : Below w.heap.size w w7 := Below.grown hb6 hg7 hz6 (fun k hk => (ho6.lt k hk).1)
            refine hK.out _ _ True.intro (fun hHeld => ?_)
            clear hK K
            (try simp only [Act.put]); (try simp only [List.setIfInBounds_toArray]); (try simp only [List.set_cons_succ]); (try simp only [List.set_cons_zero])
            refine takeH (i := 12) (d := (some 4)) (v := ?_) rfl rfl (by kernel_rfl) (by kernel_rfl) (by kernel_rfl) (fun _ _ _ h => h) (by kernel_rfl) ?_ (by assumption) ?_
            rotate_left
            · (intro w hSw; (try dsimp only at hSw); go_simp; try with_reducible rfl)
            (try simp only [Act.put]); (try simp only [List.setIfInBounds_toArray]); (try simp only [List.set_cons_succ]); (try simp only [List.set_cons_zero])
            refine wpAnyH_done (by kernel_rfl) ?_ _
            have hoF : Owns w7 w.heap.size x7 (putM l s) := by
              rw [HPUT.out, owns_R]; unfold OwnsR
              rw [List.length_append, List.length_cons, List.flatMap_append, List.flatMap_cons]
              have h7 := ho7
              simp only [List.length_cons, List.length_nil, List.flatMap_cons, List.flatMap_nil, List.append_nil, List.nil_append, Nat.zero_add, List.append_assoc] at h7
              rw [show (l.take (k)).length + ((l.drop (k)).length + 1) = (l.take (k)).length + 1 + (l.drop (k)).length by omega]
              exact h7
            clear hHeld HA HBc ho5 hg5 hb5 ho6 hg6 hb6 ho7 hg7
            go_wp2_with fail
            go_ret
            exact ⟨_, rfl, owns_base hoF hbase, hb7⟩
        · go_simp
          refine hK.out _ _ True.intro (fun hHeld => ?_)
          clear hK K
          (try simp only [Act.put]); (try simp only [List.setIfInBounds_toArray]); (try simp only [List.set_cons_succ]); (try simp only [List.set_cons_zero])
          refine wpAnyH_ready (rs := [0]) (by kernel_rfl) (by simp) ?_
          refine AllReadyH.cons rfl (fun K hK => ?_) AllReadyH.nil
          go_simp
          refine hK.out _ _ True.intro (fun hHeld => ?_)
          clear hK K
          (try simp only [Act.put]); (try simp only [List.setIfInBounds_toArray]); (try simp only [List.set_cons_succ]); (try simp only [List.set_cons_zero])
          refine wpAnyH_ready (rs := [4]) (by kernel_rfl) (by simp) ?_
          refine AllReadyH.cons rfl (fun K hK => ?_) AllReadyH.nil
          refine step_append_R (c := tx) (d := some 37) rfl rfl (.tmp 33) (.tmp 36) 23 rfl w.heap.size 9 i0 _ 1 16 Try.underlying23 hi0 hz0 hz1 hz2 rfl (by decide) _ _ _ rfl (World.ownsRow.drew hlitB) _ rfl (l.take (k)) (readsR_kept HA.out (((Below.refl w.heap.size w).alloc (Nat.le_refl _) (.cells #[.string s] 9)).alloc (by simp) (.cells #[] 9)).drew) tx_len tx_one (by unfold maxLen; simp <;> omega) (by simp <;> omega) (by simp; omega) ?_
          intro x5 w5 ho5 hg5
          have hb5 : Below w.heap.size w w5 := Below.grown (((Below.refl w.heap.size w).alloc (Nat.le_refl _) (.cells #[.string s] 9)).alloc (by simp) (.cells #[] 9)).drew hg5 (by simp; omega) (fun k hk => by cases hk; simp)
          refine hK.out _ _ True.intro (fun hHeld => ?_)
          clear hK K
          (try simp only [Act.put]); (try simp only [List.setIfInBounds_toArray]); (try simp only [List.set_cons_succ]); (try simp only [List.set_cons_zero])
          have hz5 := hb5.size
          have hq5 : w5.heap[w.heap.size]? = some (.cells #[.string s] 9) := (hg5.block w.heap.size (by simp; omega) (show some w.heap.size ≠ some (w.heap.size + 1) by simp)).trans ((Below.heap_alloc (w.alloc (.cells #[.string s] 9)) (.cells #[] 9) w.heap.size (by simp)).trans (heap_alloc_new w (.cells #[.string s] 9)))
          refine wpAnyH_ready (rs := [7]) (by kernel_rfl) (by simp) ?_
          refine AllReadyH.cons rfl (fun K hK => ?_) AllReadyH.nil
          refine step_append_R (c := tx) (d := some 40) rfl rfl (.tmp 37) (.tmp 39) 23 rfl w.heap.size 9 i0 _ 1 16 Try.underlying23 hi0 hz0 hz1 hz2 rfl (by decide) _ _ _ rfl (ho5) _ rfl ([s]) (tx_one_at hq5) tx_len tx_one (by unfold maxLen; simp <;> omega) (by simp <;> omega) hz5 ?_
          intro x6 w6 ho6 hg6
          have hb6 : Below w.heap.size w w6 := Below.grown hb5 hg6 hz5 (fun k hk => (ho5.lt k hk).1)
          refine hK.out _ _ True.intro (fun hHeld => ?_)
          clear hK K
          (try simp only [Act.put]); (try simp only [List.setIfInBounds_toArray]); (try simp only [List.set_cons_succ]); (try simp only [List.set_cons_zero])
          have hz6 := hb6.size
          refine wpAnyH_ready (rs := [11]) (by kernel_rfl) (by simp) ?_
          refine AllReadyH.cons rfl (fun K hK => ?_) AllReadyH.nil
          refine step_append_R (c := tx) (d := some 44) rfl rfl (.tmp 40) (.tmp 43) 23 rfl w.heap.size 9 i0 _ 1 16 Try.underlying23 hi0 hz0 hz1 hz2 rfl (by decide) _ _ _ rfl (ho6) _ rfl (l.drop (k)) (readsR_kept HBc.out hb6) tx_len tx_one (by unfold maxLen; simp <;> omega) (by simp <;> omega) hz6 ?_
          intro x7 w7 ho7 hg7
          have hb7 : Below w.heap.size w w7 := Below.grown hb6 hg7 hz6 (fun k hk => (ho6.lt k hk).1)
          refine hK.out _ _ True.intro (fun hHeld => ?_)
          clear hK K
          (try simp only [Act.put]); (try simp only [List.setIfInBounds_toArray]); (try simp only [List.set_cons_succ]); (try simp only [List.set_cons_zero])
          refine takeH (i := 12) (d := (some 4)) (v := ?_) rfl rfl (by kernel_rfl) (by kernel_rfl) (by kernel_rfl) (fun _ _ _ h => h) (by kernel_rfl) ?_ (by assumption) ?_
          rotate_left
          · (intro w hSw; (try dsimp only at hSw); go_simp; try with_reducible rfl)
          (try simp only [Act.put]); (try simp only [List.setIfInBounds_toArray]); (try simp only [List.set_cons_succ]); (try simp only [List.set_cons_zero])
          refine wpAnyH_done (by kernel_rfl) ?_ _
          have hoF : Owns w7 w.heap.size x7 (putM l s) := by
            rw [HPUT.out, owns_R]; unfold OwnsR
            rw [List.length_append, List.length_cons, List.flatMap_append, List.flatMap_cons]
            have h7 := ho7
            simp only [List.length_cons, List.length_nil, List.flatMap_cons, List.flatMap_nil, List.append_nil, List.nil_append, Nat.zero_add, List.append_assoc] at h7
            rw [show (l.take (k)).length + ((l.drop (k)).length + 1) = (l.take (k)).length + 1 + (l.drop (k)).length by omega]
            exact h7
          clear hHeld HA HBc ho5 hg5 hb5 ho6 hg6 hb6 ho7 hg7
          go_wp2_with fail
          go_ret
          exact ⟨_, rfl, owns_base hoF hbase, hb7⟩
end Go.Proofs.Ytdaahcenplepjaa
