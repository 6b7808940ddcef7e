/- The model's copy of an item. -/
import Derived.Test.YtbkllceceaedpaaItG
import Derived.Test.YtbkllceceaedpaaTl
namespace Go.Proofs.Ytbkllceceaedpaa
open Go.RowKit
set_option linter.unusedVariables false

theorem rows2 (w : World) (A B : Obj) : ((w.alloc A).alloc B).heap[w.heap.size]? = some A ∧ ((w.alloc A).alloc B).heap[w.heap.size + 1]? = some B := by
  refine ⟨?_, ?_⟩
  · rw [Below.heap_alloc _ _ _ (by simp)]; exact heap_alloc_new w A
  · have := heap_alloc_new (w.alloc A) B
    rw [World.size_alloc] at this; exact this
set_option maxHeartbeats 8000000 in
set_option maxRecDepth 100000 in
theorem l9Item_any (x : ItE) (v : Value) (w : World) (hr : PrReads w v x.l) (hlen : x.l.length ≤ 1048576) :
    Calls Try.prog 48 #[itV x v] w fun e w' => (∃ u, e = .returned (itV x u) ∧ PrOwn w' w.heap.size w'.heap.size u x.l) ∧ Below w.heap.size w w' := by
  obtain ⟨ao, cap, rfl⟩ := readsR_shape hr
  obtain ⟨i0, hi0, hz0, hz1, hz2⟩ := info_parts prInfo
  go_enter Try.func48, Try.ntmps48
  go_wp2_with fail
  obtain ⟨W0, hW⟩ : ∃ W, (w.alloc (.cells #[.int .i64 x.t, .int .i64 x.n, .slice ao x.l.length cap] 59)).alloc (.cells #[.int .i64 0, .int .i64 0, .slice none 0 0] 59) = W := ⟨_, rfl⟩
  have hB0 : Below w.heap.size w W0.drew := by rw [← hW]; exact (((Below.refl _ w).alloc (Nat.le_refl _) _).alloc (by simp) _).drew
  have hz : W0.drew.heap.size = w.heap.size + 2 := by rw [← hW]; simp
  obtain ⟨q0, q1⟩ : W0.drew.heap[w.heap.size]? = some _ ∧ W0.drew.heap[w.heap.size + 1]? = some _ := by rw [← hW]; exact rows2 _ _ _
  rw [hW]
  have Q0 : Hid _ := q0
  have Q1 : Hid _ := q1
  have HS : Hid (∀ w' : World, w'.heap[w.heap.size]? = W0.drew.heap[w.heap.size]? → w'.heap[w.heap.size + 1]? = W0.drew.heap[w.heap.size + 1]? → (w'.cell? ⟨w.heap.size, 0, none⟩ = some (.int .i64 x.t) ∧ w'.cell? ⟨w.heap.size, 1, none⟩ = some (.int .i64 x.n) ∧ w'.cell? ⟨w.heap.size, 2, none⟩ = some (.slice ao x.l.length cap) ∧ w'.cell? ⟨w.heap.size + 1, 0, none⟩ = some (.int .i64 0) ∧ w'.cell? ⟨w.heap.size + 1, 1, none⟩ = some (.int .i64 0) ∧ w'.cell? ⟨w.heap.size + 1, 2, none⟩ = some (.slice none 0 0) ∧ (∀ o, w'.frozen? ⟨w.heap.size + 1, o, none⟩ = false))) := fun w' h1 h2 => ⟨cellAt_row (h1.trans q0) 0, cellAt_row (h1.trans q0) 1, cellAt_row (h1.trans q0) 2, cellAt_row (h2.trans q1) 0, cellAt_row (h2.trans q1) 1, cellAt_row (h2.trans q1) 2, frozenAt_row (h2.trans q1)⟩
  have HR : Hid _ := readsR_kept hr hB0
  have HB : Hid _ := hB0
  have HZ : Hid _ := hz
  clear hW q0 q1 hB0 hz
  refine wp_region_L (S := (fun w' => (w'.cell? ⟨w.heap.size, 0, none⟩ = some (.int .i64 x.t) ∧ w'.cell? ⟨w.heap.size, 1, none⟩ = some (.int .i64 x.n) ∧ w'.cell? ⟨w.heap.size, 2, none⟩ = some (.slice ao x.l.length cap) ∧ w'.cell? ⟨w.heap.size + 1, 0, none⟩ = some (.int .i64 0) ∧ w'.cell? ⟨w.heap.size + 1, 1, none⟩ = some (.int .i64 0) ∧ w'.cell? ⟨w.heap.size + 1, 2, none⟩ = some (.slice none 0 0) ∧ (∀ o, w'.frozen? ⟨w.heap.size + 1, o, none⟩ = false)))) 7 (by kernel_rfl) (by exact HS.out _ rfl rfl) (fun hHeld => ?_)
  generalize W0.drew = W1 at *
  have hba : Below W1.heap.size W1 (W1.alloc (.cells #[] 107)) := (Below.refl _ W1).alloc (Nat.le_refl _) _
  have HO0 : (W1.alloc (.cells #[] 107)).ownsRow W1.heap.size 107 2 (.slice (some ⟨W1.heap.size, 0, none⟩) 0 0) 0 [] := World.ownsRow_lit W1 #[] 0 (Nat.le_refl _) (by simp) rfl
  refine takeL (i := 0) (d := (some 3)) (v := ?_) rfl rfl (by kernel_rfl) (by kernel_rfl) (by kernel_rfl) (by kernel_rfl) (by kernel_rfl) (fun _ _ _ h => h) (by kernel_rfl) ?_ (by assumption) ?_
  rotate_left
  · (intro w hSw; (try dsimp only at hSw); go_simp; try with_reducible rfl)
  try simp only [Act.put, List.setIfInBounds_toArray, List.set_cons_succ, List.set_cons_zero]
  refine takeL (i := 1) (d := (some 4)) (v := ?_) rfl rfl (by kernel_rfl) (by kernel_rfl) (by kernel_rfl) (by kernel_rfl) (by kernel_rfl) (fun _ _ _ h => h) (by kernel_rfl) ?_ (by assumption) ?_
  rotate_left
  · (intro w hSw; (try dsimp only at hSw); go_simp; try with_reducible rfl)
  try simp only [Act.put, List.setIfInBounds_toArray, List.set_cons_succ, List.set_cons_zero]
  refine takeL (i := 3) (d := (some 6)) (v := ?_) rfl rfl (by kernel_rfl) (by kernel_rfl) (by kernel_rfl) (by kernel_rfl) (by kernel_rfl) (fun _ _ _ h => h) (by kernel_rfl) ?_ (by assumption) ?_
  rotate_left
  · (intro w hSw; (try dsimp only at hSw); go_simp; try with_reducible rfl)
  try simp only [Act.put, List.setIfInBounds_toArray, List.set_cons_succ, List.set_cons_zero]
  refine takeL (i := 4) (d := (some 7)) (v := ?_) rfl rfl (by kernel_rfl) (by kernel_rfl) (by kernel_rfl) (by kernel_rfl) (by kernel_rfl) (fun _ _ _ h => h) (by kernel_rfl) ?_ (by assumption) ?_
  rotate_left
  · (intro w hSw; (try dsimp only at hSw); go_simp; try with_reducible rfl)
  try simp only [Act.put, List.setIfInBounds_toArray, List.set_cons_succ, List.set_cons_zero]
  refine wpAnyL_ready (rs := [2]) (by kernel_rfl) (by simp) ?_
  refine AllReadyL.cons rfl (fun K hK => ?_) AllReadyL.nil
  go_simp
  refine hK.out _ _ ?_ (fun hHeld => ?_)
  · exact HS.out _ (hba.block _ (by rw [HZ.out]; omega)) (hba.block _ (by rw [HZ.out]; omega))
  clear hK K
  try simp only [Act.put, List.setIfInBounds_toArray, List.set_cons_succ, List.set_cons_zero]
  refine wpAnyL_ready (rs := [5]) (by kernel_rfl) (by simp) ?_
  refine AllReadyL.cons rfl (fun K hK => ?_) AllReadyL.nil
  refine step_append_R (c := prC) (d := some 8) rfl rfl (.tmp 5) (.tmp 7) 57 rfl W1.heap.size 107 i0 _ 2 32 Try.underlying57 hi0 hz0 hz1 hz2 rfl (by decide) _ _ _ rfl HO0 _ rfl x.l (readsR_kept HR.out hba) prC_len prC_one (by unfold maxLen; omega) (by omega) (by simp) ?_; intro u w2 hown hgrow; have hb2 : Below W1.heap.size W1 w2 := hba.grown hgrow (by simp) (fun k hk => by cases hk; exact Nat.le_refl _)
  refine hK.out _ _ ?_ (fun hHeld => ?_)
  · exact HS.out _ (hb2.block _ (by rw [HZ.out]; omega)) (hb2.block _ (by rw [HZ.out]; omega))
  clear hK K
  (try simp only [Act.put]); (try simp only [List.setIfInBounds_toArray]); (try simp only [List.set_cons_succ]); (try simp only [List.set_cons_zero])
  have os : PrOwns w2 W1.heap.size u x.l := by unfold PrOwns OwnsR; simpa using hown
  clear hown hgrow HO0
  obtain ⟨au, cu, rfl⟩ := readsR_shape (ownsR_reads prC_len os)
  have OS : Hid _ := ownR_of os
  have HB2 : Hid _ := hb2
  clear os hb2 hba
  refine takeL (i := 6) (d := (some 9)) (v := ?_) rfl rfl (by kernel_rfl) (by kernel_rfl) (by kernel_rfl) (by kernel_rfl) (by kernel_rfl) (fun _ _ _ h => h) (by kernel_rfl) ?_ (by assumption) ?_
  rotate_left
  · (intro w hSw; (try dsimp only at hSw); go_simp; try with_reducible rfl)
  try simp only [Act.put, List.setIfInBounds_toArray, List.set_cons_succ, List.set_cons_zero]
  refine wpAnyL_ready (rs := [7]) (by kernel_rfl) (by simp) ?_
  refine AllReadyL.last rfl (fun K hK => ?_)
  go_simp
  refine hK.out _ _ ?_
  clear hK K
  try simp only [Act.put, List.setIfInBounds_toArray, List.set_cons_succ, List.set_cons_zero]
  refine wpAnyL_done (by kernel_rfl) ?_ _
  have hz := HZ.out
  have hbw := HB.out.trans (HB2.out.mono HB.out.size)
  go_wp2_with fail
  refine bodyPost_ret (results_cell_row rfl _ _ (w.heap.size + 1) 59 _ (0, 0) _ rfl (put3_row ((HB2.out.block (w.heap.size + 1) (by omega)).trans Q1.out) _ _ _) Try.underlying59 rfl (by kernel_rfl)) rfl ?_
  exact ⟨⟨_, rfl, ownR_lower (put3_own OS.out (by omega) _ _ _) (by omega) (by rw [put3_size]; exact Nat.le_refl _)⟩, put3_below hbw (Nat.le_succ _) _ _ _⟩
end Go.Proofs.Ytbkllceceaedpaa
